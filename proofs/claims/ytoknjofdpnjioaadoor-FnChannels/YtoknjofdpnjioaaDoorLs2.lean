/- The reference's lists of events: a list longer by one. -/
import Derived.Test.YtoknjofdpnjioaaDoorLs1
namespace Go.Proofs.YtoknjofdpnjioaaDoor.Cn
open Go.RowKit Go.Deep Base Rw

set_option maxRecDepth 100000 in
set_option maxHeartbeats 4000000 in
theorem lists_succ (t : Int) (n : Nat) (hn : n ≤ 3) (IH : ∀ (f : Int) (w : World), isS f = true → Calls Tryd.prog 38 #[.int .i64 f, .int .i64 t, .int .i64 (n : Int)] w (ListsEnd t n f w)) (f : Int) (hf : isS f = true) (w : World) :
    Calls Tryd.prog 38 #[.int .i64 f, .int .i64 t, .int .i64 ((n + 1 : Nat) : Int)] w (ListsEnd t (n + 1) f w) := by
  have HIH := Lib.hid IH
  have Hf := Lib.hid hf
  clear IH hf
  have hn0 : ¬ ((n + 1 : Nat) : Int) = 0 := by omega
  have hw1 : IntKind.i64.wrap (((n + 1 : Nat) : Int) - 1) = (n : Int) := by rw [IntWalk.i64_in _ (by omega)]; omega
  have HM : Hid (∀ x, (lstL t n x).length ≤ 343) := Lib.hid (fun x => Nat.le_trans (lstL_len t n x) (by
    have : n = 0 ∨ n = 1 ∨ n = 2 ∨ n = 3 := by omega
    rcases this with rfl | rfl | rfl | rfl <;> decide))
  have HSh := Lib.hid (lstL_short t n)
  have L0 : Hid (RR w.heap.size (w.alloc (.cells #[] 24)) (.slice (some ⟨w.heap.size, 0, none⟩) 0 0) []) := Lib.hid ⟨by
    have h := World.ownsRow_lit (base := w.heap.size) (e := 24) (size := 1) w #[] 0 (Nat.le_refl _) (by simp) (by simp)
    simpa using h, by simp, by simp⟩
  go_enter Tryd.func38, Tryd.ntmps38
  go_wp2
  go_loopw [7, 8] (fun v e wr => ∃ (u : Value) (k : Nat) (rs : List Rv), u = v ∧ k ≤ 7 ∧ e = .int .i64 k ∧ rs.map Rv.ints = outL (lstL t n) f k ∧ RR w.heap.size wr u rs ∧ Below w.heap.size w wr) (fun _ e _ => 7 - (intOf e).toNat)
  case atStart => exact ⟨_, 0, [], rfl, by omega, rfl, rfl, L0.out, bel_alloc _ _⟩
  case round =>
    obtain ⟨u, k, rs, rfl, hk, rfl, hrs, hrr, hb⟩ := hrel
    obtain ⟨wo, rfl⟩ : ∃ wo, wo = wr := ⟨_, rfl⟩
    have HR := Lib.hid hrr
    have HB := Lib.hid hb
    have Hrs := Lib.hid hrs
    have zo : w.heap.size ≤ wo.heap.size := hb.size
    clear hrr hb hrs L0
    by_cases hlt : k < 7
    · have HO : Hid (outL (lstL t n) f (k + 1) = outL (lstL t n) f k ++ (if go f (k : Int) = f then [] else (lstL t n (go f (k : Int))).map fun l => (k : Int) :: l)) := Lib.hid rfl
      have HSt := Lib.hid (fun W => specStep_any f (k : Int) W)
      have HgS := Lib.hid (go_isS Hf.out k hlt)
      have HoL := Lib.hid (outL_len (f := f) HM.out k)
      generalize go f (k : Int) = g at HO HSt HgS
      by_cases hg : g = f
      · have HO' : Hid (rs.map Rv.ints = outL (lstL t n) f (k + 1)) := Lib.hid (by rw [HO.out, if_pos hg, List.append_nil]; exact Hrs.out)
        have HSt' := Lib.hid (fun W => (show (g != f) = false by simp [hg]) ▸ HSt.out W)
        clear HSt
        go_wp2_with fail
        refine (HSt'.out _).mono ?_
        rintro e w2 ⟨rfl, b2⟩
        replace HR := Lib.hid (HR.out.keep b2)
        replace HB := Lib.hid (bel_trans HB.out b2)
        clear b2
        go_wp2_with fail
        go_roundw
        case rel =>
          repeat apply Exists.intro
          exact ⟨⟨_, k + 1, rs, rfl, by omega, by go_num, HO'.out, HR.out, HB.out⟩, rfl⟩
        case measure => simp [intOf]; omega
      · have HSt' := Lib.hid (fun W => (show (g != f) = true by simp [hg]) ▸ HSt.out W)
        have HO' : Hid (outL (lstL t n) f (k + 1) = outL (lstL t n) f k ++ (lstL t n g).map fun l => (k : Int) :: l) := Lib.hid (by rw [HO.out, if_neg hg])
        clear HSt HO
        go_wp2_with fail
        refine (HSt'.out _).mono ?_
        rintro e w2 ⟨rfl, b2⟩
        replace HR := Lib.hid (HR.out.keep b2)
        replace HB := Lib.hid (bel_trans HB.out b2)
        have z2 : wo.heap.size ≤ w2.heap.size := b2.size
        clear b2
        go_wp2_with fail
        refine (HIH.out g _ HgS.out).mono ?_
        rintro e w3 ⟨vr, rr, rfl, hrr, hR3, b3⟩
        have HR2 := HR
        replace HR := Lib.hid (HR.out.keep b3)
        replace HB := Lib.hid (bel_trans HB.out b3)
        have Hrr := Lib.hid hrr
        have HR3 := Lib.hid hR3
        have z3 : w2.heap.size ≤ w3.heap.size := b3.size
        have HAp : Hid (vr.ownBlock = none ∨ vr.ownBlock ≠ u.ownBlock) := Lib.hid (by
          cases hv : vr.ownBlock with
          | none => exact .inl rfl
          | some b =>
              refine .inr (fun e => ?_)
              have h1 := (hR3.own.lt b hv).1
              have h2 := (HR2.out.own.lt b e.symm).2
              omega)
        clear hrr hR3 b3 HR2 HSt' HIH
        have HM9 := Lib.hid (HM.out g)
        have HS9 := Lib.hid (HSh.out g)
        generalize lstL t n g = ls at Hrr HO' HM9 HS9
        obtain ⟨Ar, capr, rfl⟩ := owns_form HR3.out.own
        obtain ⟨m, hm⟩ : ∃ m, rr.length = m := ⟨_, rfl⟩
        have Hm := Lib.hid hm
        have hml : ls.length = m := by rw [← Hrr.out, List.length_map, hm]
        have hm343 : m ≤ 343 := by have := HM9.out; omega
        have Hml := Lib.hid hml
        rw [hm]
        clear hm hml
        obtain ⟨ol, hol⟩ : ∃ ol, outL (lstL t n) f k = ol := ⟨_, rfl⟩
        rw [hol] at HO' Hrs HoL
        clear hol
        go_wp2_with fail
        go_loopw [7, 12] (fun v e wr => ∃ (u : Value) (j : Nat) (rs : List Rv), u = v ∧ j ≤ m ∧ e = .int .i64 j ∧ rs.map Rv.ints = ol ++ (ls.take j).map (fun l => (k : Int) :: l) ∧ RR w.heap.size wr u rs ∧ RR w2.heap.size wr (.slice Ar rr.length capr) rr ∧ ((Value.slice Ar rr.length capr).ownBlock = none ∨ (Value.slice Ar rr.length capr).ownBlock ≠ u.ownBlock) ∧ w2.heap.size ≤ wr.heap.size ∧ Below w.heap.size w wr) (fun _ e _ => m - (intOf e).toNat)
        case atStart => exact ⟨_, 0, rs, rfl, Nat.zero_le _, rfl, by simp [Hrs.out], HR.out, HR3.out, HAp.out, z3, HB.out⟩
        case round =>
          clear HR HR3 HAp HB Hrs
          obtain ⟨u', j, rs', rfl, hj, rfl, hrs', hrr', hr3', hap', z4, hb'⟩ := hrel
          have HR := Lib.hid hrr'
          have HR3 := Lib.hid hr3'
          have HAp := Lib.hid hap'
          have HB := Lib.hid hb'
          have Hrs := Lib.hid hrs'
          clear hrr' hr3' hap' hb' hrs'
          by_cases hlt2 : j < m
          · have hjr : j < rr.length := by have := Hm.out; omega
            have hmem : rr[j] ∈ rr := List.getElem_mem hjr
            obtain ⟨g0, c0, hval⟩ := HR3.out.some _ hmem
            have hri := HR3.out.each _ hmem
            have Hints : Hid (rr[j].ints = ls.getD j []) := Lib.hid (by
              have h1 : (rr.map Rv.ints)[j]? = ls[j]? := by rw [Hrr.out]
              rw [List.getElem?_map, List.getElem?_eq_getElem hjr] at h1
              rw [List.getD_eq_getElem?_getD, ← h1]
              rfl)
            have hlen4 : rr[j].ints.length ≤ n := HS9.out _ (by
              rw [← Hrr.out]
              exact List.mem_map_of_mem hmem)
            have Hnx : Hid (∀ r : Rv, r.ints = (k : Int) :: ls.getD j [] → (rs' ++ [r]).map Rv.ints = ol ++ (ls.take (j + 1)).map (fun l => (k : Int) :: l)) := Lib.hid (fun r hr => by
              have hjl : j < ls.length := by have := Hml.out; omega
              rw [List.map_append, Hrs.out, List.take_succ_eq_append_getElem hjl, List.map_append, ← List.append_assoc, List.map_singleton, List.map_singleton, hr, List.getD_eq_getElem?_getD, List.getElem?_eq_getElem hjl]
              rfl)
            have hgr : ∃ gr, Ar = some ⟨gr, 0, none⟩ := by
              obtain ⟨gr, e⟩ : ∃ gr, Ar = some ⟨gr, 0, none⟩ := by
                rcases HR3.out.own.2 with ⟨_, h0⟩ | ⟨gr, _, _, h1, _⟩
                · omega
                · injection h1 with h1
                  exact ⟨gr, h1⟩
              exact ⟨gr, e⟩
            obtain ⟨gr, rfl⟩ := hgr
            have hcell := HR3.out.own.cellAt j (by omega)
            rw [List.getElem?_map, List.getElem?_eq_getElem hjr, Option.map_some, hval] at hcell
            rw [hval] at hri
            generalize rr[j].ints = zs at hri Hints hlen4 hcell
            have Hri := Lib.hid hri
            have hgrl : gr < wr.heap.size := World.block_lt_of_cell? _ _ hcell
            have hg0l : g0 < wr.heap.size := (hri.lt g0 rfl).2
            have HrsL : Hid (rs'.length ≤ 3000) := Lib.hid (by
              have h1 := congrArg List.length Hrs.out
              simp only [List.length_map, List.length_append, List.length_take] at h1
              have := HoL.out
              have : k * 343 ≤ 7 * 343 := Nat.mul_le_mul_right _ (by omega)
              omega)
            clear hri hval hmem
            obtain ⟨i0, hi0, hz0, hz1, hz2⟩ := info_parts infoInt
            have Hi0 := Lib.hid hi0
            have Hz0 := Lib.hid hz0
            have Hz1 := Lib.hid hz1
            have Hz2 := Lib.hid hz2
            clear hi0 hz0 hz1 hz2
            obtain ⟨j0, hj0, hy0, hy1, hy2⟩ := info_parts infoRow
            have Hj0 := Lib.hid hj0
            have Hy0 := Lib.hid hy0
            have Hy1 := Lib.hid hy1
            have Hy2 := Lib.hid hy2
            clear hj0 hy0 hy1 hy2
            have zw : w.heap.size ≤ wr.heap.size := by omega
            have O1 : Hid ((wr.alloc (.cells #[.int .i64 (k : Int)] 3)).ownsRow w.heap.size 3 1 (.slice (some ⟨wr.heap.size, 0, none⟩) 1 1) 1 [.int .i64 (k : Int)]) := Lib.hid (by
              have h := World.ownsRow_lit (base := w.heap.size) (e := 3) (size := 1) wr #[.int .i64 (k : Int)] 1 zw (by decide) (by simp)
              simpa using h)
            go_wp2_with (at_builtin; refine wpList_append_own _ rfl _ _ 24 rfl w.heap.size 3 i0 (.int .i64 0) 1 8 Tryd.underlying24 Hi0.out Hz0.out Hz1.out Hz2.out rfl (by decide) _ 1 _ rfl O1.out ⟨g0, 0, none⟩ zs.length c0 (zs.map (Value.int .i64)) rfl ?c0h ?c1h ?c2h ?c3h ?c4h ?c5h ?_)
            case c0h => simp
            case c1h =>
              intro q uu hq
              have h := (Hri.out.alloc (.cells #[.int .i64 (k : Int)] 3)).cells (g := g0) rfl q uu hq
              exact h
            case c2h => exact map_one zs
            case c3h => unfold maxLen; omega
            case c4h => omega
            case c5h => simp; omega
            intro v1 w4 hown1 hg1 hnn1
            have hb4 : Below wr.heap.size wr w4 := (bel_alloc wr _).grown hg1 (by simp) (fun q e => by simp [Value.ownBlock] at e; omega)
            have z5 : wr.heap.size ≤ w4.heap.size := hb4.size
            have hs1 : ∃ gg cc, v1 = .slice (some ⟨gg, 0, none⟩) ((k : Int) :: zs).length cc := by
              rcases hown1.2 with ⟨h1, h2⟩ | ⟨gg, cc, _, h1, _⟩
              · omega
              · exact ⟨gg, cc, by rw [h1, List.length_cons, Nat.add_comm]⟩
            have Hown1 : Hid (w4.ownsRow w.heap.size 3 1 v1 ((k : Int) :: zs).length (((k : Int) :: zs).map (Value.int .i64))) := Lib.hid (by rw [List.length_cons, Nat.add_comm]; exact hown1)
            replace HR := Lib.hid (HR.out.keep hb4)
            replace HR3 := Lib.hid (HR3.out.keep hb4)
            replace HB := Lib.hid (bel_trans HB.out hb4)
            obtain ⟨gg, cc, rfl⟩ := hs1
            rw [List.length_cons] at Hown1 ⊢
            clear hown1 hg1 hnn1 hb4 hcell O1 Hri
            go_wp2_with (at_builtin; refine wpList_append_own_at _ rfl _ _ 69 rfl w.heap.size 24 j0 (.slice none 0 0) 1 24 Tryd.underlying69 Hj0.out Hy0.out Hy1.out Hy2.out rfl (by decide) _ _ _ rfl (HR.out.own.alloc _) ⟨w4.heap.size, 0, none⟩ 1 1 [.slice (some ⟨gg, 0, none⟩) (zs.length + 1) cc] rfl rfl ?d1h ?d2h ?d3h ?d4h ?d5h ?_)
            case d1h => exact new_one_at rfl _ _
            case d2h => simp [Value.oneCell']
            case d3h => have := HrsL.out; unfold maxLen; omega
            case d4h => have := HrsL.out; omega
            case d5h => simp; omega
            intro v2 w6 hown2 hg2 _ hat
            have HQ : Hid (RR w.heap.size w6 v2 (rs' ++ [⟨.slice (some ⟨gg, 0, none⟩) (zs.length + 1) cc, (k : Int) :: zs⟩])) := Lib.hid ((HR.out.keep (bel_alloc _ _)).push (r := ⟨.slice (some ⟨gg, 0, none⟩) (zs.length + 1) cc, (k : Int) :: zs⟩) (own_keep Hown1.out (bel_alloc _ _)) ⟨gg, cc, rfl⟩ hown2 hg2)
            have HQ3 : Hid (RR w2.heap.size w6 (.slice (some ⟨gr, 0, none⟩) rr.length capr) rr) := Lib.hid ((HR3.out.keep (bel_alloc _ _)).but (HR.out.keep (bel_alloc _ _)).own hg2 HAp.out)
            have HAp' : Hid ((Value.slice (some ⟨gr, 0, none⟩) rr.length capr).ownBlock = none ∨ (Value.slice (some ⟨gr, 0, none⟩) rr.length capr).ownBlock ≠ v2.ownBlock) := Lib.hid (by
              rcases hat with h | h
              · rw [h]; exact HAp.out
              · refine .inr (fun e => ?_)
                rw [h] at e
                simp [Value.ownBlock] at e
                omega)
            have hb6 : Below w.heap.size w w6 := (HB.out.alloc (by omega) _).grown hg2 (by simp; omega) (fun q e => (HR.out.own.lt q e).1)
            have HB6 := Lib.hid hb6
            have z6 : w2.heap.size ≤ w6.heap.size := by have := hg2.size; simp at this; omega
            have HN := Lib.hid (Hnx.out ⟨.slice (some ⟨gg, 0, none⟩) (zs.length + 1) cc, (k : Int) :: zs⟩ (by rw [← Hints.out]))
            clear hown2 hg2 hat hb6
            go_wp2
            go_roundw
            case rel => exact ⟨_, j + 1, _, rfl, by omega, by go_num, HN.out, HQ.out, HQ3.out, HAp'.out, z6, HB6.out⟩
            case measure => simp [intOf]; omega
          · obtain rfl : j = m := by omega
            have HN : Hid (rs'.map Rv.ints = outL (lstL t n) f (k + 1)) := Lib.hid (by
              rw [HO'.out, Hrs.out, List.take_of_length_le (by have := Hml.out; omega)])
            go_wp2
            go_roundw
            case rel =>
              repeat apply Exists.intro
              exact ⟨⟨_, k + 1, rs', rfl, by omega, by go_num, HN.out, HR.out, HB.out⟩, rfl⟩
            case measure => simp [intOf]; omega
    · obtain rfl : k = 7 := by omega
      go_wp2
      go_ret
      exact ⟨_, rs, rfl, Hrs.out, HR.out, HB.out⟩
end Go.Proofs.YtoknjofdpnjioaaDoor.Cn
