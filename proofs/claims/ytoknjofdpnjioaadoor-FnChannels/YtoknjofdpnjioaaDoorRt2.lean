/- The routes of chapter 7, the program's search. -/
import Derived.Test.YtoknjofdpnjioaaDoorRt1
namespace Go.Proofs.YtoknjofdpnjioaaDoor.Cn
open Go.RowKit Go.Deep Base Rw

theorem infoRoute : (Tryd.prog.info? 61).map (fun i => (i.zero, i.size, i.bytes)) = some (some (.agg #[.int .i64 0, .slice none 0 0]), 2, 32) := by kernel_rfl

theorem route_start (b f : Nat) (w : World) (hc : Cht w b) : RoSt b (w.heap.size + 1) w ((w.alloc (.cells #[.int .i64 (f : Int), .slice none 0 0] 61)).alloc (.cells ([.bool false, .bool false, .bool false, .bool false, .bool false].set f (.bool true)).toArray 63)) (.slice (some ⟨w.heap.size, 0, none⟩) 1 1) [⟨(f : Int), .slice none 0 0, []⟩] (bst f 0).2 := by
  have hl := hc.lt
  have o1 := World.ownsRow_lit (base := w.heap.size) (e := 61) (size := 2) w #[.int .i64 (f : Int), .slice none 0 0] 1 (Nat.le_refl _) (by decide) (by simp)
  refine ⟨⟨o1.alloc _, fun r hr => ?_⟩, ⟨?_, by simp [bst]⟩, by omega, Turns.of_below (bel_trans (bel_alloc _ _) (bel_alloc _ _)), hc.below (bel_trans (bel_alloc _ _) (bel_alloc _ _))⟩
  · rw [List.mem_singleton] at hr
    subst hr
    exact World.ownsRow_nil _ _ _ _
  · have e := heap_alloc_new (w.alloc (.cells #[.int .i64 (f : Int), .slice none 0 0] 61)) (.cells ([.bool false, .bool false, .bool false, .bool false, .bool false].set f (.bool true)).toArray 63)
    rw [World.size_alloc] at e
    rw [e]
    simp [bst, List.map_set]

theorem new_two_at (w : World) (a b : Value) (t : TypeId) : ∀ j u, [a, b][j]? = some u → (w.alloc (.cells #[a, b] t)).cell? ((⟨w.heap.size, 0, none⟩ : Addr).add j) = some u := by
  intro j u hj
  rw [Addr.add_mid, Nat.zero_add, cell_of_row _ _ j #[a, b] t (0, 0) (heap_alloc_new w _)]
  simpa using hj

/-- How routes ends. -/
def RoutesEnd (b f : Nat) (w : World) (e : Ending) (w' : World) : Prop := ∃ v rs, e = .returned v ∧ rs.map Rt.pair = (bst f (7 * rs.length)).1 ∧ rs.length ≤ 5 ∧ RT w.heap.size w' v rs ∧ Turns b (b + 1) w w'

set_option maxRecDepth 100000 in
set_option maxHeartbeats 4000000 in
theorem routes_any (b f : Nat) (hf : f < 5) (w : World) (hc : Cht w b) (hm : Mvs w) (hb1 : b ≠ 1) :
    Calls Tryd.prog 33 #[.pointer (some ⟨b, 0, none⟩), .int .i64 (f : Int)] w (RoutesEnd b f w) := by
  have HM := Lib.hid hm
  have hbl : b < w.heap.size := hc.lt
  have S0 := Lib.hid (route_start b f w hc)
  clear hm hc
  go_enter Tryd.func33, Tryd.ntmps33
  go_wp2
  generalize (w.alloc (.cells #[.int .i64 (f : Int), .slice none 0 0] 61)).alloc (.cells ([.bool false, .bool false, .bool false, .bool false, .bool false].set f (.bool true)).toArray 63) = W1 at S0 ⊢
  obtain ⟨s, hs⟩ : ∃ s, s = w.heap.size + 1 := ⟨_, rfl⟩
  rw [← hs] at S0 ⊢
  have Hs := Lib.hid hs
  clear hs
  go_loopw [5, 7] (fun v k wr => ∃ (u : Value) (i : Nat) (rs : List Rt), u = v ∧ k = .int .i64 i ∧ i ≤ rs.length ∧ rs.length ≤ 5 ∧ rs.map Rt.pair = (bst f (7 * i)).1 ∧ RoSt b s w wr u rs (bst f (7 * i)).2) (fun _ k _ => 5 - (intOf k).toNat)
  case atStart => exact ⟨_, 0, _, rfl, rfl, by simp, by simp, rfl, S0.out⟩
  case round =>
    obtain ⟨u, k, rs, rfl, rfl, hk, hl5, hrs, hst⟩ := hrel
    obtain ⟨wo, rfl⟩ : ∃ wo, wo = wr := ⟨_, rfl⟩
    have Hst := Lib.hid hst
    have Hrs := Lib.hid hrs
    clear hst hrs S0
    obtain ⟨A0, c0, rfl⟩ := owns_form Hst.out.rt.own
    by_cases hlt : k < rs.length
    · go_wp2
      go_loopw [5, 23] (fun v e wr => ∃ (u : Value) (j : Nat) (rs : List Rt), u = v ∧ e = .int .i64 j ∧ j ≤ 7 ∧ k < rs.length ∧ rs.length ≤ 5 ∧ rs.map Rt.pair = (bst f (7 * k + j)).1 ∧ RoSt b s w wr u rs (bst f (7 * k + j)).2) (fun _ e _ => 7 - (intOf e).toNat)
      case atStart => exact ⟨_, 0, rs, rfl, rfl, by omega, hlt, hl5, Hrs.out, Hst.out⟩
      case round =>
        clear Hst Hrs
        obtain ⟨u', j, rs', rfl, rfl, hj, hk', hl5', hrs', hst'⟩ := hrel
        have Hst := Lib.hid hst'
        have Hrs := Lib.hid hrs'
        clear hst' hrs'
        by_cases hlt2 : j < 7
        · obtain ⟨A1, c1, rfl⟩ := owns_form Hst.out.rt.own
          have hgr : ∃ gr, A1 = some ⟨gr, 0, none⟩ := by
            rcases Hst.out.rt.own.2 with ⟨_, h0⟩ | ⟨gr, _, _, h1, _⟩
            · omega
            · injection h1 with h1
              exact ⟨gr, h1⟩
          obtain ⟨gr, rfl⟩ := hgr
          obtain ⟨hf1, hf2⟩ := flat2 rs' k hk'
          have hcell0 := (Hst.out.rt.own.cellAt (2 * k) (by omega)).trans hf1
          have hcell1 := (Hst.out.rt.own.cellAt (2 * k + 1) (by omega)).trans hf2
          have hev := Hst.out.rt.each _ (List.getElem_mem hk')
          have hpk : (bst f (7 * k + j)).1.getD k (0, []) = (rs'[k].to, rs'[k].ints) := by
            rw [← Hrs.out, List.getD_eq_getElem?_getD, List.getElem?_map, List.getElem?_eq_getElem hk']
            rfl
          obtain ⟨hq1, hq2, hq3⟩ := rt_len hf (show 7 * k + j < 36 by omega)
          obtain ⟨hto0, hto5, hil⟩ := hq2 _ (by
            rw [← Hrs.out]
            exact List.mem_map_of_mem (f := Rt.pair) (List.getElem_mem hk'))
          have Hnx : Hid (bst f (7 * k + (j + 1)) = bstep (bst f (7 * k + j)) k j) := Lib.hid (by
            have e1 : (7 * k + j) / 7 = k := by omega
            have e2 : (7 * k + j) % 7 = j := by omega
            show bst f (7 * k + j + 1) = _
            simp only [bst, e1, e2])
          unfold bstep at Hnx
          rw [if_neg (by rw [← Hrs.out, List.length_map]; omega)] at Hnx
          rw [hpk] at Hnx
          have hto : isS rs'[k].to = true := by
            have h1 : 0 ≤ rs'[k].to := hto0
            have h2 : rs'[k].to < 5 := hto5
            simp [isS]; omega
          have hgS := isS_cases (go_isS hto j hlt2)
          have hil' : rs'[k].ints.length ≤ 5 := hil
          have HSt := Lib.hid (fun W => step_any b rs'[k].to (j : Int) W)
          simp only at Hnx
          generalize rs'[k].val = vk at hcell1 hev hf2
          generalize rs'[k].ints = zs at hev hil' Hnx
          generalize rs'[k].to = tk at hcell0 HSt Hnx hgS hf1
          obtain ⟨gn, hgn⟩ : ∃ gn : Nat, go tk (j : Int) = (gn : Int) := ⟨(go tk (j : Int)).toNat, by omega⟩
          rw [hgn] at HSt Hnx hgS
          rw [Int.toNat_natCast] at Hnx
          have Hev := Lib.hid hev
          have hgn5 : gn < 5 := by omega
          have hgrl : gr < wr.heap.size := World.block_lt_of_cell? _ _ hcell0
          clear hev hf1 hpk hq1 hq2 hto hto0 hto5 hil hgn hgS
          rw [show 2 * k = k * 2 by omega] at hcell0 hcell1
          have Hf2 := Lib.hid hf2
          clear hf2 hcell1
          obtain ⟨l, hl⟩ : ∃ l, (bst f (7 * k + j)).2 = l := ⟨_, rfl⟩
          rw [hl] at Hst Hnx hq3
          go_wp2_with fail
          refine (HSt.out _ Hst.out.ch (HM.out.turn Hst.out.old (by omega)) hb1).mono ?_
          rintro e w2 ⟨rfl, hc2, ht2⟩
          replace Hev := Lib.hid (own_other Hev.out (fun e => by have := (Hev.out.lt b e).1; omega) ht2)
          replace Hst := Lib.hid (Hst.out.step hbl ht2 hc2)
          clear hc2 ht2 hcell0 hgrl
          have hsc := Hst.out.sb.bs.cell gn hgn5
          have hsf := Hst.out.sb.bs.free gn
          cases hx : l.getD gn false
          · have Hnx' : Hid (bst f (7 * k + (j + 1)) = ((bst f (7 * k + j)).1 ++ [((gn : Int), zs ++ [(j : Int)])], l.set gn true)) := Lib.hid (by rw [Hnx.out, hx]; rfl)
            rw [hx] at hsc
            clear hx Hnx hl
            obtain ⟨i0, hi0, hz0, hz1, hz2⟩ := info_parts infoInt
            have Hi0 := Lib.hid hi0
            have Hz0 := Lib.hid hz0
            have Hz1 := Lib.hid hz1
            have Hz2 := Lib.hid hz2
            clear hi0 hz0 hz1 hz2
            obtain ⟨j0, hj0, hy0, hy1, hy2⟩ := info_parts infoRoute
            have Hj0 := Lib.hid hj0
            have Hy0 := Lib.hid hy0
            have Hy1 := Lib.hid hy1
            have Hy2 := Lib.hid hy2
            clear hj0 hy0 hy1 hy2
            obtain ⟨A9, c9, rfl⟩ := owns_form Hev.out
            have hcell1 := (Hst.out.rt.own.cellAt (2 * k + 1) (by omega)).trans Hf2.out
            rw [show 2 * k = k * 2 by omega] at hcell1
            have hgs : ¬ gr = s := fun e => own_ne_of Hst.out.rt.own Hst.out.sb.1 (by decide) (by rw [e]; rfl)
            have hgs' : ¬ s = gr := fun e => hgs e.symm
            replace Hev := Lib.hid (own_other Hev.out (own_ne_of Hev.out Hst.out.sb.1 (by decide)) (set_turns (o := gn) (.bool true)))
            replace Hst := Lib.hid (Hst.out.see hbl gn)
            have zs1 : w.heap.size ≤ (w2.setCell ⟨s, gn, none⟩ (.bool true)).heap.size := Hst.out.old.size
            go_wp2_with fail
            refine (cloneO_any w.heap.size _ zs _ (by omega) Hev.out).mono ?_
            rintro e w4 ⟨v1, rfl, hown1, b4⟩
            have Hst3 := Hst
            replace Hst := Lib.hid (Hst.out.keep b4)
            obtain ⟨W3, hW3⟩ : ∃ W3, w2.setCell ⟨s, gn, none⟩ (.bool true) = W3 := ⟨_, rfl⟩
            rw [hW3] at hown1 b4 zs1 Hst3
            clear hW3
            have z4 : W3.heap.size ≤ w4.heap.size := b4.size
            have Hown1 := Lib.hid hown1
            have B4 := Lib.hid b4
            clear hown1 b4 hcell1 Hev
            obtain ⟨A8, c8, rfl⟩ := owns_form Hown1.out
            go_wp2_with (at_builtin; refine wpList_append_own _ rfl _ _ 24 rfl w.heap.size 3 i0 (.int .i64 0) 1 8 Tryd.underlying24 Hi0.out Hz0.out Hz1.out Hz2.out rfl (by decide) _ _ _ rfl (owns_wide (Hown1.out.alloc _) zs1) ⟨w4.heap.size, 0, none⟩ 1 1 [.int .i64 (j : Int)] rfl rfl ?c1h ?c2h ?c3h ?c4h ?c5h ?_)
            case c1h => exact new_one_at rfl _ _
            case c2h => simp [Value.oneCell']
            case c3h => unfold maxLen; omega
            case c4h => omega
            case c5h => simp; omega
            intro v2 w5 hown2 hg2 _
            have hb5 : RoSt b s w w5 (.slice (some ⟨gr, 0, none⟩) rs'.length c1) rs' (l.set gn true) := Hst3.out.keep ((B4.out.alloc (by omega) _).grown hg2 (by simp; omega) (fun q e => (Hown1.out.lt q e).1))
            have z5 : w4.heap.size ≤ w5.heap.size := by have := hg2.size; simp at this; omega
            replace Hst := Lib.hid hb5
            have Hown2 := Lib.hid hown2
            clear hb5 hown2 hg2 Hown1 Hst3 B4
            obtain ⟨A7, c7, rfl⟩ := owns_form Hown2.out
            go_wp2_with (at_builtin; refine wpList_append_own _ rfl _ _ 58 rfl w.heap.size 61 j0 (.agg #[.int .i64 0, .slice none 0 0]) 2 32 Tryd.underlying58 Hj0.out Hy0.out Hy1.out Hy2.out rfl (by decide) _ _ _ rfl (Hst.out.rt.own.alloc _) ⟨w5.heap.size, 0, none⟩ 1 1 [.int .i64 (gn : Int), .slice A7 (zs.length + 1) c7] rfl rfl ?d1h ?d2h ?d3h ?d4h ?d5h ?_)
            case d1h => exact new_two_at w5 _ _ _
            case d2h => simp [Value.oneCell']
            case d3h => unfold maxLen; omega
            case d4h => omega
            case d5h => simp; omega
            intro v3 w6 hown3 hg3 _
            have HQ := Lib.hid ((Hst.out.keep (bel_alloc w5 (.cells #[.int .i64 (gn : Int), .slice A7 (zs.length + 1) c7] 61))).push (r := ⟨(gn : Int), .slice A7 (zs.length + 1) c7, zs ++ [(j : Int)]⟩) hbl (by simpa using Hown2.out.alloc _) hown3 hg3)
            have HP : Hid ((rs' ++ [(⟨(gn : Int), .slice A7 (zs.length + 1) c7, zs ++ [(j : Int)]⟩ : Rt)]).map Rt.pair = (bst f (7 * k + (j + 1))).1) := Lib.hid (by rw [Hnx'.out, List.map_append, Hrs.out]; rfl)
            have hl6 : (rs' ++ [(⟨(gn : Int), .slice A7 (zs.length + 1) c7, zs ++ [(j : Int)]⟩ : Rt)]).length ≤ 5 := by
              have := (rt_len hf (show 7 * k + (j + 1) < 36 by omega)).1
              rw [← HP.out] at this
              simpa using this
            have HQ2 : Hid (RoSt b s w w6 v3 (rs' ++ [(⟨(gn : Int), .slice A7 (zs.length + 1) c7, zs ++ [(j : Int)]⟩ : Rt)]) (bst f (7 * k + (j + 1))).2) := Lib.hid (by rw [Hnx'.out]; exact HQ.out)
            clear HQ hown3 hg3
            go_wp2
            go_roundw
            case rel => exact ⟨_, j + 1, _, rfl, by go_num, by omega, by simp; omega, hl6, HP.out, HQ2.out⟩
            case measure => simp [intOf]; omega
          · have Hnx' : Hid (bst f (7 * k + (j + 1)) = bst f (7 * k + j)) := Lib.hid (by rw [Hnx.out, hx]; rfl)
            rw [hx] at hsc
            have HQ : Hid (rs'.map Rt.pair = (bst f (7 * k + (j + 1))).1 ∧ (bst f (7 * k + (j + 1))).2 = l) := Lib.hid (by rw [Hnx'.out]; exact ⟨Hrs.out, hl⟩)
            clear hx Hnx hl
            go_wp2_with fail
            go_roundw
            case rel =>
              first
              | exact ⟨_, j + 1, rs', rfl, by go_num, by omega, hk', hl5', HQ.out.1, by rw [HQ.out.2]; exact Hst.out⟩
              | (repeat apply Exists.intro
                 exact ⟨⟨_, j + 1, rs', rfl, by go_num, by omega, hk', hl5', HQ.out.1, by rw [HQ.out.2]; exact Hst.out⟩, rfl⟩)
            case measure => simp [intOf]; omega
        · obtain rfl : j = 7 := by omega
          go_wp2
          go_roundw
          case rel =>
            first
            | exact ⟨_, k + 1, rs', rfl, by go_num, by omega, hl5', Hrs.out, Hst.out⟩
            | (repeat apply Exists.intro
               exact ⟨⟨_, k + 1, rs', rfl, by go_num, by omega, hl5', Hrs.out, Hst.out⟩, rfl⟩)
          case measure => simp [intOf]; omega
    · have hke : k = rs.length := by omega
      subst hke
      go_wp2
      go_ret
      exact ⟨_, rs, rfl, Hrs.out, hl5, Hst.out.rt, Hst.out.old⟩
end Go.Proofs.YtoknjofdpnjioaaDoor.Cn
