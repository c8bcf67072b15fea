/- The draw of chapter 8 walked. -/
import Derived.Test.YtbmfleakldhabaaDoorKnL
import Derived.Deep.AppendLies
namespace Go.Proofs.YtbmfleakldhabaaDoor.Draw
open Go.RowKit Go.Deep Base Rw Kn

/-- What the draw hands back. -/
def DrewPl (w : World) (e : Ending) (w' : World) : Prop :=
  ∃ (id : Int) (A' : Option Addr) (c' : Nat) (zss : List (List Int)), e = .returned (.tuple #[.int .i64 id, .slice A' zss.length c']) ∧ zss.length ≤ 301 ∧ (∀ i, i < zss.length → (zss.getD i []).length ≤ 3) ∧ IntsS w' A' zss ∧ Below w.heap.size w w'

theorem PlSt.fin {w W W' : World} {g : Nat} {A : Option Addr} {n cap : Nat} {zs : List Int} {rs : List Ev} {A' : Option Addr} {c' m : Nat} {id : Int} (h : PlSt w W g A n cap zs rs (.slice A' m c')) (hm : rs.length = m) (hl : m ≤ 301) (hc : Cur W' g A n cap zs) (hg : W.grownBy W' (some g)) : DrewPl w (.returned (.tuple #[.int .i64 id, .slice A' m c'])) W' := by
  have h2 := h.draw hc hg
  obtain ⟨A2, c2, e, hi⟩ := h2.intss
  injection e with e1 e2 e3
  subst e1 e3
  refine ⟨id, A', c', rs.map Ev.ints, by rw [List.length_map, hm], by rw [List.length_map]; omega, fun i hi => ?_, hi, h2.bel⟩
  rw [List.length_map] at hi
  have hg : (rs.map Ev.ints).getD i [] = rs[i].ints := by simp [List.getD_eq_getElem?_getD, hi]
  rw [hg]
  exact (h2.each _ (List.getElem_mem hi)).2.2.2.2

theorem owns_succ {w : World} {B n : Nat} {e : TypeId} {v : Value} {xs : List Value} (h : w.ownsRow B e 1 v (n + 1) xs) : ∃ b c, v = .slice (some ⟨b, 0, none⟩) (n + 1) c := by
  rcases h.2 with ⟨_, h0⟩ | ⟨b, c, _, hv, _⟩
  · omega
  · exact ⟨b, c, hv⟩

theorem ri_three (W : World) (x y z : Int) (T : TypeId) : RI (W.alloc (.cells #[.int .i64 x, .int .i64 y, .int .i64 z] T)) W.heap.size [x, y, z] := by
  have e := heap_alloc_new W (.cells #[.int .i64 x, .int .i64 y, .int .i64 z] T)
  intro i hi
  refine ⟨?_, fun j => frozen_of_row _ _ j _ _ e⟩
  rw [cell_of_row _ _ i _ _ (0, 0) e]
  match i, hi with
  | 0, _ => rfl
  | 1, _ => rfl
  | 2, _ => rfl

theorem PlSt.slot {w W : World} {g : Nat} {A : Option Addr} {n cap : Nat} {zs : List Int} {rs : List Ev} {r : Ev} {b c m : Nat} (st : PlSt w W g A n cap zs (rs ++ [r]) (.slice (some ⟨b, 0, none⟩) m c)) (hm : rs.length + 1 = m) :
    W.cell? ⟨b, rs.length, none⟩ = some r.val ∧ W.frozen? ⟨b, rs.length, none⟩ = false := by
  have h := st.own
  rw [List.length_append, List.map_append] at h
  simp only [List.length_cons, List.length_nil, Nat.zero_add, List.map_cons, List.map_nil] at h
  rw [hm] at h
  constructor
  · rw [h.cellAt rs.length (by omega)]
    simp
  · rcases h.2 with ⟨hv, _⟩ | ⟨b', c', cur, hv, hB, hg, _⟩
    · cases hv
    · injection hv with e1 _ _
      injection e1 with e1
      injection e1 with e1
      subst e1
      simp [World.frozen?, hg]

theorem PlSt.two {w W : World} {g : Nat} {A : Option Addr} {n cap : Nat} {zs : List Int} {rs : List Ev} {b k : Nat} {x y z : Int} {v : Value} (st : PlSt w W g A n cap zs (rs ++ [⟨b, k, [x, y, z]⟩]) v) : RI W b [x, y] := by
  have h := (st.each _ (List.mem_append.2 (.inr (List.mem_singleton.2 rfl)))).1
  intro i hi
  have h2 := h i (by simp at hi ⊢; omega)
  refine ⟨?_, h2.2⟩
  rw [h2.1]
  match i, hi with
  | 0, _ => rfl
  | 1, _ => rfl

set_option maxRecDepth 100000 in
set_option maxHeartbeats 4000000 in
theorem drawPl_any (A : Option Addr) (n cap : Nat) (zs : List Int) (w : World) (hn : zs.length = n) (hs : n ≤ 1048576) (hb : Bytes w w.heap.size A zs) :
    Calls Tryd.prog 8 #[.slice A n cap] w (DrewPl w) := by
  have HB := Lib.hid hb
  have HN := Lib.hid hn
  clear hb hn
  obtain ⟨i0, hi0, hz0, hz1, hz2⟩ := info_parts infoInts
  have Hi0 := Lib.hid hi0
  have Hz0 := Lib.hid hz0
  have Hz1 := Lib.hid hz1
  have Hz2 := Lib.hid hz2
  clear hi0 hz0 hz1 hz2
  go_enter Tryd.func8, Tryd.ntmps8
  go_wp2_with fail
  refine (new_any A n cap zs w HN.out hs HB.out).mono ?_
  rintro e w1 ⟨rfl, hc1, hb1⟩
  have S : Hid (PlSt w (w1.alloc (.cells #[] 29)) w.heap.size A n cap zs [] (.slice (some ⟨w1.heap.size, 0, none⟩) 0 0)) := by
    refine ⟨hc1.alloc _, ?_, fun r hr => absurd hr (by simp), bel_trans hb1 (bel_alloc _ _), Nat.le_refl _⟩
    have hz := hc1.lt
    exact World.ownsRow_lit w1 #[] 0 (by omega) (by simp) (by simp)
  clear hc1 hb1
  go_wp2_with fail
  obtain ⟨g, hg⟩ : ∃ g, w.heap.size = g := ⟨_, rfl⟩
  have Hg := Lib.hid hg
  rw [hg] at S ⊢
  clear hg
  refine (size30_any A n cap _ hs).mono ?_
  rintro e w' ⟨⟨x, rfl, hx0, hx1⟩, rfl⟩
  go_wp2_with fail
  refine (below_any g A n cap zs x _ S.out.cur).mono ?_
  rintro e w2 ⟨m, rfl, hm, hc2, hg2⟩
  obtain ⟨m0, m1⟩ := hm.2 (by omega)
  replace S := Lib.hid (S.out.draw hc2 hg2)
  clear hc2 hg2 hm
  go_wp2_with fail
  refine (once_any g A n cap zs 40 _ S.out.cur).mono ?_
  rintro e w3 ⟨o, rfl, hc3, hg3⟩
  replace S := Lib.hid (S.out.draw hc3 hg3)
  clear hc3 hg3
  cases o
  case false =>
    obtain ⟨p, rfl⟩ := Int.eq_ofNat_of_zero_le m0
    have hp : p ≤ 301 := by omega
    go_wp2_with fail
    go_loopw [5, 7, 8, 9] (fun vv tt ss i wr => ∃ (v : Value) (t s : Int) (j : Nat) (rs : List Ev), v = vv ∧ tt = .int .i64 t ∧ ss = .int .i64 s ∧ i = .int .i64 j ∧ j ≤ p ∧ 0 ≤ t ∧ t ≤ 5 * j ∧ rs.length = j ∧ PlSt w wr g A n cap zs rs v) (fun _ _ _ i _ => p - (intOf i).toNat)
    case atStart => exact ⟨_, 0, 0, 0, [], rfl, rfl, rfl, rfl, Nat.zero_le _, by omega, by omega, rfl, S.out⟩
    case round =>
      obtain ⟨v, t, s, j, rs, hv, rfl, rfl, rfl, hj, ht0, ht1, hrl, hst⟩ := hrel
      subst hv
      obtain ⟨wo, rfl⟩ : ∃ wo, wo = wr := ⟨_, rfl⟩
      replace S := Lib.hid hst
      have Hrl := Lib.hid hrl
      clear hst hrl
      by_cases hlt : j < p
      case neg =>
        obtain rfl : j = p := by omega
        have hjn : ¬ (j : Int) < (j : Int) := by omega
        obtain ⟨A9, c9, rfl⟩ := owns_form S.out.own
        rw [Hrl.out]
        rw [Hrl.out] at S
        go_wp2_with fail
        refine (below_any g A n cap zs 90 _ S.out.cur).mono ?_
        rintro e w5 ⟨x5, rfl, hx5, hc5, hg5⟩
        obtain ⟨x50, x51⟩ := hx5.2 (by decide)
        replace S := Lib.hid (S.out.draw hc5 hg5)
        clear hc5 hg5 hx5
        go_wp2_with fail
        refine (pick_any g A n cap zs w5.heap.size 5 5 [1, 7, 1 + x5, 0, 1000000001] _ (S.out.cur.alloc _) (by have := S.out.cur.lt; omega) rfl (by decide) (by decide) (fun i hi => new_cells w5 [1, 7, 1 + x5, 0, 1000000001] 3 i hi)).mono ?_
        rintro e w6 ⟨x6, rfl, _, hc6, hg6⟩
        have HF := Lib.hid ((S.out.below (bel_alloc _ _)).fin (id := x6) Hrl.out (by omega) hc6 hg6)
        clear hc6 hg6
        go_wp2
        refine bodyPost_ret (v := .tuple #[.int .i64 x6, .slice A9 j c9]) (by simp [results, go_sem]) rfl HF.out
      have hjp : (j : Int) < (p : Int) := by omega
      go_wp2_with fail
      refine (below_any g A n cap zs 5 _ S.out.cur).mono ?_
      rintro e w1 ⟨x1, rfl, hx1, hc1, hg1⟩
      obtain ⟨x10, x11⟩ := hx1.2 (by decide)
      replace S := Lib.hid (S.out.draw hc1 hg1)
      clear hc1 hg1 hx1
      go_wp2_with fail
      refine (below_any g A n cap zs 9 _ S.out.cur).mono ?_
      rintro e w2 ⟨x2, rfl, hx2, hc2, hg2⟩
      obtain ⟨x20, x21⟩ := hx2.2 (by decide)
      replace S := Lib.hid (S.out.draw hc2 hg2)
      clear hc2 hg2 hx2
      go_wp2_with fail
      go_loopw [10, 11] (fun ev kk wi => ∃ (x : Int) (y : Nat), ev = .int .i64 x ∧ kk = .int .i64 y ∧ y ≤ 7 ∧ -1 ≤ x ∧ x ≤ 7 ∧ PlSt w wi g A n cap zs rs v) (fun _ kk _ => 7 - (intOf kk).toNat)
      case atStart => exact ⟨_, 0, rfl, rfl, by omega, by omega, by omega, S.out⟩
      case round =>
        obtain ⟨x, y, rfl, rfl, hy, hx0, hx1, hT⟩ := hrel
        have T := Lib.hid hT
        clear hT
        by_cases hyl : y < 7
        · have HT := Lib.hid (fun W => to_any s (y : Int) W)
          unfold Kn.ToEnd at HT
          generalize toN s (y : Int) = q at HT
          go_wp2_with fail
          refine (HT.out _).mono ?_
          rintro e wa ⟨rfl, ba⟩
          replace T := Lib.hid (T.out.below ba)
          clear ba
          by_cases h1 : q < 0
          · skip
            go_wp2
            go_roundw
            case rel => exact ⟨x, y + 1, rfl, by go_num, by omega, by omega, by omega, T.out⟩
            case measure => simp [intOf]; omega
          · by_cases h2 : q = 4
            · subst h2
              go_wp2_with fail
              refine (HT.out _).mono ?_
              rintro e wb ⟨rfl, bb⟩
              replace T := Lib.hid (T.out.below bb)
              clear bb
              go_wp2
              go_roundw
              case rel => exact ⟨x, y + 1, rfl, by go_num, by omega, by omega, by omega, T.out⟩
              case measure => simp [intOf]; omega
            · have h2b : (q == 4) = false := by simpa using h2
              go_wp2_with fail
              refine (HT.out _).mono ?_
              rintro e wb ⟨rfl, bb⟩
              replace T := Lib.hid (T.out.below bb)
              clear bb
              go_wp2_with fail
              refine (once_any g A n cap zs 2 _ T.out.cur).mono ?_
              rintro e wc ⟨o, rfl, hc, hg⟩
              replace T := Lib.hid (T.out.draw hc hg)
              clear hc hg
              cases o
              · skip
                go_wp2
                go_roundw
                case rel => exact ⟨x, y + 1, rfl, by go_num, by omega, by omega, by omega, T.out⟩
                case measure => simp [intOf]; omega
              · skip
                go_wp2
                go_roundw
                case rel => exact ⟨(y : Int), y + 1, rfl, by go_num, by omega, by omega, by omega, T.out⟩
                case measure => simp [intOf]; omega
        · obtain rfl : y = 7 := by omega
          have HT := Lib.hid (fun W => to_any s x W)
          unfold Kn.ToEnd at HT
          generalize toN s x = q at HT
          go_wp2_with fail
          refine (HT.out _).mono ?_
          rintro e wa ⟨rfl, ba⟩
          replace T := Lib.hid (T.out.below ba)
          clear ba
          by_cases h1 : q < 0
          · skip
            go_wp2_with fail
            refine (below_any g A n cap zs 20 _ T.out.cur).mono ?_
            rintro e wd ⟨z, rfl, hz, hcz, hgz⟩
            obtain ⟨z0, z1⟩ := hz.2 (by decide)
            replace T := Lib.hid (T.out.draw hcz hgz)
            clear hcz hgz hz
            have hgd := T.out.cur.lt
            have TM := Lib.hid (T.out.below (bel_alloc wd (.cells #[.int .i64 x, .int .i64 (t + x1), .int .i64 (1 + z)] 3)))
            have RB := Lib.hid (ri_three wd x (t + x1) (1 + z) 3)
            have HN3 : Hid (some wd.heap.size ≠ v.ownBlock) := fun e => by have := (T.out.own.lt _ e.symm).2; omega
            go_wp2_with (at_builtin; refine wpList_append_own_at _ rfl _ _ 24 rfl (g + 1) 29 i0 _ 1 24 Tryd.underlying24 Hi0.out Hz0.out Hz1.out Hz2.out rfl (by decide) v rs.length (rs.map Ev.val) rfl (TM.out.own.alloc _) ⟨wd.heap.size + 1, 0, none⟩ 1 1 [Ev.val ⟨wd.heap.size, 3, [x, t + x1, 1 + z]⟩] rfl rfl (new_one_at (by simp) _ _) ?e2h ?e3h ?e4h ?e5h ?_)
            case e2h => simp [Value.oneCell', Ev.val]
            case e3h => have := Hrl.out; unfold maxLen; omega
            case e4h => have := Hrl.out; omega
            case e5h => simp; omega
            intro v9 w9 hown hgr _ hat
            obtain ⟨b9, c9, rfl⟩ := owns_succ hown
            have Q := Lib.hid (TM.out.push (r := ⟨wd.heap.size, 3, [x, t + x1, 1 + z]⟩) RB.out hgd (by simp) HN3.out (by simp) hown hgr hat (by simp))
            have Hrl9 : Hid (rs.length + 1 = j + 1) := by show _ = _; rw [Hrl.out]
            rw [Hrl.out] at Q ⊢
            clear hown hgr hat RB HN3 TM T
            go_wp2_with fail
            refine (once_any g A n cap zs 40 _ Q.out.cur).mono ?_
            rintro e wf ⟨o, rfl, hc, hg⟩
            replace Q := Lib.hid (Q.out.draw hc hg)
            clear hc hg
            have Hr9 : Hid ((rs ++ [(⟨wd.heap.size, 3, [x, t + x1, 1 + z]⟩ : Ev)]).length = j + 1) := by show _ = _; rw [List.length_append, Hrl.out]; rfl
            cases o
            case false =>
              go_wp2
              go_roundw
              case rel => exact ⟨_, t + x1, s, j + 1, _, rfl, by go_num, rfl, by go_num, by omega, by omega, by omega, Hr9.out, Q.out⟩
              case measure => simp [intOf]; omega
            case true =>
              obtain ⟨s0, s1⟩ := Q.out.slot Hrl9.out
              rw [Hrl.out] at s0 s1
              change wf.cell? ⟨b9, j, none⟩ = some (.slice (some ⟨wd.heap.size, 0, none⟩) 3 3) at s0
              have Q2 := Lib.hid (Q.out.cut (r2 := ⟨wd.heap.size, 3, [x, t + x1]⟩) Hrl9.out rfl Q.out.two (by simp))
              rw [Hrl.out] at Q2
              have Hr8 : Hid ((rs ++ [(⟨wd.heap.size, 3, [x, t + x1]⟩ : Ev)]).length = j + 1) := by show _ = _; rw [List.length_append, Hrl.out]; rfl
              have hjj : (j : Int) < (j : Int) + 1 := by omega
              have hj0 : (0 : Int) ≤ (j : Int) := by omega
              go_wp2
              go_roundw
              case rel => exact ⟨_, t + x1, s, j + 1, _, rfl, by go_num, rfl, by go_num, by omega, by omega, by omega, Hr8.out, Q2.out⟩
              case measure => simp [intOf]; omega
          · skip
            go_wp2_with fail
            refine (HT.out _).mono ?_
            rintro e wb ⟨rfl, bb⟩
            replace T := Lib.hid (T.out.below bb)
            clear bb
            go_wp2_with fail
            refine (below_any g A n cap zs 20 _ T.out.cur).mono ?_
            rintro e wd ⟨z, rfl, hz, hcz, hgz⟩
            obtain ⟨z0, z1⟩ := hz.2 (by decide)
            replace T := Lib.hid (T.out.draw hcz hgz)
            clear hcz hgz hz
            have hgd := T.out.cur.lt
            have TM := Lib.hid (T.out.below (bel_alloc wd (.cells #[.int .i64 x, .int .i64 (t + x1), .int .i64 (1 + z)] 3)))
            have RB := Lib.hid (ri_three wd x (t + x1) (1 + z) 3)
            have HN3 : Hid (some wd.heap.size ≠ v.ownBlock) := fun e => by have := (T.out.own.lt _ e.symm).2; omega
            go_wp2_with (at_builtin; refine wpList_append_own_at _ rfl _ _ 24 rfl (g + 1) 29 i0 _ 1 24 Tryd.underlying24 Hi0.out Hz0.out Hz1.out Hz2.out rfl (by decide) v rs.length (rs.map Ev.val) rfl (TM.out.own.alloc _) ⟨wd.heap.size + 1, 0, none⟩ 1 1 [Ev.val ⟨wd.heap.size, 3, [x, t + x1, 1 + z]⟩] rfl rfl (new_one_at (by simp) _ _) ?e2h ?e3h ?e4h ?e5h ?_)
            case e2h => simp [Value.oneCell', Ev.val]
            case e3h => have := Hrl.out; unfold maxLen; omega
            case e4h => have := Hrl.out; omega
            case e5h => simp; omega
            intro v9 w9 hown hgr _ hat
            obtain ⟨b9, c9, rfl⟩ := owns_succ hown
            have Q := Lib.hid (TM.out.push (r := ⟨wd.heap.size, 3, [x, t + x1, 1 + z]⟩) RB.out hgd (by simp) HN3.out (by simp) hown hgr hat (by simp))
            have Hrl9 : Hid (rs.length + 1 = j + 1) := by show _ = _; rw [Hrl.out]
            rw [Hrl.out] at Q ⊢
            clear hown hgr hat RB HN3 TM T
            go_wp2_with fail
            refine (once_any g A n cap zs 40 _ Q.out.cur).mono ?_
            rintro e wf ⟨o, rfl, hc, hg⟩
            replace Q := Lib.hid (Q.out.draw hc hg)
            clear hc hg
            have Hr9 : Hid ((rs ++ [(⟨wd.heap.size, 3, [x, t + x1, 1 + z]⟩ : Ev)]).length = j + 1) := by show _ = _; rw [List.length_append, Hrl.out]; rfl
            cases o
            case false =>
              go_wp2
              go_roundw
              case rel => exact ⟨_, t + x1, q, j + 1, _, rfl, by go_num, rfl, by go_num, by omega, by omega, by omega, Hr9.out, Q.out⟩
              case measure => simp [intOf]; omega
            case true =>
              obtain ⟨s0, s1⟩ := Q.out.slot Hrl9.out
              rw [Hrl.out] at s0 s1
              change wf.cell? ⟨b9, j, none⟩ = some (.slice (some ⟨wd.heap.size, 0, none⟩) 3 3) at s0
              have Q2 := Lib.hid (Q.out.cut (r2 := ⟨wd.heap.size, 3, [x, t + x1]⟩) Hrl9.out rfl Q.out.two (by simp))
              rw [Hrl.out] at Q2
              have Hr8 : Hid ((rs ++ [(⟨wd.heap.size, 3, [x, t + x1]⟩ : Ev)]).length = j + 1) := by show _ = _; rw [List.length_append, Hrl.out]; rfl
              have hjj : (j : Int) < (j : Int) + 1 := by omega
              have hj0 : (0 : Int) ≤ (j : Int) := by omega
              go_wp2
              go_roundw
              case rel => exact ⟨_, t + x1, q, j + 1, _, rfl, by go_num, rfl, by go_num, by omega, by omega, by omega, Hr8.out, Q2.out⟩
              case measure => simp [intOf]; omega
      skip
  go_wp2_with fail
  refine (below_any g A n cap zs 2 _ S.out.cur).mono ?_
  rintro e w4 ⟨y4, rfl, hy4, hc4, hg4⟩
  obtain ⟨y40, y41⟩ := hy4.2 (by decide)
  replace S := Lib.hid (S.out.draw hc4 hg4)
  clear hc4 hg4 hy4
  obtain ⟨y, rfl⟩ := Int.eq_ofNat_of_zero_le y40
  obtain ⟨p, hpy⟩ : ∃ p : Nat, p = 300 + y := ⟨_, rfl⟩
  have hp : p ≤ 301 := by omega
  have hpi : (300 : Int) + (y : Int) = (p : Int) := by omega
  have hwp : IntKind.i64.wrap (300 + (y : Int)) = (p : Int) := by rw [hpi]; exact IntWalk.i64_in _ (by omega)
  clear hpy
  go_wp2_with fail
  try rw [hpi]
  clear hpi hwp
  go_loopw [5, 7, 8, 9] (fun vv tt ss i wr => ∃ (v : Value) (t s : Int) (j : Nat) (rs : List Ev), v = vv ∧ tt = .int .i64 t ∧ ss = .int .i64 s ∧ i = .int .i64 j ∧ j ≤ p ∧ 0 ≤ t ∧ t ≤ 5 * j ∧ rs.length = j ∧ PlSt w wr g A n cap zs rs v) (fun _ _ _ i _ => p - (intOf i).toNat)
  case atStart => exact ⟨_, 0, 0, 0, [], rfl, rfl, rfl, rfl, Nat.zero_le _, by omega, by omega, rfl, S.out⟩
  case round =>
    obtain ⟨v, t, s, j, rs, hv, rfl, rfl, rfl, hj, ht0, ht1, hrl, hst⟩ := hrel
    subst hv
    obtain ⟨wo, rfl⟩ : ∃ wo, wo = wr := ⟨_, rfl⟩
    replace S := Lib.hid hst
    have Hrl := Lib.hid hrl
    clear hst hrl
    by_cases hlt : j < p
    case neg =>
      obtain rfl : j = p := by omega
      have hjn : ¬ (j : Int) < (j : Int) := by omega
      obtain ⟨A9, c9, rfl⟩ := owns_form S.out.own
      rw [Hrl.out]
      rw [Hrl.out] at S
      go_wp2_with fail
      refine (below_any g A n cap zs 90 _ S.out.cur).mono ?_
      rintro e w5 ⟨x5, rfl, hx5, hc5, hg5⟩
      obtain ⟨x50, x51⟩ := hx5.2 (by decide)
      replace S := Lib.hid (S.out.draw hc5 hg5)
      clear hc5 hg5 hx5
      go_wp2_with fail
      refine (pick_any g A n cap zs w5.heap.size 5 5 [1, 7, 1 + x5, 0, 1000000001] _ (S.out.cur.alloc _) (by have := S.out.cur.lt; omega) rfl (by decide) (by decide) (fun i hi => new_cells w5 [1, 7, 1 + x5, 0, 1000000001] 3 i hi)).mono ?_
      rintro e w6 ⟨x6, rfl, _, hc6, hg6⟩
      have HF := Lib.hid ((S.out.below (bel_alloc _ _)).fin (id := x6) Hrl.out (by omega) hc6 hg6)
      clear hc6 hg6
      go_wp2
      refine bodyPost_ret (v := .tuple #[.int .i64 x6, .slice A9 j c9]) (by simp [results, go_sem]) rfl HF.out
    have hjp : (j : Int) < (p : Int) := by omega
    go_wp2_with fail
    refine (below_any g A n cap zs 5 _ S.out.cur).mono ?_
    rintro e w1 ⟨x1, rfl, hx1, hc1, hg1⟩
    obtain ⟨x10, x11⟩ := hx1.2 (by decide)
    replace S := Lib.hid (S.out.draw hc1 hg1)
    clear hc1 hg1 hx1
    go_wp2_with fail
    refine (below_any g A n cap zs 9 _ S.out.cur).mono ?_
    rintro e w2 ⟨x2, rfl, hx2, hc2, hg2⟩
    obtain ⟨x20, x21⟩ := hx2.2 (by decide)
    replace S := Lib.hid (S.out.draw hc2 hg2)
    clear hc2 hg2 hx2
    go_wp2_with fail
    go_loopw [10, 11] (fun ev kk wi => ∃ (x : Int) (y : Nat), ev = .int .i64 x ∧ kk = .int .i64 y ∧ y ≤ 7 ∧ -1 ≤ x ∧ x ≤ 7 ∧ PlSt w wi g A n cap zs rs v) (fun _ kk _ => 7 - (intOf kk).toNat)
    case atStart => exact ⟨_, 0, rfl, rfl, by omega, by omega, by omega, S.out⟩
    case round =>
      obtain ⟨x, y, rfl, rfl, hy, hx0, hx1, hT⟩ := hrel
      have T := Lib.hid hT
      clear hT
      by_cases hyl : y < 7
      · have HT := Lib.hid (fun W => to_any s (y : Int) W)
        unfold Kn.ToEnd at HT
        generalize toN s (y : Int) = q at HT
        go_wp2_with fail
        refine (HT.out _).mono ?_
        rintro e wa ⟨rfl, ba⟩
        replace T := Lib.hid (T.out.below ba)
        clear ba
        by_cases h1 : q < 0
        · skip
          go_wp2
          go_roundw
          case rel => exact ⟨x, y + 1, rfl, by go_num, by omega, by omega, by omega, T.out⟩
          case measure => simp [intOf]; omega
        · by_cases h2 : q = 4
          · subst h2
            go_wp2_with fail
            refine (HT.out _).mono ?_
            rintro e wb ⟨rfl, bb⟩
            replace T := Lib.hid (T.out.below bb)
            clear bb
            go_wp2
            go_roundw
            case rel => exact ⟨x, y + 1, rfl, by go_num, by omega, by omega, by omega, T.out⟩
            case measure => simp [intOf]; omega
          · have h2b : (q == 4) = false := by simpa using h2
            go_wp2_with fail
            refine (HT.out _).mono ?_
            rintro e wb ⟨rfl, bb⟩
            replace T := Lib.hid (T.out.below bb)
            clear bb
            go_wp2_with fail
            refine (once_any g A n cap zs 2 _ T.out.cur).mono ?_
            rintro e wc ⟨o, rfl, hc, hg⟩
            replace T := Lib.hid (T.out.draw hc hg)
            clear hc hg
            cases o
            · skip
              go_wp2
              go_roundw
              case rel => exact ⟨x, y + 1, rfl, by go_num, by omega, by omega, by omega, T.out⟩
              case measure => simp [intOf]; omega
            · skip
              go_wp2
              go_roundw
              case rel => exact ⟨(y : Int), y + 1, rfl, by go_num, by omega, by omega, by omega, T.out⟩
              case measure => simp [intOf]; omega
      · obtain rfl : y = 7 := by omega
        have HT := Lib.hid (fun W => to_any s x W)
        unfold Kn.ToEnd at HT
        generalize toN s x = q at HT
        go_wp2_with fail
        refine (HT.out _).mono ?_
        rintro e wa ⟨rfl, ba⟩
        replace T := Lib.hid (T.out.below ba)
        clear ba
        by_cases h1 : q < 0
        · skip
          go_wp2_with fail
          refine (below_any g A n cap zs 20 _ T.out.cur).mono ?_
          rintro e wd ⟨z, rfl, hz, hcz, hgz⟩
          obtain ⟨z0, z1⟩ := hz.2 (by decide)
          replace T := Lib.hid (T.out.draw hcz hgz)
          clear hcz hgz hz
          have hgd := T.out.cur.lt
          have TM := Lib.hid (T.out.below (bel_alloc wd (.cells #[.int .i64 x, .int .i64 (t + x1), .int .i64 (1 + z)] 3)))
          have RB := Lib.hid (ri_three wd x (t + x1) (1 + z) 3)
          have HN3 : Hid (some wd.heap.size ≠ v.ownBlock) := fun e => by have := (T.out.own.lt _ e.symm).2; omega
          go_wp2_with (at_builtin; refine wpList_append_own_at _ rfl _ _ 24 rfl (g + 1) 29 i0 _ 1 24 Tryd.underlying24 Hi0.out Hz0.out Hz1.out Hz2.out rfl (by decide) v rs.length (rs.map Ev.val) rfl (TM.out.own.alloc _) ⟨wd.heap.size + 1, 0, none⟩ 1 1 [Ev.val ⟨wd.heap.size, 3, [x, t + x1, 1 + z]⟩] rfl rfl (new_one_at (by simp) _ _) ?e2h ?e3h ?e4h ?e5h ?_)
          case e2h => simp [Value.oneCell', Ev.val]
          case e3h => have := Hrl.out; unfold maxLen; omega
          case e4h => have := Hrl.out; omega
          case e5h => simp; omega
          intro v9 w9 hown hgr _ hat
          obtain ⟨b9, c9, rfl⟩ := owns_succ hown
          have Q := Lib.hid (TM.out.push (r := ⟨wd.heap.size, 3, [x, t + x1, 1 + z]⟩) RB.out hgd (by simp) HN3.out (by simp) hown hgr hat (by simp))
          have Hrl9 : Hid (rs.length + 1 = j + 1) := by show _ = _; rw [Hrl.out]
          rw [Hrl.out] at Q ⊢
          clear hown hgr hat RB HN3 TM T
          go_wp2_with fail
          refine (once_any g A n cap zs 40 _ Q.out.cur).mono ?_
          rintro e wf ⟨o, rfl, hc, hg⟩
          replace Q := Lib.hid (Q.out.draw hc hg)
          clear hc hg
          have Hr9 : Hid ((rs ++ [(⟨wd.heap.size, 3, [x, t + x1, 1 + z]⟩ : Ev)]).length = j + 1) := by show _ = _; rw [List.length_append, Hrl.out]; rfl
          cases o
          case false =>
            go_wp2
            go_roundw
            case rel => exact ⟨_, t + x1, s, j + 1, _, rfl, by go_num, rfl, by go_num, by omega, by omega, by omega, Hr9.out, Q.out⟩
            case measure => simp [intOf]; omega
          case true =>
            obtain ⟨s0, s1⟩ := Q.out.slot Hrl9.out
            rw [Hrl.out] at s0 s1
            change wf.cell? ⟨b9, j, none⟩ = some (.slice (some ⟨wd.heap.size, 0, none⟩) 3 3) at s0
            have Q2 := Lib.hid (Q.out.cut (r2 := ⟨wd.heap.size, 3, [x, t + x1]⟩) Hrl9.out rfl Q.out.two (by simp))
            rw [Hrl.out] at Q2
            have Hr8 : Hid ((rs ++ [(⟨wd.heap.size, 3, [x, t + x1]⟩ : Ev)]).length = j + 1) := by show _ = _; rw [List.length_append, Hrl.out]; rfl
            have hjj : (j : Int) < (j : Int) + 1 := by omega
            have hj0 : (0 : Int) ≤ (j : Int) := by omega
            go_wp2
            go_roundw
            case rel => exact ⟨_, t + x1, s, j + 1, _, rfl, by go_num, rfl, by go_num, by omega, by omega, by omega, Hr8.out, Q2.out⟩
            case measure => simp [intOf]; omega
        · skip
          go_wp2_with fail
          refine (HT.out _).mono ?_
          rintro e wb ⟨rfl, bb⟩
          replace T := Lib.hid (T.out.below bb)
          clear bb
          go_wp2_with fail
          refine (below_any g A n cap zs 20 _ T.out.cur).mono ?_
          rintro e wd ⟨z, rfl, hz, hcz, hgz⟩
          obtain ⟨z0, z1⟩ := hz.2 (by decide)
          replace T := Lib.hid (T.out.draw hcz hgz)
          clear hcz hgz hz
          have hgd := T.out.cur.lt
          have TM := Lib.hid (T.out.below (bel_alloc wd (.cells #[.int .i64 x, .int .i64 (t + x1), .int .i64 (1 + z)] 3)))
          have RB := Lib.hid (ri_three wd x (t + x1) (1 + z) 3)
          have HN3 : Hid (some wd.heap.size ≠ v.ownBlock) := fun e => by have := (T.out.own.lt _ e.symm).2; omega
          go_wp2_with (at_builtin; refine wpList_append_own_at _ rfl _ _ 24 rfl (g + 1) 29 i0 _ 1 24 Tryd.underlying24 Hi0.out Hz0.out Hz1.out Hz2.out rfl (by decide) v rs.length (rs.map Ev.val) rfl (TM.out.own.alloc _) ⟨wd.heap.size + 1, 0, none⟩ 1 1 [Ev.val ⟨wd.heap.size, 3, [x, t + x1, 1 + z]⟩] rfl rfl (new_one_at (by simp) _ _) ?e2h ?e3h ?e4h ?e5h ?_)
          case e2h => simp [Value.oneCell', Ev.val]
          case e3h => have := Hrl.out; unfold maxLen; omega
          case e4h => have := Hrl.out; omega
          case e5h => simp; omega
          intro v9 w9 hown hgr _ hat
          obtain ⟨b9, c9, rfl⟩ := owns_succ hown
          have Q := Lib.hid (TM.out.push (r := ⟨wd.heap.size, 3, [x, t + x1, 1 + z]⟩) RB.out hgd (by simp) HN3.out (by simp) hown hgr hat (by simp))
          have Hrl9 : Hid (rs.length + 1 = j + 1) := by show _ = _; rw [Hrl.out]
          rw [Hrl.out] at Q ⊢
          clear hown hgr hat RB HN3 TM T
          go_wp2_with fail
          refine (once_any g A n cap zs 40 _ Q.out.cur).mono ?_
          rintro e wf ⟨o, rfl, hc, hg⟩
          replace Q := Lib.hid (Q.out.draw hc hg)
          clear hc hg
          have Hr9 : Hid ((rs ++ [(⟨wd.heap.size, 3, [x, t + x1, 1 + z]⟩ : Ev)]).length = j + 1) := by show _ = _; rw [List.length_append, Hrl.out]; rfl
          cases o
          case false =>
            go_wp2
            go_roundw
            case rel => exact ⟨_, t + x1, q, j + 1, _, rfl, by go_num, rfl, by go_num, by omega, by omega, by omega, Hr9.out, Q.out⟩
            case measure => simp [intOf]; omega
          case true =>
            obtain ⟨s0, s1⟩ := Q.out.slot Hrl9.out
            rw [Hrl.out] at s0 s1
            change wf.cell? ⟨b9, j, none⟩ = some (.slice (some ⟨wd.heap.size, 0, none⟩) 3 3) at s0
            have Q2 := Lib.hid (Q.out.cut (r2 := ⟨wd.heap.size, 3, [x, t + x1]⟩) Hrl9.out rfl Q.out.two (by simp))
            rw [Hrl.out] at Q2
            have Hr8 : Hid ((rs ++ [(⟨wd.heap.size, 3, [x, t + x1]⟩ : Ev)]).length = j + 1) := by show _ = _; rw [List.length_append, Hrl.out]; rfl
            have hjj : (j : Int) < (j : Int) + 1 := by omega
            have hj0 : (0 : Int) ≤ (j : Int) := by omega
            go_wp2
            go_roundw
            case rel => exact ⟨_, t + x1, q, j + 1, _, rfl, by go_num, rfl, by go_num, by omega, by omega, by omega, Hr8.out, Q2.out⟩
            case measure => simp [intOf]; omega
    skip
end Go.Proofs.YtbmfleakldhabaaDoor.Draw
