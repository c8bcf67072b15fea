/- ShortestEvents, the program's. -/
import Derived.Test.YtoknjofdpnjioaaDoorRt2
import Derived.Test.YtoknjofdpnjioaaDoorLs3
namespace Go.Proofs.YtoknjofdpnjioaaDoor.Cn
open Go.RowKit Go.Deep Base Rw

/-- The first route that leads to t. -/
def rtA : Rts → Int → List Int × Bool
  | [], _ => ([], false)
  | x :: r, t => if x.1 = t then (x.2, true) else rtA r t

def rtSame (f k t : Nat) : Bool := !decide ((bst f (7 * k)).1.length = k) || (decide (rtA (bst f (7 * k)).1 (t : Int) = shF (t : Int) (f : Int) 5))
theorem rt_same : ∀ f, f < 5 → ∀ k, k < 6 → ∀ t, t < 5 → rtSame f k t = true := by decide

theorem rtA_cons {rs : List Rt} {i : Nat} (h : i < rs.length) (t : Int) : rtA ((rs.drop i).map Rt.pair) t = if rs[i].to = t then (rs[i].ints, true) else rtA ((rs.drop (i + 1)).map Rt.pair) t := by
  rw [List.drop_eq_getElem_cons h, List.map_cons]
  rfl

set_option maxRecDepth 100000 in
set_option maxHeartbeats 1600000 in
theorem implShort_any (f t : Int) (w : World) (hm : Mvs w) : Calls Tryd.prog 16 #[.int .i64 f, .int .i64 t] w (ShEnd f t w) := by
  have HM := Lib.hid hm
  have hlt : 1 < w.heap.size := World.block_lt_of_cell? _ _ (hm 0 (by omega))
  clear hm
  cases hf : isS f
  · have e1 : Hid (shA f t = ([], false)) := Lib.hid (by simp [shA, hf])
    go_enter Tryd.func16, Tryd.ntmps16
    go_wp2_with fail
    refine (stateOk_at hf _).mono ?_
    rintro r w1 ⟨rfl, hb1⟩
    go_wp2_with fail
    refine bodyPost_ret (results_tmp2 rfl _ _ _) rfl ?_
    exact ⟨none, 0, by rw [e1.out]; rfl, by rw [e1.out]; exact IV.nil _ _ _ _, hb1⟩
  cases ht : isS t
  · have e1 : Hid (shA f t = ([], false)) := Lib.hid (by simp [shA, ht])
    go_enter Tryd.func16, Tryd.ntmps16
    go_wp2_with fail
    refine (stateOk_at hf _).mono ?_
    rintro r w1 ⟨rfl, hb1⟩
    go_wp2_with fail
    refine (stateOk_at ht _).mono ?_
    rintro r w2 ⟨rfl, hb2⟩
    go_wp2_with fail
    refine bodyPost_ret (results_tmp2 rfl _ _ _) rfl ?_
    exact ⟨none, 0, by rw [e1.out]; rfl, by rw [e1.out]; exact IV.nil _ _ _ _, bel_trans hb1 hb2⟩
  have E1 : Hid (shA f t = shF t f 5) := Lib.hid (by simp [shA, hf, ht])
  obtain ⟨f, rfl⟩ : ∃ n : Nat, f = (n : Int) := ⟨f.toNat, by simp [isS] at hf; omega⟩
  obtain ⟨t, rfl⟩ : ∃ n : Nat, t = (n : Int) := ⟨t.toNat, by simp [isS] at ht; omega⟩
  have hf5 : f < 5 := by simp [isS] at hf; omega
  have ht5 : t < 5 := by simp [isS] at ht; omega
  go_enter Tryd.func16, Tryd.ntmps16
  go_wp2_with fail
  refine (stateOk_at hf _).mono ?_
  rintro r w1 ⟨rfl, hb1⟩
  go_wp2_with fail
  refine (stateOk_at ht _).mono ?_
  rintro r w2 ⟨rfl, hb2⟩
  have B := Lib.hid (bel_trans hb1 hb2)
  have z2 : w.heap.size ≤ w2.heap.size := B.out.size
  clear hb1 hb2 hf ht
  go_wp2_with fail
  refine (routes_any w2.heap.size f hf5 _ (cht_new w2 _) ((HM.out.below B.out).below (bel_alloc w2 _)) (by omega)).mono ?_
  rintro r w3 ⟨v, rs, rfl, hrs, hl5, hR, ht3⟩
  have HR := Lib.hid hR
  have B3 := Lib.hid (B.out.trans (((bel_alloc w2 _).trans (ht3.below (Nat.le_refl _) (by simp))).mono z2))
  have z3 : w2.heap.size + 1 ≤ w3.heap.size := by have := ht3.size; simpa using this
  have HA : Hid (shA (f : Int) (t : Int) = rtA (rs.map Rt.pair) (t : Int)) := Lib.hid (by
    have h1 := rt_same f hf5 rs.length (by omega) t ht5
    have h2 : (bst f (7 * rs.length)).1.length = rs.length := by rw [← hrs, List.length_map]
    simp only [rtSame, h2, decide_true, Bool.not_true, Bool.false_or, decide_eq_true_eq] at h1
    rw [E1.out, ← h1, hrs])
  clear hR ht3 hrs E1 B
  rw [World.size_alloc] at HR
  obtain ⟨A0, c0, rfl⟩ := owns_form HR.out.own
  go_wp2_with fail
  go_loopw [20] (fun e wr => ∃ i : Nat, i ≤ rs.length ∧ e = .int .i64 i ∧ rtA (rs.map Rt.pair) (t : Int) = rtA ((rs.drop i).map Rt.pair) (t : Int) ∧ RT (w2.heap.size + 1) wr (.slice A0 rs.length c0) rs ∧ Below w.heap.size w wr) (fun e _ => rs.length - (intOf e).toNat)
  case atStart => exact ⟨0, Nat.zero_le _, rfl, by simp, HR.out, B3.out⟩
  case round =>
    clear HR B3
    obtain ⟨i, hi, rfl, hrt, hR, hb⟩ := hrel
    have HR := Lib.hid hR
    have B3 := Lib.hid hb
    have Hrt := Lib.hid hrt
    clear hR hb hrt
    by_cases hlt2 : i < rs.length
    · have hgr : ∃ gr, A0 = some ⟨gr, 0, none⟩ := by
        rcases HR.out.own.2 with ⟨_, h0⟩ | ⟨gr, _, _, h1, _⟩
        · omega
        · injection h1 with h1
          exact ⟨gr, h1⟩
      obtain ⟨gr, rfl⟩ := hgr
      obtain ⟨hf1, hf2⟩ := flat2 rs i hlt2
      have hcell0 := (HR.out.own.cellAt (2 * i) (by omega)).trans hf1
      have hcell1 := (HR.out.own.cellAt (2 * i + 1) (by omega)).trans hf2
      have hev := HR.out.each _ (List.getElem_mem hlt2)
      have Hc := Lib.hid (rtA_cons hlt2 (t : Int))
      generalize rs[i].val = vk at hcell1 hev hf2
      generalize rs[i].ints = zs at hev Hc
      generalize rs[i].to = tk at hcell0 Hc hf1
      obtain ⟨A9, c9, rfl⟩ := owns_form hev
      have Hev := Lib.hid (iv_owns hev)
      rw [show 2 * i = i * 2 by omega] at hcell0 hcell1
      clear hev hf1 hf2
      by_cases htk : tk = (t : Int)
      · have Hx : Hid (shA (f : Int) (t : Int) = (zs, true)) := Lib.hid (by rw [HA.out, Hrt.out, Hc.out, if_pos htk])
        subst htk
        go_wp2_with fail
        refine bodyPost_ret (results_tmp2 rfl _ _ _) rfl ?_
        exact ⟨_, _, by rw [Hx.out]; rfl, by rw [Hx.out]; exact (Hev.out.below (bel_alloc _ _) (Nat.le_refl _)).wide (by omega) (by simp), bel_trans B3.out (bel_alloc _ _)⟩
      · have Hx : Hid (rtA (rs.map Rt.pair) (t : Int) = rtA ((rs.drop (i + 1)).map Rt.pair) (t : Int)) := Lib.hid (by rw [Hrt.out, Hc.out, if_neg htk])
        go_wp2_with fail
        go_roundw
        case rel => exact ⟨i + 1, by omega, by go_num, Hx.out, HR.out.keep (bel_alloc _ _), bel_trans B3.out (bel_alloc _ _)⟩
        case measure => simp [intOf]; omega
    · have Hx : Hid (shA (f : Int) (t : Int) = ([], false)) := Lib.hid (by rw [HA.out, Hrt.out, List.drop_eq_nil_of_le (by omega)]; rfl)
      go_wp2_with fail
      refine bodyPost_ret (results_tmp2 rfl _ _ _) rfl ?_
      exact ⟨none, 0, by rw [Hx.out]; rfl, by rw [Hx.out]; exact IV.nil _ _ _ _, B3.out⟩
end Go.Proofs.YtoknjofdpnjioaaDoor.Cn
