/- CanReach, the program's. -/
import Derived.Test.YtoknjofdpnjioaaDoorCr2
namespace Go.Proofs.YtoknjofdpnjioaaDoor.Cn
open Go.RowKit Go.Deep Base Rw

/-- The answer of CanReach. -/
def canA (f t : Int) : Bool := isS f && isS t && (reach f.toNat).getD t.toNat false

set_option maxRecDepth 100000 in
set_option maxHeartbeats 1600000 in
theorem implCan_any (f t : Int) (w : World) (hm : Mvs w) : Calls Tryd.prog 17 #[.int .i64 f, .int .i64 t] w fun r w' => r = .returned (.bool (canA f t)) ∧ Below w.heap.size w w' := by
  have HM := Lib.hid hm
  have hlt : 1 < w.heap.size := World.block_lt_of_cell? _ _ (hm 0 (by omega))
  clear hm
  cases hf : isS f
  · go_enter Tryd.func17, Tryd.ntmps17
    go_wp2_with (go_at_call 32; with_reducible refine (stateOk_at hf _).mono ?_; rintro r w1 ⟨rfl, hb1⟩)
    go_ret
    exact ⟨by simp [canA, hf], hb1⟩
  · cases ht : isS t
    · go_enter Tryd.func17, Tryd.ntmps17
      go_wp2_with fail
      refine (stateOk_at hf _).mono ?_
      rintro r w1 ⟨rfl, hb1⟩
      go_wp2_with fail
      refine (stateOk_at ht _).mono ?_
      rintro r w2 ⟨rfl, hb2⟩
      go_wp2_with fail
      go_ret
      exact ⟨by simp [canA, ht], bel_trans hb1 hb2⟩
    · obtain ⟨f, rfl⟩ : ∃ n : Nat, f = (n : Int) := ⟨f.toNat, by simp [isS] at hf; omega⟩
      obtain ⟨t, rfl⟩ : ∃ n : Nat, t = (n : Int) := ⟨t.toNat, by simp [isS] at ht; omega⟩
      have hf5 : f < 5 := by simp [isS] at hf; omega
      have ht5 : t < 5 := by simp [isS] at ht; omega
      have HG : Hid (canA (f : Int) (t : Int) = (reach f).getD t false) := Lib.hid (by simp [canA, hf, ht])
      go_enter Tryd.func17, Tryd.ntmps17
      go_wp2_with fail
      refine (stateOk_at hf _).mono ?_
      rintro r w1 ⟨rfl, hb1⟩
      go_wp2_with fail
      refine (stateOk_at ht _).mono ?_
      rintro r w2 ⟨rfl, hb2⟩
      have B := Lib.hid (bel_trans hb1 hb2)
      have z2 : w.heap.size ≤ w2.heap.size := B.out.size
      clear hb1 hb2 hf ht
      go_wp2_with fail
      refine (reachable_any w2.heap.size f hf5 _ (cht_new w2 _) ((HM.out.below B.out).below (bel_alloc w2 _)) (by omega)).mono ?_
      rintro r w3 ⟨⟨y0, y1, y2, y3, y4, rfl, hy⟩, hc3, ht3⟩
      have Hy := Lib.hid hy
      have B3 := Lib.hid (B.out.trans (((bel_alloc w2 _).trans (ht3.below (Nat.le_refl _) (by simp))).mono z2))
      clear hy hc3 ht3
      go_wp2_with (refine wpList_bit rfl (.tmp 15) (.tmp 16) rfl y0 y1 y2 y3 y4 t ht5 rfl rfl ?_)
      go_ret
      exact ⟨by rw [HG.out, Hy.out]; simp [List.getD_eq_getElem?_getD, ht5], B3.out⟩
end Go.Proofs.YtoknjofdpnjioaaDoor.Cn
