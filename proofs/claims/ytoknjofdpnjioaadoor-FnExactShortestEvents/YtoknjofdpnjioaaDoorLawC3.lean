/- The law of ShortestEvents walked. -/
import Derived.Test.YtoknjofdpnjioaaDoorRt3
namespace Go.Proofs.YtoknjofdpnjioaaDoor.Cn
open Go.RowKit Go.Deep Base Rw

theorem shF_few (t f : Int) (k : Nat) (hk : k ≤ 5) : (shF t f k).1.length ≤ 4 := by
  induction k with
  | zero => simp [shF]
  | succ k ih =>
    simp only [shF]
    split
    · exact ih (by omega)
    · rename_i h
      cases hl : lstL t (4 - k) f with
      | nil => exact absurd hl h
      | cons x r =>
        have := lstL_short t (4 - k) f x (by rw [hl]; simp)
        simp; omega
theorem sh_few (f t : Int) : (shA f t).1.length ≤ 4 := by
  unfold shA
  split
  · exact shF_few t f 5 (by omega)
  · simp

set_option maxRecDepth 100000 in
set_option maxHeartbeats 4000000 in
theorem lawShortestEvents (f t : Int) (w : World) (hmv : Mvs w) :
    Calls Tryd.prog 8 #[.int .i64 f, .int .i64 t] w fun e w' => e = .returned (.bool true) ∧ Below w.heap.size w w' := by
  have HM := Lib.hid hmv
  clear hmv
  have HSP := Lib.hid (fun W => specShort_any f t W)
  have HIM := Lib.hid (fun W hM => implShort_any f t W hM)
  unfold ShEnd at HSP HIM
  have hfew : (shA f t).1.length ≤ 1048576 := by have := sh_few f t; omega
  generalize (shA f t).1 = zs at HSP HIM hfew
  generalize (shA f t).2 = ok at HSP HIM
  go_enter Tryd.func8, Tryd.ntmps8
  have B : Hid (Below w.heap.size w w) := Lib.hid (Below.refl _ _)
  have hok : (ok != ok) = false := by simp
  go_wp2_with fail
  refine (HSP.out _).mono ?_
  rintro e w1 ⟨Aw, cw, rfl, v1, b1⟩
  have z1 : w.heap.size ≤ w1.heap.size := b1.size
  replace B := Lib.hid (bel_trans B.out b1)
  clear b1
  have VW := Lib.hid v1
  clear v1
  go_wp2_with fail
  refine (HIM.out _ (HM.out.below B.out)).mono ?_
  rintro e w2 ⟨Ag, cg, rfl, v2, b2⟩
  have z2 : w1.heap.size ≤ w2.heap.size := b2.size
  replace B := Lib.hid (bel_trans B.out b2)
  replace VW := Lib.hid (VW.out.below b2 (by omega))
  clear b2
  have VG := Lib.hid v2
  clear v2
  go_wp2_with fail
  refine (eqInts_same Ag Aw _ cg cw zs _ rfl hfew VG.out.ints VW.out.ints).mono ?_
  rintro e w3 ⟨rfl, b3⟩
  have z3 : w2.heap.size ≤ w3.heap.size := b3.size
  replace B := Lib.hid (bel_trans B.out b3)
  replace VW := Lib.hid (VW.out.below b3 (by omega))
  replace VG := Lib.hid (VG.out.below b3 (by omega))
  clear b3
  go_wp2_with fail
  refine (markInts_any Ag _ cg _ _ 1 zs _ rfl hfew (by omega) (by omega) VG.out).mono ?_
  rintro e w4 ⟨rfl, v4, t4⟩
  have z4 : w3.heap.size ≤ w4.heap.size := t4.size
  clear VG
  replace B := Lib.hid (B.out.trans (t4.below (by omega) (by omega)))
  replace VW := Lib.hid (VW.out.turns t4 (by omega) (by omega))
  clear t4
  have VM := Lib.hid v4
  clear v4
  go_wp2_with fail
  refine (heldInts_any Ag _ cg _ _ 1 _ hfew (by omega) (by omega) VM.out).mono ?_
  rintro e w' ⟨rfl, rfl⟩
  have hk2 : ¬ 1 + (zs.length : Int) < 0 := by omega
  go_wp2_with fail
  refine (HIM.out _ (HM.out.below B.out)).mono ?_
  rintro e w5 ⟨Ah, ch, rfl, v5, b5⟩
  have z5 : w4.heap.size ≤ w5.heap.size := b5.size
  replace B := Lib.hid (bel_trans B.out b5)
  replace VW := Lib.hid (VW.out.below b5 (by omega))
  replace VM := Lib.hid (VM.out.below b5 (by omega))
  clear b5
  have VH := Lib.hid v5
  clear v5
  go_wp2_with fail
  refine (eqInts_same Ah Aw _ ch cw zs _ rfl hfew VH.out.ints VW.out.ints).mono ?_
  rintro e w6 ⟨rfl, b6⟩
  have z6 : w5.heap.size ≤ w6.heap.size := b6.size
  replace B := Lib.hid (bel_trans B.out b6)
  replace VW := Lib.hid (VW.out.below b6 (by omega))
  replace VM := Lib.hid (VM.out.below b6 (by omega))
  replace VH := Lib.hid (VH.out.below b6 (by omega))
  clear b6
  go_wp2_with fail
  refine (heldInts_any Ag _ cg _ _ 1 _ hfew (by omega) (by omega) VM.out).mono ?_
  rintro e w' ⟨rfl, rfl⟩
  go_wp2
  go_ret
  exact ⟨rfl, B.out⟩

end Go.Proofs.YtoknjofdpnjioaaDoor.Cn
