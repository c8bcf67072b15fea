/- The law of PutNumber walked. -/
import Derived.Test.YtcgmeindiaaokaaByP
namespace Go.Proofs.Ytcgmeindiaaokaa.By
open Go.RowKit Go.Deep Base Rw

set_option maxRecDepth 100000 in
set_option maxHeartbeats 4000000 in
theorem lawPutNumber (x : Int) (w : World) :
    Calls Try.prog 3 #[.int .i64 x] w fun e w' => e = .returned (.bool true) ∧ Below w.heap.size w w' := by
  have HS := Lib.hid (fun W => specPut_any x W)
  have HI := Lib.hid (fun W => implPut_any x W)
  have HL : Hid ((putN x).length ≤ 1048576) := by show _ ≤ _; have := putN_len x; omega
  generalize putN x = zs at HS HI HL
  go_enter Try.func3, Try.ntmps3
  go_wp2_with fail
  refine (HS.out _).mono ?_
  rintro e w1 ⟨A1, c1, rfl, v1, b1⟩
  have V1 := Lib.hid v1
  have z1 := b1.size
  have B := Lib.hid b1
  clear b1 v1
  go_wp2_with fail
  refine (HI.out _).mono ?_
  rintro e w2 ⟨A2, c2, rfl, v2, b2⟩
  have V2 := Lib.hid v2
  have z2 := b2.size
  replace V1 := Lib.hid (V1.out.below b2 (Nat.le_refl _))
  replace B := Lib.hid (bel_trans B.out b2)
  clear b2 v2
  go_wp2_with fail
  refine (eqY_same A2 A1 _ _ _ zs _ rfl HL.out V2.out.bi V1.out.bi).mono ?_
  rintro e w3 ⟨rfl, b3⟩
  have z3 := b3.size
  replace V1 := Lib.hid (V1.out.below b3 (by omega))
  replace V2 := Lib.hid (V2.out.below b3 (Nat.le_refl _))
  replace B := Lib.hid (bel_trans B.out b3)
  clear b3
  go_wp2_with fail
  refine (markY_any A2 _ _ w1.heap.size w2.heap.size 1 zs _ rfl HL.out (by omega) (by omega) V2.out).mono ?_
  rintro e w4 ⟨rfl, v2, t4⟩
  have z4 := t4.size
  replace V1 := Lib.hid (V1.out.turns t4 (.inl (Nat.le_refl _)) (by omega))
  replace V2 := Lib.hid v2
  replace B := Lib.hid (B.out.trans (t4.below z1 (by omega)))
  clear t4 v2
  go_wp2_with fail
  refine (heldY_any A2 _ _ w1.heap.size w2.heap.size 1 _ HL.out (by omega) (by omega) V2.out).mono ?_
  rintro e w5 ⟨rfl, b5⟩
  have z5 := b5.size
  replace V1 := Lib.hid (V1.out.below b5 (by omega))
  replace V2 := Lib.hid (V2.out.below b5 (by omega))
  replace B := Lib.hid (bel_trans B.out b5)
  clear b5
  have hp : ¬ (1 + (zs.length : Int) < 0) := by omega
  go_wp2_with fail
  refine (HI.out _).mono ?_
  rintro e w6 ⟨A3, c3, rfl, v3, b6⟩
  have V3 := Lib.hid v3
  have z6 := b6.size
  replace V1 := Lib.hid (V1.out.below b6 (by omega))
  replace V2 := Lib.hid (V2.out.below b6 (by omega))
  replace B := Lib.hid (bel_trans B.out b6)
  clear b6 v3
  go_wp2_with fail
  refine (eqY_same A3 A1 _ _ _ zs _ rfl HL.out V3.out.bi V1.out.bi).mono ?_
  rintro e w7 ⟨rfl, b7⟩
  have z7 := b7.size
  replace V2 := Lib.hid (V2.out.below b7 (by omega))
  replace B := Lib.hid (bel_trans B.out b7)
  clear b7
  go_wp2_with fail
  refine (heldY_any A2 _ _ w1.heap.size w2.heap.size 1 _ HL.out (by omega) (by omega) V2.out).mono ?_
  rintro e w8 ⟨rfl, b8⟩
  replace B := Lib.hid (bel_trans B.out b8)
  clear b8
  go_wp2
  go_ret
  exact ⟨rfl, B.out⟩
end Go.Proofs.Ytcgmeindiaaokaa.By
