/- The law of StepConn walked. -/
import Derived.Test.YtbmfleakldhabaaDoorKnB
namespace Go.Proofs.YtbmfleakldhabaaDoor.Kn
open Go.RowKit Go.Deep Base Tick Rw

set_option maxRecDepth 100000 in
set_option maxHeartbeats 2000000 in
theorem lawStepConn (k : Nat → Int) (t : Bool) (ev now n : Int) (p : Addr) (w : World) (he : Er p w) :
    Calls Tryd.prog 4 #[.agg #[.int .i64 (k 0), .int .i64 (k 1), .int .i64 (k 2), .int .i64 (k 3), .int .i64 (k 4), .bool t], .int .i64 ev, .int .i64 now, .int .i64 n] w fun e w' => e = .returned (.bool true) ∧ Below w.heap.size w w' := by
  have HS := Lib.hid (fun W => specStep_any k t ev now n W)
  have HI := Lib.hid (fun W hE => implStep_any k t ev now n p W hE)
  have HQ := Lib.hid (fun W => eqConn_same (stR k t ev now n) (stT k t ev now n) W)
  unfold StEnd at HS HI
  generalize stR k t ev now n = q at HS HI HQ
  generalize stT k t ev now n = qt at HS HI HQ
  generalize canS k t ev now n = qb at HS HI
  have HE := Lib.hid he
  have HK := Lib.hid (KC.new k t w 41)
  have B := Lib.hid (bel_alloc w (.cells #[.int .i64 (k 0), .int .i64 (k 1), .int .i64 (k 2), .int .i64 (k 3), .int .i64 (k 4), .bool t] 41))
  clear he
  go_enter Tryd.func4, Tryd.ntmps4
  go_wp2_with fail
  refine (toConn_any k t _).mono ?_
  rintro e w1 ⟨rfl, b1⟩
  replace HK := Lib.hid (HK.out.below b1)
  replace B := Lib.hid (bel_trans B.out b1)
  clear b1
  go_wp2_with fail
  refine (HS.out _).mono ?_
  rintro e w2 ⟨rfl, b2⟩
  replace HK := Lib.hid (HK.out.below b2)
  replace B := Lib.hid (bel_trans B.out b2)
  have z2 : w.heap.size < w2.heap.size := HK.out.lt
  have KW := Lib.hid (KC.new q qt w2 28)
  clear b2
  obtain ⟨c0, c1, c2, c3, c4, c5⟩ := HK.out
  go_wp2_with fail
  refine (toConn_any k t _).mono ?_
  rintro e w3 ⟨rfl, b3⟩
  replace B := Lib.hid (bel_trans (bel_trans B.out (bel_alloc _ _)) b3)
  replace KW := Lib.hid (KW.out.below b3)
  clear b3 c0 c1 c2 c3 c4 c5
  go_wp2_with fail
  refine (HI.out _ (HE.out.below B.out)).mono ?_
  rintro e w4 ⟨rfl, b4⟩
  replace B := Lib.hid (bel_trans B.out b4)
  replace KW := Lib.hid (KW.out.below b4)
  have z4 : w2.heap.size < w4.heap.size := KW.out.lt
  clear b4
  obtain ⟨c0, c1, c2, c3, c4, c5⟩ := KW.out
  go_wp2_with fail
  refine (HQ.out _).mono ?_
  rintro e w5 ⟨rfl, b5⟩
  replace B := Lib.hid (bel_trans (bel_trans B.out (bel_alloc _ _)) b5)
  clear b5 c0 c1 c2 c3 c4 c5
  go_wp2
  go_ret
  exact ⟨rfl, B.out⟩
theorem lawStepConnE (k : Nat → Int) (t : Bool) (ev now n : Int) (w : World) (he : ∃ p, Er p w) :
    Calls Tryd.prog 4 #[.agg #[.int .i64 (k 0), .int .i64 (k 1), .int .i64 (k 2), .int .i64 (k 3), .int .i64 (k 4), .bool t], .int .i64 ev, .int .i64 now, .int .i64 n] w fun e w' => e = .returned (.bool true) ∧ Below w.heap.size w w' := by
  obtain ⟨p, he⟩ := he
  exact lawStepConn k t ev now n p w he
end Go.Proofs.YtbmfleakldhabaaDoor.Kn
