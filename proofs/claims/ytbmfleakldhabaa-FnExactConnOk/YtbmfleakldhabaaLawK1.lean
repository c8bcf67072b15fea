/- The law of ConnOk walked. -/
import Derived.Test.YtbmfleakldhabaaKn3
import Derived.Test.YtbmfleakldhabaaKn2
namespace Go.Proofs.Ytbmfleakldhabaa.Kn
open Go.RowKit Go.Deep Base Tick

set_option maxRecDepth 100000 in
set_option maxHeartbeats 1000000 in
theorem lawConnOk (k : Nat → Int) (t : Bool) (w : World) :
    Calls Try.prog 3 #[.agg #[.int .i64 (k 0), .int .i64 (k 1), .int .i64 (k 2), .int .i64 (k 3), .int .i64 (k 4), .bool t]] w fun e w' => e = .returned (.bool true) ∧ Below w.heap.size w w' := by
  have HK := Lib.hid (KC.new k t w 23)
  have B := Lib.hid (bel_alloc w (.cells #[.int .i64 (k 0), .int .i64 (k 1), .int .i64 (k 2), .int .i64 (k 3), .int .i64 (k 4), .bool t] 23))
  go_enter Try.func3, Try.ntmps3
  go_wp2_with fail
  refine (toConn_any k t _).mono ?_
  rintro e w1 ⟨rfl, b1⟩
  replace HK := Lib.hid (HK.out.below b1)
  replace B := Lib.hid (bel_trans B.out b1)
  clear b1
  go_wp2_with fail
  refine (specConnOk_any k t _).mono ?_
  rintro e w2 ⟨rfl, b2⟩
  replace HK := Lib.hid (HK.out.below b2)
  replace B := Lib.hid (bel_trans B.out b2)
  clear b2
  obtain ⟨c0, c1, c2, c3, c4, c5⟩ := HK.out
  go_wp2_with fail
  refine (toConn_any k t _).mono ?_
  rintro e w3 ⟨rfl, b3⟩
  replace B := Lib.hid (bel_trans B.out b3)
  clear b3 c0 c1 c2 c3 c4 c5
  go_wp2_with fail
  refine (implConnOk_any k t _).mono ?_
  rintro e w4 ⟨rfl, b4⟩
  replace B := Lib.hid (bel_trans B.out b4)
  clear b4
  go_wp2
  go_ret
  exact ⟨rfl, B.out⟩
end Go.Proofs.Ytbmfleakldhabaa.Kn
