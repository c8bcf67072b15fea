/- The law of NewConn walked. -/
import Derived.Test.YtbmfleakldhabaaKn4
namespace Go.Proofs.Ytbmfleakldhabaa.Kn
open Go.RowKit Go.Deep Base Tick

set_option maxRecDepth 100000 in
set_option maxHeartbeats 1000000 in
theorem lawNewConn (id now : Int) (w : World) :
    Calls Try.prog 4 #[.int .i64 id, .int .i64 now] w fun e w' => e = .returned (.bool true) ∧ Below w.heap.size w w' := by
  have HS := Lib.hid (fun W => specNewConn_any id now W)
  have HI := Lib.hid (fun W => implNewConn_any id now W)
  have HE := Lib.hid (fun W => eqConn_same (newN id now) false W)
  unfold NewEnd at HS HI
  generalize newN id now = k at HS HI HE
  generalize newB id now = nb at HS HI
  go_enter Try.func4, Try.ntmps4
  go_wp2_with fail
  refine (HS.out _).mono ?_
  rintro e w1 ⟨rfl, b1⟩
  have B := Lib.hid b1
  clear b1
  have KW := Lib.hid (KC.new k false w1 25)
  go_wp2_with fail
  refine (HI.out _).mono ?_
  rintro e w2 ⟨rfl, b2⟩
  replace KW := Lib.hid (KW.out.below b2)
  replace B := Lib.hid (bel_trans (bel_trans B.out (bel_alloc _ _)) b2)
  have z2 : w1.heap.size < w2.heap.size := KW.out.lt
  clear b2
  obtain ⟨c0, c1, c2, c3, c4, c5⟩ := KW.out
  go_wp2_with fail
  refine (HE.out _).mono ?_
  rintro e w3 ⟨rfl, b3⟩
  replace B := Lib.hid (bel_trans (bel_trans B.out (bel_alloc _ _)) b3)
  clear b3 c0 c1 c2 c3 c4 c5
  go_wp2
  go_ret
  exact ⟨rfl, B.out⟩
end Go.Proofs.Ytbmfleakldhabaa.Kn
