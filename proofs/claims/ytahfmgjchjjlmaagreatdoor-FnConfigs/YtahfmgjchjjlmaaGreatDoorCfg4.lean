/- DefaultConfig, the reference's and the program's; its law walked. -/
import Derived.Test.YtahfmgjchjjlmaaGreatDoorCfg0
namespace Go.Proofs.YtahfmgjchjjlmaaGreatDoor.Cf
open Go.RowKit Base

def dflt (i : Nat) : Int := [1, 4, 30, 1000, 100, 40, 200, 2, 32, 50, 60, 5, 20, 50].getD i 0

set_option maxHeartbeats 1000000 in
theorem specDefault_any (w : World) : Calls Tryz.prog 37 #[] w fun e w' => e = .returned (.agg #[.int .i64 1, .int .i64 4, .int .i64 30, .int .i64 1000, .int .i64 100, .int .i64 40, .int .i64 200, .int .i64 2, .int .i64 32, .int .i64 50, .int .i64 60, .int .i64 5, .int .i64 20, .int .i64 50]) ∧ Below w.heap.size w w' := by
  go_enter Tryz.func37, Tryz.ntmps37
  go_wp2
  refine bodyPost_ret (v := .agg #[.int .i64 1, .int .i64 4, .int .i64 30, .int .i64 1000, .int .i64 100, .int .i64 40, .int .i64 200, .int .i64 2, .int .i64 32, .int .i64 50, .int .i64 60, .int .i64 5, .int .i64 20, .int .i64 50]) (by simp [results, Tryz.results37, go_sem]) rfl ⟨rfl, ?_⟩
  exact bel_alloc _ _

set_option maxHeartbeats 1000000 in
theorem implDefault_any (w : World) : Calls Tryz.prog 10 #[] w fun e w' => e = .returned (.agg #[.int .i64 1, .int .i64 4, .int .i64 30, .int .i64 1000, .int .i64 100, .int .i64 40, .int .i64 200, .int .i64 2, .int .i64 32, .int .i64 50, .int .i64 60, .int .i64 5, .int .i64 20, .int .i64 50]) ∧ Below w.heap.size w w' := by
  go_enter Tryz.func10, Tryz.ntmps10
  go_wp2
  refine bodyPost_ret (v := .agg #[.int .i64 1, .int .i64 4, .int .i64 30, .int .i64 1000, .int .i64 100, .int .i64 40, .int .i64 200, .int .i64 2, .int .i64 32, .int .i64 50, .int .i64 60, .int .i64 5, .int .i64 20, .int .i64 50]) (by simp [results, Tryz.results10, go_sem]) rfl ⟨rfl, ?_⟩
  exact bel_alloc _ _


end Go.Proofs.YtahfmgjchjjlmaaGreatDoor.Cf
