/- DefaultConfig, the reference's and the program's; its law walked. -/
import Derived.Test.YtlcblpfnbijddaaCfg0
namespace Go.Proofs.Ytlcblpfnbijddaa.Cf
open Go.RowKit Base

def dflt (i : Nat) : Int := [1, 4, 30, 1000, 100, 40, 200, 2, 32, 50, 60, 5, 20, 50].getD i 0

set_option maxHeartbeats 1000000 in
theorem specDefault_any (w : World) : Calls Try.prog 10 #[] w fun e w' => e = .returned (.agg #[.int .i64 1, .int .i64 4, .int .i64 30, .int .i64 1000, .int .i64 100, .int .i64 40, .int .i64 200, .int .i64 2, .int .i64 32, .int .i64 50, .int .i64 60, .int .i64 5, .int .i64 20, .int .i64 50]) ∧ Below w.heap.size w w' := by
  go_enter Try.func10, Try.ntmps10
  go_wp2
  refine bodyPost_ret (v := .agg #[.int .i64 1, .int .i64 4, .int .i64 30, .int .i64 1000, .int .i64 100, .int .i64 40, .int .i64 200, .int .i64 2, .int .i64 32, .int .i64 50, .int .i64 60, .int .i64 5, .int .i64 20, .int .i64 50]) (by simp [results, Try.results10, go_sem]) rfl ⟨rfl, ?_⟩
  exact bel_alloc _ _

set_option maxHeartbeats 1000000 in
theorem implDefault_any (w : World) : Calls Try.prog 11 #[] w fun e w' => e = .returned (.agg #[.int .i64 1, .int .i64 4, .int .i64 30, .int .i64 1000, .int .i64 100, .int .i64 40, .int .i64 200, .int .i64 2, .int .i64 32, .int .i64 50, .int .i64 60, .int .i64 5, .int .i64 20, .int .i64 50]) ∧ Below w.heap.size w w' := by
  go_enter Try.func11, Try.ntmps11
  go_wp2
  refine bodyPost_ret (v := .agg #[.int .i64 1, .int .i64 4, .int .i64 30, .int .i64 1000, .int .i64 100, .int .i64 40, .int .i64 200, .int .i64 2, .int .i64 32, .int .i64 50, .int .i64 60, .int .i64 5, .int .i64 20, .int .i64 50]) (by simp [results, Try.results11, go_sem]) rfl ⟨rfl, ?_⟩
  exact bel_alloc _ _

set_option maxRecDepth 100000 in
set_option maxHeartbeats 2000000 in
theorem lawDefaultConfig (w : World) : Calls Try.prog 4 #[] w fun e w' => e = .returned (.bool true) ∧ Below w.heap.size w w' := by
  go_enter Try.func4, Try.ntmps4
  go_wp2_with fail
  refine (specDefault_any _).mono ?_
  rintro e w1 ⟨rfl, b1⟩
  have B := Lib.hid b1
  clear b1
  go_wp2_with fail
  obtain ⟨W2, hW2⟩ : ∃ W2, w1.alloc (.cells #[.int .i64 1, .int .i64 4, .int .i64 30, .int .i64 1000, .int .i64 100, .int .i64 40, .int .i64 200, .int .i64 2, .int .i64 32, .int .i64 50, .int .i64 60, .int .i64 5, .int .i64 20, .int .i64 50] 25) = W2 := ⟨_, rfl⟩
  have K2 : Hid (W2.heap[w1.heap.size]? = some (.cells #[.int .i64 1, .int .i64 4, .int .i64 30, .int .i64 1000, .int .i64 100, .int .i64 40, .int .i64 200, .int .i64 2, .int .i64 32, .int .i64 50, .int .i64 60, .int .i64 5, .int .i64 20, .int .i64 50] 25 (0, 0))) := by rw [← hW2]; exact heap_alloc_new w1 _
  have z2 : w1.heap.size < W2.heap.size := by rw [← hW2]; simp
  replace B : Hid (Below w.heap.size w W2) := by rw [← hW2]; exact bel_trans B.out (bel_alloc _ _)
  rw [hW2]
  clear hW2
  refine (implDefault_any _).mono ?_
  rintro e w3 ⟨rfl, b3⟩
  have K3 := Lib.hid ((b3.block _ z2).trans K2.out)
  replace B := Lib.hid (bel_trans B.out b3)
  have z3 : w1.heap.size < w3.heap.size := Nat.lt_of_lt_of_le z2 b3.size
  clear b3 K2 z2
  have hc : ∀ o, w3.cell? ⟨w1.heap.size, o, none⟩ = (#[.int .i64 1, .int .i64 4, .int .i64 30, .int .i64 1000, .int .i64 100, .int .i64 40, .int .i64 200, .int .i64 2, .int .i64 32, .int .i64 50, .int .i64 60, .int .i64 5, .int .i64 20, .int .i64 50] : Array Value)[o]? := fun o => cell_of_row _ _ o _ _ (0, 0) K3.out
  have a0 : w3.cell? ⟨w1.heap.size, 0, none⟩ = some (.int .i64 1) := hc 0
  have a1 : w3.cell? ⟨w1.heap.size, 1, none⟩ = some (.int .i64 4) := hc 1
  have a2 : w3.cell? ⟨w1.heap.size, 2, none⟩ = some (.int .i64 30) := hc 2
  have a3 : w3.cell? ⟨w1.heap.size, 3, none⟩ = some (.int .i64 1000) := hc 3
  have a4 : w3.cell? ⟨w1.heap.size, 4, none⟩ = some (.int .i64 100) := hc 4
  have a5 : w3.cell? ⟨w1.heap.size, 5, none⟩ = some (.int .i64 40) := hc 5
  have a6 : w3.cell? ⟨w1.heap.size, 6, none⟩ = some (.int .i64 200) := hc 6
  have a7 : w3.cell? ⟨w1.heap.size, 7, none⟩ = some (.int .i64 2) := hc 7
  have a8 : w3.cell? ⟨w1.heap.size, 8, none⟩ = some (.int .i64 32) := hc 8
  have a9 : w3.cell? ⟨w1.heap.size, 9, none⟩ = some (.int .i64 50) := hc 9
  have a10 : w3.cell? ⟨w1.heap.size, 10, none⟩ = some (.int .i64 60) := hc 10
  have a11 : w3.cell? ⟨w1.heap.size, 11, none⟩ = some (.int .i64 5) := hc 11
  have a12 : w3.cell? ⟨w1.heap.size, 12, none⟩ = some (.int .i64 20) := hc 12
  have a13 : w3.cell? ⟨w1.heap.size, 13, none⟩ = some (.int .i64 50) := hc 13
  clear hc
  go_wp2_with fail
  refine (eqConfig_same dflt _).mono ?_
  rintro e w4 ⟨rfl, b4⟩
  replace B := Lib.hid (bel_trans (bel_trans B.out (bel_alloc _ _)) b4)
  clear b4
  go_wp2
  go_ret
  exact ⟨rfl, B.out⟩
end Go.Proofs.Ytlcblpfnbijddaa.Cf
