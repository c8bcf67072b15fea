/- The laws of ConfigOk and DefaultConfig walked; what is known of a configuration that came in. -/
import Derived.Test.YtlcblpfnbijddaaCfg1
import Derived.Test.YtlcblpfnbijddaaCfg2
import Derived.Deep.Slices
import Derived.Deep.Fields
import Derived.ChangeSame
import Derived.OpenShut
namespace Go.Proofs.Ytlcblpfnbijddaa.Cf
open Go.RowKit Go.Deep Go.ChangeShapes Go.WideShapes Base

section
variable {H : Type} {enc : TypeId × Value → H} {W : World} {base : Nat} {spare : Nat → Bool} {held : Bool}

theorem open_config {rr : Reach} {b0 : Nat} {v : Value} {d : DataW H} {p : List MemPlace} (hv : Value.okWide Try.prog W rr b0 23 v) (h : DataW.Trod enc Try.prog W base spare held 23 v d p) :
    ∃ c : Nat → Int, v = .agg #[.int .i64 (c 0), .int .i64 (c 1), .int .i64 (c 2), .int .i64 (c 3), .int .i64 (c 4), .int .i64 (c 5), .int .i64 (c 6), .int .i64 (c 7), .int .i64 (c 8), .int .i64 (c 9), .int .i64 (c 10), .int .i64 (c 11), .int .i64 (c 12), .int .i64 (c 13)] := by
  have hC : Try.prog.cellsOf 23 = 14 := by kernel_rfl
  have hI : Try.prog.cellsOf 3 = 1 := by kernel_rfl
  obtain ⟨cs, rfl, hsz⟩ := okWide_struct Try.underlying23 hv
  obtain ⟨cl⟩ := cs
  obtain ⟨fuel, hf⟩ := h
  obtain ⟨ys, k, _, _, _, hyl, hg⟩ := DataW.trod_struct Try.underlying23 hf
  match cl, hsz.trans hC, ys, hyl with
  | [q0, q1, q2, q3, q4, q5, q6, q7, q8, q9, q10, q11, q12, q13], _, [y0, y1, y2, y3, y4, y5, y6, y7, y8, y9, y10, y11, y12, y13], _ =>
    have g0 : DataW.trod enc Try.prog W base spare held k 3 [q0] = some y0 := by have := hg 0 _ rfl; simpa [hI, Value.cells] using this
    have g1 : DataW.trod enc Try.prog W base spare held k 3 [q1] = some y1 := by have := hg 1 _ rfl; simpa [hI, Value.cells] using this
    have g2 : DataW.trod enc Try.prog W base spare held k 3 [q2] = some y2 := by have := hg 2 _ rfl; simpa [hI, Value.cells] using this
    have g3 : DataW.trod enc Try.prog W base spare held k 3 [q3] = some y3 := by have := hg 3 _ rfl; simpa [hI, Value.cells] using this
    have g4 : DataW.trod enc Try.prog W base spare held k 3 [q4] = some y4 := by have := hg 4 _ rfl; simpa [hI, Value.cells] using this
    have g5 : DataW.trod enc Try.prog W base spare held k 3 [q5] = some y5 := by have := hg 5 _ rfl; simpa [hI, Value.cells] using this
    have g6 : DataW.trod enc Try.prog W base spare held k 3 [q6] = some y6 := by have := hg 6 _ rfl; simpa [hI, Value.cells] using this
    have g7 : DataW.trod enc Try.prog W base spare held k 3 [q7] = some y7 := by have := hg 7 _ rfl; simpa [hI, Value.cells] using this
    have g8 : DataW.trod enc Try.prog W base spare held k 3 [q8] = some y8 := by have := hg 8 _ rfl; simpa [hI, Value.cells] using this
    have g9 : DataW.trod enc Try.prog W base spare held k 3 [q9] = some y9 := by have := hg 9 _ rfl; simpa [hI, Value.cells] using this
    have g10 : DataW.trod enc Try.prog W base spare held k 3 [q10] = some y10 := by have := hg 10 _ rfl; simpa [hI, Value.cells] using this
    have g11 : DataW.trod enc Try.prog W base spare held k 3 [q11] = some y11 := by have := hg 11 _ rfl; simpa [hI, Value.cells] using this
    have g12 : DataW.trod enc Try.prog W base spare held k 3 [q12] = some y12 := by have := hg 12 _ rfl; simpa [hI, Value.cells] using this
    have g13 : DataW.trod enc Try.prog W base spare held k 3 [q13] = some y13 := by have := hg 13 _ rfl; simpa [hI, Value.cells] using this
    obtain ⟨n0, e0, _⟩ := DataW.trod_int Try.underlying3 g0
    obtain ⟨n1, e1, _⟩ := DataW.trod_int Try.underlying3 g1
    obtain ⟨n2, e2, _⟩ := DataW.trod_int Try.underlying3 g2
    obtain ⟨n3, e3, _⟩ := DataW.trod_int Try.underlying3 g3
    obtain ⟨n4, e4, _⟩ := DataW.trod_int Try.underlying3 g4
    obtain ⟨n5, e5, _⟩ := DataW.trod_int Try.underlying3 g5
    obtain ⟨n6, e6, _⟩ := DataW.trod_int Try.underlying3 g6
    obtain ⟨n7, e7, _⟩ := DataW.trod_int Try.underlying3 g7
    obtain ⟨n8, e8, _⟩ := DataW.trod_int Try.underlying3 g8
    obtain ⟨n9, e9, _⟩ := DataW.trod_int Try.underlying3 g9
    obtain ⟨n10, e10, _⟩ := DataW.trod_int Try.underlying3 g10
    obtain ⟨n11, e11, _⟩ := DataW.trod_int Try.underlying3 g11
    obtain ⟨n12, e12, _⟩ := DataW.trod_int Try.underlying3 g12
    obtain ⟨n13, e13, _⟩ := DataW.trod_int Try.underlying3 g13
    simp at e0 e1 e2 e3 e4 e5 e6 e7 e8 e9 e10 e11 e12 e13
    subst e0 e1 e2 e3 e4 e5 e6 e7 e8 e9 e10 e11 e12 e13
    exact ⟨fun i => [n0, n1, n2, n3, n4, n5, n6, n7, n8, n9, n10, n11, n12, n13].getD i 0, rfl⟩
end

set_option maxRecDepth 100000 in
set_option maxHeartbeats 2000000 in
theorem lawConfigOk (c : Nat → Int) (w : World) :
    Calls Try.prog 3 #[.agg #[.int .i64 (c 0), .int .i64 (c 1), .int .i64 (c 2), .int .i64 (c 3), .int .i64 (c 4), .int .i64 (c 5), .int .i64 (c 6), .int .i64 (c 7), .int .i64 (c 8), .int .i64 (c 9), .int .i64 (c 10), .int .i64 (c 11), .int .i64 (c 12), .int .i64 (c 13)]] w fun e w' => e = .returned (.bool true) ∧ Below w.heap.size w w' := by
  go_enter Try.func3, Try.ntmps3
  go_wp2_with fail
  obtain ⟨W0, hW0⟩ : ∃ W0, w.alloc (.cells #[.int .i64 (c 0), .int .i64 (c 1), .int .i64 (c 2), .int .i64 (c 3), .int .i64 (c 4), .int .i64 (c 5), .int .i64 (c 6), .int .i64 (c 7), .int .i64 (c 8), .int .i64 (c 9), .int .i64 (c 10), .int .i64 (c 11), .int .i64 (c 12), .int .i64 (c 13)] 23) = W0 := ⟨_, rfl⟩
  have B0 : Hid (Below w.heap.size w W0) := by rw [← hW0]; exact bel_alloc _ _
  have K0 : Hid (W0.heap[w.heap.size]? = some (.cells #[.int .i64 (c 0), .int .i64 (c 1), .int .i64 (c 2), .int .i64 (c 3), .int .i64 (c 4), .int .i64 (c 5), .int .i64 (c 6), .int .i64 (c 7), .int .i64 (c 8), .int .i64 (c 9), .int .i64 (c 10), .int .i64 (c 11), .int .i64 (c 12), .int .i64 (c 13)] 23 (0, 0))) := by rw [← hW0]; exact heap_alloc_new w _
  have z0 : w.heap.size < W0.heap.size := by rw [← hW0]; simp
  rw [hW0]
  clear hW0
  refine (toConfig_any c _).mono ?_
  rintro e w1 ⟨rfl, b1⟩
  replace B0 := Lib.hid (bel_trans B0.out b1)
  replace K0 := Lib.hid ((b1.block _ z0).trans K0.out)
  have z1 : w.heap.size < w1.heap.size := Nat.lt_of_lt_of_le z0 b1.size
  clear b1
  go_wp2_with fail
  refine (specConfigOk_any c _).mono ?_
  rintro e w2 ⟨rfl, b2⟩
  replace B0 := Lib.hid (bel_trans B0.out b2)
  replace K0 := Lib.hid ((b2.block _ z1).trans K0.out)
  have z2 : w.heap.size < w2.heap.size := Nat.lt_of_lt_of_le z1 b2.size
  clear b2
  have hc : ∀ o, w2.cell? ⟨w.heap.size, o, none⟩ = (#[.int .i64 (c 0), .int .i64 (c 1), .int .i64 (c 2), .int .i64 (c 3), .int .i64 (c 4), .int .i64 (c 5), .int .i64 (c 6), .int .i64 (c 7), .int .i64 (c 8), .int .i64 (c 9), .int .i64 (c 10), .int .i64 (c 11), .int .i64 (c 12), .int .i64 (c 13)] : Array Value)[o]? := fun o => cell_of_row _ _ o _ _ (0, 0) K0.out
  have a0 : w2.cell? ⟨w.heap.size, 0, none⟩ = some (.int .i64 (c 0)) := hc 0
  have a1 : w2.cell? ⟨w.heap.size, 1, none⟩ = some (.int .i64 (c 1)) := hc 1
  have a2 : w2.cell? ⟨w.heap.size, 2, none⟩ = some (.int .i64 (c 2)) := hc 2
  have a3 : w2.cell? ⟨w.heap.size, 3, none⟩ = some (.int .i64 (c 3)) := hc 3
  have a4 : w2.cell? ⟨w.heap.size, 4, none⟩ = some (.int .i64 (c 4)) := hc 4
  have a5 : w2.cell? ⟨w.heap.size, 5, none⟩ = some (.int .i64 (c 5)) := hc 5
  have a6 : w2.cell? ⟨w.heap.size, 6, none⟩ = some (.int .i64 (c 6)) := hc 6
  have a7 : w2.cell? ⟨w.heap.size, 7, none⟩ = some (.int .i64 (c 7)) := hc 7
  have a8 : w2.cell? ⟨w.heap.size, 8, none⟩ = some (.int .i64 (c 8)) := hc 8
  have a9 : w2.cell? ⟨w.heap.size, 9, none⟩ = some (.int .i64 (c 9)) := hc 9
  have a10 : w2.cell? ⟨w.heap.size, 10, none⟩ = some (.int .i64 (c 10)) := hc 10
  have a11 : w2.cell? ⟨w.heap.size, 11, none⟩ = some (.int .i64 (c 11)) := hc 11
  have a12 : w2.cell? ⟨w.heap.size, 12, none⟩ = some (.int .i64 (c 12)) := hc 12
  have a13 : w2.cell? ⟨w.heap.size, 13, none⟩ = some (.int .i64 (c 13)) := hc 13
  clear hc
  obtain ⟨ok, hok⟩ : ∃ ok, okC c = ok := ⟨_, rfl⟩
  rw [hok]
  have Hok := Lib.hid hok
  clear hok
  go_wp2_with fail
  refine (toConfig_any c _).mono ?_
  rintro e w3 ⟨rfl, b3⟩
  replace B0 := Lib.hid (bel_trans B0.out b3)
  clear b3 a0 a1 a2 a3 a4 a5 a6 a7 a8 a9 a10 a11 a12 a13
  go_wp2_with fail
  refine (implConfigOk_any c _).mono ?_
  rintro e w4 ⟨rfl, b4⟩
  replace B0 := Lib.hid (bel_trans B0.out b4)
  clear b4
  rw [Hok.out]
  cases ok
  all_goals
    go_wp2
    go_ret
    exact ⟨rfl, B0.out⟩
end Go.Proofs.Ytlcblpfnbijddaa.Cf
