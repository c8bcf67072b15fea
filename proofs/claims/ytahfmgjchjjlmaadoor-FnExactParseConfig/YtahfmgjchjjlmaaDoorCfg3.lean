/- The laws of ConfigOk and DefaultConfig walked; what is known of a configuration that came in. -/
import Derived.Test.YtahfmgjchjjlmaaDoorCfg1
import Derived.Test.YtahfmgjchjjlmaaDoorCfg2
import Derived.Deep.Slices
import Derived.Deep.Fields
import Derived.ChangeSame
import Derived.OpenShut
namespace Go.Proofs.YtahfmgjchjjlmaaDoor.Cf
open Go.RowKit Go.Deep Go.ChangeShapes Go.WideShapes Base

section
variable {H : Type} {enc : TypeId × Value → H} {W : World} {base : Nat} {spare : Nat → Bool} {held : Bool}
set_option maxRecDepth 100000 in
theorem open_config {rr : Reach} {b0 : Nat} {v : Value} {d : DataW H} {p : List MemPlace} (hv : Value.okWide Tryd.prog W rr b0 23 v) (h : DataW.Trod enc Tryd.prog W base spare held 23 v d p) :
    ∃ c : Nat → Int, v = .agg #[.int .i64 (c 0), .int .i64 (c 1), .int .i64 (c 2), .int .i64 (c 3), .int .i64 (c 4), .int .i64 (c 5), .int .i64 (c 6), .int .i64 (c 7), .int .i64 (c 8), .int .i64 (c 9), .int .i64 (c 10), .int .i64 (c 11), .int .i64 (c 12), .int .i64 (c 13)] := by
  have hC : Tryd.prog.cellsOf 23 = 14 := by kernel_rfl
  have hI : Tryd.prog.cellsOf 3 = 1 := by kernel_rfl
  obtain ⟨cs, rfl, hsz⟩ := okWide_struct Tryd.underlying23 hv
  obtain ⟨cl⟩ := cs
  obtain ⟨fuel, hf⟩ := h
  obtain ⟨ys, k, _, _, _, hyl, hg⟩ := DataW.trod_struct Tryd.underlying23 hf
  match cl, hsz.trans hC, ys, hyl with
  | [q0, q1, q2, q3, q4, q5, q6, q7, q8, q9, q10, q11, q12, q13], _, [y0, y1, y2, y3, y4, y5, y6, y7, y8, y9, y10, y11, y12, y13], _ =>
    have g0 : DataW.trod enc Tryd.prog W base spare held k 3 [q0] = some y0 := by have := hg 0 _ rfl; simpa [hI, Value.cells] using this
    have g1 : DataW.trod enc Tryd.prog W base spare held k 3 [q1] = some y1 := by have := hg 1 _ rfl; simpa [hI, Value.cells] using this
    have g2 : DataW.trod enc Tryd.prog W base spare held k 3 [q2] = some y2 := by have := hg 2 _ rfl; simpa [hI, Value.cells] using this
    have g3 : DataW.trod enc Tryd.prog W base spare held k 3 [q3] = some y3 := by have := hg 3 _ rfl; simpa [hI, Value.cells] using this
    have g4 : DataW.trod enc Tryd.prog W base spare held k 3 [q4] = some y4 := by have := hg 4 _ rfl; simpa [hI, Value.cells] using this
    have g5 : DataW.trod enc Tryd.prog W base spare held k 3 [q5] = some y5 := by have := hg 5 _ rfl; simpa [hI, Value.cells] using this
    have g6 : DataW.trod enc Tryd.prog W base spare held k 3 [q6] = some y6 := by have := hg 6 _ rfl; simpa [hI, Value.cells] using this
    have g7 : DataW.trod enc Tryd.prog W base spare held k 3 [q7] = some y7 := by have := hg 7 _ rfl; simpa [hI, Value.cells] using this
    have g8 : DataW.trod enc Tryd.prog W base spare held k 3 [q8] = some y8 := by have := hg 8 _ rfl; simpa [hI, Value.cells] using this
    have g9 : DataW.trod enc Tryd.prog W base spare held k 3 [q9] = some y9 := by have := hg 9 _ rfl; simpa [hI, Value.cells] using this
    have g10 : DataW.trod enc Tryd.prog W base spare held k 3 [q10] = some y10 := by have := hg 10 _ rfl; simpa [hI, Value.cells] using this
    have g11 : DataW.trod enc Tryd.prog W base spare held k 3 [q11] = some y11 := by have := hg 11 _ rfl; simpa [hI, Value.cells] using this
    have g12 : DataW.trod enc Tryd.prog W base spare held k 3 [q12] = some y12 := by have := hg 12 _ rfl; simpa [hI, Value.cells] using this
    have g13 : DataW.trod enc Tryd.prog W base spare held k 3 [q13] = some y13 := by have := hg 13 _ rfl; simpa [hI, Value.cells] using this
    obtain ⟨n0, e0, _⟩ := DataW.trod_int Tryd.underlying3 g0
    obtain ⟨n1, e1, _⟩ := DataW.trod_int Tryd.underlying3 g1
    obtain ⟨n2, e2, _⟩ := DataW.trod_int Tryd.underlying3 g2
    obtain ⟨n3, e3, _⟩ := DataW.trod_int Tryd.underlying3 g3
    obtain ⟨n4, e4, _⟩ := DataW.trod_int Tryd.underlying3 g4
    obtain ⟨n5, e5, _⟩ := DataW.trod_int Tryd.underlying3 g5
    obtain ⟨n6, e6, _⟩ := DataW.trod_int Tryd.underlying3 g6
    obtain ⟨n7, e7, _⟩ := DataW.trod_int Tryd.underlying3 g7
    obtain ⟨n8, e8, _⟩ := DataW.trod_int Tryd.underlying3 g8
    obtain ⟨n9, e9, _⟩ := DataW.trod_int Tryd.underlying3 g9
    obtain ⟨n10, e10, _⟩ := DataW.trod_int Tryd.underlying3 g10
    obtain ⟨n11, e11, _⟩ := DataW.trod_int Tryd.underlying3 g11
    obtain ⟨n12, e12, _⟩ := DataW.trod_int Tryd.underlying3 g12
    obtain ⟨n13, e13, _⟩ := DataW.trod_int Tryd.underlying3 g13
    simp at e0 e1 e2 e3 e4 e5 e6 e7 e8 e9 e10 e11 e12 e13
    subst e0 e1 e2 e3 e4 e5 e6 e7 e8 e9 e10 e11 e12 e13
    exact ⟨fun i => [n0, n1, n2, n3, n4, n5, n6, n7, n8, n9, n10, n11, n12, n13].getD i 0, rfl⟩
end


end Go.Proofs.YtahfmgjchjjlmaaDoor.Cf
