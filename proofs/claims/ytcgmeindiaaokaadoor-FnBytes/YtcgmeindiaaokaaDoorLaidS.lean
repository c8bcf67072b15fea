/- What a row's list of package-level variables gives: the program's three errors, and that the first is none of the others. -/
import Derived.Test.YtcgmeindiaaokaaDoorLaidE
import Derived.Test.YtcgmeindiaaokaaDoorBdP
import Derived.Stop.LaidTwo
import Derived.ChangeVars
import Derived.OpenShut
namespace Go.Proofs.YtcgmeindiaaokaaDoor.By
open Go.RowKit Base Go.ChangeShapes Go.WideShapes

theorem gFull : Tryd.prog.globalNamed "loop.example/g00722/impl.errFull" = some 1 := by kernel_rfl
theorem gFullType : (Tryd.prog.globals[1]?).map (·.type) = some 48 := by kernel_rfl
theorem twoPlain : ([("loop.example/g00722/impl.errAtEnd", Rows.laid_loop_example_g00722_impl_errAtEnd), (("loop.example/g00722/impl.errNone", Rows.laid_loop_example_g00722_impl_errNone) : String × DataW Unit)].all fun x => x.2.handleName?.isNone) = true := by kernel_rfl
theorem twoPlain' : ([("loop.example/g00722/impl.errAtEnd", Rows.laid_loop_example_g00722_impl_errAtEnd), (("loop.example/g00722/impl.errFull", Rows.laid_loop_example_g00722_impl_errFull) : String × DataW Unit)].all fun x => x.2.handleName?.isNone) = true := by kernel_rfl

theorem snt_of {l : List (String × DataW Unit)} {W : World} (h : laidMetH Tryd.prog l W)
    (hl : (l.filter fun x => x.1 == "loop.example/g00722/impl.errAtEnd" || x.1 == "loop.example/g00722/impl.errNone") = [("loop.example/g00722/impl.errAtEnd", Rows.laid_loop_example_g00722_impl_errAtEnd), ("loop.example/g00722/impl.errNone", Rows.laid_loop_example_g00722_impl_errNone)])
    (hl' : (l.filter fun x => x.1 == "loop.example/g00722/impl.errAtEnd" || x.1 == "loop.example/g00722/impl.errFull") = [("loop.example/g00722/impl.errAtEnd", Rows.laid_loop_example_g00722_impl_errAtEnd), ("loop.example/g00722/impl.errFull", Rows.laid_loop_example_g00722_impl_errFull)]) :
    ∃ pA pN pF, Snt pA pN pF W := by
  have h1 := h.filter fun x => x.1 == "loop.example/g00722/impl.errAtEnd" || x.1 == "loop.example/g00722/impl.errNone"
  have h2 := h.filter fun x => x.1 == "loop.example/g00722/impl.errAtEnd" || x.1 == "loop.example/g00722/impl.errFull"
  rw [hl, MakeChecks.laidMetH_plain _ _ _ twoPlain] at h1
  rw [hl', MakeChecks.laidMetH_plain _ _ _ twoPlain'] at h2
  unfold Rows.laid_loop_example_g00722_impl_errAtEnd Rows.laid_loop_example_g00722_impl_errNone at h1
  unfold Rows.laid_loop_example_g00722_impl_errAtEnd Rows.laid_loop_example_g00722_impl_errFull at h2
  obtain ⟨a0, a1, s0, s1, c0, c1, t0, t1, hv0, hv1, -, -, -, -, -, -, hne, hb0, hb1⟩ := laid_sentinels2 h1 gEnd gEndType gNone gNoneType Tryd.underlying48 rowErr Tryd.underlying99 Tryd.underlying124 rfl rfl Tryd.underlying9 cellsErr cellsStr
  obtain ⟨b0, b1, r0, r1, d0, d1, v0, v1, hw0, hw1, -, -, -, -, -, -, hne', hc0, hc1⟩ := laid_sentinels2 h2 gEnd gEndType gFull gFullType Tryd.underlying48 rowErr Tryd.underlying99 Tryd.underlying124 rfl rfl Tryd.underlying9 cellsErr cellsStr
  obtain rfl : a0 = b0 := by
    have e := hv0.symm.trans hw0
    simpa using e
  refine ⟨a0, a1, b1, ?_, ?_, ?_, fun e => hne e.symm, fun e => hne' e.symm, ⟨_, _, hb0⟩, ⟨_, _, hb1⟩, ⟨_, _, hc1⟩⟩
  · have e := World.var?_cell gEnd hv0 0
    simpa [ErA] using e
  · have e := World.var?_cell gNone hv1 0
    simpa [ErN] using e
  · have e := World.var?_cell gFull hw1 0
    simpa [ErF] using e

theorem gs_three {H : Type} {enc : TypeId × Value → H} {P : Program} {w : World} {spare : Nat → Bool} {n0 n1 n2 : String} {gs : List (DataW H)} {ps : List MemPlace} (h : DataW.TrodVars enc P w spare [n0, n1, n2] gs ps) : ∃ a b c, gs = [a, b, c] := by
  cases gs with
  | nil => simp [DataW.TrodVars] at h
  | cons d ds =>
    obtain ⟨g, t, cs, fuel, p, q, h1, h2, h3, h4, hs, e⟩ := h
    obtain ⟨_, _, _, _, d1, _, _, _, _, _, d2, _, e2, _⟩ := trodVars_two hs
    exact ⟨d, d1, d2, by rw [e2]⟩
end Go.Proofs.YtcgmeindiaaokaaDoor.By
