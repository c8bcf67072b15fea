/- What is known of a waiting line of the law's own type that came in. -/
import Derived.Test.YtpjelojmkmednaaLv0
import Derived.Deep.Slices
import Derived.Deep.Fields
import Derived.ChangeSame
import Derived.OpenShut
namespace Go.Proofs.Ytpjelojmkmednaa.Ln
open Go.RowKit Go.Deep Go.ChangeShapes Go.WideShapes Base

section
variable {H : Type} {enc : TypeId × Value → H} {W : World} {base : Nat} {spare : Nat → Bool} {held : Bool}

set_option maxRecDepth 100000 in
theorem queue_cells {fuel : Nat} {cs : List Value} {x : DataW H × List MemPlace} (h : DataW.trod enc Try.prog W base spare held fuel 48 cs = some x) :
    ∃ (A : Option Addr) (ca : Nat) (s : Qx), cs = [.slice A s.ss.length ca, .int .i64 s.f, .int .i64 s.l, .int .i64 s.r, .int .i64 s.c] ∧ s.ss.length ≤ maxLen ∧ Que.LSl W A s.ss := by
  have hC : Try.prog.cellsOf 48 = 5 := by kernel_rfl
  have hI : Try.prog.cellsOf 3 = 1 := by kernel_rfl
  have hS : Try.prog.cellsOf 46 = 1 := by kernel_rfl
  obtain ⟨ys, k, _, _, hcl, hyl, hg⟩ := DataW.trod_struct Try.underlying48 h
  rw [hC] at hcl
  match cs, hcl, ys, hyl with
  | [q0, q1, q2, q3, q4], _, [y0, y1, y2, y3, y4], _ =>
    have g0 : DataW.trod enc Try.prog W base spare held k 46 [q0] = some y0 := by have := hg 0 _ rfl; simpa [hS] using this
    have g1 : DataW.trod enc Try.prog W base spare held k 3 [q1] = some y1 := by have := hg 1 _ rfl; simpa [hI] using this
    have g2 : DataW.trod enc Try.prog W base spare held k 3 [q2] = some y2 := by have := hg 2 _ rfl; simpa [hI] using this
    have g3 : DataW.trod enc Try.prog W base spare held k 3 [q3] = some y3 := by have := hg 3 _ rfl; simpa [hI] using this
    have g4 : DataW.trod enc Try.prog W base spare held k 3 [q4] = some y4 := by have := hg 4 _ rfl; simpa [hI] using this
    obtain ⟨A, n, cap, ss, e0, hn, hm, hl⟩ := Que.open_slots g0
    obtain ⟨n1, e1, _⟩ := DataW.trod_int Try.underlying3 g1
    obtain ⟨n2, e2, _⟩ := DataW.trod_int Try.underlying3 g2
    obtain ⟨n3, e3, _⟩ := DataW.trod_int Try.underlying3 g3
    obtain ⟨n4, e4, _⟩ := DataW.trod_int Try.underlying3 g4
    simp at e0 e1 e2 e3 e4
    subst e0 e1 e2 e3 e4 hn
    exact ⟨A, cap, ⟨ss, n1, n2, n3, n4⟩, rfl, hm, hl⟩

set_option maxRecDepth 100000 in
theorem heap_cells {fuel : Nat} {cs : List Value} {x : DataW H × List MemPlace} (h : DataW.trod enc Try.prog W base spare held fuel 51 cs = some x) :
    ∃ (B : Option Addr) (cb : Nat) (q : Int) (ds : List Hp.Du), cs = [.slice B ds.length cb, .int .i64 q] ∧ ds.length ≤ maxLen ∧ Hp.LD W B ds := by
  have hC : Try.prog.cellsOf 51 = 2 := by kernel_rfl
  have hI : Try.prog.cellsOf 3 = 1 := by kernel_rfl
  have hS : Try.prog.cellsOf 49 = 1 := by kernel_rfl
  obtain ⟨ys, k, _, _, hcl, hyl, hg⟩ := DataW.trod_struct Try.underlying51 h
  rw [hC] at hcl
  match cs, hcl, ys, hyl with
  | [q0, q1], _, [y0, y1], _ =>
    have g0 : DataW.trod enc Try.prog W base spare held k 49 [q0] = some y0 := by have := hg 0 _ rfl; simpa [hS] using this
    have g1 : DataW.trod enc Try.prog W base spare held k 3 [q1] = some y1 := by have := hg 1 _ rfl; simpa [hI] using this
    obtain ⟨B, n, cap, ds, e0, hn, hm, hl⟩ := Hp.open_dues g0
    obtain ⟨n1, e1, _⟩ := DataW.trod_int Try.underlying3 g1
    simp at e0 e1
    subst e0 e1 hn
    exact ⟨B, cap, n1, ds, rfl, hm, hl⟩

set_option maxRecDepth 100000 in
theorem open_line {rr : Reach} {b0 : Nat} {v : Value} {d : DataW H} {p : List MemPlace} (hv : Value.okWide Try.prog W rr b0 53 v) (h : DataW.Trod enc Try.prog W base spare held 53 v d p) :
    ∃ (A : Option Addr) (ca : Nat) (x : Lx) (B : Option Addr) (cb : Nat), v = .agg #[.slice A x.s.ss.length ca, .int .i64 x.s.f, .int .i64 x.s.l, .int .i64 x.s.r, .int .i64 x.s.c, .slice B x.ds.length cb, .int .i64 x.q] ∧ x.s.ss.length ≤ maxLen ∧ x.ds.length ≤ maxLen ∧ Que.LSl W A x.s.ss ∧ Hp.LD W B x.ds := by
  have hC : Try.prog.cellsOf 53 = 7 := by kernel_rfl
  have hQ : Try.prog.cellsOf 48 = 5 := by kernel_rfl
  have hH : Try.prog.cellsOf 51 = 2 := by kernel_rfl
  obtain ⟨cs, rfl, hsz⟩ := okWide_struct Try.underlying53 hv
  obtain ⟨cl⟩ := cs
  obtain ⟨fuel, hf⟩ := h
  obtain ⟨ys, k, _, _, _, hyl, hg⟩ := DataW.trod_struct Try.underlying53 hf
  match cl, hsz.trans hC, ys, hyl with
  | [q0, q1, q2, q3, q4, q5, q6], _, [y0, y1], _ =>
    have g0 : DataW.trod enc Try.prog W base spare held k 48 [q0, q1, q2, q3, q4] = some y0 := by have := hg 0 _ rfl; simpa [hQ, Value.cells] using this
    have g1 : DataW.trod enc Try.prog W base spare held k 51 [q5, q6] = some y1 := by have := hg 1 _ rfl; simpa [hH, Value.cells] using this
    obtain ⟨A, ca, s, e0, hm, hl⟩ := queue_cells g0
    obtain ⟨B, cb, q, ds, e1, hm', hl'⟩ := heap_cells g1
    simp at e0 e1
    obtain ⟨rfl, rfl, rfl, rfl, rfl⟩ := e0
    obtain ⟨rfl, rfl⟩ := e1
    exact ⟨A, ca, ⟨s, ds, q⟩, B, cb, rfl, hm, hm', hl, hl'⟩
end
end Go.Proofs.Ytpjelojmkmednaa.Ln
