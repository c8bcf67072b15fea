/- A connection that came in; the reference's NewConn, ConnDue. -/
import Derived.Test.YtbmfleakldhabaaDoorKn0
import Derived.Deep.Slices
import Derived.Deep.Fields
import Derived.ChangeSame
import Derived.OpenShut
namespace Go.Proofs.YtbmfleakldhabaaDoor.Kn
open Go.RowKit Go.Deep Go.ChangeShapes Go.WideShapes Base

section
variable {H : Type} {enc : TypeId × Value → H} {W : World} {base : Nat} {spare : Nat → Bool} {held : Bool}
set_option maxRecDepth 100000 in
theorem open_conn {rr : Reach} {b0 : Nat} {v : Value} {d : DataW H} {p : List MemPlace} (hv : Value.okWide Tryd.prog W rr b0 41 v) (h : DataW.Trod enc Tryd.prog W base spare held 41 v d p) :
    ∃ (k : Nat → Int) (t : Bool), v = .agg #[.int .i64 (k 0), .int .i64 (k 1), .int .i64 (k 2), .int .i64 (k 3), .int .i64 (k 4), .bool t] := by
  have hC : Tryd.prog.cellsOf 41 = 6 := by kernel_rfl
  have hI : Tryd.prog.cellsOf 3 = 1 := by kernel_rfl
  have hT : Tryd.prog.cellsOf 4 = 1 := by kernel_rfl
  obtain ⟨cs, rfl, hsz⟩ := okWide_struct Tryd.underlying41 hv
  obtain ⟨cl⟩ := cs
  obtain ⟨fuel, hf⟩ := h
  obtain ⟨ys, k, _, _, _, hyl, hg⟩ := DataW.trod_struct Tryd.underlying41 hf
  match cl, hsz.trans hC, ys, hyl with
  | [q0, q1, q2, q3, q4, q5], _, [y0, y1, y2, y3, y4, y5], _ =>
    have g0 : DataW.trod enc Tryd.prog W base spare held k 3 [q0] = some y0 := by have := hg 0 _ rfl; simpa [hI, Value.cells] using this
    have g1 : DataW.trod enc Tryd.prog W base spare held k 3 [q1] = some y1 := by have := hg 1 _ rfl; simpa [hI, Value.cells] using this
    have g2 : DataW.trod enc Tryd.prog W base spare held k 3 [q2] = some y2 := by have := hg 2 _ rfl; simpa [hI, Value.cells] using this
    have g3 : DataW.trod enc Tryd.prog W base spare held k 3 [q3] = some y3 := by have := hg 3 _ rfl; simpa [hI, Value.cells] using this
    have g4 : DataW.trod enc Tryd.prog W base spare held k 3 [q4] = some y4 := by have := hg 4 _ rfl; simpa [hI, Value.cells] using this
    have g5 : DataW.trod enc Tryd.prog W base spare held k 4 [q5] = some y5 := by have := hg 5 _ rfl; simpa [hT, Value.cells] using this
    obtain ⟨n0, e0, _⟩ := DataW.trod_int Tryd.underlying3 g0
    obtain ⟨n1, e1, _⟩ := DataW.trod_int Tryd.underlying3 g1
    obtain ⟨n2, e2, _⟩ := DataW.trod_int Tryd.underlying3 g2
    obtain ⟨n3, e3, _⟩ := DataW.trod_int Tryd.underlying3 g3
    obtain ⟨n4, e4, _⟩ := DataW.trod_int Tryd.underlying3 g4
    obtain ⟨n5, e5, _⟩ := DataW.trod_bool Tryd.underlying4 g5
    simp at e0 e1 e2 e3 e4 e5
    subst e0 e1 e2 e3 e4 e5
    exact ⟨fun i => [n0, n1, n2, n3, n4].getD i 0, n5, rfl⟩
end

/-- NewConn's answer. -/
def newN (id now : Int) : Nat → Int := fun i => if Tick.inB id 1 1000000000 && Tick.isT now then [id, 0, 0, now, 0].getD i 0 else 0
def newB (id now : Int) : Bool := Tick.inB id 1 1000000000 && Tick.isT now

def NewEnd (id now : Int) (w : World) (e : Ending) (w' : World) : Prop := e = .returned (.tuple #[.agg #[.int .i64 (newN id now 0), .int .i64 (newN id now 1), .int .i64 (newN id now 2), .int .i64 (newN id now 3), .int .i64 (newN id now 4), .bool false], .bool (newB id now)]) ∧ Below w.heap.size w w'

theorem ok_new (id now : Int) : okN (fun i => [id, 0, 0, now, 0].getD i 0) false = newB id now := by
  unfold okN newB
  show (Tick.inB id 1 1000000000 && Tick.inB 0 0 4 && Tick.isT now && Tick.inB 0 0 now && (!((0 : Int) == 0) || ((0 : Int) == 0)) && (if ((0 : Int) == 3) = true then Tick.inB 0 1 1000000000 else ((0 : Int) == 0) && !false)) = _
  cases h1 : Tick.inB id 1 1000000000
  · simp
  · cases h2 : Tick.isT now
    · simp
    · have h3 := Tick.isT_iff.1 h2
      have h4 : Tick.inB 0 0 now = true := Tick.inB_true (by omega) (by omega)
      have h5 : Tick.inB 0 0 4 = true := by decide
      rw [h4, h5]
      rfl

end Go.Proofs.YtbmfleakldhabaaDoor.Kn
