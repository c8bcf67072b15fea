/- What is known of a queue of the law's own type that came in: its slice reads as a list of slots. -/
import Derived.Test.YtjbfmagedkmngaaQue0
import Derived.Deep.Slices
import Derived.Deep.Fields
import Derived.ChangeSame
import Derived.OpenShut
namespace Go.Proofs.Ytjbfmagedkmngaa.Que
open Go.RowKit Go.Deep Go.ChangeShapes Go.WideShapes Base

instance : Inhabited Sl := ⟨zSl⟩

section
variable {H : Type} {enc : TypeId × Value → H} {W : World} {base : Nat} {spare : Nat → Bool} {held : Bool}

theorem open_slot {fuel : Nat} {cs : List Value} {x : DataW H × List MemPlace} (h : DataW.trod enc Try.prog W base spare held fuel 72 cs = some x) :
    ∃ s : Sl, cs = [.int .i64 s.id, .int .i64 s.prev, .int .i64 s.next, .bool s.used] := by
  have hC : Try.prog.cellsOf 72 = 4 := by kernel_rfl
  have hI : Try.prog.cellsOf 3 = 1 := by kernel_rfl
  have hB : Try.prog.cellsOf 4 = 1 := by kernel_rfl
  obtain ⟨ys, k, _, _, hcl, hyl, hf⟩ := DataW.trod_struct Try.underlying72 h
  rw [hC] at hcl
  match cs, hcl, ys, hyl with
  | [q0, q1, q2, q3], _, [y0, y1, y2, y3], _ =>
    have g0 : DataW.trod enc Try.prog W base spare held k 3 [q0] = some y0 := by have := hf 0 _ rfl; simpa [hI] using this
    have g1 : DataW.trod enc Try.prog W base spare held k 3 [q1] = some y1 := by have := hf 1 _ rfl; simpa [hI] using this
    have g2 : DataW.trod enc Try.prog W base spare held k 3 [q2] = some y2 := by have := hf 2 _ rfl; simpa [hI] using this
    have g3 : DataW.trod enc Try.prog W base spare held k 4 [q3] = some y3 := by have := hf 3 _ rfl; simpa [hB] using this
    obtain ⟨n0, e0, _⟩ := DataW.trod_int Try.underlying3 g0
    obtain ⟨n1, e1, _⟩ := DataW.trod_int Try.underlying3 g1
    obtain ⟨n2, e2, _⟩ := DataW.trod_int Try.underlying3 g2
    obtain ⟨n3, e3, _⟩ := DataW.trod_bool Try.underlying4 g3
    simp at e0 e1 e2 e3
    subst e0 e1 e2 e3
    exact ⟨⟨n0, n1, n2, n3⟩, rfl⟩

theorem open_slots {fuel : Nat} {cs : List Value} {x : DataW H × List MemPlace} (h : DataW.trod enc Try.prog W base spare held fuel 40 cs = some x) :
    ∃ (A : Option Addr) (n cap : Nat) (ss : List Sl), cs = [.slice A n cap] ∧ ss.length = n ∧ n ≤ maxLen ∧ LSl W A ss := by
  rcases open_slice Try.underlying40 h with ⟨rfl, _⟩ | ⟨a, len, cap, m, k, D, Pl, rfl, _, hl, hm, hmm, _, hi⟩
  · exact ⟨none, 0, 0, [], rfl, rfl, by simp, fun hp => absurd hp (by simp)⟩
  · have hlm : len ≤ m := by rw [hmm]; split <;> omega
    have hC : Try.prog.cellsOf 72 = 4 := by kernel_rfl
    obtain ⟨V, hV⟩ := choose_lt (α := Sl) (n := len) (p := fun i s => W.cell? ((a.add (i * 4)).add 0) = some (.int .i64 s.id) ∧ W.cell? ((a.add (i * 4)).add 1) = some (.int .i64 s.prev) ∧ W.cell? ((a.add (i * 4)).add 2) = some (.int .i64 s.next) ∧ W.cell? ((a.add (i * 4)).add 3) = some (.bool s.used)) (fun i hil => by
      obtain ⟨cs', hc, ht⟩ := hi i (by omega)
      rw [hC] at hc
      obtain ⟨_, hcl, hat⟩ := World.cells?_some hc
      obtain ⟨s, rfl⟩ := open_slot ht
      exact ⟨s, hat 0 (by omega), hat 1 (by omega), hat 2 (by omega), hat 3 (by omega)⟩)
    refine ⟨some a, len, cap, (List.range len).map V, rfl, by simp, by omega, fun hp => ?_⟩
    simp at hp
    obtain ⟨b, off, spot⟩ := a
    have h0 := (hV 0 hp).1
    have hs : spot = none := by simpa [Addr.add] using World.cell?_spot h0
    subst hs
    refine ⟨b, off, rfl, fun i hi => ?_⟩
    simp at hi
    obtain ⟨g0, g1, g2, g3⟩ := hV i hi
    have ea : ∀ j, ((⟨b, off, none⟩ : Addr).add (i * 4)).add j = ⟨b, off + i * 4 + j, none⟩ := fun j => by
      rw [Addr.add_mid, Addr.add_mid]
    rw [ea] at g0 g1 g2 g3
    have hg : ((List.range len).map V).getD i zSl = V i := by simp [hi]
    rw [hg]
    exact ⟨g0, g1, g2, g3⟩

theorem open_queue {rr : Reach} {b0 : Nat} {v : Value} {d : DataW H} {p : List MemPlace} (hv : Value.okWide Try.prog W rr b0 42 v) (h : DataW.Trod enc Try.prog W base spare held 42 v d p) :
    ∃ (A : Option Addr) (n cap : Nat) (f l r c : Int) (ss : List Sl), v = .agg #[.slice A n cap, .int .i64 f, .int .i64 l, .int .i64 r, .int .i64 c] ∧ ss.length = n ∧ n ≤ maxLen ∧ LSl W A ss := by
  have hC : Try.prog.cellsOf 42 = 5 := by kernel_rfl
  have hI : Try.prog.cellsOf 3 = 1 := by kernel_rfl
  have hS : Try.prog.cellsOf 40 = 1 := by kernel_rfl
  obtain ⟨cs, rfl, hsz⟩ := okWide_struct Try.underlying42 hv
  obtain ⟨cl⟩ := cs
  obtain ⟨fuel, hf⟩ := h
  obtain ⟨ys, k, _, _, _, hyl, hg⟩ := DataW.trod_struct Try.underlying42 hf
  match cl, hsz.trans hC, ys, hyl with
  | [q0, q1, q2, q3, q4], _, [y0, y1, y2, y3, y4], _ =>
    have g0 : DataW.trod enc Try.prog W base spare held k 40 [q0] = some y0 := by have := hg 0 _ rfl; simpa [hS, Value.cells] using this
    have g1 : DataW.trod enc Try.prog W base spare held k 3 [q1] = some y1 := by have := hg 1 _ rfl; simpa [hI, Value.cells] using this
    have g2 : DataW.trod enc Try.prog W base spare held k 3 [q2] = some y2 := by have := hg 2 _ rfl; simpa [hI, Value.cells] using this
    have g3 : DataW.trod enc Try.prog W base spare held k 3 [q3] = some y3 := by have := hg 3 _ rfl; simpa [hI, Value.cells] using this
    have g4 : DataW.trod enc Try.prog W base spare held k 3 [q4] = some y4 := by have := hg 4 _ rfl; simpa [hI, Value.cells] using this
    obtain ⟨A, n, cap, ss, e0, hn, hm, hl⟩ := open_slots g0
    obtain ⟨n1, e1, _⟩ := DataW.trod_int Try.underlying3 g1
    obtain ⟨n2, e2, _⟩ := DataW.trod_int Try.underlying3 g2
    obtain ⟨n3, e3, _⟩ := DataW.trod_int Try.underlying3 g3
    obtain ⟨n4, e4, _⟩ := DataW.trod_int Try.underlying3 g4
    simp at e0 e1 e2 e3 e4
    subst e0 e1 e2 e3 e4
    exact ⟨A, n, cap, n1, n2, n3, n4, ss, rfl, hn, hm, hl⟩
end
end Go.Proofs.Ytjbfmagedkmngaa.Que
