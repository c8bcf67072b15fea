/- What is known of a heap of the law's own type that came in: its slice reads as a list of items. -/
import Derived.Test.YtnmhdbfemobhkaaHp0
import Derived.Deep.Slices
import Derived.Deep.Fields
import Derived.ChangeSame
import Derived.OpenShut
namespace Go.Proofs.Ytnmhdbfemobhkaa.Hp
open Go.RowKit Go.Deep Go.ChangeShapes Go.WideShapes Base

instance : Inhabited Du := ⟨zDu⟩

section
variable {H : Type} {enc : TypeId × Value → H} {W : World} {base : Nat} {spare : Nat → Bool} {held : Bool}

theorem open_due {fuel : Nat} {cs : List Value} {x : DataW H × List MemPlace} (h : DataW.trod enc Try.prog W base spare held fuel 95 cs = some x) :
    ∃ s : Du, cs = [.int .i64 s.at, .int .i64 s.seq, .int .i64 s.id] := by
  have hC : Try.prog.cellsOf 95 = 3 := by kernel_rfl
  have hI : Try.prog.cellsOf 3 = 1 := by kernel_rfl
  obtain ⟨ys, k, _, _, hcl, hyl, hf⟩ := DataW.trod_struct Try.underlying95 h
  rw [hC] at hcl
  match cs, hcl, ys, hyl with
  | [q0, q1, q2], _, [y0, y1, y2], _ =>
    have g0 : DataW.trod enc Try.prog W base spare held k 3 [q0] = some y0 := by have := hf 0 _ rfl; simpa [hI] using this
    have g1 : DataW.trod enc Try.prog W base spare held k 3 [q1] = some y1 := by have := hf 1 _ rfl; simpa [hI] using this
    have g2 : DataW.trod enc Try.prog W base spare held k 3 [q2] = some y2 := by have := hf 2 _ rfl; simpa [hI] using this
    obtain ⟨n0, e0, _⟩ := DataW.trod_int Try.underlying3 g0
    obtain ⟨n1, e1, _⟩ := DataW.trod_int Try.underlying3 g1
    obtain ⟨n2, e2, _⟩ := DataW.trod_int Try.underlying3 g2
    simp at e0 e1 e2
    subst e0 e1 e2
    exact ⟨⟨n0, n1, n2⟩, rfl⟩

theorem open_dues {fuel : Nat} {cs : List Value} {x : DataW H × List MemPlace} (h : DataW.trod enc Try.prog W base spare held fuel 42 cs = some x) :
    ∃ (A : Option Addr) (n cap : Nat) (ds : List Du), cs = [.slice A n cap] ∧ ds.length = n ∧ n ≤ maxLen ∧ LD W A ds := by
  rcases open_slice Try.underlying42 h with ⟨rfl, _⟩ | ⟨a, len, cap, m, k, D, Pl, rfl, _, hl, hm, hmm, _, hi⟩
  · exact ⟨none, 0, 0, [], rfl, rfl, by simp, fun hp => absurd hp (by simp)⟩
  · have hlm : len ≤ m := by rw [hmm]; split <;> omega
    have hC : Try.prog.cellsOf 95 = 3 := by kernel_rfl
    obtain ⟨V, hV⟩ := choose_lt (α := Du) (n := len) (p := fun i s => W.cell? ((a.add (i * 3)).add 0) = some (.int .i64 s.at) ∧ W.cell? ((a.add (i * 3)).add 1) = some (.int .i64 s.seq) ∧ W.cell? ((a.add (i * 3)).add 2) = some (.int .i64 s.id)) (fun i hil => by
      obtain ⟨cs', hc, ht⟩ := hi i (by omega)
      rw [hC] at hc
      obtain ⟨_, hcl, hat⟩ := World.cells?_some hc
      obtain ⟨s, rfl⟩ := open_due ht
      exact ⟨s, hat 0 (by omega), hat 1 (by omega), hat 2 (by omega)⟩)
    refine ⟨some a, len, cap, (List.range len).map V, rfl, by simp, by omega, fun hp => ?_⟩
    simp at hp
    obtain ⟨b, off, spot⟩ := a
    have h0 := (hV 0 hp).1
    have hs : spot = none := by simpa [Addr.add] using World.cell?_spot h0
    subst hs
    refine ⟨b, off, rfl, fun i hi => ?_⟩
    simp at hi
    obtain ⟨g0, g1, g2⟩ := hV i hi
    have ea : ∀ j, ((⟨b, off, none⟩ : Addr).add (i * 3)).add j = ⟨b, off + i * 3 + j, none⟩ := fun j => by
      rw [Addr.add_mid, Addr.add_mid]
    rw [ea] at g0 g1 g2
    have hg : ((List.range len).map V).getD i zDu = V i := by simp [hi]
    rw [hg]
    exact ⟨g0, g1, g2⟩

theorem open_heap {rr : Reach} {b0 : Nat} {v : Value} {d : DataW H} {p : List MemPlace} (hv : Value.okWide Try.prog W rr b0 44 v) (h : DataW.Trod enc Try.prog W base spare held 44 v d p) :
    ∃ (A : Option Addr) (n cap : Nat) (q : Int) (ds : List Du), v = .agg #[.slice A n cap, .int .i64 q] ∧ ds.length = n ∧ n ≤ maxLen ∧ LD W A ds := by
  have hC : Try.prog.cellsOf 44 = 2 := by kernel_rfl
  have hI : Try.prog.cellsOf 3 = 1 := by kernel_rfl
  have hS : Try.prog.cellsOf 42 = 1 := by kernel_rfl
  obtain ⟨cs, rfl, hsz⟩ := okWide_struct Try.underlying44 hv
  obtain ⟨cl⟩ := cs
  obtain ⟨fuel, hf⟩ := h
  obtain ⟨ys, k, _, _, _, hyl, hg⟩ := DataW.trod_struct Try.underlying44 hf
  match cl, hsz.trans hC, ys, hyl with
  | [q0, q1], _, [y0, y1], _ =>
    have g0 : DataW.trod enc Try.prog W base spare held k 42 [q0] = some y0 := by have := hg 0 _ rfl; simpa [hS, Value.cells] using this
    have g1 : DataW.trod enc Try.prog W base spare held k 3 [q1] = some y1 := by have := hg 1 _ rfl; simpa [hI, Value.cells] using this
    obtain ⟨A, n, cap, ds, e0, hn, hm, hl⟩ := open_dues g0
    obtain ⟨n1, e1, _⟩ := DataW.trod_int Try.underlying3 g1
    simp at e0 e1
    subst e0 e1
    exact ⟨A, n, cap, n1, ds, rfl, hn, hm, hl⟩
end
end Go.Proofs.Ytnmhdbfemobhkaa.Hp
