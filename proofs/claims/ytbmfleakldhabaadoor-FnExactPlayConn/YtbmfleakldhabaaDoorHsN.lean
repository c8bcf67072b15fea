/- What is known of a slice of slices of integers that came in: it reads as a list of lists. -/
import Derived.Test.YtbmfleakldhabaaDoorPhN
import Derived.Deep.Slices
import Derived.Deep.Fields
import Derived.ChangeSame
import Derived.OpenShut
namespace Go.Proofs.YtbmfleakldhabaaDoor.Rw
open Go.RowKit Go.Deep Go.ChangeShapes Go.WideShapes Base

section
variable {H : Type} {enc : TypeId × Value → H} {W : World} {base : Nat} {spare : Nat → Bool} {held : Bool}

theorem open_ints1 {fuel : Nat} {cs : List Value} {x : DataW H × List MemPlace} (h : DataW.trod enc Tryd.prog W base spare held fuel 29 cs = some x) :
    ∃ (A : Option Addr) (n cap : Nat) (zs : List Int), cs = [.slice A n cap] ∧ zs.length = n ∧ n ≤ maxLen ∧ Ints W A zs := by
  rcases open_slice1 Tryd.underlying29 (by kernel_rfl) h with ⟨rfl, _⟩ | ⟨a, len, cap, m, k, V, D, Pl, rfl, _, hl, hm, hmm, _, hi⟩
  · exact ⟨none, 0, 0, [], rfl, rfl, by simp, Ints.nil _ _⟩
  · have hlm : len ≤ m := by rw [hmm]; split <;> omega
    obtain ⟨Z, hZ⟩ := choose_lt (α := Int) (n := len) (p := fun i z => W.cell? (a.add i) = some (.int .i64 z)) (fun i hil => by
      obtain ⟨h1, h2⟩ := hi i (by omega)
      obtain ⟨z, e, _⟩ := DataW.trod_int Tryd.underlying3 h2
      simp at e
      exact ⟨z, by rw [h1, e]⟩)
    refine ⟨some a, len, cap, (List.range len).map Z, rfl, by simp, by omega, fun hp => ?_⟩
    simp at hp
    obtain ⟨b, off, spot⟩ := a
    have hs : spot = none := by simpa [Addr.add] using World.cell?_spot (hZ 0 hp)
    subst hs
    refine ⟨b, off, rfl, fun i hi => ?_⟩
    simp at hi
    have g := hZ i hi
    rw [Addr.add_mid] at g
    have hg : ((List.range len).map Z).getD i 0 = Z i := by simp [hi]
    rw [hg]
    exact g

set_option maxRecDepth 100000 in
theorem open_intss {rr : Reach} {b0 : Nat} {v : Value} {d : DataW H} {p : List MemPlace} (hv : Value.okWide Tryd.prog W rr b0 24 v) (h : DataW.Trod enc Tryd.prog W base spare held 24 v d p) :
    ∃ (A : Option Addr) (n cap : Nat) (zss : List (List Int)), v = .slice A n cap ∧ zss.length = n ∧ n ≤ maxLen ∧ (∀ i, i < n → (zss.getD i []).length ≤ maxLen) ∧ IntsS W A zss := by
  obtain ⟨A0, n0, c0, rfl⟩ := okWide_slice Tryd.underlying24 hv
  obtain ⟨fuel, hf⟩ := h
  rcases open_slice1 Tryd.underlying24 (by kernel_rfl) hf with ⟨hcs, _⟩ | ⟨a, len, cap, m, k, V, D, Pl, hcs, _, hl, hm, hmm, _, hi⟩
  · simp [Value.cells] at hcs
    obtain ⟨rfl, rfl, rfl⟩ := hcs
    exact ⟨none, 0, 0, [], rfl, rfl, by simp, fun i hi => absurd hi (by omega), fun hp => absurd hp (by simp)⟩
  · simp [Value.cells] at hcs
    obtain ⟨rfl, rfl, rfl⟩ := hcs
    have hlm : n0 ≤ m := by rw [hmm]; split <;> omega
    obtain ⟨Z, hZ⟩ := choose_lt (α := List Int) (n := n0) (p := fun i z => z.length ≤ maxLen ∧ ∃ Ai ci, W.cell? (a.add i) = some (.slice Ai z.length ci) ∧ Ints W Ai z) (fun i hil => by
      obtain ⟨h1, h2⟩ := hi i (by omega)
      obtain ⟨Ai, ni, ci, zs, e, rfl, hmi, hz⟩ := open_ints1 h2
      simp at e
      exact ⟨zs, hmi, Ai, ci, by rw [h1, e], hz⟩)
    have hg : ∀ i, i < n0 → ((List.range n0).map Z).getD i [] = Z i := fun i hi => by simp [hi]
    refine ⟨some a, n0, c0, (List.range n0).map Z, rfl, by simp, by omega, fun i hi => by rw [hg i hi]; exact (hZ i hi).1, fun hp => ?_⟩
    simp at hp
    obtain ⟨b, off, spot⟩ := a
    obtain ⟨_, _, _, q0, _⟩ := hZ 0 hp
    have hs : spot = none := by simpa [Addr.add] using World.cell?_spot q0
    subst hs
    refine ⟨b, off, rfl, fun i hi => ?_⟩
    simp at hi
    obtain ⟨_, Ai, ci, g, hz⟩ := hZ i hi
    rw [Addr.add_mid] at g
    rw [hg i hi]
    exact ⟨Ai, ci, g, hz⟩
end
end Go.Proofs.YtbmfleakldhabaaDoor.Rw
