/- The names of the states: the program's ChannelName and the reference's; the law of ChannelName walked. -/
import Derived.Test.YtoknjofdpnjioaaDoorCn0
namespace Go.Proofs.YtoknjofdpnjioaaDoor.Cn
open Go.RowKit Base

/-- Is it a state? -/
def isS (s : Int) : Bool := decide (0 ≤ s) && decide (s ≤ 4)

def isE (e : Int) : Bool := decide (0 ≤ e) && decide (e ≤ 6)

/-- The answer of ChannelName. -/
def nameA (s : Int) : ByteArray := if isS s then ⟨(nmL.getD s.toNat []).toArray⟩ else ByteArray.empty

theorem within_any (l x m : Int) (w : World) : Calls Tryd.prog 44 #[.int .i64 l, .int .i64 x, .int .i64 m] w fun e w' => e = .returned (.bool (decide (l ≤ x) && decide (x ≤ m))) ∧ Below w.heap.size w w' := by
  go_enter Tryd.func44, Tryd.ntmps44
  by_cases h1 : l ≤ x <;> by_cases h2 : x ≤ m <;> (go_wp2; go_ret; exact ⟨by simp [h1, h2], Below.refl _ _⟩)

theorem specIn_any (x l m : Int) (w : World) : Calls Tryd.prog 36 #[.int .i64 x, .int .i64 l, .int .i64 m] w fun e w' => e = .returned (.bool (decide (l ≤ x) && decide (x ≤ m))) ∧ Below w.heap.size w w' := by
  go_enter Tryd.func36, Tryd.ntmps36
  by_cases h1 : l ≤ x <;> by_cases h2 : x ≤ m <;> (go_wp2; go_ret; exact ⟨by simp [h1, h2], Below.refl _ _⟩)

theorem stateOk_any (x : Int) (w : World) : Calls Tryd.prog 32 #[.int .i64 x] w fun e w' => e = .returned (.bool (isS x)) ∧ Below w.heap.size w w' := by
  go_enter Tryd.func32, Tryd.ntmps32
  go_wp2_with (go_at_call 44; refine (within_any 0 x 4 _).mono ?_; rintro e w1 ⟨rfl, hb1⟩)
  go_ret
  exact ⟨rfl, hb1⟩

theorem isS_cases {s : Int} (h : isS s = true) : s = 0 ∨ s = 1 ∨ s = 2 ∨ s = 3 ∨ s = 4 := by
  simp [isS] at h; omega

theorem stateOk_at {x : Int} {b : Bool} (h : isS x = b) (w : World) : Calls Tryd.prog 32 #[.int .i64 x] w fun e w' => e = .returned (.bool b) ∧ Below w.heap.size w w' := h ▸ stateOk_any x w

theorem specIn_at {x l m : Int} {b : Bool} (h : (decide (l ≤ x) && decide (x ≤ m)) = b) (w : World) : Calls Tryd.prog 36 #[.int .i64 x, .int .i64 l, .int .i64 m] w fun e w' => e = .returned (.bool b) ∧ Below w.heap.size w w' := h ▸ specIn_any x l m w

theorem within_at {x l m : Int} {b : Bool} (h : (decide (l ≤ x) && decide (x ≤ m)) = b) (w : World) : Calls Tryd.prog 44 #[.int .i64 l, .int .i64 x, .int .i64 m] w fun e w' => e = .returned (.bool b) ∧ Below w.heap.size w w' := h ▸ within_any l x m w

theorem implName_any (s : Int) (w : World) (hn : Nms w) : Calls Tryd.prog 26 #[.int .i64 s] w fun e w' => e = .returned (.string (nameA s)) ∧ Below w.heap.size w w' := by
  have HN := Lib.hid hn
  clear hn
  cases hs : isS s
  · go_enter Tryd.func26, Tryd.ntmps26
    go_wp2_with (go_at_call 32; refine (stateOk_at hs _).mono ?_; rintro e w1 ⟨rfl, hb1⟩)
    go_ret
    exact ⟨by simp [nameA, hs]; rfl, hb1⟩
  · have key : ∀ k : Nat, k < 5 → s = (k : Int) → Calls Tryd.prog 26 #[.int .i64 s] w fun e w' => e = .returned (.string (nameA s)) ∧ Below w.heap.size w w' := by
      intro k hk e
      have c1 := fun w1 hb1 => (HN.out.below (w' := w1) hb1) k hk
      subst e
      have he : nameA (k : Int) = ⟨(nmL.getD k []).toArray⟩ := by simp [nameA, hs]
      rw [he]
      clear he
      generalize (⟨(nmL.getD k []).toArray⟩ : ByteArray) = nm at c1 ⊢
      go_enter Tryd.func26, Tryd.ntmps26
      go_wp2_with (go_at_call 32; refine (stateOk_at hs _).mono ?_; rintro e w1 ⟨rfl, hb1⟩; have c := c1 w1 hb1)
      go_ret
      exact ⟨rfl, hb1⟩
    exact key s.toNat (by have := isS_cases hs; omega) (by have := isS_cases hs; omega)

theorem specName_any (s : Int) (w : World) : Calls Tryd.prog 25 #[.int .i64 s] w fun e w' => e = .returned (.string (nameA s)) ∧ Below w.heap.size w w' := by
  have hs0 : ∀ {b}, isS s = b → (decide (0 ≤ s) && decide (s ≤ 4)) = b := fun h => h
  cases hs : isS s
  · go_enter Tryd.func25, Tryd.ntmps25
    go_wp2_with (go_at_call 36; refine (specIn_at (hs0 hs) _).mono ?_; rintro e w1 ⟨rfl, hb1⟩)
    go_ret
    exact ⟨by simp [nameA, hs]; rfl, bel_trans (bel_alloc w _) hb1⟩
  · rcases isS_cases hs with rfl | rfl | rfl | rfl | rfl
    all_goals
      go_enter Tryd.func25, Tryd.ntmps25
      go_wp2_with (go_at_call 36; refine (specIn_at (hs0 hs) _).mono ?_; rintro e w1 ⟨rfl, hb1⟩; have cc := fun o => hb1.cell (p := ⟨w.heap.size, o, none⟩) (by simp))
      go_ret
      exact ⟨rfl, bel_trans (bel_alloc w _) hb1⟩

theorem lawChannelName (s : Int) (w : World) (hn : Nms w) : Calls Tryd.prog 6 #[.int .i64 s] w fun e w' => e = .returned (.bool true) ∧ Below w.heap.size w w' := by
  have HN := Lib.hid hn
  clear hn
  go_enter Tryd.func6, Tryd.ntmps6
  go_wp2_with (first | (go_at_call 25; refine (specName_any s _).mono ?_; rintro e w1 ⟨rfl, hb1⟩) | (go_at_call 26; refine (implName_any s _ (HN.out.below hb1)).mono ?_; rintro e w2 ⟨rfl, hb2⟩))
  go_ret
  exact ⟨rfl, bel_trans hb1 hb2⟩
end Go.Proofs.YtoknjofdpnjioaaDoor.Cn
