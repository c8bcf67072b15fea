/- Words for configurations; contracts of the leaves of chapter 4: within, toConfig, eqConfig. -/
import Derived.Test.YtcgmeindiaaokaaDoorChecked
import Derived.Test.YtcgmeindiaaokaaDoorHtk
import Derived.Laws.Rows
namespace Go.Proofs.YtcgmeindiaaokaaDoor.Cf
open Go.RowKit Base

theorem within_any (l x h : Int) (w : World) : Calls Tryd.prog 48 #[.int .i64 l, .int .i64 x, .int .i64 h] w fun e w' => e = .returned (.bool (Tick.inB x l h)) ∧ w = w' := by
  by_cases h0 : l ≤ x
  · by_cases h1 : x ≤ h
    · go_enter Tryd.func48, Tryd.ntmps48
      go_wp2
      go_ret
      exact ⟨ret_bool (Tick.inB_true h0 h1).symm, rfl⟩
    · go_enter Tryd.func48, Tryd.ntmps48
      go_wp2
      go_ret
      exact ⟨ret_bool (Tick.inB_false (by omega)).symm, rfl⟩
  · go_enter Tryd.func48, Tryd.ntmps48
    go_wp2
    go_ret
    exact ⟨ret_bool (Tick.inB_false (by omega)).symm, rfl⟩

/-- A valid configuration; the fields in their order are c 0, c 1, .. -/
def okC (c : Nat → Int) : Bool :=
  Tick.inB (c 1) 1 12 && Tick.inB (c 0) 0 (c 1) && Tick.isT (c 2) && !(c 2 == 0) && Tick.isT (c 3) && Tick.isT (c 4) && Tick.isT (c 5) && Tick.isT (c 6) && Tick.isT (c 13) && !(c 13 == 0)
    && Tick.inB (c 8) 1 1000000 && Tick.inB (c 7) 1 (c 8) && Tick.inB (c 9) 0 100 && Tick.inB (c 10) 1 1000000 && Tick.inB (c 11) 1 20 && Tick.inB (c 12) 1 1000000
theorem okC_iff {c : Nat → Int} : okC c = true ↔ (1 ≤ c 1 ∧ c 1 ≤ 12 ∧ 0 ≤ c 0 ∧ c 0 ≤ c 1 ∧ 0 ≤ c 2 ∧ c 2 ≤ 1000000000 ∧ c 2 ≠ 0 ∧ 0 ≤ c 3 ∧ c 3 ≤ 1000000000 ∧ 0 ≤ c 4 ∧ c 4 ≤ 1000000000 ∧ 0 ≤ c 5 ∧ c 5 ≤ 1000000000 ∧ 0 ≤ c 6 ∧ c 6 ≤ 1000000000 ∧ 0 ≤ c 13 ∧ c 13 ≤ 1000000000 ∧ c 13 ≠ 0 ∧ 1 ≤ c 8 ∧ c 8 ≤ 1000000 ∧ 1 ≤ c 7 ∧ c 7 ≤ c 8 ∧ 0 ≤ c 9 ∧ c 9 ≤ 100 ∧ 1 ≤ c 10 ∧ c 10 ≤ 1000000 ∧ 1 ≤ c 11 ∧ c 11 ≤ 20 ∧ 1 ≤ c 12 ∧ c 12 ≤ 1000000) := by
  simp only [okC, Bool.and_eq_true, Tick.inB_iff, Tick.isT_iff, Bool.not_eq_true', beq_eq_false_iff_ne, ne_eq, and_assoc]
theorem okC_false {c : Nat → Int} (h : ¬ okC c = true) : okC c = false := by simpa using h


end Go.Proofs.YtcgmeindiaaokaaDoor.Cf
