/- Contracts of AddTick, of the program and of the model: both return the same function of their arguments, for every pair of integers; no conditions. -/
import Derived.Test.YtbmfleakldhabaaDoorHtk
namespace Go.Proofs.YtbmfleakldhabaaDoor.Tick
open Go.RowKit Base

theorem lim_any (m : Int) (w : World) : Calls Tryd.prog 56 #[.int .i64 m] w fun e w' => e = .returned (.int .i64 (lim m)) ∧ w = w' := by
  by_cases h0 : m < 0
  · go_enter Tryd.func56, Tryd.ntmps56
    go_wp2
    go_ret
    exact ⟨ret_int (by unfold lim; rw [if_pos h0]), rfl⟩
  · by_cases h1 : 1000000000 < m
    · go_enter Tryd.func56, Tryd.ntmps56
      go_wp2
      go_ret
      exact ⟨ret_int (by unfold lim; rw [if_neg (by omega), if_pos h1]), rfl⟩
    · go_enter Tryd.func56, Tryd.ntmps56
      go_wp2
      go_ret
      exact ⟨ret_int (by unfold lim; rw [if_neg (by omega), if_neg (by omega)]), rfl⟩

def addT (t d : Int) : Int := if isT t = true ∧ inB d (-1000000000) 1000000000 = true then lim (t + d) else -1
def sinceT (a b : Int) : Int := if isT a = true ∧ isT b = true then lim (b - a) else -1
def dueT (f a n : Int) : Bool := isT f && isT a && isT n && decide (0 < a) && decide (addT f a ≤ n)

theorem lim_bd (m : Int) : 0 ≤ lim m ∧ lim m ≤ 1000000000 := by unfold lim; split <;> (try split) <;> omega
theorem addT_bd (t d : Int) : -1 ≤ addT t d ∧ addT t d ≤ 1000000000 := by
  unfold addT; have := lim_bd (t + d); split <;> omega
theorem addT_ok {t d : Int} (h : isT t = true) (h' : inB d (-1000000000) 1000000000 = true) : addT t d = lim (t + d) := if_pos ⟨h, h'⟩
theorem addT_no1 {t d : Int} (h : isT t = false) : addT t d = -1 := if_neg (by simp [h])
theorem addT_no2 {t d : Int} (h : inB d (-1000000000) 1000000000 = false) : addT t d = -1 := if_neg (by simp [h])

theorem implAddTick_any (t d : Int) (w : World) : Calls Tryd.prog 42 #[.int .i64 t, .int .i64 d] w fun e w' => e = .returned (.int .i64 (addT t d)) ∧ Below w.heap.size w w' := by
  rcases isT_cases t with ⟨h0, h1⟩ | h0
  · have ht := isT_true h0 h1
    by_cases hd : -1000000000 ≤ d ∧ d ≤ 1000000000
    · obtain ⟨d0, d1⟩ := hd
      have H := Lib.hid (addT_ok ht (inB_true d0 d1))
      go_enter Tryd.func42, Tryd.ntmps42
      go_wp2_with (first | (go_at_call 55; with_reducible refine (implTickOk_any _ _).mono ?_; rintro e w' ⟨rfl, hb⟩) | (go_at_call 56; with_reducible refine (lim_any _ _).mono ?_; rintro e w' ⟨rfl, rfl⟩))
      go_ret
      exact ⟨ret_int H.out.symm, hb⟩
    · have hi : inB d (-1000000000) 1000000000 = false := inB_false (by omega)
      have H := Lib.hid (addT_no2 (t := t) hi)
      rcases (show d < -1000000000 ∨ (-1000000000 ≤ d ∧ 1000000000 < d) by omega) with h | ⟨h, h'⟩
      all_goals
        clear hd hi
        go_enter Tryd.func42, Tryd.ntmps42
        go_wp2_with (first | (go_at_call 55; with_reducible refine (implTickOk_any _ _).mono ?_; rintro e w' ⟨rfl, hb⟩) | (go_at_call 56; with_reducible refine (lim_any _ _).mono ?_; rintro e w' ⟨rfl, rfl⟩))
        go_ret
        exact ⟨ret_int H.out.symm, hb⟩
  · have ht := isT_false h0
    have H := Lib.hid (addT_no1 (d := d) ht)
    clear h0
    go_enter Tryd.func42, Tryd.ntmps42
    go_wp2_with (first | (go_at_call 55; with_reducible refine (implTickOk_any _ _).mono ?_; rintro e w' ⟨rfl, hb⟩))
    go_ret
    exact ⟨ret_int H.out.symm, hb⟩
end Go.Proofs.YtbmfleakldhabaaDoor.Tick
