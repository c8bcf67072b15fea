/- Contracts of Since and DueAt, of the program and of the model; the walks of the laws of TickOk, AddTick, Since and DueAt: each returns true at every argument. -/
import Derived.Test.YtbmfleakldhabaaDoorAdn
namespace Go.Proofs.YtbmfleakldhabaaDoor.Tick
open Go.RowKit Base

theorem sinceT_ok {a b : Int} (h : isT a = true) (h' : isT b = true) : sinceT a b = lim (b - a) := if_pos ⟨h, h'⟩
theorem sinceT_no1 {a b : Int} (h : isT a = false) : sinceT a b = -1 := if_neg (by simp [h])
theorem sinceT_no2 {a b : Int} (h : isT b = false) : sinceT a b = -1 := if_neg (by simp [h])

theorem all2 {a b : Int} {p : Bool} (h : (isT a && isT b) = p) : [a, b].all isT = p := by simpa [List.all] using h
theorem all3 {a b c : Int} {p : Bool} (h : (isT a && isT b && isT c) = p) : [a, b, c].all isT = p := by simpa [List.all, Bool.and_assoc] using h

theorem dueT_no {f a n : Int} (h : (isT f && isT a && isT n && decide (0 < a)) = false) : dueT f a n = false := by unfold dueT; rw [h]; rfl
theorem dueT_yes {f a n : Int} (h : (isT f && isT a && isT n && decide (0 < a)) = true) : dueT f a n = decide (addT f a ≤ n) := by unfold dueT; rw [h]; rfl

theorem implDueAt_any (f a n : Int) (w : World) : Calls Tryd.prog 44 #[.int .i64 f, .int .i64 a, .int .i64 n] w fun e w' => e = .returned (.bool (dueT f a n)) ∧ Below w.heap.size w w' := by
  cases hq : isT f && isT a && isT n
  · have H := Lib.hid (dueT_no (f := f) (a := a) (n := n) (by rw [hq]; rfl))
    have HA := Lib.hid (all3 hq)
    clear hq
    go_enter Tryd.func44, Tryd.ntmps44
    go_wp2_with fail
    refine (allTicks_any _ 3 _ [f, a, n] _ rfl (by decide) (ints_new w [f, a, n] _)).mono ?_
    rw [HA.out]
    rintro e w' ⟨rfl, rfl⟩
    go_wp2
    go_ret
    exact ⟨ret_bool H.out.symm, bel_alloc _ _⟩
  · have HA := Lib.hid (all3 hq)
    by_cases hp : 0 < a
    · have H := Lib.hid (dueT_yes (f := f) (a := a) (n := n) (by rw [hq, decide_eq_true hp]; rfl))
      clear hq
      go_enter Tryd.func44, Tryd.ntmps44
      go_wp2_with fail
      refine (allTicks_any _ 3 _ [f, a, n] _ rfl (by decide) (ints_new w [f, a, n] _)).mono ?_
      rw [HA.out]
      rintro e w' ⟨rfl, rfl⟩
      go_wp2_with fail
      refine (implAddTick_any _ _ _).mono ?_
      rintro e w' ⟨rfl, hb⟩
      go_wp2
      go_ret
      exact ⟨ret_bool H.out.symm, bel_trans (bel_alloc _ _) hb⟩
    · have H := Lib.hid (dueT_no (f := f) (a := a) (n := n) (by rw [hq, decide_eq_false hp]; rfl))
      clear hq
      go_enter Tryd.func44, Tryd.ntmps44
      go_wp2_with fail
      refine (allTicks_any _ 3 _ [f, a, n] _ rfl (by decide) (ints_new w [f, a, n] _)).mono ?_
      rw [HA.out]
      rintro e w' ⟨rfl, rfl⟩
      go_wp2
      go_ret
      exact ⟨ret_bool H.out.symm, bel_alloc _ _⟩
end Go.Proofs.YtbmfleakldhabaaDoor.Tick
