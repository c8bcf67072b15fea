/- The reference's l08To: the state that an event leads to. -/
import Derived.Test.YtbmfleakldhabaaDoorKn0
namespace Go.Proofs.YtbmfleakldhabaaDoor.Kn
open Go.RowKit Base

/-- The state behind an event; -1 where it leads nowhere. -/
def toN (s e : Int) : Int :=
  if e = 7 ∧ s ≠ 4 then 4 else if e = 0 ∧ s = 0 then 1 else if e = 1 ∧ s = 0 then 4 else if e = 2 ∧ s = 1 then 3 else if e = 3 ∧ s = 3 then 1 else if e = 4 ∧ s = 1 then 2 else if e = 5 ∧ s = 2 then 1 else if e = 6 ∧ s = 2 then 4 else -1

theorem toN_other {s e : Int} (h : e < 0 ∨ 7 < e) : toN s e = -1 := by
  unfold toN
  rw [if_neg (by omega), if_neg (by omega), if_neg (by omega), if_neg (by omega), if_neg (by omega), if_neg (by omega), if_neg (by omega), if_neg (by omega)]

def ToEnd (s e : Int) (w : World) (r : Ending) (w' : World) : Prop := r = .returned (.int .i64 (toN s e)) ∧ Below w.heap.size w w'

theorem toEnd_of {s e x : Int} {w w' : World} (h : toN s e = x) (hb : Below w.heap.size w w') : ToEnd s e w (.returned (.int .i64 x)) w' := ⟨by rw [h], hb⟩

theorem two_new (w : World) (a b : Obj) : Below w.heap.size w ((w.alloc a).alloc b) := bel_trans (bel_alloc _ _) (bel_alloc _ _)

set_option maxHeartbeats 800000 in
theorem to_0 (s : Int) (w : World) : Calls Tryd.prog 33 #[.int .i64 s, .int .i64 0] w (ToEnd s 0 w) := by
  have hi : Tick.inB 0 0 6 = true := by decide
  by_cases hs : s = 0
  · subst hs
    go_enter Tryd.func33, Tryd.ntmps33
    go_wp2_with fail
    refine (Tick.in_any _ _ _ _).mono ?_
    rw [hi]
    rintro e w' ⟨rfl, rfl⟩
    go_wp2
    go_ret
    exact toEnd_of (by decide) (two_new _ _ _)
  · have HT : Hid (toN s 0 = -1) := by
      show toN s 0 = -1
      unfold toN
      rw [if_neg (by omega), if_neg (by omega), if_neg (by omega), if_neg (by omega), if_neg (by omega), if_neg (by omega), if_neg (by omega), if_neg (by omega)]
    have hb : ((0 : Int) == s) = false := by rw [beq_eq_false_iff_ne]; omega
    have hb2 : ¬ (0 : Int) = s := by omega
    go_enter Tryd.func33, Tryd.ntmps33
    go_wp2_with fail
    refine (Tick.in_any _ _ _ _).mono ?_
    rw [hi]
    rintro e w' ⟨rfl, rfl⟩
    go_wp2
    go_ret
    exact toEnd_of HT.out (two_new _ _ _)

set_option maxHeartbeats 800000 in
theorem to_1 (s : Int) (w : World) : Calls Tryd.prog 33 #[.int .i64 s, .int .i64 1] w (ToEnd s 1 w) := by
  have hi : Tick.inB 1 0 6 = true := by decide
  by_cases hs : s = 0
  · subst hs
    go_enter Tryd.func33, Tryd.ntmps33
    go_wp2_with fail
    refine (Tick.in_any _ _ _ _).mono ?_
    rw [hi]
    rintro e w' ⟨rfl, rfl⟩
    go_wp2
    go_ret
    exact toEnd_of (by decide) (two_new _ _ _)
  · have HT : Hid (toN s 1 = -1) := by
      show toN s 1 = -1
      unfold toN
      rw [if_neg (by omega), if_neg (by omega), if_neg (by omega), if_neg (by omega), if_neg (by omega), if_neg (by omega), if_neg (by omega), if_neg (by omega)]
    have hb : ((0 : Int) == s) = false := by rw [beq_eq_false_iff_ne]; omega
    have hb2 : ¬ (0 : Int) = s := by omega
    go_enter Tryd.func33, Tryd.ntmps33
    go_wp2_with fail
    refine (Tick.in_any _ _ _ _).mono ?_
    rw [hi]
    rintro e w' ⟨rfl, rfl⟩
    go_wp2
    go_ret
    exact toEnd_of HT.out (two_new _ _ _)

set_option maxHeartbeats 800000 in
theorem to_2 (s : Int) (w : World) : Calls Tryd.prog 33 #[.int .i64 s, .int .i64 2] w (ToEnd s 2 w) := by
  have hi : Tick.inB 2 0 6 = true := by decide
  by_cases hs : s = 1
  · subst hs
    go_enter Tryd.func33, Tryd.ntmps33
    go_wp2_with fail
    refine (Tick.in_any _ _ _ _).mono ?_
    rw [hi]
    rintro e w' ⟨rfl, rfl⟩
    go_wp2
    go_ret
    exact toEnd_of (by decide) (two_new _ _ _)
  · have HT : Hid (toN s 2 = -1) := by
      show toN s 2 = -1
      unfold toN
      rw [if_neg (by omega), if_neg (by omega), if_neg (by omega), if_neg (by omega), if_neg (by omega), if_neg (by omega), if_neg (by omega), if_neg (by omega)]
    have hb : ((1 : Int) == s) = false := by rw [beq_eq_false_iff_ne]; omega
    have hb2 : ¬ (1 : Int) = s := by omega
    go_enter Tryd.func33, Tryd.ntmps33
    go_wp2_with fail
    refine (Tick.in_any _ _ _ _).mono ?_
    rw [hi]
    rintro e w' ⟨rfl, rfl⟩
    go_wp2
    go_ret
    exact toEnd_of HT.out (two_new _ _ _)

set_option maxHeartbeats 800000 in
theorem to_3 (s : Int) (w : World) : Calls Tryd.prog 33 #[.int .i64 s, .int .i64 3] w (ToEnd s 3 w) := by
  have hi : Tick.inB 3 0 6 = true := by decide
  by_cases hs : s = 3
  · subst hs
    go_enter Tryd.func33, Tryd.ntmps33
    go_wp2_with fail
    refine (Tick.in_any _ _ _ _).mono ?_
    rw [hi]
    rintro e w' ⟨rfl, rfl⟩
    go_wp2
    go_ret
    exact toEnd_of (by decide) (two_new _ _ _)
  · have HT : Hid (toN s 3 = -1) := by
      show toN s 3 = -1
      unfold toN
      rw [if_neg (by omega), if_neg (by omega), if_neg (by omega), if_neg (by omega), if_neg (by omega), if_neg (by omega), if_neg (by omega), if_neg (by omega)]
    have hb : ((3 : Int) == s) = false := by rw [beq_eq_false_iff_ne]; omega
    have hb2 : ¬ (3 : Int) = s := by omega
    go_enter Tryd.func33, Tryd.ntmps33
    go_wp2_with fail
    refine (Tick.in_any _ _ _ _).mono ?_
    rw [hi]
    rintro e w' ⟨rfl, rfl⟩
    go_wp2
    go_ret
    exact toEnd_of HT.out (two_new _ _ _)

set_option maxHeartbeats 800000 in
theorem to_4 (s : Int) (w : World) : Calls Tryd.prog 33 #[.int .i64 s, .int .i64 4] w (ToEnd s 4 w) := by
  have hi : Tick.inB 4 0 6 = true := by decide
  by_cases hs : s = 1
  · subst hs
    go_enter Tryd.func33, Tryd.ntmps33
    go_wp2_with fail
    refine (Tick.in_any _ _ _ _).mono ?_
    rw [hi]
    rintro e w' ⟨rfl, rfl⟩
    go_wp2
    go_ret
    exact toEnd_of (by decide) (two_new _ _ _)
  · have HT : Hid (toN s 4 = -1) := by
      show toN s 4 = -1
      unfold toN
      rw [if_neg (by omega), if_neg (by omega), if_neg (by omega), if_neg (by omega), if_neg (by omega), if_neg (by omega), if_neg (by omega), if_neg (by omega)]
    have hb : ((1 : Int) == s) = false := by rw [beq_eq_false_iff_ne]; omega
    have hb2 : ¬ (1 : Int) = s := by omega
    go_enter Tryd.func33, Tryd.ntmps33
    go_wp2_with fail
    refine (Tick.in_any _ _ _ _).mono ?_
    rw [hi]
    rintro e w' ⟨rfl, rfl⟩
    go_wp2
    go_ret
    exact toEnd_of HT.out (two_new _ _ _)

set_option maxHeartbeats 800000 in
theorem to_5 (s : Int) (w : World) : Calls Tryd.prog 33 #[.int .i64 s, .int .i64 5] w (ToEnd s 5 w) := by
  have hi : Tick.inB 5 0 6 = true := by decide
  by_cases hs : s = 2
  · subst hs
    go_enter Tryd.func33, Tryd.ntmps33
    go_wp2_with fail
    refine (Tick.in_any _ _ _ _).mono ?_
    rw [hi]
    rintro e w' ⟨rfl, rfl⟩
    go_wp2
    go_ret
    exact toEnd_of (by decide) (two_new _ _ _)
  · have HT : Hid (toN s 5 = -1) := by
      show toN s 5 = -1
      unfold toN
      rw [if_neg (by omega), if_neg (by omega), if_neg (by omega), if_neg (by omega), if_neg (by omega), if_neg (by omega), if_neg (by omega), if_neg (by omega)]
    have hb : ((2 : Int) == s) = false := by rw [beq_eq_false_iff_ne]; omega
    have hb2 : ¬ (2 : Int) = s := by omega
    go_enter Tryd.func33, Tryd.ntmps33
    go_wp2_with fail
    refine (Tick.in_any _ _ _ _).mono ?_
    rw [hi]
    rintro e w' ⟨rfl, rfl⟩
    go_wp2
    go_ret
    exact toEnd_of HT.out (two_new _ _ _)

set_option maxHeartbeats 800000 in
theorem to_6 (s : Int) (w : World) : Calls Tryd.prog 33 #[.int .i64 s, .int .i64 6] w (ToEnd s 6 w) := by
  have hi : Tick.inB 6 0 6 = true := by decide
  by_cases hs : s = 2
  · subst hs
    go_enter Tryd.func33, Tryd.ntmps33
    go_wp2_with fail
    refine (Tick.in_any _ _ _ _).mono ?_
    rw [hi]
    rintro e w' ⟨rfl, rfl⟩
    go_wp2
    go_ret
    exact toEnd_of (by decide) (two_new _ _ _)
  · have HT : Hid (toN s 6 = -1) := by
      show toN s 6 = -1
      unfold toN
      rw [if_neg (by omega), if_neg (by omega), if_neg (by omega), if_neg (by omega), if_neg (by omega), if_neg (by omega), if_neg (by omega), if_neg (by omega)]
    have hb : ((2 : Int) == s) = false := by rw [beq_eq_false_iff_ne]; omega
    have hb2 : ¬ (2 : Int) = s := by omega
    go_enter Tryd.func33, Tryd.ntmps33
    go_wp2_with fail
    refine (Tick.in_any _ _ _ _).mono ?_
    rw [hi]
    rintro e w' ⟨rfl, rfl⟩
    go_wp2
    go_ret
    exact toEnd_of HT.out (two_new _ _ _)

set_option maxHeartbeats 800000 in
theorem to_7 (s : Int) (w : World) : Calls Tryd.prog 33 #[.int .i64 s, .int .i64 7] w (ToEnd s 7 w) := by
  have hi : Tick.inB 7 0 6 = false := by decide
  by_cases hs : s = 4
  · subst hs
    go_enter Tryd.func33, Tryd.ntmps33
    go_wp2_with fail
    refine (Tick.in_any _ _ _ _).mono ?_
    rw [hi]
    rintro e w' ⟨rfl, rfl⟩
    go_wp2
    go_ret
    exact toEnd_of (by decide) (two_new _ _ _)
  · have HT : Hid (toN s 7 = 4) := if_pos ⟨rfl, hs⟩
    go_enter Tryd.func33, Tryd.ntmps33
    go_wp2
    go_ret
    exact toEnd_of HT.out (two_new _ _ _)

set_option maxHeartbeats 800000 in
theorem to_far (s e : Int) (w : World) (h : e < 0 ∨ 7 < e) : Calls Tryd.prog 33 #[.int .i64 s, .int .i64 e] w (ToEnd s e w) := by
  have HT := Lib.hid (toN_other (s := s) h)
  have hi : Tick.inB e 0 6 = false := Tick.inB_false (by omega)
  have h7 : (e == 7) = false := by rw [beq_eq_false_iff_ne]; omega
  have h7b : ¬ e = 7 := by omega
  clear h
  go_enter Tryd.func33, Tryd.ntmps33
  go_wp2_with fail
  refine (Tick.in_any _ _ _ _).mono ?_
  rw [hi]
  rintro e w' ⟨rfl, rfl⟩
  go_wp2
  go_ret
  exact toEnd_of HT.out (two_new _ _ _)

theorem to_any (s e : Int) (w : World) : Calls Tryd.prog 33 #[.int .i64 s, .int .i64 e] w (ToEnd s e w) := by
  by_cases h : e < 0 ∨ 7 < e
  · exact to_far s e w h
  · have hc : e = 0 ∨ e = 1 ∨ e = 2 ∨ e = 3 ∨ e = 4 ∨ e = 5 ∨ e = 6 ∨ e = 7 := by omega
    rcases hc with rfl | rfl | rfl | rfl | rfl | rfl | rfl | rfl
    · exact to_0 s w
    · exact to_1 s w
    · exact to_2 s w
    · exact to_3 s w
    · exact to_4 s w
    · exact to_5 s w
    · exact to_6 s w
    · exact to_7 s w
end Go.Proofs.YtbmfleakldhabaaDoor.Kn
