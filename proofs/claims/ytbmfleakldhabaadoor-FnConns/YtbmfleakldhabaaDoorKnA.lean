/- The program's take, whole: it changes the connection where the event may happen, and panics where it may not. -/
import Derived.Test.YtbmfleakldhabaaDoorKn9
namespace Go.Proofs.YtbmfleakldhabaaDoor.Kn
open Go.RowKit Go.Deep Base Tick Rw

theorem ok_three {k : Nat → Int} {t : Bool} (h : okN k t = true) : 0 ≤ k 3 ∧ k 3 ≤ 1000000000 := by
  rw [okN_parts] at h
  unfold timesB at h
  simp only [Bool.and_eq_true, isT_iff] at h
  omega

/-- How take ends. -/
def TakeEnd (b : Nat) (k : Nat → Int) (t : Bool) (e now n : Int) (p : Addr) (w : World) (r : Ending) (w' : World) : Prop :=
  (canS k t e now n = true ∧ r = .returned (.tuple #[]) ∧ SC b (k 0) (toN (k 1) e) (if e = 0 then now else k 2) now (if e = 2 then n else 0) false now n w' ∧ Turns b (b + 1) w w') ∨ (canS k t e now n = false ∧ r = refused p ∧ Turns b (b + 1) w w')

theorem take_0 (b : Nat) (k : Nat → Int) (t : Bool) (now n : Int) (p : Addr) (w : World) (h : SC b (k 0) (k 1) (k 2) (k 3) (k 4) t now n w) (he : Er p w) (h0 : okN k t = true) (h1 : isT now = true) (h2 : k 3 ≤ now) (hi : inB now (k 3) 1000000000 = true) :
    Calls Tryd.prog 53 #[.pointer (some ⟨b, 0, none⟩), .int .i64 0] w (TakeEnd b k t 0 now n p w) := by
  by_cases hk : k 1 = 0
  · have hto : toN (k 1) 0 = 1 := by rw [hk]; decide
    have hc : canS k t 0 now n = true := by unfold canS; rw [h0, hi, hto]; rfl
    refine (take_pass b k t 0 72 now n p w h he h0 h1 h2 (by decide) (in_open b) rfl (.returned (.tuple #[])) (.inl rfl)
      (fun w' => SC b (k 0) 1 now now 0 false now n w' ∧ Turns b (b + 1) w w') (fun V hB hS _ => (open_yes b (k 0) (k 2) (k 3) (k 4) t now n V (hk ▸ hS)).mono ?_)).mono ?_
    · rintro r w' ⟨q1, q2, q3⟩
      exact ⟨q1, q2, (Turns.of_below hB).trans q3⟩
    · rintro r w' ⟨q1, q2, q3⟩
      exact .inl ⟨hc, q1, by rw [hto]; exact q2, q3⟩
  · have hto : toN (k 1) 0 = -1 := by simp [toN, hk]
    have hc : canS k t 0 now n = false := by unfold canS; rw [h0, hi, hto]; rfl
    refine (take_pass b k t 0 72 now n p w h he h0 h1 h2 (by decide) (in_open b) rfl (refused p) (.inr rfl)
      (fun w' => Turns b (b + 1) w w') (fun V hB hS hE => (open_no b (k 0) (k 1) (k 2) (k 3) (k 4) t now n p V hS hE hk).mono ?_)).mono ?_
    · rintro r w' ⟨q1, rfl⟩
      exact ⟨q1, Turns.of_below hB⟩
    · rintro r w' ⟨q1, q2⟩
      exact .inr ⟨hc, q1, q2⟩

theorem take_1 (b : Nat) (k : Nat → Int) (t : Bool) (now n : Int) (p : Addr) (w : World) (h : SC b (k 0) (k 1) (k 2) (k 3) (k 4) t now n w) (he : Er p w) (h0 : okN k t = true) (h1 : isT now = true) (h2 : k 3 ≤ now) (hi : inB now (k 3) 1000000000 = true) :
    Calls Tryd.prog 53 #[.pointer (some ⟨b, 0, none⟩), .int .i64 1] w (TakeEnd b k t 1 now n p w) := by
  by_cases hk : k 1 = 0
  · have hto : toN (k 1) 1 = 4 := by rw [hk]; decide
    have hc : canS k t 1 now n = true := by unfold canS; rw [h0, hi, hto]; rfl
    refine (take_pass b k t 1 73 now n p w h he h0 h1 h2 (by decide) (in_fail b) rfl (.returned (.tuple #[])) (.inl rfl)
      (fun w' => SC b (k 0) 4 (k 2) now 0 false now n w' ∧ Turns b (b + 1) w w') (fun V hB hS _ => (fail_yes b (k 0) (k 2) (k 3) (k 4) t now n V (hk ▸ hS)).mono ?_)).mono ?_
    · rintro r w' ⟨q1, q2, q3⟩
      exact ⟨q1, q2, (Turns.of_below hB).trans q3⟩
    · rintro r w' ⟨q1, q2, q3⟩
      exact .inl ⟨hc, q1, by rw [hto]; exact q2, q3⟩
  · have hto : toN (k 1) 1 = -1 := by simp [toN, hk]
    have hc : canS k t 1 now n = false := by unfold canS; rw [h0, hi, hto]; rfl
    refine (take_pass b k t 1 73 now n p w h he h0 h1 h2 (by decide) (in_fail b) rfl (refused p) (.inr rfl)
      (fun w' => Turns b (b + 1) w w') (fun V hB hS hE => (fail_no b (k 0) (k 1) (k 2) (k 3) (k 4) t now n p V hS hE hk).mono ?_)).mono ?_
    · rintro r w' ⟨q1, rfl⟩
      exact ⟨q1, Turns.of_below hB⟩
    · rintro r w' ⟨q1, q2⟩
      exact .inr ⟨hc, q1, q2⟩

theorem take_2 (b : Nat) (k : Nat → Int) (t : Bool) (now n : Int) (p : Addr) (w : World) (h : SC b (k 0) (k 1) (k 2) (k 3) (k 4) t now n w) (he : Er p w) (h0 : okN k t = true) (h1 : isT now = true) (h2 : k 3 ≤ now) (hi : inB now (k 3) 1000000000 = true) :
    Calls Tryd.prog 53 #[.pointer (some ⟨b, 0, none⟩), .int .i64 2] w (TakeEnd b k t 2 now n p w) := by
  cases hn : inB n 1 1000000000
  · have hc : canS k t 2 now n = false := by unfold canS; rw [h0, hi, hn]; simp
    refine (take_pass b k t 2 74 now n p w h he h0 h1 h2 (by decide) (in_lend b) rfl (refused p) (.inr rfl)
      (fun w' => Turns b (b + 1) w w') (fun V hB hS hE => (lend_no1 b (k 0) (k 1) (k 2) (k 3) (k 4) t now n p V hS hE hn).mono ?_)).mono ?_
    · rintro r w' ⟨q1, rfl⟩
      exact ⟨q1, Turns.of_below hB⟩
    · rintro r w' ⟨q1, q2⟩
      exact .inr ⟨hc, q1, q2⟩
  by_cases hk : k 1 = 1
  · have hto : toN (k 1) 2 = 3 := by rw [hk]; decide
    have hc : canS k t 2 now n = true := by unfold canS; rw [h0, hi, hto, hn]; rfl
    refine (take_pass b k t 2 74 now n p w h he h0 h1 h2 (by decide) (in_lend b) rfl (.returned (.tuple #[])) (.inl rfl)
      (fun w' => SC b (k 0) 3 (k 2) now n false now n w' ∧ Turns b (b + 1) w w') (fun V hB hS _ => (lend_yes b (k 0) (k 2) (k 3) (k 4) t now n V (hk ▸ hS) hn).mono ?_)).mono ?_
    · rintro r w' ⟨q1, q2, q3⟩
      exact ⟨q1, q2, (Turns.of_below hB).trans q3⟩
    · rintro r w' ⟨q1, q2, q3⟩
      exact .inl ⟨hc, q1, by rw [hto]; exact q2, q3⟩
  · have hto : toN (k 1) 2 = -1 := by simp [toN, hk]
    have hc : canS k t 2 now n = false := by unfold canS; rw [h0, hi, hto]; rfl
    refine (take_pass b k t 2 74 now n p w h he h0 h1 h2 (by decide) (in_lend b) rfl (refused p) (.inr rfl)
      (fun w' => Turns b (b + 1) w w') (fun V hB hS hE => (lend_no2 b (k 0) (k 1) (k 2) (k 3) (k 4) t now n p V hS hE hn hk).mono ?_)).mono ?_
    · rintro r w' ⟨q1, rfl⟩
      exact ⟨q1, Turns.of_below hB⟩
    · rintro r w' ⟨q1, q2⟩
      exact .inr ⟨hc, q1, q2⟩

theorem take_3 (b : Nat) (k : Nat → Int) (t : Bool) (now n : Int) (p : Addr) (w : World) (h : SC b (k 0) (k 1) (k 2) (k 3) (k 4) t now n w) (he : Er p w) (h0 : okN k t = true) (h1 : isT now = true) (h2 : k 3 ≤ now) (hi : inB now (k 3) 1000000000 = true) :
    Calls Tryd.prog 53 #[.pointer (some ⟨b, 0, none⟩), .int .i64 3] w (TakeEnd b k t 3 now n p w) := by
  by_cases hk : k 1 = 3
  · have hto : toN (k 1) 3 = 1 := by rw [hk]; decide
    have hc : canS k t 3 now n = true := by unfold canS; rw [h0, hi, hto]; rfl
    refine (take_pass b k t 3 75 now n p w h he h0 h1 h2 (by decide) (in_takeBack b) rfl (.returned (.tuple #[])) (.inl rfl)
      (fun w' => SC b (k 0) 1 (k 2) now 0 false now n w' ∧ Turns b (b + 1) w w') (fun V hB hS _ => (takeBack_yes b (k 0) (k 2) (k 3) (k 4) t now n V (hk ▸ hS)).mono ?_)).mono ?_
    · rintro r w' ⟨q1, q2, q3⟩
      exact ⟨q1, q2, (Turns.of_below hB).trans q3⟩
    · rintro r w' ⟨q1, q2, q3⟩
      exact .inl ⟨hc, q1, by rw [hto]; exact q2, q3⟩
  · have hto : toN (k 1) 3 = -1 := by simp [toN, hk]
    have hc : canS k t 3 now n = false := by unfold canS; rw [h0, hi, hto]; rfl
    refine (take_pass b k t 3 75 now n p w h he h0 h1 h2 (by decide) (in_takeBack b) rfl (refused p) (.inr rfl)
      (fun w' => Turns b (b + 1) w w') (fun V hB hS hE => (takeBack_no b (k 0) (k 1) (k 2) (k 3) (k 4) t now n p V hS hE hk).mono ?_)).mono ?_
    · rintro r w' ⟨q1, rfl⟩
      exact ⟨q1, Turns.of_below hB⟩
    · rintro r w' ⟨q1, q2⟩
      exact .inr ⟨hc, q1, q2⟩

theorem take_4 (b : Nat) (k : Nat → Int) (t : Bool) (now n : Int) (p : Addr) (w : World) (h : SC b (k 0) (k 1) (k 2) (k 3) (k 4) t now n w) (he : Er p w) (h0 : okN k t = true) (h1 : isT now = true) (h2 : k 3 ≤ now) (hi : inB now (k 3) 1000000000 = true) :
    Calls Tryd.prog 53 #[.pointer (some ⟨b, 0, none⟩), .int .i64 4] w (TakeEnd b k t 4 now n p w) := by
  by_cases hk : k 1 = 1
  · have hto : toN (k 1) 4 = 2 := by rw [hk]; decide
    have hc : canS k t 4 now n = true := by unfold canS; rw [h0, hi, hto]; rfl
    refine (take_pass b k t 4 76 now n p w h he h0 h1 h2 (by decide) (in_probe b) rfl (.returned (.tuple #[])) (.inl rfl)
      (fun w' => SC b (k 0) 2 (k 2) now 0 false now n w' ∧ Turns b (b + 1) w w') (fun V hB hS _ => (probe_yes b (k 0) (k 2) (k 3) (k 4) t now n V (hk ▸ hS)).mono ?_)).mono ?_
    · rintro r w' ⟨q1, q2, q3⟩
      exact ⟨q1, q2, (Turns.of_below hB).trans q3⟩
    · rintro r w' ⟨q1, q2, q3⟩
      exact .inl ⟨hc, q1, by rw [hto]; exact q2, q3⟩
  · have hto : toN (k 1) 4 = -1 := by simp [toN, hk]
    have hc : canS k t 4 now n = false := by unfold canS; rw [h0, hi, hto]; rfl
    refine (take_pass b k t 4 76 now n p w h he h0 h1 h2 (by decide) (in_probe b) rfl (refused p) (.inr rfl)
      (fun w' => Turns b (b + 1) w w') (fun V hB hS hE => (probe_no b (k 0) (k 1) (k 2) (k 3) (k 4) t now n p V hS hE hk).mono ?_)).mono ?_
    · rintro r w' ⟨q1, rfl⟩
      exact ⟨q1, Turns.of_below hB⟩
    · rintro r w' ⟨q1, q2⟩
      exact .inr ⟨hc, q1, q2⟩

theorem take_5 (b : Nat) (k : Nat → Int) (t : Bool) (now n : Int) (p : Addr) (w : World) (h : SC b (k 0) (k 1) (k 2) (k 3) (k 4) t now n w) (he : Er p w) (h0 : okN k t = true) (h1 : isT now = true) (h2 : k 3 ≤ now) (hi : inB now (k 3) 1000000000 = true) :
    Calls Tryd.prog 53 #[.pointer (some ⟨b, 0, none⟩), .int .i64 5] w (TakeEnd b k t 5 now n p w) := by
  by_cases hk : k 1 = 2
  · have hto : toN (k 1) 5 = 1 := by rw [hk]; decide
    have hc : canS k t 5 now n = true := by unfold canS; rw [h0, hi, hto]; rfl
    refine (take_pass b k t 5 77 now n p w h he h0 h1 h2 (by decide) (in_answer b) rfl (.returned (.tuple #[])) (.inl rfl)
      (fun w' => SC b (k 0) 1 (k 2) now 0 false now n w' ∧ Turns b (b + 1) w w') (fun V hB hS _ => (answer_yes b (k 0) (k 2) (k 3) (k 4) t now n V (hk ▸ hS)).mono ?_)).mono ?_
    · rintro r w' ⟨q1, q2, q3⟩
      exact ⟨q1, q2, (Turns.of_below hB).trans q3⟩
    · rintro r w' ⟨q1, q2, q3⟩
      exact .inl ⟨hc, q1, by rw [hto]; exact q2, q3⟩
  · have hto : toN (k 1) 5 = -1 := by simp [toN, hk]
    have hc : canS k t 5 now n = false := by unfold canS; rw [h0, hi, hto]; rfl
    refine (take_pass b k t 5 77 now n p w h he h0 h1 h2 (by decide) (in_answer b) rfl (refused p) (.inr rfl)
      (fun w' => Turns b (b + 1) w w') (fun V hB hS hE => (answer_no b (k 0) (k 1) (k 2) (k 3) (k 4) t now n p V hS hE hk).mono ?_)).mono ?_
    · rintro r w' ⟨q1, rfl⟩
      exact ⟨q1, Turns.of_below hB⟩
    · rintro r w' ⟨q1, q2⟩
      exact .inr ⟨hc, q1, q2⟩

theorem take_6 (b : Nat) (k : Nat → Int) (t : Bool) (now n : Int) (p : Addr) (w : World) (h : SC b (k 0) (k 1) (k 2) (k 3) (k 4) t now n w) (he : Er p w) (h0 : okN k t = true) (h1 : isT now = true) (h2 : k 3 ≤ now) (hi : inB now (k 3) 1000000000 = true) :
    Calls Tryd.prog 53 #[.pointer (some ⟨b, 0, none⟩), .int .i64 6] w (TakeEnd b k t 6 now n p w) := by
  by_cases hk : k 1 = 2
  · have hto : toN (k 1) 6 = 4 := by rw [hk]; decide
    have hc : canS k t 6 now n = true := by unfold canS; rw [h0, hi, hto]; rfl
    refine (take_pass b k t 6 78 now n p w h he h0 h1 h2 (by decide) (in_giveUp b) rfl (.returned (.tuple #[])) (.inl rfl)
      (fun w' => SC b (k 0) 4 (k 2) now 0 false now n w' ∧ Turns b (b + 1) w w') (fun V hB hS _ => (giveUp_yes b (k 0) (k 2) (k 3) (k 4) t now n V (hk ▸ hS)).mono ?_)).mono ?_
    · rintro r w' ⟨q1, q2, q3⟩
      exact ⟨q1, q2, (Turns.of_below hB).trans q3⟩
    · rintro r w' ⟨q1, q2, q3⟩
      exact .inl ⟨hc, q1, by rw [hto]; exact q2, q3⟩
  · have hto : toN (k 1) 6 = -1 := by simp [toN, hk]
    have hc : canS k t 6 now n = false := by unfold canS; rw [h0, hi, hto]; rfl
    refine (take_pass b k t 6 78 now n p w h he h0 h1 h2 (by decide) (in_giveUp b) rfl (refused p) (.inr rfl)
      (fun w' => Turns b (b + 1) w w') (fun V hB hS hE => (giveUp_no b (k 0) (k 1) (k 2) (k 3) (k 4) t now n p V hS hE hk).mono ?_)).mono ?_
    · rintro r w' ⟨q1, rfl⟩
      exact ⟨q1, Turns.of_below hB⟩
    · rintro r w' ⟨q1, q2⟩
      exact .inr ⟨hc, q1, q2⟩

theorem take_7 (b : Nat) (k : Nat → Int) (t : Bool) (now n : Int) (p : Addr) (w : World) (h : SC b (k 0) (k 1) (k 2) (k 3) (k 4) t now n w) (he : Er p w) (h0 : okN k t = true) (h1 : isT now = true) (h2 : k 3 ≤ now) (hi : inB now (k 3) 1000000000 = true) :
    Calls Tryd.prog 53 #[.pointer (some ⟨b, 0, none⟩), .int .i64 7] w (TakeEnd b k t 7 now n p w) := by
  by_cases hk : k 1 = 4
  · have hto : toN (k 1) 7 = -1 := by rw [hk]; decide
    have hc : canS k t 7 now n = false := by unfold canS; rw [h0, hi, hto]; rfl
    refine (take_pass b k t 7 79 now n p w h he h0 h1 h2 (by decide) (in_shut b) rfl (refused p) (.inr rfl)
      (fun w' => Turns b (b + 1) w w') (fun V hB hS hE => (shut_no b (k 0) (k 2) (k 3) (k 4) t now n p V (hk ▸ hS) hE).mono ?_)).mono ?_
    · rintro r w' ⟨q1, rfl⟩
      exact ⟨q1, Turns.of_below hB⟩
    · rintro r w' ⟨q1, q2⟩
      exact .inr ⟨hc, q1, q2⟩
  · have hto : toN (k 1) 7 = 4 := if_pos ⟨rfl, hk⟩
    have hc : canS k t 7 now n = true := by unfold canS; rw [h0, hi, hto]; rfl
    refine (take_pass b k t 7 79 now n p w h he h0 h1 h2 (by decide) (in_shut b) rfl (.returned (.tuple #[])) (.inl rfl)
      (fun w' => SC b (k 0) 4 (k 2) now 0 false now n w' ∧ Turns b (b + 1) w w') (fun V hB hS _ => (shut_yes b (k 0) (k 1) (k 2) (k 3) (k 4) t now n V hS hk).mono ?_)).mono ?_
    · rintro r w' ⟨q1, q2, q3⟩
      exact ⟨q1, q2, (Turns.of_below hB).trans q3⟩
    · rintro r w' ⟨q1, q2, q3⟩
      exact .inl ⟨hc, q1, by rw [hto]; exact q2, q3⟩

theorem take_any (b : Nat) (k : Nat → Int) (t : Bool) (e now n : Int) (p : Addr) (w : World) (h : SC b (k 0) (k 1) (k 2) (k 3) (k 4) t now n w) (he : Er p w) :
    Calls Tryd.prog 53 #[.pointer (some ⟨b, 0, none⟩), .int .i64 e] w (TakeEnd b k t e now n p w) := by
  cases h0 : okN k t
  · have hc : canS k t e now n = false := by unfold canS; rw [h0]; rfl
    exact (take_no0 b k t e now n p w h he h0).mono fun r w' q => .inr ⟨hc, q⟩
  have h3 := ok_three h0
  cases h1 : isT now
  · have hi : inB now (k 3) 1000000000 = false := by
      refine inB_false ?_
      have : ¬ isT now = true := by rw [h1]; decide
      rw [isT_iff] at this
      omega
    have hc : canS k t e now n = false := by unfold canS; rw [h0, hi]; rfl
    exact (take_no1 b k t e now n p w h he h0 h1).mono fun r w' q => .inr ⟨hc, q⟩
  by_cases h2 : k 3 ≤ now
  · have hi : inB now (k 3) 1000000000 = true := inB_true h2 (isT_iff.1 h1).2
    cases h4 : inB e 0 7
    · have hto : toN (k 1) e = -1 := by
        refine toN_other ?_
        have : ¬ inB e 0 7 = true := by rw [h4]; decide
        rw [inB_iff] at this
        omega
      have hc : canS k t e now n = false := by unfold canS; rw [h0, hi, hto]; rfl
      exact (take_no3 b k t e now n p w h he h0 h1 h2 h4).mono fun r w' q => .inr ⟨hc, q⟩
    · have h5 := inB_iff.1 h4
      have h6 : e = 0 ∨ e = 1 ∨ e = 2 ∨ e = 3 ∨ e = 4 ∨ e = 5 ∨ e = 6 ∨ e = 7 := by omega
      rcases h6 with rfl | rfl | rfl | rfl | rfl | rfl | rfl | rfl
      · exact take_0 b k t now n p w h he h0 h1 h2 hi
      · exact take_1 b k t now n p w h he h0 h1 h2 hi
      · exact take_2 b k t now n p w h he h0 h1 h2 hi
      · exact take_3 b k t now n p w h he h0 h1 h2 hi
      · exact take_4 b k t now n p w h he h0 h1 h2 hi
      · exact take_5 b k t now n p w h he h0 h1 h2 hi
      · exact take_6 b k t now n p w h he h0 h1 h2 hi
      · exact take_7 b k t now n p w h he h0 h1 h2 hi
  · have hi : inB now (k 3) 1000000000 = false := inB_false (.inl (by omega))
    have hc : canS k t e now n = false := by unfold canS; rw [h0, hi]; rfl
    exact (take_no2 b k t e now n p w h he h0 h1 h2).mono fun r w' q => .inr ⟨hc, q⟩
end Go.Proofs.YtbmfleakldhabaaDoor.Kn
