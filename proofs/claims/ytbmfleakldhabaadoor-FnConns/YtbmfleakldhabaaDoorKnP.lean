/- Plain facts on plays and deadlines: a play keeps a connection valid; what is due at the first tick and not one before. -/
import Derived.Test.YtbmfleakldhabaaDoorKnI
import Derived.Test.YtbmfleakldhabaaDoorKnE
import Derived.Test.YtbmfleakldhabaaDoorCfg4
namespace Go.Proofs.YtbmfleakldhabaaDoor.Kn
open Go.RowKit Base Tick Cf

theorem to_cases {s e : Int} (h : 0 ≤ toN s e) : (e = 2 ∧ toN s e = 3) ∨ (e ≠ 2 ∧ (toN s e = 1 ∨ toN s e = 2 ∨ toN s e = 4)) := by
  have key : ∀ v, toN s e = v → 0 ≤ v → (e = 2 ∧ v = 3) ∨ (e ≠ 2 ∧ (v = 1 ∨ v = 2 ∨ v = 4)) := by
    intro v hv h0
    unfold toN at hv
    repeat' (split at hv)
    all_goals omega
  exact key _ rfl h
theorem to_closed (e : Int) : toN 4 e = -1 := by
  unfold toN
  rw [if_neg (by omega), if_neg (by omega), if_neg (by omega), if_neg (by omega), if_neg (by omega), if_neg (by omega), if_neg (by omega), if_neg (by omega)]

theorem can_closed {k : Nat → Int} {t : Bool} {e now n : Int} (h : k 1 = 4) : canS k t e now n = false := by
  unfold canS
  rw [h, to_closed]
  simp

theorem ok_iff (k : Nat → Int) (t : Bool) : okN k t = true ↔ ((1 ≤ k 0 ∧ k 0 ≤ 1000000000) ∧ (0 ≤ k 1 ∧ k 1 ≤ 4) ∧ (0 ≤ k 3 ∧ k 3 ≤ 1000000000) ∧ (0 ≤ k 2 ∧ k 2 ≤ k 3) ∧ (k 1 = 0 → k 2 = 0) ∧ ((k 1 = 3 ∧ 1 ≤ k 4 ∧ k 4 ≤ 1000000000) ∨ (k 1 ≠ 3 ∧ k 4 = 0 ∧ t = false))) := by
  unfold okN
  simp only [Bool.and_eq_true, inB_iff, isT_iff, Bool.or_eq_true, Bool.not_eq_true', beq_iff_eq, beq_eq_false_iff_ne]
  constructor
  · rintro ⟨⟨⟨⟨⟨h0, h1⟩, h2⟩, h3⟩, h4⟩, h5⟩
    refine ⟨h0, h1, h2, h3, fun e => ?_, ?_⟩
    · rcases h4 with h4 | h4
      · exact absurd e h4
      · exact h4
    · by_cases e : k 1 = 3
      · rw [if_pos e] at h5
        exact .inl ⟨e, inB_iff.1 h5⟩
      · rw [if_neg e] at h5
        simp only [Bool.and_eq_true, beq_iff_eq, Bool.not_eq_true'] at h5
        exact .inr ⟨e, h5⟩
  · rintro ⟨h0, h1, h2, h3, h4, h5⟩
    refine ⟨⟨⟨⟨⟨h0, h1⟩, h2⟩, h3⟩, ?_⟩, ?_⟩
    · by_cases e : k 1 = 0
      · exact .inr (h4 e)
      · exact .inl e
    · rcases h5 with ⟨e, h5⟩ | ⟨e, h5⟩
      · rw [if_pos e]
        exact inB_iff.2 h5
      · rw [if_neg e]
        simp [h5]

theorem st_ok {k : Nat → Int} {t : Bool} {e now n : Int} (h : canS k t e now n = true) : okN (stK k e now n) false = true := by
  unfold canS at h
  simp only [Bool.and_eq_true, inB_iff, decide_eq_true_eq, Bool.or_eq_true, Bool.not_eq_true', beq_eq_false_iff_ne] at h
  obtain ⟨⟨⟨h0, h1⟩, h2⟩, h3⟩ := h
  obtain ⟨q0, q1, q2, q3, q4, q5⟩ := (ok_iff k t).1 h0
  have hc := to_cases h2
  rw [ok_iff]
  show (1 ≤ k 0 ∧ k 0 ≤ 1000000000) ∧ (0 ≤ toN (k 1) e ∧ toN (k 1) e ≤ 4) ∧ (0 ≤ now ∧ now ≤ 1000000000) ∧ (0 ≤ (if e = 0 then now else k 2) ∧ (if e = 0 then now else k 2) ≤ now) ∧ (toN (k 1) e = 0 → (if e = 0 then now else k 2) = 0) ∧ ((toN (k 1) e = 3 ∧ 1 ≤ (if e = 2 then n else 0) ∧ (if e = 2 then n else 0) ≤ 1000000000) ∨ (toN (k 1) e ≠ 3 ∧ (if e = 2 then n else 0) = 0 ∧ false = false))
  refine ⟨q0, by omega, by omega, ?_, by omega, ?_⟩
  · split <;> omega
  · rcases hc with ⟨e1, e2⟩ | ⟨e1, e2⟩
    · rw [if_pos e1]
      refine .inl ⟨e2, ?_⟩
      rcases h3 with h3 | h3
      · exact absurd e1 h3
      · exact h3
    · rw [if_neg e1]
      exact .inr ⟨by omega, rfl, rfl⟩

theorem plS_ok (id : Int) (zss : List (List Int)) (h : newB id 0 = true) : ∀ j, okN (plS id zss j).1 (plS id zss j).2 = true ∧ (plS id zss j).2 = false
  | 0 => by
    refine ⟨?_, rfl⟩
    obtain ⟨e0, e1, e2, e3, e4⟩ := new_yes h
    unfold newB at h
    rw [Bool.and_eq_true, inB_iff] at h
    rw [ok_iff]
    show (1 ≤ newN id 0 0 ∧ newN id 0 0 ≤ 1000000000) ∧ (0 ≤ newN id 0 1 ∧ newN id 0 1 ≤ 4) ∧ (0 ≤ newN id 0 3 ∧ newN id 0 3 ≤ 1000000000) ∧ (0 ≤ newN id 0 2 ∧ newN id 0 2 ≤ newN id 0 3) ∧ (newN id 0 1 = 0 → newN id 0 2 = 0) ∧ ((newN id 0 1 = 3 ∧ 1 ≤ newN id 0 4 ∧ newN id 0 4 ≤ 1000000000) ∨ (newN id 0 1 ≠ 3 ∧ newN id 0 4 = 0 ∧ false = false))
    rw [e0, e1, e2, e3, e4]
    exact ⟨h.1, by omega, by omega, by omega, by omega, .inr ⟨by omega, rfl, rfl⟩⟩
  | j + 1 => by
    obtain ⟨h1, h2⟩ := plS_ok id zss h j
    simp only [plS, plC]
    split
    · unfold stR stT
      split
      · next hc => exact ⟨st_ok hc, rfl⟩
      · exact ⟨h1, h2⟩
    · exact ⟨h1, h2⟩

theorem fin_ok {id : Int} {zss : List (List Int)} (h : goP id zss = true) : okN (finP id zss).1 (finP id zss).2 = true ∧ (finP id zss).2 = false := by
  unfold finP
  rw [if_pos h]
  unfold goP at h
  simp only [Bool.and_eq_true] at h
  exact plS_ok id zss h.1 _

theorem add_span {f s : Int} (h : isT f = true) (h0 : 0 < s) (h1 : s ≤ 1000) : 0 ≤ addT f s ∧ addT f s ≤ 1000000000 := by
  rw [addT_ok h (inB_true (by omega) (by omega))]
  exact lim_bd _

theorem due_tick {f s n : Int} (h : isT f = true) (h0 : 0 < s) (h1 : s ≤ 1000) (hn : isT n = true) : dueT f s n = decide (addT f s ≤ n) := by
  unfold dueT
  rw [h, hn, isT_true (by omega) (by omega), decide_eq_true h0]
  rfl

theorem okC_dflt : okC dflt = true := by decide

/-- At the first tick something is due, one before nothing. -/
theorem due_facts (k : Nat → Int) (h : okN k false = true) :
    (nextL (dlL dflt k false) < 0 ∧ k 1 ≠ 1 ∧ k 1 ≠ 3) ∨ (0 ≤ nextL (dlL dflt k false) ∧ nextL (dlL dflt k false) ≤ 1000000000 ∧ dueL (nextL (dlL dflt k false)) (dlL dflt k false) ≠ 0 ∧ (1 ≤ nextL (dlL dflt k false) → dueL (nextL (dlL dflt k false) - 1) (dlL dflt k false) = 0)) := by
  obtain ⟨_, _, q2, q3, _, _⟩ := (ok_iff k false).1 h
  have t2 : isT (k 2) = true := isT_true (by omega) (by omega)
  have t3 : isT (k 3) = true := isT_true (by omega) (by omega)
  by_cases e1 : k 1 = 1
  · have hl : dlL dflt k false = [(1, k 2, 1000), (2, k 3, 100), (3, k 3, 40)] := by unfold dlL; rw [if_pos (by rw [okC_dflt, h]; rfl), if_pos e1]; rfl
    rw [hl]
    have b0 := add_span t2 (s := 1000) (by decide) (by decide)
    have b1 := add_span t3 (s := 100) (by decide) (by decide)
    have b2 := add_span t3 (s := 40) (by decide) (by decide)
    have d0 := fun n hn => due_tick t2 (s := 1000) (n := n) (by decide) (by decide) hn
    have d1 := fun n hn => due_tick t3 (s := 100) (n := n) (by decide) (by decide) hn
    have d2 := fun n hn => due_tick t3 (s := 40) (n := n) (by decide) (by decide) hn
    have hm : nextL [(1, k 2, 1000), (2, k 3, 100), (3, k 3, 40)] = soonT [addT (k 2) 1000, addT (k 3) 100, addT (k 3) 40] := rfl
    rw [hm]
    generalize addT (k 2) 1000 = x at *
    generalize addT (k 3) 100 = y at *
    generalize addT (k 3) 40 = z at *
    obtain ⟨m, hmm⟩ : ∃ m, soonT [x, y, z] = m := ⟨_, rfl⟩
    have hs : (m = x ∨ m = y ∨ m = z) ∧ m ≤ x ∧ m ≤ y ∧ m ≤ z := by
      have g1 : stepS (-1) x = x := if_pos ⟨isT_true b0.1 b0.2, .inl (by decide)⟩
      have hm2 : stepS (stepS (stepS (-1) x) y) z = m := hmm
      rw [g1] at hm2
      unfold stepS at hm2
      rw [isT_true b1.1 b1.2, isT_true b2.1 b2.2] at hm2
      simp only [true_and] at hm2
      repeat' (split at hm2)
      all_goals omega
    rw [hmm]
    have hmt : isT m = true := isT_true (by omega) (by omega)
    refine .inr ⟨by omega, by omega, ?_, fun hm1 => ?_⟩
    · simp only [dueL, d0 m hmt, d1 m hmt, d2 m hmt, decide_eq_true_eq]
      repeat' split
      all_goals omega
    · have hmt1 : isT (m - 1) = true := isT_true (by omega) (by omega)
      simp only [dueL, d0 _ hmt1, d1 _ hmt1, d2 _ hmt1, decide_eq_true_eq]
      rw [if_neg (by omega), if_neg (by omega), if_neg (by omega)]
  · by_cases e3 : k 1 = 3
    · have hl : dlL dflt k false = [(4, k 3, 200)] := by unfold dlL; rw [if_pos (by rw [okC_dflt, h]; rfl), if_neg e1, if_pos ⟨e3, rfl⟩]; rfl
      rw [hl]
      have b1 := add_span t3 (s := 200) (by decide) (by decide)
      have d1 := fun n hn => due_tick t3 (s := 200) (n := n) (by decide) (by decide) hn
      have hm : nextL [(4, k 3, 200)] = soonT [addT (k 3) 200] := rfl
      rw [hm]
      generalize addT (k 3) 200 = x at *
      have g1 : soonT [x] = x := if_pos ⟨isT_true b1.1 b1.2, .inl (by decide)⟩
      rw [g1]
      have hmt : isT x = true := isT_true b1.1 b1.2
      refine .inr ⟨by omega, by omega, ?_, fun hm1 => ?_⟩
      · simp only [dueL, d1 x hmt, decide_eq_true_eq]
        rw [if_pos (by omega)]
        decide
      · have hmt1 : isT (x - 1) = true := isT_true (by omega) (by omega)
        simp only [dueL, d1 _ hmt1, decide_eq_true_eq]
        rw [if_neg (by omega)]
    · have hl : dlL dflt k false = [] := by unfold dlL; rw [if_pos (by rw [okC_dflt, h]; rfl), if_neg e1, if_neg (fun q => e3 q.1)]
      rw [hl]
      exact .inl ⟨by decide, e1, e3⟩
end Go.Proofs.YtbmfleakldhabaaDoor.Kn
