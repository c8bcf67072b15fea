/- What is played stays a valid heap; what is popped comes in order. Plain mathematics. -/
import Derived.Test.YtpjelojmkmednaaLhE
namespace Go.Proofs.Ytpjelojmkmednaa.Hp
open Go.RowKit Go.Deep Base

/-- In order but for the item at k, which may have to go up. -/
structure UH (ds : List Du) (k : Nat) : Prop where
  far : ∀ i, 0 < i → i < ds.length → i ≠ k → before (ds.getD i zDu) (ds.getD (par i) zDu) = false
  near : 0 < k → ∀ i, 0 < i → i < ds.length → par i = k → before (ds.getD i zDu) (ds.getD (par k) zDu) = false

theorem up_heap : ∀ (F : Nat) (ds : List Du) (k : Nat), k < ds.length → k ≤ F → UH ds k → HP (upD F ds k)
  | 0, ds, k, hk, hF, h => fun i h0 hi => h.far i h0 hi (by omega)
  | F + 1, ds, k, hk, hF, h => by
    unfold upD
    split
    · next e =>
      simp only [Bool.and_eq_true, decide_eq_true_eq] at e
      obtain ⟨hk0, hb⟩ := e
      have hpl : par k < k := by unfold par; omega
      have hp : par k < ds.length := by omega
      generalize hm : par k = m at hb hpl hp ⊢
      refine up_heap F _ _ (by rw [swapD_len]; exact hp) (by omega) ⟨fun i h0 hi hne => ?_, fun hm0 i h0 hi hpi => ?_⟩
      · rw [swapD_len] at hi
        rw [getD_swap hk hp, getD_swap hk hp, if_neg hne]
        by_cases e1 : i = k
        · subst e1
          rw [if_pos rfl, if_pos hm]
          exact before_asym hb
        · rw [if_neg e1]
          by_cases e2 : par i = m
          · rw [if_pos e2]
            have := h.far i h0 hi e1
            rw [e2] at this
            exact before_neg this (before_asym hb)
          · rw [if_neg e2]
            by_cases e3 : par i = k
            · rw [if_pos e3]
              have := h.near hk0 i h0 hi e3
              rw [hm] at this
              exact this
            · rw [if_neg e3]
              exact h.far i h0 hi e1
      · rw [swapD_len] at hi
        have hpm : par m < m := by unfold par; omega
        have hi2 : i ≠ m := by unfold par at hpi; omega
        rw [getD_swap hk hp, getD_swap hk hp, if_neg hi2, if_neg (show ¬ par m = m by omega), if_neg (show ¬ par m = k by omega)]
        have hm' := h.far m hm0 hp (by omega)
        by_cases e1 : i = k
        · rw [if_pos e1]
          exact hm'
        · rw [if_neg e1]
          have := h.far i h0 hi e1
          rw [hpi] at this
          exact before_neg this hm'
    · next e =>
      intro i h0 hi
      by_cases e1 : i = k
      · subst e1
        simp only [Bool.and_eq_true, decide_eq_true_eq, not_and, Bool.not_eq_true] at e
        exact e h0
      · exact h.far i h0 hi e1

theorem must_no {es : List Du} {k : Nat} (h : HP es) : mustD es k = false := by
  rw [← Bool.not_eq_true]
  intro e
  have hl := kid_lt e
  have hp := kid_par es k
  have := h (kid es k) (by have := kid_gt es k; omega) hl
  rw [hp] at this
  unfold mustD at e
  rw [this, Bool.and_false] at e
  cases e

theorem rem_heap {ds : List Du} {k : Nat} (h : HP ds) (hk : k < ds.length) : HP (remD ds k) := by
  unfold remD
  have hcl : (cutD ds k).length = ds.length - 1 := cutD_len ds k
  have hg : ∀ i, i < ds.length - 1 → (cutD ds k).getD i zDu = if i = k then ds.getD (ds.length - 1) zDu else ds.getD i zDu := fun i hi => getD_cut hk hi
  generalize cutD ds k = es at hcl hg ⊢
  split
  · next hlt =>
    have hfar : ∀ i, 0 < i → i < es.length → i ≠ k → par i ≠ k → before (es.getD i zDu) (es.getD (par i) zDu) = false := fun i h0 hi e1 e2 => by
      rw [hg i (by omega), hg (par i) (by unfold par; omega), if_neg e1, if_neg e2]
      exact h i h0 (by omega)
    have hnear : 0 < k → ∀ i, 0 < i → i < es.length → par i = k → before (es.getD i zDu) (es.getD (par k) zDu) = false := fun hk0 i h0 hi e => by
      rw [hg i (by omega), hg (par k) (by unfold par; omega), if_neg (by unfold par at e; omega), if_neg (by unfold par; omega)]
      have h1 := h i h0 (by omega)
      rw [e] at h1
      exact before_neg h1 (h k hk0 hk)
    by_cases hb : (decide (0 < k) && before (es.getD k zDu) (es.getD (par k) zDu)) = true
    · have hb' := hb
      simp only [Bool.and_eq_true, decide_eq_true_eq] at hb'
      have hH := up_heap k es k (by omega) (Nat.le_refl _) ⟨fun i h0 hi hne => by
        by_cases e : par i = k
        · rw [e]
          exact before_neg (hnear hb'.1 i h0 hi e) (before_asym hb'.2)
        · exact hfar i h0 hi hne e, hnear⟩
      rw [downD_stop (must_no hH)]
      exact hH
    · rw [upD_stop (by simpa using hb)]
      refine down_heap _ _ _ (by omega) (by omega) ⟨fun i h0 hi hne => ?_, hnear⟩
      by_cases e1 : i = k
      · subst e1
        simp only [Bool.and_eq_true, decide_eq_true_eq, not_and, Bool.not_eq_true] at hb
        exact hb h0
      · exact hfar i h0 hi e1 hne
  · next hlt =>
    intro i h0 hi
    rw [hcl] at hi
    rw [hg i hi, hg (par i) (by unfold par; omega), if_neg (by omega), if_neg (by unfold par; omega)]
    exact h i h0 (by omega)

theorem rem_val {ds : List Du} {q : Int} {k : Nat} (h : HV ds q) (hk : k < ds.length) : HV (remD ds k) q := by
  have hp := rem_perm hk
  have hmem : ∀ d ∈ remD ds k, d ∈ ds := fun d hd => hp.subset (List.mem_cons_of_mem _ hd)
  have hl := remD_len ds k
  refine ⟨by have := h.few; omega, h.tick, each_iff.2 fun d hd => each_iff.1 h.each d (hmem d hd), fun i j hj hi => ⟨?_, ?_⟩, rem_heap h.heap hk⟩
  · have h1 : (ds.map Du.id).Nodup := apart_iff.1 (fun i j hj hi => (h.apart i j hj hi).1)
    have h2 := (hp.map Du.id).nodup_iff.2 h1
    exact apart_iff.2 (List.nodup_cons.1 h2).2 i j hj hi
  · have h1 : (ds.map Du.seq).Nodup := apart_iff.1 (fun i j hj hi => (h.apart i j hj hi).2)
    have h2 := (hp.map Du.seq).nodup_iff.2 h1
    exact apart_iff.2 (List.nodup_cons.1 h2).2 i j hj hi

theorem pop_val : ∀ (F : Nat) (es : List Du) (now q : Int), HV es q → HV (popR F es now) q
  | 0, _, _, _, h => h
  | F + 1, es, now, q, h => by
    unfold popR
    split
    · next e =>
      unfold dueB at e
      simp only [Bool.and_eq_true, decide_eq_true_eq] at e
      exact pop_val F _ _ _ (rem_val h e.1)
    · exact h

theorem nil_val : HV [] 0 := ⟨by simp, by decide, fun i hi => absurd hi (by simp), fun i j _ hi => absurd hi (by simp), fun k _ hk => absurd hk (by simp)⟩
theorem first_least {ds : List Du} (h : HP ds) (i : Nat) (hi : i < ds.length) : before (ds.getD i zDu) (ds.getD 0 zDu) = false := by
  induction i using Nat.strongRecOn with
  | _ i ih =>
    by_cases e : i = 0
    · subst e
      rw [← Bool.not_eq_true, before_iff]; omega
    · exact before_neg (h i (by omega) hi) (ih (par i) (by unfold par; omega) (by unfold par; omega))
theorem first_mem {ds : List Du} (h : HP ds) {d : Du} (hd : d ∈ ds) : before d (ds.getD 0 zDu) = false := by
  obtain ⟨i, hi, rfl⟩ := List.mem_iff_getElem.1 hd
  have := first_least h i hi
  simpa [List.getD_eq_getElem?_getD, hi] using this

/-- The items that go, in the order in which they go. -/
def popE : Nat → List Du → Int → List Du
  | 0, _, _ => []
  | F + 1, es, now => if dueB es now = true then es.getD 0 zDu :: popE F (remD es 0) now else []
theorem popE_ids : ∀ (F : Nat) (es : List Du) (now : Int), popI F es now = (popE F es now).map Du.id
  | 0, _, _ => rfl
  | F + 1, es, now => by
    unfold popI popE
    split
    · rw [List.map_cons, popE_ids F]
    · rfl
theorem due_pos {es : List Du} {now : Int} (h : dueB es now = true) : 0 < es.length ∧ (es.getD 0 zDu).at ≤ now := by
  unfold dueB at h
  simpa only [Bool.and_eq_true, decide_eq_true_eq] using h
theorem popE_perm : ∀ (F : Nat) (es : List Du) (now : Int), (popE F es now ++ popR F es now).Perm es
  | 0, _, _ => List.Perm.refl _
  | F + 1, es, now => by
    unfold popE popR
    split
    · next e =>
      rw [List.cons_append]
      exact (List.Perm.cons _ (popE_perm F (remD es 0) now)).trans (rem_perm (due_pos e).1)
    · exact List.Perm.refl _
theorem popE_due : ∀ (F : Nat) (es : List Du) (now : Int) (d : Du), d ∈ popE F es now → d.at ≤ now
  | 0, _, _, _, h => by cases h
  | F + 1, es, now, d, h => by
    unfold popE at h
    split at h
    · next e =>
      rcases List.mem_cons.1 h with rfl | h
      · exact (due_pos e).2
      · exact popE_due F _ _ _ h
    · cases h
theorem popR_late : ∀ (F : Nat) (es : List Du) (now : Int), HP es → es.length ≤ F → ∀ d ∈ popR F es now, now < d.at
  | 0, es, now, _, hl, d, h => by
    have : es = [] := List.eq_nil_of_length_eq_zero (by omega)
    subst this
    cases h
  | F + 1, es, now, hp, hl, d, h => by
    unfold popR at h
    split at h
    · next e => exact popR_late F _ _ (rem_heap hp (due_pos e).1) (by rw [remD_len]; omega) d h
    · next e =>
      have h1 := first_mem hp h
      have h0 : 0 < es.length := List.length_pos_of_mem h
      unfold dueB at e
      simp only [Bool.and_eq_true, decide_eq_true_eq, not_and] at e
      have h2 := e h0
      rw [← Bool.not_eq_true, before_iff] at h1
      omega
theorem popE_sorted : ∀ (F : Nat) (es : List Du) (now : Int), HP es → (popE F es now).Pairwise (fun a b => before b a = false)
  | 0, _, _, _ => List.Pairwise.nil
  | F + 1, es, now, hp => by
    unfold popE
    split
    · next e =>
      refine List.Pairwise.cons (fun b hb => ?_) (popE_sorted F _ _ (rem_heap hp (due_pos e).1))
      refine first_mem hp ((rem_perm (due_pos e).1).subset (List.mem_cons_of_mem _ ?_))
      exact (popE_perm F (remD es 0) now).subset (List.mem_append_left _ hb)
    · exact List.Pairwise.nil
theorem popE_prefix : ∀ (F : Nat) (es : List Du) (now B : Int), now ≤ B → popE F es now <+: popE F es B
  | 0, _, _, _, _ => List.prefix_refl _
  | F + 1, es, now, B, h => by
    unfold popE
    split
    · next e =>
      have e2 : dueB es B = true := by
        have := due_pos e
        unfold dueB
        simp only [Bool.and_eq_true, decide_eq_true_eq]
        exact ⟨this.1, by omega⟩
      rw [if_pos e2]
      exact (List.prefix_cons_inj _).2 (popE_prefix F _ _ _ h)
    · exact List.nil_prefix
end Go.Proofs.Ytpjelojmkmednaa.Hp
