/- Removing the first item keeps a heap valid; what is popped. Plain mathematics. -/
import Derived.Test.YtnmhdbfemobhkaaCn4
namespace Go.Proofs.Ytnmhdbfemobhkaa.Hp
open Go.RowKit Go.Deep Base

theorem getD_set {ds : List Du} {i j : Nat} {d : Du} (hi : i < ds.length) : (ds.set i d).getD j zDu = if j = i then d else ds.getD j zDu := by
  by_cases e : j = i
  · subst e
    rw [if_pos rfl]
    simp [List.getD_eq_getElem?_getD, hi]
  · rw [if_neg e]
    have e' : ¬ i = j := fun h => e h.symm
    simp [List.getD_eq_getElem?_getD, e']
theorem getD_swap {ds : List Du} {i j k : Nat} (hi : i < ds.length) (hj : j < ds.length) : (swapD ds i j).getD k zDu = if k = j then ds.getD i zDu else if k = i then ds.getD j zDu else ds.getD k zDu := by
  unfold swapD
  rw [getD_set (by simpa using hj)]
  split
  · rfl
  · rw [getD_set hi]

theorem swap_perm {ds : List Du} {i j : Nat} (hi : i < ds.length) (hj : j < ds.length) : (swapD ds i j).Perm ds := by
  have e : swapD ds i j = (ds.set i ds[j]).set j ds[i] := by
    unfold swapD
    simp [List.getD_eq_getElem?_getD, hi, hj]
  rw [e]
  exact List.set_set_perm hi hj

theorem up_perm : ∀ (F : Nat) (ds : List Du) (k : Nat), k < ds.length → (upD F ds k).Perm ds
  | 0, _, _, _ => List.Perm.refl _
  | F + 1, ds, k, hk => by
    unfold upD
    split
    · have hp : par k < ds.length := by unfold par; omega
      exact (up_perm F _ _ (by rw [swapD_len]; exact hp)).trans (swap_perm hk hp)
    · exact List.Perm.refl _
theorem down_perm : ∀ (F : Nat) (ds : List Du) (k : Nat), k < ds.length → (downD F ds k).Perm ds
  | 0, _, _, _ => List.Perm.refl _
  | F + 1, ds, k, hk => by
    unfold downD
    split
    · next h =>
      have hp := kid_lt h
      exact (down_perm F _ _ (by rw [swapD_len]; exact hp)).trans (swap_perm hk hp)
    · exact List.Perm.refl _

theorem cut_perm {ds : List Du} {k : Nat} (hk : k < ds.length) : (ds.getD k zDu :: cutD ds k).Perm ds := by
  have hl : ds.length - 1 < ds.length := by omega
  have h1 : swapD ds k (ds.length - 1) = cutD ds k ++ [ds.getD k zDu] := by
    have hs : (swapD ds k (ds.length - 1)).length = ds.length := swapD_len _ _ _
    have h2 : (swapD ds k (ds.length - 1)).drop (ds.length - 1) = [ds.getD k zDu] := by
      rw [List.drop_eq_getElem_cons (by omega)]
      have h3 : (swapD ds k (ds.length - 1))[ds.length - 1]'(by omega) = (swapD ds k (ds.length - 1)).getD (ds.length - 1) zDu := by
        rw [List.getD_eq_getElem?_getD, List.getElem?_eq_getElem (by omega)]; rfl
      rw [h3, getD_swap hk hl, if_pos rfl, List.drop_eq_nil_of_le (by omega)]
    conv => lhs; rw [← List.take_append_drop (ds.length - 1) (swapD ds k (ds.length - 1))]
    rw [h2]
    rfl
  have h4 := swap_perm hk hl
  rw [h1] at h4
  exact (List.perm_append_comm (l₁ := [ds.getD k zDu]) (l₂ := cutD ds k)).trans h4
theorem rem_perm {ds : List Du} {k : Nat} (hk : k < ds.length) : (ds.getD k zDu :: remD ds k).Perm ds := by
  refine List.Perm.trans (List.Perm.cons _ ?_) (cut_perm hk)
  unfold remD
  split
  · next h =>
    have h1 : k < (cutD ds k).length := by rw [cutD_len]; exact h
    exact (down_perm _ _ _ (by rw [upD_len]; exact h1)).trans (up_perm _ _ _ h1)
  · exact List.Perm.refl _

/-- A valid heap's parts, in a form that does not look at places. -/
theorem apart_iff {ds : List Du} {f : Du → Int} : (∀ i j, j < i → i < ds.length → f (ds.getD j zDu) ≠ f (ds.getD i zDu)) ↔ (ds.map f).Nodup := by
  rw [List.Nodup, List.pairwise_iff_getElem]
  constructor
  · intro h i j hi hj hij
    have := h j i hij (by simpa using hj)
    simpa [List.getD_eq_getElem?_getD, show i < ds.length by simpa using hi, show j < ds.length by simpa using hj] using this
  · intro h i j hj hi
    have := h j i (by simp; omega) (by simpa using hi) hj
    simpa [List.getD_eq_getElem?_getD, show j < ds.length by omega, hi] using this
theorem each_iff {ds : List Du} {p : Du → Bool} : (∀ i, i < ds.length → p (ds.getD i zDu) = true) ↔ ∀ d ∈ ds, p d = true := by
  constructor
  · intro h d hd
    obtain ⟨i, hi, rfl⟩ := List.getElem_of_mem hd
    have := h i hi
    simpa [List.getD_eq_getElem?_getD, hi] using this
  · intro h i hi
    have := h ds[i] (List.getElem_mem hi)
    simpa [List.getD_eq_getElem?_getD, hi] using this

theorem before_asym {a b : Du} (h : before a b = true) : before b a = false := by
  rw [← Bool.not_eq_true]
  rw [before_iff] at *
  omega

def HP (ds : List Du) : Prop := ∀ i, 0 < i → i < ds.length → before (ds.getD i zDu) (ds.getD (par i) zDu) = false
/-- In order but for the item at k, which may have to go down. -/
structure DH (ds : List Du) (k : Nat) : Prop where
  far : ∀ i, 0 < i → i < ds.length → par i ≠ k → before (ds.getD i zDu) (ds.getD (par i) zDu) = false
  near : 0 < k → ∀ i, 0 < i → i < ds.length → par i = k → before (ds.getD i zDu) (ds.getD (par k) zDu) = false

theorem par_kids {i k : Nat} (h0 : 0 < i) (h : par i = k) : i = 2 * k + 1 ∨ i = 2 * k + 2 := by unfold par at h; omega
theorem kid_par (es : List Du) (k : Nat) : par (kid es k) = k := by unfold kid par; split <;> omega

theorem kid_least {ds : List Du} {k i : Nat} (h0 : 0 < i) (hi : i < ds.length) (h : par i = k) : before (ds.getD i zDu) (ds.getD (kid ds k) zDu) = false := by
  have self : ∀ a : Du, before a a = false := fun a => by rw [← Bool.not_eq_true, before_iff]; omega
  rcases par_kids h0 h with rfl | rfl
  · unfold kid
    split
    · next e =>
      simp only [Bool.and_eq_true] at e
      exact before_asym e.2
    · exact self _
  · unfold kid
    split
    · exact self _
    · next e =>
      simp only [Bool.and_eq_true, decide_eq_true_eq, not_and, Bool.not_eq_true] at e
      exact e hi

theorem down_heap : ∀ (F : Nat) (ds : List Du) (k : Nat), k < ds.length → ds.length ≤ F + k → DH ds k → HP (downD F ds k)
  | 0, _, _, hk, hF, _ => by omega
  | F + 1, ds, k, hk, hF, h => by
    unfold downD
    split
    · next hm =>
      have hp := kid_lt hm
      have hg := kid_gt ds k
      have hpk := kid_par ds k
      have hbk : before (ds.getD (kid ds k) zDu) (ds.getD k zDu) = true := by unfold mustD at hm; simp only [Bool.and_eq_true] at hm; exact hm.2
      have hleast := fun i h0 hi h => kid_least (ds := ds) (k := k) (i := i) h0 hi h
      generalize kid ds k = m at hp hg hpk hbk hleast ⊢
      refine down_heap F _ _ (by rw [swapD_len]; exact hp) (by rw [swapD_len]; omega) ⟨fun i h0 hi hne => ?_, fun _ i h0 hi hpi => ?_⟩
      · rw [swapD_len] at hi
        rw [getD_swap hk hp, getD_swap hk hp, if_neg hne]
        by_cases e1 : i = m
        · subst e1
          rw [if_pos rfl, if_pos hpk]
          exact before_asym hbk
        · rw [if_neg e1]
          by_cases e2 : i = k
          · subst e2
            rw [if_pos rfl, if_neg (by unfold par; omega)]
            exact h.near h0 m (by omega) hp hpk
          · rw [if_neg e2]
            by_cases e3 : par i = k
            · rw [if_pos e3]
              exact hleast i h0 hi e3
            · rw [if_neg e3]
              exact h.far i h0 hi e3
      · rw [swapD_len] at hi
        have h1 : m < i := by unfold par at hpi; omega
        rw [getD_swap hk hp, getD_swap hk hp, if_neg (by omega), if_neg (by omega), if_neg (by omega), if_pos hpk]
        have := h.far i h0 hi (by omega)
        rw [hpi] at this
        exact this
    · next hm =>
      intro i h0 hi
      by_cases e : par i = k
      · rw [e]
        have h1 := kid_least h0 hi e
        have h2 : before (ds.getD (kid ds k) zDu) (ds.getD k zDu) = false := by
          unfold mustD at hm
          rcases par_kids h0 e with e1 | e1
          · simp only [Bool.and_eq_true, decide_eq_true_eq, not_and, Bool.not_eq_true] at hm
            exact hm (by omega)
          · simp only [Bool.and_eq_true, decide_eq_true_eq, not_and, Bool.not_eq_true] at hm
            exact hm (by omega)
        exact before_neg h1 h2
      · exact h.far i h0 hi e

theorem getD_cut {ds : List Du} {k i : Nat} (hk : k < ds.length) (hi : i < ds.length - 1) : (cutD ds k).getD i zDu = if i = k then ds.getD (ds.length - 1) zDu else ds.getD i zDu := by
  unfold cutD
  rw [getD_take hi, getD_swap hk (by omega), if_neg (by omega)]

theorem rem0_val {ds : List Du} {q : Int} (h : HV ds q) (h0 : 0 < ds.length) : HV (remD ds 0) q := by
  have hp := rem_perm h0
  have hmem : ∀ d ∈ remD ds 0, d ∈ ds := fun d hd => hp.subset (List.mem_cons_of_mem _ hd)
  have hl := remD_len ds 0
  refine ⟨by have := h.few; omega, h.tick, each_iff.2 fun d hd => each_iff.1 h.each d (hmem d hd), fun i j hj hi => ⟨?_, ?_⟩, ?_⟩
  · have h1 : (ds.map Du.id).Nodup := apart_iff.1 (fun i j hj hi => (h.apart i j hj hi).1)
    have h2 := (hp.map Du.id).nodup_iff.2 h1
    exact apart_iff.2 (List.nodup_cons.1 h2).2 i j hj hi
  · have h1 : (ds.map Du.seq).Nodup := apart_iff.1 (fun i j hj hi => (h.apart i j hj hi).2)
    have h2 := (hp.map Du.seq).nodup_iff.2 h1
    exact apart_iff.2 (List.nodup_cons.1 h2).2 i j hj hi
  · show HP (remD ds 0)
    unfold remD
    split
    · next hlt =>
      have hcl : (cutD ds 0).length = ds.length - 1 := cutD_len ds 0
      refine down_heap _ _ _ (by rw [upD_len, hcl]; exact hlt) (by rw [upD_len, hcl]; omega) ⟨fun i hi0 hi hne => ?_, fun h => absurd h (by omega)⟩
      rw [upD_len, hcl] at hi
      show before ((cutD ds 0).getD i zDu) ((cutD ds 0).getD (par i) zDu) = false
      rw [getD_cut h0 hi, getD_cut h0 (by unfold par; omega), if_neg (by omega), if_neg hne]
      exact h.heap i hi0 (by omega)
    · next hlt =>
      intro i hi0 hi
      rw [cutD_len] at hi
      omega

/-- The items that stay, and the Ids that go, when all that is due by now is popped, with fuel. -/
def dueB (es : List Du) (now : Int) : Bool := decide (0 < es.length) && decide ((es.getD 0 zDu).at ≤ now)
def popR : Nat → List Du → Int → List Du
  | 0, es, _ => es
  | F + 1, es, now => if dueB es now = true then popR F (remD es 0) now else es
def popI : Nat → List Du → Int → List Int
  | 0, _, _ => []
  | F + 1, es, now => if dueB es now = true then (es.getD 0 zDu).id :: popI F (remD es 0) now else []
theorem pop_stop {F : Nat} {es : List Du} {now : Int} (h : dueB es now = false) : popR F es now = es ∧ popI F es now = [] := by
  cases F with
  | zero => exact ⟨rfl, rfl⟩
  | succ F => unfold popR popI; rw [if_neg (by rw [h]; simp), if_neg (by rw [h]; simp)]; exact ⟨rfl, rfl⟩
theorem pop_go {F : Nat} {es : List Du} {now : Int} (h : dueB es now = true) : popR (F + 1) es now = popR F (remD es 0) now ∧ popI (F + 1) es now = (es.getD 0 zDu).id :: popI F (remD es 0) now := by
  constructor
  · conv => lhs; unfold popR
    rw [if_pos h]
  · conv => lhs; unfold popI
    rw [if_pos h]
theorem popR_len : ∀ (F : Nat) (es : List Du) (now : Int), (popR F es now).length ≤ es.length
  | 0, _, _ => Nat.le_refl _
  | F + 1, es, now => by
    unfold popR
    split
    · exact Nat.le_trans (popR_len F _ _) (by rw [remD_len]; omega)
    · exact Nat.le_refl _
theorem popI_len : ∀ (F : Nat) (es : List Du) (now : Int), (popI F es now).length ≤ F
  | 0, _, _ => Nat.le_refl _
  | F + 1, es, now => by
    unfold popI
    split
    · have := popI_len F (remD es 0) now
      simp; exact this
    · simp

/-- PopDue's answer. -/
def popD (ds : List Du) (q now : Int) : List Du := if okH ds q = true then popR ds.length ds now else ds
def popL (ds : List Du) (q now : Int) : List Int := if okH ds q = true then popI ds.length ds now else []
theorem fndD_first {ds : List Du} (h : 0 < ds.length) : fndD ds (ds.getD 0 zDu).id = ((0 : Nat) : Int) := fndD_here h (fun j hj => absurd hj (by omega)) rfl
end Go.Proofs.Ytnmhdbfemobhkaa.Hp
