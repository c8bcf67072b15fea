/- An item added to the program's tree. The program's Schedule. The reference's Schedule. Removing the first item keeps a heap valid; what is popped. Plain mathematics. The program's popUntil and PopDue. The program's PopDue. The reference's PopDue. What is played stays a valid heap; what is popped comes in order. Plain mathematics. -/
import Derived.Test.YtehdbdolhkflcaaNh1
import Derived.Test.YtehdbdolhkflcaaNh2
namespace Go.Proofs.Ytehdbdolhkflcaa.Hp
open Go.RowKit Go.Deep Base

/-- One item more, moved up. -/
def addD (ds : List Du) (d : Du) : List Du := upD ds.length (ds ++ [d]) ds.length
theorem addD_len (ds : List Du) (d : Du) : (addD ds d).length = ds.length + 1 := by unfold addD; rw [upD_len]; simp

theorem owns_of {w : World} {lo hi n cap : Nat} {A : Option Addr} {ds : List Du} (hn : ds.length = n) (hs : Sh w lo hi A n cap) (h : DV w lo hi A ds) : w.ownsRow lo 108 3 (.slice A n cap) n (cellsL ds) := by
  refine ⟨by rw [cellsL_len, hn], ?_⟩
  rcases hs with ⟨rfl, rfl, rfl⟩ | ⟨g, cur, rfl, h1, h2, h3, h4, h5, h6⟩
  · exact .inl ⟨rfl, rfl⟩
  · refine .inr ⟨g, cap, cur, rfl, h1, h3, h4, h5, h6, ?_⟩
    apply List.ext_getElem?
    intro j
    rw [List.getElem?_take]
    by_cases hj : j < n * 3
    · rw [if_pos hj]
      obtain ⟨g', e, _, _, hr⟩ := h (by omega)
      injection e with e
      injection e with e _ _
      subst e
      have hl : j < (cellsL ds).length := by rw [cellsL_len, hn]; exact hj
      have hc := news_rd hr j _ (List.getElem?_eq_getElem hl)
      have ea : (⟨g, 0, none⟩ : Addr).add j = ⟨g, j, none⟩ := by
        unfold Addr.add; split
        · next h => subst h; rfl
        · simp
      rw [ea, cell_of_row w g j cur _ (0, 0) h3] at hc
      rw [List.getElem?_eq_getElem hl, ← hc]
      simp
    · rw [if_neg hj, List.getElem?_eq_none (by rw [cellsL_len, hn]; omega)]


end Go.Proofs.Ytehdbdolhkflcaa.Hp

namespace Go.Proofs.Ytehdbdolhkflcaa.Hp
open Go.RowKit Go.Deep Base

/-- Schedule's answer: the items that it would hand back, may it, the items, the heap's Seq. -/
def schN (ds : List Du) (q id «at» : Int) : List Du := addD (canD ds q id) ⟨«at», q + 1, id⟩
def schB (ds : List Du) (q id «at» : Int) : Bool := okH ds q && Tick.isT «at» && Tick.inB id 1 1000000000 && okH (schN ds q id «at») (q + 1)
def schD (ds : List Du) (q id «at» : Int) : List Du := if schB ds q id «at» = true then schN ds q id «at» else ds
def schQ (ds : List Du) (q id «at» : Int) : Int := if schB ds q id «at» = true then q + 1 else q
theorem schD_no {ds : List Du} {q id a : Int} (h : schB ds q id a = false) : schD ds q id a = ds ∧ schQ ds q id a = q := by unfold schD schQ; rw [if_neg (by rw [h]; simp), if_neg (by rw [h]; simp)]; exact ⟨rfl, rfl⟩
theorem schD_yes {ds : List Du} {q id a : Int} (h : schB ds q id a = true) : schD ds q id a = schN ds q id a ∧ schQ ds q id a = q + 1 := by unfold schD schQ; rw [if_pos h, if_pos h]; exact ⟨rfl, rfl⟩
theorem schD_len (ds : List Du) (q id a : Int) (h : ds.length ≤ 1048576) : (schD ds q id a).length ≤ 1048576 := by
  unfold schD
  split
  · next e =>
    unfold schB at e
    simp only [Bool.and_eq_true] at e
    have := (okH_val e.2).few
    omega
  · exact h

theorem Blk2.put {w : World} {g : Nat} {v0 v1 : Value} (h : Blk2 w g v0 v1) (u0 u1 : Value) : Blk2 ((w.setCell ⟨g, 0, none⟩ u0).setCell ⟨g, 1, none⟩ u1) g u0 u1 := by
  have h1 := h.set0 u0
  unfold Blk2 at h1 ⊢
  simp [World.setCell, Array.getElem?_modify] at h1 ⊢
  obtain ⟨o, ho, he⟩ := h1
  rw [ho]
  simp [he]


end Go.Proofs.Ytehdbdolhkflcaa.Hp

namespace Go.Proofs.Ytehdbdolhkflcaa.Hp
open Go.RowKit Go.Deep Base


end Go.Proofs.Ytehdbdolhkflcaa.Hp

namespace Go.Proofs.Ytehdbdolhkflcaa.Hp
open Go.RowKit Go.Deep Base

theorem getD_set {ds : List Du} {i j : Nat} {d : Du} (hi : i < ds.length) : (ds.set i d).getD j zDu = if j = i then d else ds.getD j zDu := by
  by_cases e : j = i
  · subst e
    rw [if_pos rfl]
    simp [List.getD_eq_getElem?_getD, hi]
  · rw [if_neg e]
    have e' : ¬ i = j := fun h => e h.symm
    simp [List.getD_eq_getElem?_getD, e']
theorem getD_swap {ds : List Du} {i j k : Nat} (hi : i < ds.length) (hj : j < ds.length) : (swapD ds i j).getD k zDu = if k = j then ds.getD i zDu else if k = i then ds.getD j zDu else ds.getD k zDu := by
  unfold swapD
  rw [getD_set (by simpa using hj)]
  split
  · rfl
  · rw [getD_set hi]

theorem swap_perm {ds : List Du} {i j : Nat} (hi : i < ds.length) (hj : j < ds.length) : (swapD ds i j).Perm ds := by
  have e : swapD ds i j = (ds.set i ds[j]).set j ds[i] := by
    unfold swapD
    simp [List.getD_eq_getElem?_getD, hi, hj]
  rw [e]
  exact List.set_set_perm hi hj

theorem up_perm : ∀ (F : Nat) (ds : List Du) (k : Nat), k < ds.length → (upD F ds k).Perm ds
  | 0, _, _, _ => List.Perm.refl _
  | F + 1, ds, k, hk => by
    unfold upD
    split
    · have hp : par k < ds.length := by unfold par; omega
      exact (up_perm F _ _ (by rw [swapD_len]; exact hp)).trans (swap_perm hk hp)
    · exact List.Perm.refl _
theorem down_perm : ∀ (F : Nat) (ds : List Du) (k : Nat), k < ds.length → (downD F ds k).Perm ds
  | 0, _, _, _ => List.Perm.refl _
  | F + 1, ds, k, hk => by
    unfold downD
    split
    · next h =>
      have hp := kid_lt h
      exact (down_perm F _ _ (by rw [swapD_len]; exact hp)).trans (swap_perm hk hp)
    · exact List.Perm.refl _

theorem cut_perm {ds : List Du} {k : Nat} (hk : k < ds.length) : (ds.getD k zDu :: cutD ds k).Perm ds := by
  have hl : ds.length - 1 < ds.length := by omega
  have h1 : swapD ds k (ds.length - 1) = cutD ds k ++ [ds.getD k zDu] := by
    have hs : (swapD ds k (ds.length - 1)).length = ds.length := swapD_len _ _ _
    have h2 : (swapD ds k (ds.length - 1)).drop (ds.length - 1) = [ds.getD k zDu] := by
      rw [List.drop_eq_getElem_cons (by omega)]
      have h3 : (swapD ds k (ds.length - 1))[ds.length - 1]'(by omega) = (swapD ds k (ds.length - 1)).getD (ds.length - 1) zDu := by
        rw [List.getD_eq_getElem?_getD, List.getElem?_eq_getElem (by omega)]; rfl
      rw [h3, getD_swap hk hl, if_pos rfl, List.drop_eq_nil_of_le (by omega)]
    conv => lhs; rw [← List.take_append_drop (ds.length - 1) (swapD ds k (ds.length - 1))]
    rw [h2]
    rfl
  have h4 := swap_perm hk hl
  rw [h1] at h4
  exact (List.perm_append_comm (l₁ := [ds.getD k zDu]) (l₂ := cutD ds k)).trans h4
theorem rem_perm {ds : List Du} {k : Nat} (hk : k < ds.length) : (ds.getD k zDu :: remD ds k).Perm ds := by
  refine List.Perm.trans (List.Perm.cons _ ?_) (cut_perm hk)
  unfold remD
  split
  · next h =>
    have h1 : k < (cutD ds k).length := by rw [cutD_len]; exact h
    exact (down_perm _ _ _ (by rw [upD_len]; exact h1)).trans (up_perm _ _ _ h1)
  · exact List.Perm.refl _

/-- A valid heap's parts, in a form that does not look at places. -/
theorem apart_iff {ds : List Du} {f : Du → Int} : (∀ i j, j < i → i < ds.length → f (ds.getD j zDu) ≠ f (ds.getD i zDu)) ↔ (ds.map f).Nodup := by
  rw [List.Nodup, List.pairwise_iff_getElem]
  constructor
  · intro h i j hi hj hij
    have := h j i hij (by simpa using hj)
    simpa [List.getD_eq_getElem?_getD, show i < ds.length by simpa using hi, show j < ds.length by simpa using hj] using this
  · intro h i j hj hi
    have := h j i (by simp; omega) (by simpa using hi) hj
    simpa [List.getD_eq_getElem?_getD, show j < ds.length by omega, hi] using this
theorem each_iff {ds : List Du} {p : Du → Bool} : (∀ i, i < ds.length → p (ds.getD i zDu) = true) ↔ ∀ d ∈ ds, p d = true := by
  constructor
  · intro h d hd
    obtain ⟨i, hi, rfl⟩ := List.getElem_of_mem hd
    have := h i hi
    simpa [List.getD_eq_getElem?_getD, hi] using this
  · intro h i hi
    have := h ds[i] (List.getElem_mem hi)
    simpa [List.getD_eq_getElem?_getD, hi] using this

theorem before_asym {a b : Du} (h : before a b = true) : before b a = false := by
  rw [← Bool.not_eq_true]
  rw [before_iff] at *
  omega

def HP (ds : List Du) : Prop := ∀ i, 0 < i → i < ds.length → before (ds.getD i zDu) (ds.getD (par i) zDu) = false
/-- In order but for the item at k, which may have to go down. -/
structure DH (ds : List Du) (k : Nat) : Prop where
  far : ∀ i, 0 < i → i < ds.length → par i ≠ k → before (ds.getD i zDu) (ds.getD (par i) zDu) = false
  near : 0 < k → ∀ i, 0 < i → i < ds.length → par i = k → before (ds.getD i zDu) (ds.getD (par k) zDu) = false

theorem par_kids {i k : Nat} (h0 : 0 < i) (h : par i = k) : i = 2 * k + 1 ∨ i = 2 * k + 2 := by unfold par at h; omega
theorem kid_par (es : List Du) (k : Nat) : par (kid es k) = k := by unfold kid par; split <;> omega

theorem kid_least {ds : List Du} {k i : Nat} (h0 : 0 < i) (hi : i < ds.length) (h : par i = k) : before (ds.getD i zDu) (ds.getD (kid ds k) zDu) = false := by
  have self : ∀ a : Du, before a a = false := fun a => by rw [← Bool.not_eq_true, before_iff]; omega
  rcases par_kids h0 h with rfl | rfl
  · unfold kid
    split
    · next e =>
      simp only [Bool.and_eq_true] at e
      exact before_asym e.2
    · exact self _
  · unfold kid
    split
    · exact self _
    · next e =>
      simp only [Bool.and_eq_true, decide_eq_true_eq, not_and, Bool.not_eq_true] at e
      exact e hi

theorem down_heap : ∀ (F : Nat) (ds : List Du) (k : Nat), k < ds.length → ds.length ≤ F + k → DH ds k → HP (downD F ds k)
  | 0, _, _, hk, hF, _ => by omega
  | F + 1, ds, k, hk, hF, h => by
    unfold downD
    split
    · next hm =>
      have hp := kid_lt hm
      have hg := kid_gt ds k
      have hpk := kid_par ds k
      have hbk : before (ds.getD (kid ds k) zDu) (ds.getD k zDu) = true := by unfold mustD at hm; simp only [Bool.and_eq_true] at hm; exact hm.2
      have hleast := fun i h0 hi h => kid_least (ds := ds) (k := k) (i := i) h0 hi h
      generalize kid ds k = m at hp hg hpk hbk hleast ⊢
      refine down_heap F _ _ (by rw [swapD_len]; exact hp) (by rw [swapD_len]; omega) ⟨fun i h0 hi hne => ?_, fun _ i h0 hi hpi => ?_⟩
      · rw [swapD_len] at hi
        rw [getD_swap hk hp, getD_swap hk hp, if_neg hne]
        by_cases e1 : i = m
        · subst e1
          rw [if_pos rfl, if_pos hpk]
          exact before_asym hbk
        · rw [if_neg e1]
          by_cases e2 : i = k
          · subst e2
            rw [if_pos rfl, if_neg (by unfold par; omega)]
            exact h.near h0 m (by omega) hp hpk
          · rw [if_neg e2]
            by_cases e3 : par i = k
            · rw [if_pos e3]
              exact hleast i h0 hi e3
            · rw [if_neg e3]
              exact h.far i h0 hi e3
      · rw [swapD_len] at hi
        have h1 : m < i := by unfold par at hpi; omega
        rw [getD_swap hk hp, getD_swap hk hp, if_neg (by omega), if_neg (by omega), if_neg (by omega), if_pos hpk]
        have := h.far i h0 hi (by omega)
        rw [hpi] at this
        exact this
    · next hm =>
      intro i h0 hi
      by_cases e : par i = k
      · rw [e]
        have h1 := kid_least h0 hi e
        have h2 : before (ds.getD (kid ds k) zDu) (ds.getD k zDu) = false := by
          unfold mustD at hm
          rcases par_kids h0 e with e1 | e1
          · simp only [Bool.and_eq_true, decide_eq_true_eq, not_and, Bool.not_eq_true] at hm
            exact hm (by omega)
          · simp only [Bool.and_eq_true, decide_eq_true_eq, not_and, Bool.not_eq_true] at hm
            exact hm (by omega)
        exact before_neg h1 h2
      · exact h.far i h0 hi e

theorem getD_cut {ds : List Du} {k i : Nat} (hk : k < ds.length) (hi : i < ds.length - 1) : (cutD ds k).getD i zDu = if i = k then ds.getD (ds.length - 1) zDu else ds.getD i zDu := by
  unfold cutD
  rw [getD_take hi, getD_swap hk (by omega), if_neg (by omega)]

theorem rem0_val {ds : List Du} {q : Int} (h : HV ds q) (h0 : 0 < ds.length) : HV (remD ds 0) q := by
  have hp := rem_perm h0
  have hmem : ∀ d ∈ remD ds 0, d ∈ ds := fun d hd => hp.subset (List.mem_cons_of_mem _ hd)
  have hl := remD_len ds 0
  refine ⟨by have := h.few; omega, h.tick, each_iff.2 fun d hd => each_iff.1 h.each d (hmem d hd), fun i j hj hi => ⟨?_, ?_⟩, ?_⟩
  · have h1 : (ds.map Du.id).Nodup := apart_iff.1 (fun i j hj hi => (h.apart i j hj hi).1)
    have h2 := (hp.map Du.id).nodup_iff.2 h1
    exact apart_iff.2 (List.nodup_cons.1 h2).2 i j hj hi
  · have h1 : (ds.map Du.seq).Nodup := apart_iff.1 (fun i j hj hi => (h.apart i j hj hi).2)
    have h2 := (hp.map Du.seq).nodup_iff.2 h1
    exact apart_iff.2 (List.nodup_cons.1 h2).2 i j hj hi
  · show HP (remD ds 0)
    unfold remD
    split
    · next hlt =>
      have hcl : (cutD ds 0).length = ds.length - 1 := cutD_len ds 0
      refine down_heap _ _ _ (by rw [upD_len, hcl]; exact hlt) (by rw [upD_len, hcl]; omega) ⟨fun i hi0 hi hne => ?_, fun h => absurd h (by omega)⟩
      rw [upD_len, hcl] at hi
      show before ((cutD ds 0).getD i zDu) ((cutD ds 0).getD (par i) zDu) = false
      rw [getD_cut h0 hi, getD_cut h0 (by unfold par; omega), if_neg (by omega), if_neg hne]
      exact h.heap i hi0 (by omega)
    · next hlt =>
      intro i hi0 hi
      rw [cutD_len] at hi
      omega

/-- The items that stay, and the Ids that go, when all that is due by now is popped, with fuel. -/
def dueB (es : List Du) (now : Int) : Bool := decide (0 < es.length) && decide ((es.getD 0 zDu).at ≤ now)
def popR : Nat → List Du → Int → List Du
  | 0, es, _ => es
  | F + 1, es, now => if dueB es now = true then popR F (remD es 0) now else es
def popI : Nat → List Du → Int → List Int
  | 0, _, _ => []
  | F + 1, es, now => if dueB es now = true then (es.getD 0 zDu).id :: popI F (remD es 0) now else []
theorem pop_stop {F : Nat} {es : List Du} {now : Int} (h : dueB es now = false) : popR F es now = es ∧ popI F es now = [] := by
  cases F with
  | zero => exact ⟨rfl, rfl⟩
  | succ F => unfold popR popI; rw [if_neg (by rw [h]; simp), if_neg (by rw [h]; simp)]; exact ⟨rfl, rfl⟩
theorem pop_go {F : Nat} {es : List Du} {now : Int} (h : dueB es now = true) : popR (F + 1) es now = popR F (remD es 0) now ∧ popI (F + 1) es now = (es.getD 0 zDu).id :: popI F (remD es 0) now := by
  constructor
  · conv => lhs; unfold popR
    rw [if_pos h]
  · conv => lhs; unfold popI
    rw [if_pos h]
theorem popR_len : ∀ (F : Nat) (es : List Du) (now : Int), (popR F es now).length ≤ es.length
  | 0, _, _ => Nat.le_refl _
  | F + 1, es, now => by
    unfold popR
    split
    · exact Nat.le_trans (popR_len F _ _) (by rw [remD_len]; omega)
    · exact Nat.le_refl _
theorem popI_len : ∀ (F : Nat) (es : List Du) (now : Int), (popI F es now).length ≤ F
  | 0, _, _ => Nat.le_refl _
  | F + 1, es, now => by
    unfold popI
    split
    · have := popI_len F (remD es 0) now
      simp; exact this
    · simp

/-- PopDue's answer. -/
def popD (ds : List Du) (q now : Int) : List Du := if okH ds q = true then popR ds.length ds now else ds
def popL (ds : List Du) (q now : Int) : List Int := if okH ds q = true then popI ds.length ds now else []
theorem fndD_first {ds : List Du} (h : 0 < ds.length) : fndD ds (ds.getD 0 zDu).id = ((0 : Nat) : Int) := fndD_here h (fun j hj => absurd hj (by omega)) rfl
end Go.Proofs.Ytehdbdolhkflcaa.Hp

namespace Go.Proofs.Ytehdbdolhkflcaa.Hp
open Go.RowKit Go.Deep Base

theorem infoInt : (Try.prog.info? 3).map (fun i => (i.zero, i.size, i.bytes)) = some (some (.int .i64 0), 1, 8) := by kernel_rfl

/-- The length of the slice in the tree's box. -/
def lenAt (w : World) (b : Nat) : Nat := match w.cell? ⟨b, 0, none⟩ with
  | some (.slice _ n _) => n
  | _ => 0
theorem lenAt_of {w : World} {b n cap : Nat} {A : Option Addr} (h : w.cell? ⟨b, 0, none⟩ = some (.slice A n cap)) : lenAt w b = n := by unfold lenAt; rw [h]

theorem new_one_at {w : World} {B : Nat} (h : w.heap.size = B) (a : Value) (t : TypeId) : ∀ j u, [a][j]? = some u → (w.alloc (.cells #[a] t)).cell? ((⟨B, 0, none⟩ : Addr).add j) = some u := by
  subst h
  intro j u hj
  have ea : (⟨w.heap.size, 0, none⟩ : Addr).add j = ⟨w.heap.size, j, none⟩ := by
    unfold Addr.add; split
    · next h => subst h; rfl
    · simp
  rw [ea, cell_of_row _ _ j #[a] t (0, 0) (heap_alloc_new w _)]
  simpa using hj

/-- A row of integers and a block of another type are two. -/
theorem own_ne {w : World} {base p n : Nat} {v : Value} {xs : List Value} {cur : Array Value} {t : TypeId} (h : w.ownsRow base 3 1 v n xs) (hp : w.heap[p]? = some (.cells cur t (0, 0))) (ht : t ≠ 3) : some p ≠ v.ownBlock := by
  rcases h.2 with ⟨rfl, _⟩ | ⟨g, _, cur', rfl, _, hg, _⟩
  · exact fun e => by cases e
  · intro e
    injection e with e
    have e' : p = g := e
    rw [e', hg] at hp
    injection hp with hp
    injection hp with _ hp _
    exact ht hp.symm

/-- What popUntil leaves. -/
def PopEnd (w : World) (b lo hi cap : Nat) (A : Option Addr) (ds : List Du) (now : Int) (e : Ending) (w' : World) : Prop :=
  ∃ A2 c2, e = .returned (.slice A2 (popI ds.length ds now).length c2) ∧ IV w' w.heap.size w'.heap.size A2 (popI ds.length ds now) ∧ Tr w' b A (popR ds.length ds now).length cap ∧ DV w' lo hi A (popR ds.length ds now) ∧ Below lo w w'
    ∧ w'.ownsRow w.heap.size 3 1 (.slice A2 (popI ds.length ds now).length c2) (popI ds.length ds now).length ((popI ds.length ds now).map (Value.int .i64))

structure PopSt (w wr : World) (b lo hi cap : Nat) (A : Option Addr) (ds es : List Du) (q now : Int) (v : Value) (pre : List Int) (p : Nat) : Prop where
  tree : Tr wr b A es.length cap
  items : DV wr lo hi A es
  val : HV es q
  own : wr.ownsRow w.heap.size 3 1 v pre.length (pre.map (Value.int .i64))
  rest : popR ds.length ds now = popR es.length es now
  ids : popI ds.length ds now = pre ++ popI es.length es now
  few : pre.length + es.length ≤ ds.length
  d : Bk3 wr p (fstD es).at (fstD es).seq (fstD es).id
  dp : w.heap.size ≤ p
  old : Below lo w wr


end Go.Proofs.Ytehdbdolhkflcaa.Hp

namespace Go.Proofs.Ytehdbdolhkflcaa.Hp
open Go.RowKit Go.Deep Base

theorem popD_no {ds : List Du} {q now : Int} (h : okH ds q = false) : popD ds q now = ds ∧ popL ds q now = [] := by unfold popD popL; rw [if_neg (by rw [h]; simp), if_neg (by rw [h]; simp)]; exact ⟨rfl, rfl⟩
theorem popD_yes {ds : List Du} {q now : Int} (h : okH ds q = true) : popD ds q now = popR ds.length ds now ∧ popL ds q now = popI ds.length ds now := by unfold popD popL; rw [if_pos h, if_pos h]; exact ⟨rfl, rfl⟩

/-- What a call leaves that hands back a heap and a list of integers that share no memory. -/
def HeapInts (w : World) (ds' : List Du) (q : Int) (ids : List Int) (e : Ending) (w' : World) : Prop :=
  ∃ A cap A2 c2 mid, e = .returned (.tuple #[.agg #[.slice A ds'.length cap, .int .i64 q], .slice A2 ids.length c2]) ∧ w.heap.size ≤ mid ∧ mid ≤ w'.heap.size ∧ DV w' w.heap.size mid A ds' ∧ IV w' mid w'.heap.size A2 ids ∧ Below w.heap.size w w'

/-- The same; the list has a row of its own. -/
def HeapIntsO (w : World) (ds' : List Du) (q : Int) (ids : List Int) (e : Ending) (w' : World) : Prop :=
  ∃ A cap A2 c2 mid, e = .returned (.tuple #[.agg #[.slice A ds'.length cap, .int .i64 q], .slice A2 ids.length c2]) ∧ w.heap.size ≤ mid ∧ mid ≤ w'.heap.size ∧ DV w' w.heap.size mid A ds' ∧ IV w' mid w'.heap.size A2 ids ∧ Below w.heap.size w w' ∧ w'.ownsRow mid 3 1 (.slice A2 ids.length c2) ids.length (ids.map (Value.int .i64))
theorem HeapIntsO.plain {w : World} {ds' : List Du} {q : Int} {ids : List Int} {e : Ending} {w' : World} (h : HeapIntsO w ds' q ids e w') : HeapInts w ds' q ids e w' := by
  obtain ⟨A, cap, A2, c2, mid, h1, h2, h3, h4, h5, h6, _⟩ := h
  exact ⟨A, cap, A2, c2, mid, h1, h2, h3, h4, h5, h6⟩
theorem owns_other {w w' : World} {base p : Nat} {t : TypeId} {sz n : Nat} {v : Value} {xs : List Value} (h : w.ownsRow base t sz v n xs) (hk : ∀ k, k ≠ p → w'.heap[k]? = w.heap[k]?) (hp : some p ≠ v.ownBlock) : w'.ownsRow base t sz v n xs := by
  refine ⟨h.1, ?_⟩
  rcases h.2 with hn | ⟨r, c, cur, rfl, hb', hg, rest⟩
  · exact .inl hn
  · exact .inr ⟨r, c, cur, rfl, hb', (hk r (fun e => hp (by rw [e]; rfl))).trans hg, rest⟩


end Go.Proofs.Ytehdbdolhkflcaa.Hp

namespace Go.Proofs.Ytehdbdolhkflcaa.Hp
open Go.RowKit Go.Deep Base

structure SpopSt (w W0 wr : World) (B : Nat) (ds es : List Du) (q now : Int) (v : Value) (pre : List Int) (A : Option Addr) (c : Nat) : Prop where
  box : Blk2 wr B (.slice A es.length c) (.int .i64 q)
  items : DV wr (w.heap.size + 1 + 1) wr.heap.size A es
  form : Sh wr (w.heap.size + 1 + 1) wr.heap.size A es.length c
  val : HV es q
  own : wr.ownsRow (w.heap.size + 1 + 1) 3 1 v pre.length (pre.map (Value.int .i64))
  rest : popR ds.length ds now = popR es.length es now
  ids : popI ds.length ds now = pre ++ popI es.length es now
  few : pre.length + es.length ≤ ds.length
  old : Below (w.heap.size + 1 + 1) W0 wr

/-- What the reference's PopDue leaves. -/
def HeapIntsR (w : World) (ds' : List Du) (q : Int) (ids : List Int) (e : Ending) (w' : World) : Prop :=
  ∃ A cap A2 c2, e = .returned (.tuple #[.agg #[.slice A ds'.length cap, .int .i64 q], .slice A2 ids.length c2]) ∧ DV w' w.heap.size w'.heap.size A ds' ∧ IV w' w.heap.size w'.heap.size A2 ids ∧ Below w.heap.size w w'

theorem owns_below {w w' : World} {base B : Nat} {t : TypeId} {sz n : Nat} {v : Value} {xs : List Value} (h : w.ownsRow base t sz v n xs) (hb : Below B w w') (hB : w.heap.size ≤ B) : w'.ownsRow base t sz v n xs := by
  refine ⟨h.1, ?_⟩
  rcases h.2 with hn | ⟨r, c, cur, rfl, hb', hg, rest⟩
  · exact .inl hn
  · exact .inr ⟨r, c, cur, rfl, hb', (hb.block r (by have := (Array.getElem?_eq_some_iff.1 hg).1; omega)).trans hg, rest⟩


end Go.Proofs.Ytehdbdolhkflcaa.Hp

namespace Go.Proofs.Ytehdbdolhkflcaa.Hp
open Go.RowKit Go.Deep Base

/-- In order but for the item at k, which may have to go up. -/
structure UH (ds : List Du) (k : Nat) : Prop where
  far : ∀ i, 0 < i → i < ds.length → i ≠ k → before (ds.getD i zDu) (ds.getD (par i) zDu) = false
  near : 0 < k → ∀ i, 0 < i → i < ds.length → par i = k → before (ds.getD i zDu) (ds.getD (par k) zDu) = false

theorem up_heap : ∀ (F : Nat) (ds : List Du) (k : Nat), k < ds.length → k ≤ F → UH ds k → HP (upD F ds k)
  | 0, ds, k, hk, hF, h => fun i h0 hi => h.far i h0 hi (by omega)
  | F + 1, ds, k, hk, hF, h => by
    unfold upD
    split
    · next e =>
      simp only [Bool.and_eq_true, decide_eq_true_eq] at e
      obtain ⟨hk0, hb⟩ := e
      have hpl : par k < k := by unfold par; omega
      have hp : par k < ds.length := by omega
      generalize hm : par k = m at hb hpl hp ⊢
      refine up_heap F _ _ (by rw [swapD_len]; exact hp) (by omega) ⟨fun i h0 hi hne => ?_, fun hm0 i h0 hi hpi => ?_⟩
      · rw [swapD_len] at hi
        rw [getD_swap hk hp, getD_swap hk hp, if_neg hne]
        by_cases e1 : i = k
        · subst e1
          rw [if_pos rfl, if_pos hm]
          exact before_asym hb
        · rw [if_neg e1]
          by_cases e2 : par i = m
          · rw [if_pos e2]
            have := h.far i h0 hi e1
            rw [e2] at this
            exact before_neg this (before_asym hb)
          · rw [if_neg e2]
            by_cases e3 : par i = k
            · rw [if_pos e3]
              have := h.near hk0 i h0 hi e3
              rw [hm] at this
              exact this
            · rw [if_neg e3]
              exact h.far i h0 hi e1
      · rw [swapD_len] at hi
        have hpm : par m < m := by unfold par; omega
        have hi2 : i ≠ m := by unfold par at hpi; omega
        rw [getD_swap hk hp, getD_swap hk hp, if_neg hi2, if_neg (show ¬ par m = m by omega), if_neg (show ¬ par m = k by omega)]
        have hm' := h.far m hm0 hp (by omega)
        by_cases e1 : i = k
        · rw [if_pos e1]
          exact hm'
        · rw [if_neg e1]
          have := h.far i h0 hi e1
          rw [hpi] at this
          exact before_neg this hm'
    · next e =>
      intro i h0 hi
      by_cases e1 : i = k
      · subst e1
        simp only [Bool.and_eq_true, decide_eq_true_eq, not_and, Bool.not_eq_true] at e
        exact e h0
      · exact h.far i h0 hi e1

theorem must_no {es : List Du} {k : Nat} (h : HP es) : mustD es k = false := by
  rw [← Bool.not_eq_true]
  intro e
  have hl := kid_lt e
  have hp := kid_par es k
  have := h (kid es k) (by have := kid_gt es k; omega) hl
  rw [hp] at this
  unfold mustD at e
  rw [this, Bool.and_false] at e
  cases e

theorem rem_heap {ds : List Du} {k : Nat} (h : HP ds) (hk : k < ds.length) : HP (remD ds k) := by
  unfold remD
  have hcl : (cutD ds k).length = ds.length - 1 := cutD_len ds k
  have hg : ∀ i, i < ds.length - 1 → (cutD ds k).getD i zDu = if i = k then ds.getD (ds.length - 1) zDu else ds.getD i zDu := fun i hi => getD_cut hk hi
  generalize cutD ds k = es at hcl hg ⊢
  split
  · next hlt =>
    have hfar : ∀ i, 0 < i → i < es.length → i ≠ k → par i ≠ k → before (es.getD i zDu) (es.getD (par i) zDu) = false := fun i h0 hi e1 e2 => by
      rw [hg i (by omega), hg (par i) (by unfold par; omega), if_neg e1, if_neg e2]
      exact h i h0 (by omega)
    have hnear : 0 < k → ∀ i, 0 < i → i < es.length → par i = k → before (es.getD i zDu) (es.getD (par k) zDu) = false := fun hk0 i h0 hi e => by
      rw [hg i (by omega), hg (par k) (by unfold par; omega), if_neg (by unfold par at e; omega), if_neg (by unfold par; omega)]
      have h1 := h i h0 (by omega)
      rw [e] at h1
      exact before_neg h1 (h k hk0 hk)
    by_cases hb : (decide (0 < k) && before (es.getD k zDu) (es.getD (par k) zDu)) = true
    · have hb' := hb
      simp only [Bool.and_eq_true, decide_eq_true_eq] at hb'
      have hH := up_heap k es k (by omega) (Nat.le_refl _) ⟨fun i h0 hi hne => by
        by_cases e : par i = k
        · rw [e]
          exact before_neg (hnear hb'.1 i h0 hi e) (before_asym hb'.2)
        · exact hfar i h0 hi hne e, hnear⟩
      rw [downD_stop (must_no hH)]
      exact hH
    · rw [upD_stop (by simpa using hb)]
      refine down_heap _ _ _ (by omega) (by omega) ⟨fun i h0 hi hne => ?_, hnear⟩
      by_cases e1 : i = k
      · subst e1
        simp only [Bool.and_eq_true, decide_eq_true_eq, not_and, Bool.not_eq_true] at hb
        exact hb h0
      · exact hfar i h0 hi e1 hne
  · next hlt =>
    intro i h0 hi
    rw [hcl] at hi
    rw [hg i hi, hg (par i) (by unfold par; omega), if_neg (by omega), if_neg (by unfold par; omega)]
    exact h i h0 (by omega)

theorem rem_val {ds : List Du} {q : Int} {k : Nat} (h : HV ds q) (hk : k < ds.length) : HV (remD ds k) q := by
  have hp := rem_perm hk
  have hmem : ∀ d ∈ remD ds k, d ∈ ds := fun d hd => hp.subset (List.mem_cons_of_mem _ hd)
  have hl := remD_len ds k
  refine ⟨by have := h.few; omega, h.tick, each_iff.2 fun d hd => each_iff.1 h.each d (hmem d hd), fun i j hj hi => ⟨?_, ?_⟩, rem_heap h.heap hk⟩
  · have h1 : (ds.map Du.id).Nodup := apart_iff.1 (fun i j hj hi => (h.apart i j hj hi).1)
    have h2 := (hp.map Du.id).nodup_iff.2 h1
    exact apart_iff.2 (List.nodup_cons.1 h2).2 i j hj hi
  · have h1 : (ds.map Du.seq).Nodup := apart_iff.1 (fun i j hj hi => (h.apart i j hj hi).2)
    have h2 := (hp.map Du.seq).nodup_iff.2 h1
    exact apart_iff.2 (List.nodup_cons.1 h2).2 i j hj hi

theorem pop_val : ∀ (F : Nat) (es : List Du) (now q : Int), HV es q → HV (popR F es now) q
  | 0, _, _, _, h => h
  | F + 1, es, now, q, h => by
    unfold popR
    split
    · next e =>
      unfold dueB at e
      simp only [Bool.and_eq_true, decide_eq_true_eq] at e
      exact pop_val F _ _ _ (rem_val h e.1)
    · exact h

theorem nil_val : HV [] 0 := ⟨by simp, by decide, fun i hi => absurd hi (by simp), fun i j _ hi => absurd hi (by simp), fun k _ hk => absurd hk (by simp)⟩
theorem first_least {ds : List Du} (h : HP ds) (i : Nat) (hi : i < ds.length) : before (ds.getD i zDu) (ds.getD 0 zDu) = false := by
  induction i using Nat.strongRecOn with
  | _ i ih =>
    by_cases e : i = 0
    · subst e
      rw [← Bool.not_eq_true, before_iff]; omega
    · exact before_neg (h i (by omega) hi) (ih (par i) (by unfold par; omega) (by unfold par; omega))
theorem first_mem {ds : List Du} (h : HP ds) {d : Du} (hd : d ∈ ds) : before d (ds.getD 0 zDu) = false := by
  obtain ⟨i, hi, rfl⟩ := List.mem_iff_getElem.1 hd
  have := first_least h i hi
  simpa [List.getD_eq_getElem?_getD, hi] using this

/-- The items that go, in the order in which they go. -/
def popE : Nat → List Du → Int → List Du
  | 0, _, _ => []
  | F + 1, es, now => if dueB es now = true then es.getD 0 zDu :: popE F (remD es 0) now else []
theorem popE_ids : ∀ (F : Nat) (es : List Du) (now : Int), popI F es now = (popE F es now).map Du.id
  | 0, _, _ => rfl
  | F + 1, es, now => by
    unfold popI popE
    split
    · rw [List.map_cons, popE_ids F]
    · rfl
theorem due_pos {es : List Du} {now : Int} (h : dueB es now = true) : 0 < es.length ∧ (es.getD 0 zDu).at ≤ now := by
  unfold dueB at h
  simpa only [Bool.and_eq_true, decide_eq_true_eq] using h
theorem popE_perm : ∀ (F : Nat) (es : List Du) (now : Int), (popE F es now ++ popR F es now).Perm es
  | 0, _, _ => List.Perm.refl _
  | F + 1, es, now => by
    unfold popE popR
    split
    · next e =>
      rw [List.cons_append]
      exact (List.Perm.cons _ (popE_perm F (remD es 0) now)).trans (rem_perm (due_pos e).1)
    · exact List.Perm.refl _
theorem popE_due : ∀ (F : Nat) (es : List Du) (now : Int) (d : Du), d ∈ popE F es now → d.at ≤ now
  | 0, _, _, _, h => by cases h
  | F + 1, es, now, d, h => by
    unfold popE at h
    split at h
    · next e =>
      rcases List.mem_cons.1 h with rfl | h
      · exact (due_pos e).2
      · exact popE_due F _ _ _ h
    · cases h
theorem popR_late : ∀ (F : Nat) (es : List Du) (now : Int), HP es → es.length ≤ F → ∀ d ∈ popR F es now, now < d.at
  | 0, es, now, _, hl, d, h => by
    have : es = [] := List.eq_nil_of_length_eq_zero (by omega)
    subst this
    cases h
  | F + 1, es, now, hp, hl, d, h => by
    unfold popR at h
    split at h
    · next e => exact popR_late F _ _ (rem_heap hp (due_pos e).1) (by rw [remD_len]; omega) d h
    · next e =>
      have h1 := first_mem hp h
      have h0 : 0 < es.length := List.length_pos_of_mem h
      unfold dueB at e
      simp only [Bool.and_eq_true, decide_eq_true_eq, not_and] at e
      have h2 := e h0
      rw [← Bool.not_eq_true, before_iff] at h1
      omega
theorem popE_sorted : ∀ (F : Nat) (es : List Du) (now : Int), HP es → (popE F es now).Pairwise (fun a b => before b a = false)
  | 0, _, _, _ => List.Pairwise.nil
  | F + 1, es, now, hp => by
    unfold popE
    split
    · next e =>
      refine List.Pairwise.cons (fun b hb => ?_) (popE_sorted F _ _ (rem_heap hp (due_pos e).1))
      refine first_mem hp ((rem_perm (due_pos e).1).subset (List.mem_cons_of_mem _ ?_))
      exact (popE_perm F (remD es 0) now).subset (List.mem_append_left _ hb)
    · exact List.Pairwise.nil
theorem popE_prefix : ∀ (F : Nat) (es : List Du) (now B : Int), now ≤ B → popE F es now <+: popE F es B
  | 0, _, _, _, _ => List.prefix_refl _
  | F + 1, es, now, B, h => by
    unfold popE
    split
    · next e =>
      have e2 : dueB es B = true := by
        have := due_pos e
        unfold dueB
        simp only [Bool.and_eq_true, decide_eq_true_eq]
        exact ⟨this.1, by omega⟩
      rw [if_pos e2]
      exact (List.prefix_cons_inj _).2 (popE_prefix F _ _ _ h)
    · exact List.nil_prefix
end Go.Proofs.Ytehdbdolhkflcaa.Hp
