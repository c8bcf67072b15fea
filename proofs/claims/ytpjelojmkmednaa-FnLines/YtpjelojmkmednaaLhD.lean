/- Removing the first item keeps a heap valid; what is popped. Plain mathematics. The program's popUntil and PopDue. -/
import Derived.Test.YtpjelojmkmednaaLh8
import Derived.Test.YtpjelojmkmednaaLh9
import Derived.Test.YtpjelojmkmednaaLhA
namespace Go.Proofs.Ytpjelojmkmednaa.Hp
open Go.RowKit Go.Deep Base

theorem getD_set {ds : List Du} {i j : Nat} {d : Du} (hi : i < ds.length) : (ds.set i d).getD j zDu = if j = i then d else ds.getD j zDu := by
  by_cases e : j = i
  · subst e
    rw [if_pos rfl]
    simp [List.getD_eq_getElem?_getD, hi]
  · rw [if_neg e]
    have e' : ¬ i = j := fun h => e h.symm
    simp [List.getD_eq_getElem?_getD, e']
theorem getD_swap {ds : List Du} {i j k : Nat} (hi : i < ds.length) (hj : j < ds.length) : (swapD ds i j).getD k zDu = if k = j then ds.getD i zDu else if k = i then ds.getD j zDu else ds.getD k zDu := by
  unfold swapD
  rw [getD_set (by simpa using hj)]
  split
  · rfl
  · rw [getD_set hi]

theorem swap_perm {ds : List Du} {i j : Nat} (hi : i < ds.length) (hj : j < ds.length) : (swapD ds i j).Perm ds := by
  have e : swapD ds i j = (ds.set i ds[j]).set j ds[i] := by
    unfold swapD
    simp [List.getD_eq_getElem?_getD, hi, hj]
  rw [e]
  exact List.set_set_perm hi hj

theorem up_perm : ∀ (F : Nat) (ds : List Du) (k : Nat), k < ds.length → (upD F ds k).Perm ds
  | 0, _, _, _ => List.Perm.refl _
  | F + 1, ds, k, hk => by
    unfold upD
    split
    · have hp : par k < ds.length := by unfold par; omega
      exact (up_perm F _ _ (by rw [swapD_len]; exact hp)).trans (swap_perm hk hp)
    · exact List.Perm.refl _
theorem down_perm : ∀ (F : Nat) (ds : List Du) (k : Nat), k < ds.length → (downD F ds k).Perm ds
  | 0, _, _, _ => List.Perm.refl _
  | F + 1, ds, k, hk => by
    unfold downD
    split
    · next h =>
      have hp := kid_lt h
      exact (down_perm F _ _ (by rw [swapD_len]; exact hp)).trans (swap_perm hk hp)
    · exact List.Perm.refl _

theorem cut_perm {ds : List Du} {k : Nat} (hk : k < ds.length) : (ds.getD k zDu :: cutD ds k).Perm ds := by
  have hl : ds.length - 1 < ds.length := by omega
  have h1 : swapD ds k (ds.length - 1) = cutD ds k ++ [ds.getD k zDu] := by
    have hs : (swapD ds k (ds.length - 1)).length = ds.length := swapD_len _ _ _
    have h2 : (swapD ds k (ds.length - 1)).drop (ds.length - 1) = [ds.getD k zDu] := by
      rw [List.drop_eq_getElem_cons (by omega)]
      have h3 : (swapD ds k (ds.length - 1))[ds.length - 1]'(by omega) = (swapD ds k (ds.length - 1)).getD (ds.length - 1) zDu := by
        rw [List.getD_eq_getElem?_getD, List.getElem?_eq_getElem (by omega)]; rfl
      rw [h3, getD_swap hk hl, if_pos rfl, List.drop_eq_nil_of_le (by omega)]
    conv => lhs; rw [← List.take_append_drop (ds.length - 1) (swapD ds k (ds.length - 1))]
    rw [h2]
    rfl
  have h4 := swap_perm hk hl
  rw [h1] at h4
  exact (List.perm_append_comm (l₁ := [ds.getD k zDu]) (l₂ := cutD ds k)).trans h4
theorem rem_perm {ds : List Du} {k : Nat} (hk : k < ds.length) : (ds.getD k zDu :: remD ds k).Perm ds := by
  refine List.Perm.trans (List.Perm.cons _ ?_) (cut_perm hk)
  unfold remD
  split
  · next h =>
    have h1 : k < (cutD ds k).length := by rw [cutD_len]; exact h
    exact (down_perm _ _ _ (by rw [upD_len]; exact h1)).trans (up_perm _ _ _ h1)
  · exact List.Perm.refl _

/-- A valid heap's parts, in a form that does not look at places. -/
theorem apart_iff {ds : List Du} {f : Du → Int} : (∀ i j, j < i → i < ds.length → f (ds.getD j zDu) ≠ f (ds.getD i zDu)) ↔ (ds.map f).Nodup := by
  rw [List.Nodup, List.pairwise_iff_getElem]
  constructor
  · intro h i j hi hj hij
    have := h j i hij (by simpa using hj)
    simpa [List.getD_eq_getElem?_getD, show i < ds.length by simpa using hi, show j < ds.length by simpa using hj] using this
  · intro h i j hj hi
    have := h j i (by simp; omega) (by simpa using hi) hj
    simpa [List.getD_eq_getElem?_getD, show j < ds.length by omega, hi] using this
theorem each_iff {ds : List Du} {p : Du → Bool} : (∀ i, i < ds.length → p (ds.getD i zDu) = true) ↔ ∀ d ∈ ds, p d = true := by
  constructor
  · intro h d hd
    obtain ⟨i, hi, rfl⟩ := List.getElem_of_mem hd
    have := h i hi
    simpa [List.getD_eq_getElem?_getD, hi] using this
  · intro h i hi
    have := h ds[i] (List.getElem_mem hi)
    simpa [List.getD_eq_getElem?_getD, hi] using this

theorem before_asym {a b : Du} (h : before a b = true) : before b a = false := by
  rw [← Bool.not_eq_true]
  rw [before_iff] at *
  omega

def HP (ds : List Du) : Prop := ∀ i, 0 < i → i < ds.length → before (ds.getD i zDu) (ds.getD (par i) zDu) = false
/-- In order but for the item at k, which may have to go down. -/
structure DH (ds : List Du) (k : Nat) : Prop where
  far : ∀ i, 0 < i → i < ds.length → par i ≠ k → before (ds.getD i zDu) (ds.getD (par i) zDu) = false
  near : 0 < k → ∀ i, 0 < i → i < ds.length → par i = k → before (ds.getD i zDu) (ds.getD (par k) zDu) = false

theorem par_kids {i k : Nat} (h0 : 0 < i) (h : par i = k) : i = 2 * k + 1 ∨ i = 2 * k + 2 := by unfold par at h; omega
theorem kid_par (es : List Du) (k : Nat) : par (kid es k) = k := by unfold kid par; split <;> omega

theorem kid_least {ds : List Du} {k i : Nat} (h0 : 0 < i) (hi : i < ds.length) (h : par i = k) : before (ds.getD i zDu) (ds.getD (kid ds k) zDu) = false := by
  have self : ∀ a : Du, before a a = false := fun a => by rw [← Bool.not_eq_true, before_iff]; omega
  rcases par_kids h0 h with rfl | rfl
  · unfold kid
    split
    · next e =>
      simp only [Bool.and_eq_true] at e
      exact before_asym e.2
    · exact self _
  · unfold kid
    split
    · exact self _
    · next e =>
      simp only [Bool.and_eq_true, decide_eq_true_eq, not_and, Bool.not_eq_true] at e
      exact e hi

theorem down_heap : ∀ (F : Nat) (ds : List Du) (k : Nat), k < ds.length → ds.length ≤ F + k → DH ds k → HP (downD F ds k)
  | 0, _, _, hk, hF, _ => by omega
  | F + 1, ds, k, hk, hF, h => by
    unfold downD
    split
    · next hm =>
      have hp := kid_lt hm
      have hg := kid_gt ds k
      have hpk := kid_par ds k
      have hbk : before (ds.getD (kid ds k) zDu) (ds.getD k zDu) = true := by unfold mustD at hm; simp only [Bool.and_eq_true] at hm; exact hm.2
      have hleast := fun i h0 hi h => kid_least (ds := ds) (k := k) (i := i) h0 hi h
      generalize kid ds k = m at hp hg hpk hbk hleast ⊢
      refine down_heap F _ _ (by rw [swapD_len]; exact hp) (by rw [swapD_len]; omega) ⟨fun i h0 hi hne => ?_, fun _ i h0 hi hpi => ?_⟩
      · rw [swapD_len] at hi
        rw [getD_swap hk hp, getD_swap hk hp, if_neg hne]
        by_cases e1 : i = m
        · subst e1
          rw [if_pos rfl, if_pos hpk]
          exact before_asym hbk
        · rw [if_neg e1]
          by_cases e2 : i = k
          · subst e2
            rw [if_pos rfl, if_neg (by unfold par; omega)]
            exact h.near h0 m (by omega) hp hpk
          · rw [if_neg e2]
            by_cases e3 : par i = k
            · rw [if_pos e3]
              exact hleast i h0 hi e3
            · rw [if_neg e3]
              exact h.far i h0 hi e3
      · rw [swapD_len] at hi
        have h1 : m < i := by unfold par at hpi; omega
        rw [getD_swap hk hp, getD_swap hk hp, if_neg (by omega), if_neg (by omega), if_neg (by omega), if_pos hpk]
        have := h.far i h0 hi (by omega)
        rw [hpi] at this
        exact this
    · next hm =>
      intro i h0 hi
      by_cases e : par i = k
      · rw [e]
        have h1 := kid_least h0 hi e
        have h2 : before (ds.getD (kid ds k) zDu) (ds.getD k zDu) = false := by
          unfold mustD at hm
          rcases par_kids h0 e with e1 | e1
          · simp only [Bool.and_eq_true, decide_eq_true_eq, not_and, Bool.not_eq_true] at hm
            exact hm (by omega)
          · simp only [Bool.and_eq_true, decide_eq_true_eq, not_and, Bool.not_eq_true] at hm
            exact hm (by omega)
        exact before_neg h1 h2
      · exact h.far i h0 hi e

theorem getD_cut {ds : List Du} {k i : Nat} (hk : k < ds.length) (hi : i < ds.length - 1) : (cutD ds k).getD i zDu = if i = k then ds.getD (ds.length - 1) zDu else ds.getD i zDu := by
  unfold cutD
  rw [getD_take hi, getD_swap hk (by omega), if_neg (by omega)]

theorem rem0_val {ds : List Du} {q : Int} (h : HV ds q) (h0 : 0 < ds.length) : HV (remD ds 0) q := by
  have hp := rem_perm h0
  have hmem : ∀ d ∈ remD ds 0, d ∈ ds := fun d hd => hp.subset (List.mem_cons_of_mem _ hd)
  have hl := remD_len ds 0
  refine ⟨by have := h.few; omega, h.tick, each_iff.2 fun d hd => each_iff.1 h.each d (hmem d hd), fun i j hj hi => ⟨?_, ?_⟩, ?_⟩
  · have h1 : (ds.map Du.id).Nodup := apart_iff.1 (fun i j hj hi => (h.apart i j hj hi).1)
    have h2 := (hp.map Du.id).nodup_iff.2 h1
    exact apart_iff.2 (List.nodup_cons.1 h2).2 i j hj hi
  · have h1 : (ds.map Du.seq).Nodup := apart_iff.1 (fun i j hj hi => (h.apart i j hj hi).2)
    have h2 := (hp.map Du.seq).nodup_iff.2 h1
    exact apart_iff.2 (List.nodup_cons.1 h2).2 i j hj hi
  · show HP (remD ds 0)
    unfold remD
    split
    · next hlt =>
      have hcl : (cutD ds 0).length = ds.length - 1 := cutD_len ds 0
      refine down_heap _ _ _ (by rw [upD_len, hcl]; exact hlt) (by rw [upD_len, hcl]; omega) ⟨fun i hi0 hi hne => ?_, fun h => absurd h (by omega)⟩
      rw [upD_len, hcl] at hi
      show before ((cutD ds 0).getD i zDu) ((cutD ds 0).getD (par i) zDu) = false
      rw [getD_cut h0 hi, getD_cut h0 (by unfold par; omega), if_neg (by omega), if_neg hne]
      exact h.heap i hi0 (by omega)
    · next hlt =>
      intro i hi0 hi
      rw [cutD_len] at hi
      omega

/-- The items that stay, and the Ids that go, when all that is due by now is popped, with fuel. -/
def dueB (es : List Du) (now : Int) : Bool := decide (0 < es.length) && decide ((es.getD 0 zDu).at ≤ now)
def popR : Nat → List Du → Int → List Du
  | 0, es, _ => es
  | F + 1, es, now => if dueB es now = true then popR F (remD es 0) now else es
def popI : Nat → List Du → Int → List Int
  | 0, _, _ => []
  | F + 1, es, now => if dueB es now = true then (es.getD 0 zDu).id :: popI F (remD es 0) now else []
theorem pop_stop {F : Nat} {es : List Du} {now : Int} (h : dueB es now = false) : popR F es now = es ∧ popI F es now = [] := by
  cases F with
  | zero => exact ⟨rfl, rfl⟩
  | succ F => unfold popR popI; rw [if_neg (by rw [h]; simp), if_neg (by rw [h]; simp)]; exact ⟨rfl, rfl⟩
theorem pop_go {F : Nat} {es : List Du} {now : Int} (h : dueB es now = true) : popR (F + 1) es now = popR F (remD es 0) now ∧ popI (F + 1) es now = (es.getD 0 zDu).id :: popI F (remD es 0) now := by
  constructor
  · conv => lhs; unfold popR
    rw [if_pos h]
  · conv => lhs; unfold popI
    rw [if_pos h]
theorem popR_len : ∀ (F : Nat) (es : List Du) (now : Int), (popR F es now).length ≤ es.length
  | 0, _, _ => Nat.le_refl _
  | F + 1, es, now => by
    unfold popR
    split
    · exact Nat.le_trans (popR_len F _ _) (by rw [remD_len]; omega)
    · exact Nat.le_refl _
theorem popI_len : ∀ (F : Nat) (es : List Du) (now : Int), (popI F es now).length ≤ F
  | 0, _, _ => Nat.le_refl _
  | F + 1, es, now => by
    unfold popI
    split
    · have := popI_len F (remD es 0) now
      simp; exact this
    · simp

/-- PopDue's answer. -/
def popD (ds : List Du) (q now : Int) : List Du := if okH ds q = true then popR ds.length ds now else ds
def popL (ds : List Du) (q now : Int) : List Int := if okH ds q = true then popI ds.length ds now else []
theorem fndD_first {ds : List Du} (h : 0 < ds.length) : fndD ds (ds.getD 0 zDu).id = ((0 : Nat) : Int) := fndD_here h (fun j hj => absurd hj (by omega)) rfl
end Go.Proofs.Ytpjelojmkmednaa.Hp

namespace Go.Proofs.Ytpjelojmkmednaa.Hp
open Go.RowKit Go.Deep Base

theorem infoInt : (Try.prog.info? 3).map (fun i => (i.zero, i.size, i.bytes)) = some (some (.int .i64 0), 1, 8) := by kernel_rfl

/-- The length of the slice in the tree's box. -/
def lenAt (w : World) (b : Nat) : Nat := match w.cell? ⟨b, 0, none⟩ with
  | some (.slice _ n _) => n
  | _ => 0
theorem lenAt_of {w : World} {b n cap : Nat} {A : Option Addr} (h : w.cell? ⟨b, 0, none⟩ = some (.slice A n cap)) : lenAt w b = n := by unfold lenAt; rw [h]

theorem new_one_at {w : World} {B : Nat} (h : w.heap.size = B) (a : Value) (t : TypeId) : ∀ j u, [a][j]? = some u → (w.alloc (.cells #[a] t)).cell? ((⟨B, 0, none⟩ : Addr).add j) = some u := by
  subst h
  intro j u hj
  have ea : (⟨w.heap.size, 0, none⟩ : Addr).add j = ⟨w.heap.size, j, none⟩ := by
    unfold Addr.add; split
    · next h => subst h; rfl
    · simp
  rw [ea, cell_of_row _ _ j #[a] t (0, 0) (heap_alloc_new w _)]
  simpa using hj

/-- A row of integers and a block of another type are two. -/
theorem own_ne {w : World} {base p n : Nat} {v : Value} {xs : List Value} {cur : Array Value} {t : TypeId} (h : w.ownsRow base 3 1 v n xs) (hp : w.heap[p]? = some (.cells cur t (0, 0))) (ht : t ≠ 3) : some p ≠ v.ownBlock := by
  rcases h.2 with ⟨rfl, _⟩ | ⟨g, _, cur', rfl, _, hg, _⟩
  · exact fun e => by cases e
  · intro e
    injection e with e
    have e' : p = g := e
    rw [e', hg] at hp
    injection hp with hp
    injection hp with _ hp _
    exact ht hp.symm

/-- What popUntil leaves. -/
def PopEnd (w : World) (b lo hi cap : Nat) (A : Option Addr) (ds : List Du) (now : Int) (e : Ending) (w' : World) : Prop :=
  ∃ A2 c2, e = .returned (.slice A2 (popI ds.length ds now).length c2) ∧ IV w' w.heap.size w'.heap.size A2 (popI ds.length ds now) ∧ Tr w' b A (popR ds.length ds now).length cap ∧ DV w' lo hi A (popR ds.length ds now) ∧ Below lo w w'
    ∧ w'.ownsRow w.heap.size 3 1 (.slice A2 (popI ds.length ds now).length c2) (popI ds.length ds now).length ((popI ds.length ds now).map (Value.int .i64))

structure PopSt (w wr : World) (b lo hi cap : Nat) (A : Option Addr) (ds es : List Du) (q now : Int) (v : Value) (pre : List Int) (p : Nat) : Prop where
  tree : Tr wr b A es.length cap
  items : DV wr lo hi A es
  val : HV es q
  own : wr.ownsRow w.heap.size 3 1 v pre.length (pre.map (Value.int .i64))
  rest : popR ds.length ds now = popR es.length es now
  ids : popI ds.length ds now = pre ++ popI es.length es now
  few : pre.length + es.length ≤ ds.length
  d : Bk3 wr p (fstD es).at (fstD es).seq (fstD es).id
  dp : w.heap.size ≤ p
  old : Below lo w wr

set_option maxRecDepth 100000 in
set_option maxHeartbeats 2000000 in
theorem popUntil_any (b lo hi cap : Nat) (A : Option Addr) (ds : List Du) (q now : Int) (w : World) (hv : HV ds q) (ht : Tr w b A ds.length cap) (h : DV w lo hi A ds) (hc : ds.length ≤ cap) (hs : hi ≤ w.heap.size) (hib : hi ≤ b) (hlb : lo ≤ b) :
    Calls Try.prog 91 #[.pointer (some ⟨b, 0, none⟩), .int .i64 now] w (PopEnd w b lo hi cap A ds now) := by
  have HV0 := Lib.hid hv
  have HI := Lib.hid h
  have HT := Lib.hid ht
  have hbl := ht.lt
  have hfew : ds.length ≤ 100 := hv.few
  clear hv h ht
  obtain ⟨i0, hi0, hz0, hz1, hz2⟩ := info_parts infoInt
  have Hi0 := Lib.hid hi0
  have Hz0 := Lib.hid hz0
  have Hz1 := Lib.hid hz1
  have Hz2 := Lib.hid hz2
  clear hi0 hz0 hz1 hz2
  go_enter Try.func91, Try.ntmps91
  go_wp2_with fail
  refine (first_any b A ds.length cap lo hi ds w rfl HT.out HI.out hs).mono ?_
  rintro e w1 ⟨rfl, b1⟩
  have St0 : Hid (PopSt w (w1.alloc (.cells #[.int .i64 (fstD ds).at, .int .i64 (fstD ds).seq, .int .i64 (fstD ds).id] 80)) b lo hi cap A ds ds q now (.slice none 0 0) [] w1.heap.size) := by
    have b2 := bel_trans b1 (bel_alloc w1 (.cells #[.int .i64 (fstD ds).at, .int .i64 (fstD ds).seq, .int .i64 (fstD ds).id] 80))
    exact ⟨HT.out.below b2, HI.out.below b2 hs, HV0.out, World.ownsRow_nil _ _ _ _, rfl, rfl, by simp, heap_alloc_new w1 _, b1.size, b2.mono (by omega)⟩
  clear b1
  generalize (fstD ds).at = f0 at St0 ⊢
  generalize (fstD ds).seq = f1 at St0 ⊢
  generalize (fstD ds).id = f2 at St0 ⊢
  go_wp2_with fail
  go_loopw [5, 6] (fun x d wr => ∃ (v : Value) (es : List Du) (pre : List Int) (p : Nat), v = x ∧ d = .pointer (some ⟨p, 0, none⟩) ∧ PopSt w wr b lo hi cap A ds es q now v pre p) (fun _ _ wr => lenAt wr b)
  case atStart => exact ⟨_, ds, [], w1.heap.size, rfl, rfl, St0.out⟩
  case round =>
    obtain ⟨v, es, pre, p, hv, rfl, st⟩ := hrel
    subst hv
    have St := Lib.hid st
    clear st St0
    obtain ⟨d0, d1, d2, df⟩ := St.out.d.cells
    have hpl := St.out.d.lt
    obtain ⟨dat, dseq, did, hd⟩ : ∃ a b c, fstD es = ⟨a, b, c⟩ := ⟨_, _, _, rfl⟩
    have HD : Hid (Bk3 wr p dat dseq did) := by have := St.out.d; rw [hd] at this; exact this
    rw [hd] at d0 d1 d2
    dsimp only at d0 d1 d2
    have Hd := Lib.hid hd
    clear hd
    have hesl : es.length ≤ ds.length := by have := St.out.few; omega
    cases hdue : dueB es now
    · have Hdue := Lib.hid hdue
      have hstop : (dat = 0 ∧ dseq = 0 ∧ did = 0) ∨ (1 ≤ did ∧ now < dat) := by
        by_cases h0 : 0 < es.length
        · right
          have h1 := St.out.val.each 0 h0
          have h2 : es.getD 0 zDu = ⟨dat, dseq, did⟩ := Hd.out
          rw [h2] at h1
          unfold okD at h1
          simp only [Bool.and_eq_true, Tick.inB_iff] at h1
          unfold dueB at hdue
          rw [h2, decide_eq_true h0] at hdue
          simp at hdue
          exact ⟨h1.2.1, hdue⟩
        · left
          have h1 : es = [] := List.eq_nil_of_length_eq_zero (by omega)
          have h2 := Hd.out
          rw [h1] at h2
          have h3 : (⟨0, 0, 0⟩ : Du) = ⟨dat, dseq, did⟩ := h2
          injection h3 with a b c
          exact ⟨a.symm, b.symm, c.symm⟩
      clear hdue
      have HEnd : Hid (PopEnd w b lo hi cap A ds now (.returned v) wr) := by
        obtain ⟨A2, c2, rfl⟩ := owns_form St.out.own
        obtain ⟨h1, h2⟩ := pop_stop (F := es.length) Hdue.out
        have h3 := St.out.rest
        have h4 := St.out.ids
        rw [h1] at h3
        rw [h2, List.append_nil] at h4
        unfold PopEnd
        rw [h3, h4]
        exact ⟨A2, c2, rfl, iv_owns St.out.own, St.out.tree, St.out.items, St.out.old, St.out.own⟩
      rcases hstop with ⟨rfl, rfl, rfl⟩ | ⟨h1, h2⟩
      · go_wp2
        go_ret
        exact HEnd.out
      · have h3 : (did == 0) = false := by simp; omega
        have h4 : ¬ dat ≤ now := by omega
        go_wp2
        go_ret
        exact HEnd.out
    · have h0 : 0 < es.length := by unfold dueB at hdue; simp only [Bool.and_eq_true, decide_eq_true_eq] at hdue; exact hdue.1
      have hle : dat ≤ now := by
        unfold dueB at hdue
        simp only [Bool.and_eq_true, decide_eq_true_eq] at hdue
        have h2 : es.getD 0 zDu = ⟨dat, dseq, did⟩ := Hd.out
        rw [h2] at hdue
        exact hdue.2
      have hid1 : 1 ≤ did := by
        have h1 := St.out.val.each 0 h0
        have h2 : es.getD 0 zDu = ⟨dat, dseq, did⟩ := Hd.out
        rw [h2] at h1
        unfold okD at h1
        simp only [Bool.and_eq_true, Tick.inB_iff] at h1
        exact h1.2.1
      have h3 : (did == 0) = false := by simp; omega
      have Hgo := Lib.hid (pop_go (F := es.length - 1) hdue)
      clear hdue
      obtain ⟨g, hA, hg1, hg2, hrd⟩ := St.out.items h0
      obtain ⟨m, hm⟩ : ∃ m, es.length = m + 1 := ⟨es.length - 1, by omega⟩
      have Hm := Lib.hid hm
      have HTr : Hid (Tr wr b (some ⟨g, 0, none⟩) (m + 1) cap) := by have := St.out.tree; rw [hA, hm] at this; exact this
      have Hrd := Lib.hid hrd
      have HA := Lib.hid hA
      have hwz : w.heap.size ≤ wr.heap.size := St.out.old.size
      clear hA hrd hm
      go_wp2_with fail
      refine (remove_any b g m cap 0 lo (b + 1) es wr Hm.out (by have := Hm.out; omega) (by omega) (by have := Hm.out; omega) HTr.out Hrd.out (by omega) (by omega) hg1 (by omega) hlb (by omega)).mono ?_
      rintro e w2 ⟨rfl, t2, r2, n2⟩
      have T2 := Lib.hid t2
      have R2 := Lib.hid r2
      have D2 : Hid (Bk3 w2 p dat dseq did) := (n2.block p hpl (by have := St.out.dp; omega)).trans HD.out
      have O2 : Hid (w2.ownsRow w.heap.size 3 1 v pre.length (pre.map (Value.int .i64))) := by
        have h1 := St.out.own
        refine ⟨h1.1, ?_⟩
        rcases h1.2 with hn | ⟨r, c, cur, rfl, hb, hg, rest⟩
        · exact .inl hn
        · exact .inr ⟨r, c, cur, rfl, hb, (n2.block r (Array.getElem?_eq_some_iff.1 hg).1 (by omega)).trans hg, rest⟩
      have B2 := Lib.hid (St.out.old.trans (n2.toTurns.below (B := lo) (Nat.le_refl _) (by omega)))
      have z2 : wr.heap.size ≤ w2.heap.size := n2.size
      clear t2 r2 n2 d0 d1 d2 df
      obtain ⟨d0, d1, d2, df⟩ := D2.out.cells
      have hpl2 := D2.out.lt
      have hprel : pre.length ≤ 100 := by have := St.out.few; omega
      go_wp2_with (at_builtin; refine wpList_append_own _ rfl _ _ 33 rfl w.heap.size 3 i0 _ 1 8 Try.underlying33 Hi0.out Hz0.out Hz1.out Hz2.out rfl (by decide) v pre.length (pre.map (Value.int .i64)) rfl ?c0h ⟨w2.heap.size, 0, none⟩ 1 1 [.int .i64 did] rfl ?c6h ?c1h ?c2h ?c3h ?c4h ?c5h ?_)
      case c0h => exact O2.out.alloc _
      case c6h => rfl
      case c1h => exact new_one_at (w := w2) rfl _ _
      case c2h => simp [Value.oneCell']
      case c3h => unfold maxLen; omega
      case c4h => omega
      case c5h => simp; omega
      intro v3 w3 hown hgr _
      have hkeep : ∀ k, k < w2.heap.size → some k ≠ v.ownBlock → w3.heap[k]? = w2.heap[k]? := fun k hk hne => (hgr.block k (by simp; omega) hne).trans (Below.heap_alloc _ _ _ hk)
      have D3 : Hid (Bk3 w3 p dat dseq did) := (hkeep p hpl2 (own_ne O2.out D2.out (by decide))).trans D2.out
      have hne : ∀ k, k < w.heap.size → some k ≠ v.ownBlock := fun k hk e => by have := (O2.out.lt k e.symm).1; omega
      have T3 : Hid (Tr w3 b (some ⟨g, 0, none⟩) m cap) := T2.out.of_block (hkeep b (by omega) (hne b hbl))
      have R3 : Hid (Rd w3 g (remD es 0)) := R2.out.of_block (hkeep g (by omega) (hne g (by omega)))
      have z3 : w2.heap.size ≤ w3.heap.size := by have := hgr.size; simp at this; omega
      have B3 : Hid (Below lo w w3) := (B2.out.alloc (by omega) _).grown hgr (by simp; omega) (fun j e => by have := (O2.out.lt j e).1; omega)
      have O3 : Hid (w3.ownsRow w.heap.size 3 1 v3 (pre ++ [did]).length ((pre ++ [did]).map (Value.int .i64))) := by
        have h1 := hown
        rw [List.length_append, List.map_append]
        exact h1
      clear hown hgr hkeep d0 d1 d2 df O2 D2 T2 R2 B2
      have hpl3 := D3.out.lt
      obtain ⟨d0, d1, d2, df⟩ := D3.out.cells
      go_wp2_with fail
      have hrl : (remD es 0).length = m := by rw [remD_len, Hm.out]; rfl
      have Hrl := Lib.hid hrl
      clear hrl
      refine (first_any b (some ⟨g, 0, none⟩) m cap lo hi (remD es 0) _ Hrl.out (T3.out.below (bel_alloc w3 _)) (DV.below (B := w3.heap.size) (fun _ => ⟨g, rfl, hg1, hg2, R3.out⟩) (bel_alloc w3 _) (by omega)) (by simp; omega)).mono ?_
      rintro e w5 ⟨rfl, b5⟩
      have b35 := bel_trans (bel_alloc w3 (.cells #[.int .i64 dat, .int .i64 dseq, .int .i64 did] 80)) b5
      have D5 : Hid (Bk3 w5 w3.heap.size dat dseq did) := Bk3.below (heap_alloc_new w3 _) b5
      have T5 := Lib.hid (T3.out.below b35)
      have R5 := Lib.hid (R3.out.of_block (b35.block g (by omega)))
      have B5 := Lib.hid (B3.out.trans (b35.mono (by omega)))
      have O5 : Hid (w5.ownsRow w.heap.size 3 1 v3 (pre ++ [did]).length ((pre ++ [did]).map (Value.int .i64))) := by
        have h1 := O3.out
        refine ⟨h1.1, ?_⟩
        rcases h1.2 with hn | ⟨r, c, cur, rfl, hb, hg, rest⟩
        · exact .inl hn
        · exact .inr ⟨r, c, cur, rfl, hb, (b35.block r (Array.getElem?_eq_some_iff.1 hg).1).trans hg, rest⟩
      have z5 : w3.heap.size < w5.heap.size := D5.out.lt
      clear b5 b35 d0 d1 d2 df O3 D3 T3 R3 B3
      obtain ⟨d0, d1, d2, df⟩ := D5.out.cells
      have HQ : Hid (PopSt w (((w5.setCell ⟨w3.heap.size, 0, none⟩ (.int .i64 (fstD (remD es 0)).at)).setCell ⟨w3.heap.size, 1, none⟩ (.int .i64 (fstD (remD es 0)).seq)).setCell ⟨w3.heap.size, 2, none⟩ (.int .i64 (fstD (remD es 0)).id)) b lo hi cap A ds (remD es 0) q now v3 (pre ++ [did]) w3.heap.size) := by
        have hk : ∀ k, k ≠ w3.heap.size → (((w5.setCell ⟨w3.heap.size, 0, none⟩ (.int .i64 (fstD (remD es 0)).at)).setCell ⟨w3.heap.size, 1, none⟩ (.int .i64 (fstD (remD es 0)).seq)).setCell ⟨w3.heap.size, 2, none⟩ (.int .i64 (fstD (remD es 0)).id)).heap[k]? = w5.heap[k]? := fun k hk => by
          rw [heap_setCell_other _ _ _ _ hk, heap_setCell_other _ _ _ _ hk, heap_setCell_other _ _ _ _ hk]
        obtain ⟨p1, p2⟩ := Hgo.out
        have e1 : es.length - 1 + 1 = es.length := by omega
        have e2 : es.length - 1 = (remD es 0).length := (remD_len es 0).symm
        rw [e1, e2] at p1 p2
        refine ⟨?_, ?_, rem0_val St.out.val h0, ?_, by rw [St.out.rest, p1], ?_, ?_, ?_, by omega, ?_⟩
        · have h1 := T5.out.of_block (hk b (by omega))
          rw [HA.out, Hrl.out]
          exact h1
        · rw [HA.out]
          exact fun _ => ⟨g, rfl, hg1, hg2, R5.out.of_block (hk g (by omega))⟩
        · have h1 := O5.out
          refine ⟨h1.1, ?_⟩
          rcases h1.2 with hn | ⟨r, c, cur, rfl, hb, hg, rest⟩
          · exact .inl hn
          · refine .inr ⟨r, c, cur, rfl, hb, (hk r ?_).trans hg, rest⟩
            intro e
            exact own_ne O5.out D5.out (by decide) (by rw [← e]; rfl)
        · rw [St.out.ids, p2, List.append_assoc]
          have h2 : es.getD 0 zDu = ⟨dat, dseq, did⟩ := Hd.out
          rw [h2]
          rfl
        · rw [List.length_append, remD_len]
          have := St.out.few
          simp
          omega
        · have h1 := heap_setCell_same w5 w3.heap.size 0 _ _ (.int .i64 (fstD (remD es 0)).at) D5.out
          have h2 := heap_setCell_same _ w3.heap.size 1 _ _ (.int .i64 (fstD (remD es 0)).seq) h1
          have h3 := heap_setCell_same _ w3.heap.size 2 _ _ (.int .i64 (fstD (remD es 0)).id) h2
          exact h3
        · exact ((B5.out.setCell (show lo ≤ w3.heap.size by omega) _).setCell (show lo ≤ w3.heap.size by omega) _).setCell (show lo ≤ w3.heap.size by omega) _
      generalize (fstD (remD es 0)).at = f3 at HQ ⊢
      generalize (fstD (remD es 0)).seq = f4 at HQ ⊢
      generalize (fstD (remD es 0)).id = f5 at HQ ⊢
      go_wp2
      go_roundw
      case rel => exact ⟨v3, remD es 0, pre ++ [did], w3.heap.size, rfl, rfl, HQ.out⟩
      case measure =>
        rw [lenAt_of HQ.out.tree.cells.1, lenAt_of St.out.tree.cells.1, remD_len]
        omega
end Go.Proofs.Ytpjelojmkmednaa.Hp
