/- Contracts of the leaves of chapter 1: what side, l01In, TickOk and allTicks return, for every argument that reads as integers. The plain mathematics of queues whose slots are linked by their indices: the two walks that decide validity, what they find, and that adding and removing keep it. Nothing of the program is named here. Adding at the end of a valid queue and removing a place keep it valid: plain mathematics. Words for slots and queues in memory: the slots of a queue as a list, what a slice of slots reads, worlds that turn a range of blocks alone. -/
import Derived.Test.YtehdbdolhkflcaaChecked
import Derived.Test.YtehdbdolhkflcaaBase
import Derived.Laws.Rows
import Derived.Deep.MidRow
import Derived.IntWalk
namespace Go.Proofs.Ytehdbdolhkflcaa.Tick
open Go.RowKit Base

def inB (x l h : Int) : Bool := decide (l ≤ x) && decide (x ≤ h)
def isT (t : Int) : Bool := inB t 0 1000000000
def side (m : Int) : Int := if m < 0 then 0 else if 1000000000 < m then 2 else 1
def lim (m : Int) : Int := if m < 0 then 0 else if 1000000000 < m then 1000000000 else m

theorem inB_true {x l h : Int} (a : l ≤ x) (b : x ≤ h) : inB x l h = true := by simp [inB, a, b]
theorem inB_false {x l h : Int} (a : x < l ∨ h < x) : inB x l h = false := by
  unfold inB; rcases a with a | a
  · rw [decide_eq_false (by omega)]; rfl
  · rw [decide_eq_false (p := x ≤ h) (by omega)]; simp
theorem inB_iff {x l h : Int} : inB x l h = true ↔ l ≤ x ∧ x ≤ h := by simp [inB]
theorem isT_iff {t : Int} : isT t = true ↔ 0 ≤ t ∧ t ≤ 1000000000 := inB_iff
theorem isT_true {t : Int} (a : 0 ≤ t) (b : t ≤ 1000000000) : isT t = true := inB_true a b
theorem isT_false {t : Int} (a : t < 0 ∨ 1000000000 < t) : isT t = false := inB_false a
theorem isT_cases (t : Int) : (0 ≤ t ∧ t ≤ 1000000000) ∨ (t < 0 ∨ 1000000000 < t) := by omega

set_option maxRecDepth 100000 in
theorem side_any (m : Int) (w : World) : Calls Try.prog 99 #[.int .i64 m] w fun e w' => e = .returned (.int .i64 (side m)) ∧ w = w' := by
  by_cases h0 : m < 0
  · go_enter Try.func99, Try.ntmps99
    go_wp2
    go_ret
    exact ⟨ret_int (by unfold side; rw [if_pos h0]), rfl⟩
  · by_cases h1 : 1000000000 < m
    · go_enter Try.func99, Try.ntmps99
      go_wp2
      go_ret
      exact ⟨ret_int (by unfold side; rw [if_neg (by omega), if_pos h1]), rfl⟩
    · go_enter Try.func99, Try.ntmps99
      go_wp2
      go_ret
      exact ⟨ret_int (by unfold side; rw [if_neg (by omega), if_neg (by omega)]), rfl⟩

set_option maxRecDepth 100000 in
theorem in_any (x l h : Int) (w : World) : Calls Try.prog 60 #[.int .i64 x, .int .i64 l, .int .i64 h] w fun e w' => e = .returned (.bool (inB x l h)) ∧ w = w' := by
  by_cases h0 : l ≤ x
  · by_cases h1 : x ≤ h
    · go_enter Try.func60, Try.ntmps60
      go_wp2
      go_ret
      exact ⟨ret_bool (inB_true h0 h1).symm, rfl⟩
    · go_enter Try.func60, Try.ntmps60
      go_wp2
      go_ret
      exact ⟨ret_bool (inB_false (by omega)).symm, rfl⟩
  · go_enter Try.func60, Try.ntmps60
    go_wp2
    go_ret
    exact ⟨ret_bool (inB_false (by omega)).symm, rfl⟩

set_option maxRecDepth 100000 in
theorem specTickOk_any (t : Int) (w : World) : Calls Try.prog 61 #[.int .i64 t] w fun e w' => e = .returned (.bool (isT t)) ∧ w = w' := by
  go_enter Try.func61, Try.ntmps61
  go_wp2_with (go_at_call 60; with_reducible refine (in_any _ _ _ _).mono ?_; rintro e w' ⟨rfl, rfl⟩)
  go_ret
  exact ⟨rfl, rfl⟩

theorem all_take_succ (p : Int → Bool) (zs : List Int) (k : Nat) (h : k < zs.length) : (zs.take (k + 1)).all p = ((zs.take k).all p && p (zs.getD k 0)) := by
  rw [List.take_succ_eq_append_getElem h, List.all_append]
  simp [List.getD_eq_getElem?_getD, h]
theorem all_false_at (p : Int → Bool) (zs : List Int) (k : Nat) (h : k < zs.length) (hp : p (zs.getD k 0) = false) : zs.all p = false := by
  rw [List.all_eq_false]
  refine ⟨zs[k], List.getElem_mem h, ?_⟩
  have e : zs.getD k 0 = zs[k] := by simp [List.getD_eq_getElem?_getD, h]
  rw [← e, hp]; simp

set_option maxRecDepth 100000 in
set_option maxHeartbeats 400000 in
theorem allTicks_any (A : Option Addr) (n cap : Nat) (zs : List Int) (w : World) (hn : zs.length = n) (hm : n ≤ maxLen) (h : Ints w A zs) :
    Calls Try.prog 64 #[.slice A n cap] w fun e w' => e = .returned (.bool (zs.all isT)) ∧ w = w' := by
  unfold maxLen at hm
  have HI := Lib.hid h
  clear h
  have Hn := Lib.hid hn
  clear hn
  go_enter Try.func64, Try.ntmps64
  go_wp2
  go_loop [7] (fun i => ∃ k : Nat, k ≤ n ∧ i = .int .i64 k ∧ (zs.take k).all isT = true) (fun i => n - (intOf i).toNat)
  case atStart => exact ⟨0, Nat.zero_le _, rfl, rfl⟩
  case round =>
    obtain ⟨k, hk, rfl, hall⟩ := hrel
    have Hall := Lib.hid hall
    clear hall
    by_cases hlt : k < n
    · obtain ⟨b, off, rfl, hc⟩ := HI.out (by have := Hn.out; omega)
      have hck := hc k (by have := Hn.out; omega)
      clear hc
      have Hs := Lib.hid (all_take_succ isT zs k (by have := Hn.out; omega))
      have Hf := Lib.hid (all_false_at isT zs k (by have := Hn.out; omega))
      generalize zs.getD k 0 = z at hck Hs Hf
      rcases isT_cases z with ⟨h0, h1⟩ | h0 | h0
      · go_wp2
        go_round
        case rel => exact ⟨k + 1, by omega, by go_num, by rw [Hs.out, Hall.out, isT_true h0 h1]; rfl⟩
        case measure => simp [intOf]; omega
      · go_wp2
        go_ret
        exact ⟨ret_bool (Hf.out (isT_false (.inl h0))).symm, rfl⟩
      · go_wp2
        go_ret
        exact ⟨ret_bool (Hf.out (isT_false (.inr h0))).symm, rfl⟩
    · go_wp2
      go_ret
      refine ⟨ret_bool ?_, rfl⟩
      have e : zs.take k = zs := List.take_of_length_le (by have := Hn.out; omega)
      have := Hall.out
      rw [e] at this
      exact this.symm

set_option maxRecDepth 100000 in
theorem implTickOk_any (t : Int) (w : World) : Calls Try.prog 88 #[.int .i64 t] w fun e w' => e = .returned (.bool (isT t)) ∧ Below w.heap.size w w' := by
  go_enter Try.func88, Try.ntmps88
  go_wp2_with fail
  refine (allTicks_any _ 1 _ [t] _ rfl (by decide) (ints_new w [t] _)).mono ?_
  rintro e w' ⟨rfl, rfl⟩
  go_wp2
  go_ret
  exact ⟨by simp, bel_alloc _ _⟩
end Go.Proofs.Ytehdbdolhkflcaa.Tick

namespace Go.Proofs.Ytehdbdolhkflcaa.Que

structure Sl where
  id : Int
  prev : Int
  next : Int
  used : Bool
  deriving DecidableEq

def zSl : Sl := ⟨0, 0, 0, false⟩

def sl (ss : List Sl) (p : Nat) : Sl := ss.getD p zSl

def okU (ss : List Sl) (vis : List Nat) (ahead : Int) (p : Nat) : Bool :=
  (sl ss p).used && ((sl ss p).prev == ahead) && decide (1 ≤ (sl ss p).id) && decide ((sl ss p).id ≤ 1000000000) && !((vis.map fun v => (sl ss v).id).contains (sl ss p).id)

def okF (s : Sl) : Bool := !s.used && (s.id == 0) && (s.prev == -1)

def usedW (ss : List Sl) : Nat → Int → Int → List Nat → Option (List Nat × Int)
  | 0, _, _, _ => none
  | f + 1, p, ahead, vis =>
    if p = -1 then some (vis, ahead)
    else if ¬ (0 ≤ p ∧ p ≤ 59) then none
    else if p.toNat ∈ vis then none
    else if okU ss vis ahead p.toNat then usedW ss f (sl ss p.toNat).next p (vis ++ [p.toNat])
    else none

def freeW (ss : List Sl) : Nat → Int → List Nat → Option (List Nat)
  | 0, _, _ => none
  | f + 1, p, vis =>
    if p = -1 then some vis
    else if ¬ (0 ≤ p ∧ p ≤ 59) then none
    else if p.toNat ∈ vis then none
    else if okF (sl ss p.toNat) then freeW ss f (sl ss p.toNat).next (vis ++ [p.toNat])
    else none

/-- The places of the queue in order, and all places, where the walks go through. -/
def okQ (ss : List Sl) (first last free count : Int) : Bool :=
  decide (ss.length = 60) && match usedW ss 61 first (-1) [] with
    | none => false
    | some (us, ahead) => ((us.length : Int) == count) && (last == ahead) && match freeW ss 61 free us with
      | none => false
      | some vs => vs.length == 60

/-! ### No more than n distinct numbers below n -/
theorem nodup_le : ∀ (n : Nat) (l : List Nat), l.Nodup → (∀ x ∈ l, x < n) → l.length ≤ n
  | 0, l, _, h => by
    cases l with
    | nil => simp
    | cons a r => exact absurd (h a (by simp)) (by omega)
  | n + 1, l, hd, h => by
    have h1 := nodup_le n (l.erase n) (hd.erase n) (fun x hx => by
      have hx' := (hd.mem_erase_iff).1 hx
      have := h x hx'.2
      have := hx'.1
      omega)
    have h2 : l.length ≤ (l.erase n).length + 1 := by
      rw [List.length_erase]; split <;> omega
    omega

theorem mem_of_full {n : Nat} {l : List Nat} (hd : l.Nodup) (h : ∀ x ∈ l, x < n) (hl : l.length = n) {x : Nat} (hx : x < n) : x ∈ l := by
  by_cases hm : x ∈ l
  · exact hm
  · have := nodup_le n (x :: l) (List.nodup_cons.2 ⟨hm, hd⟩) (fun y hy => by
      rcases List.mem_cons.1 hy with rfl | hy
      · exact hx
      · exact h y hy)
    simp at this
    omega

/-! ### Segments of a doubly linked list -/
def okE (s : Sl) : Prop := s.used = true ∧ 1 ≤ s.id ∧ s.id ≤ 1000000000

/-- From p on, behind pr, the places l, each led to by the one ahead of it; m the last of them (pr where there is none), q where it leads. -/
def Seg (ss : List Sl) : Int → Int → List Nat → Int → Int → Prop
  | pr, p, [], m, q => m = pr ∧ q = p
  | pr, p, x :: r, m, q => p = (x : Int) ∧ (sl ss x).prev = pr ∧ okE (sl ss x) ∧ Seg ss (x : Int) (sl ss x).next r m q

theorem seg_append (ss : List Sl) : ∀ (a b : List Nat) (pr p m q : Int), Seg ss pr p (a ++ b) m q ↔ ∃ m' q', Seg ss pr p a m' q' ∧ Seg ss m' q' b m q
  | [], b, pr, p, m, q => by
    constructor
    · intro h; exact ⟨pr, p, ⟨rfl, rfl⟩, h⟩
    · rintro ⟨m', q', ⟨rfl, rfl⟩, h⟩; exact h
  | x :: a, b, pr, p, m, q => by
    simp only [List.cons_append, Seg, seg_append ss a b]
    constructor
    · rintro ⟨h1, h2, h3, m', q', h4, h5⟩; exact ⟨m', q', ⟨h1, h2, h3, h4⟩, h5⟩
    · rintro ⟨m', q', ⟨h1, h2, h3, h4⟩, h5⟩; exact ⟨h1, h2, h3, m', q', h4, h5⟩

theorem seg_congr {ss ss' : List Sl} : ∀ {l : List Nat} {pr p m q : Int}, (∀ x ∈ l, sl ss' x = sl ss x) → Seg ss pr p l m q → Seg ss' pr p l m q
  | [], _, _, _, _, _, h => h
  | x :: l, pr, p, m, q, e, h => by
    obtain ⟨h1, h2, h3, h4⟩ := h
    have ex := e x (by simp)
    exact ⟨h1, by rw [ex]; exact h2, by rw [ex]; exact h3, by rw [ex]; exact seg_congr (fun y hy => e y (by simp [hy])) h4⟩

theorem seg_last {ss : List Sl} : ∀ {l : List Nat} {pr p m q : Int}, Seg ss pr p l m q → l ≠ [] → ∃ (l' : List Nat) (x : Nat), l = l' ++ [x] ∧ m = (x : Int) ∧ q = (sl ss x).next
  | [], _, _, _, _, _, hne => absurd rfl hne
  | [x], pr, p, m, q, h, _ => by
    obtain ⟨_, _, _, h4, h5⟩ := h
    exact ⟨[], x, rfl, h4, h5⟩
  | x :: y :: l, pr, p, m, q, h, _ => by
    obtain ⟨_, _, _, h4⟩ := h
    obtain ⟨l', z, e, e1, e2⟩ := seg_last h4 (by simp)
    exact ⟨x :: l', z, by rw [e]; rfl, e1, e2⟩

/-- Where the last of a segment leads elsewhere. -/
theorem seg_out {ss ss' : List Sl} {l' : List Nat} {x : Nat} {pr p q q' : Int} (h : Seg ss pr p (l' ++ [x]) (x : Int) q) (e : ∀ y ∈ l', sl ss' y = sl ss y)
    (e1 : (sl ss' x).prev = (sl ss x).prev) (e2 : (sl ss' x).used = (sl ss x).used) (e3 : (sl ss' x).id = (sl ss x).id) (e4 : (sl ss' x).next = q') : Seg ss' pr p (l' ++ [x]) (x : Int) q' := by
  obtain ⟨m', p', h1, h2⟩ := (seg_append _ _ _ _ _ _ _).1 h
  refine (seg_append _ _ _ _ _ _ _).2 ⟨m', p', seg_congr e h1, ?_⟩
  obtain ⟨a1, a2, a3, _, _⟩ := h2
  refine ⟨a1, e1.trans a2, ?_, rfl, e4.symm⟩
  unfold okE at a3 ⊢
  rw [e2, e3]; exact a3

/-- Where the first of a segment names another ahead of it. -/
theorem seg_in {ss ss' : List Sl} {x : Nat} {r : List Nat} {pr pr' p m q : Int} (h : Seg ss pr p (x :: r) m q) (e : ∀ y ∈ r, sl ss' y = sl ss y)
    (e1 : (sl ss' x).prev = pr') (e2 : (sl ss' x).used = (sl ss x).used) (e3 : (sl ss' x).id = (sl ss x).id) (e4 : (sl ss' x).next = (sl ss x).next) : Seg ss' pr' p (x :: r) m q := by
  obtain ⟨a1, _, a3, a4⟩ := h
  refine ⟨a1, e1, ?_, by rw [e4]; exact seg_congr e a4⟩
  unfold okE at a3 ⊢
  rw [e2, e3]; exact a3

def FCh (ss : List Sl) : Int → List Nat → Prop
  | p, [] => p = -1
  | p, x :: r => p = (x : Int) ∧ okF (sl ss x) = true ∧ FCh ss (sl ss x).next r

theorem fch_congr {ss ss' : List Sl} : ∀ {l : List Nat} {p : Int}, (∀ x ∈ l, sl ss' x = sl ss x) → FCh ss p l → FCh ss' p l
  | [], _, _, h => h
  | x :: l, p, e, h => by
    obtain ⟨h1, h2, h3⟩ := h
    have ex := e x (by simp)
    exact ⟨h1, by rw [ex]; exact h2, by rw [ex]; exact fch_congr (fun y hy => e y (by simp [hy])) h3⟩

/-! ### What the walks find -/
theorem okU_iff {ss : List Sl} {vis : List Nat} {ahead : Int} {p : Nat} : okU ss vis ahead p = true ↔ (sl ss p).prev = ahead ∧ okE (sl ss p) ∧ (sl ss p).id ∉ vis.map fun v => (sl ss v).id := by
  unfold okU okE
  simp only [Bool.and_eq_true, beq_iff_eq, decide_eq_true_eq, Bool.not_eq_true', List.contains_eq_mem, decide_eq_false_iff_not]
  constructor
  · rintro ⟨⟨⟨⟨a, b⟩, c⟩, d⟩, e⟩; exact ⟨b, ⟨a, c, d⟩, e⟩
  · rintro ⟨b, ⟨a, c, d⟩, e⟩; exact ⟨⟨⟨⟨a, b⟩, c⟩, d⟩, e⟩

theorem usedW_some {ss : List Sl} : ∀ {f : Nat} {p ahead : Int} {vis us : List Nat} {l : Int}, usedW ss f p ahead vis = some (us, l) →
    ∃ r, us = vis ++ r ∧ Seg ss ahead p r l (-1) ∧ (∀ x ∈ r, x < 60) ∧ ((vis.map fun v => (sl ss v).id).Nodup → (us.map fun v => (sl ss v).id).Nodup)
  | 0, _, _, _, _, _, h => by simp [usedW] at h
  | f + 1, p, ahead, vis, us, l, h => by
    unfold usedW at h
    split at h
    · next e => simp at h; obtain ⟨rfl, rfl⟩ := h; exact ⟨[], by simp, ⟨rfl, e.symm⟩, by simp, fun h => h⟩
    split at h
    · cases h
    next hr =>
    split at h
    · cases h
    split at h
    · next hk =>
      have hr' : 0 ≤ p ∧ p ≤ 59 := Decidable.not_not.1 hr
      obtain ⟨r, e1, e2, e3, e4⟩ := usedW_some h
      obtain ⟨k1, k2, k3⟩ := okU_iff.1 hk
      refine ⟨p.toNat :: r, by rw [e1]; simp, ⟨by omega, k1, k2, by rw [Int.toNat_of_nonneg hr'.1]; exact e2⟩, fun x hx => ?_, fun hn => e4 ?_⟩
      · rcases List.mem_cons.1 hx with rfl | hx
        · omega
        · exact e3 x hx
      · rw [List.map_append, List.nodup_append]
        refine ⟨hn, by simp, fun a ha b hb => ?_⟩
        simp at hb
        subst hb
        rintro rfl
        exact k3 ha
    · cases h

theorem usedW_of {ss : List Sl} : ∀ {r : List Nat} {f : Nat} {p ahead : Int} {vis : List Nat} {l : Int}, Seg ss ahead p r l (-1) → (∀ x ∈ r, x < 60) → ((vis ++ r).map fun v => (sl ss v).id).Nodup → r.length < f →
    usedW ss f p ahead vis = some (vis ++ r, l)
  | r, 0, _, _, _, _, _, _, _, h => by omega
  | [], f + 1, p, ahead, vis, l, h, _, _, _ => by
    obtain ⟨rfl, rfl⟩ := h
    simp [usedW]
  | x :: r, f + 1, p, ahead, vis, l, h, hlt, hn, hf => by
    obtain ⟨rfl, h2, h3, h4⟩ := h
    have hx := hlt x (by simp)
    have hn' : ((vis ++ [x]) ++ r).map (fun v => (sl ss v).id) = (vis ++ x :: r).map fun v => (sl ss v).id := by simp
    have hid : (sl ss x).id ∉ vis.map fun v => (sl ss v).id := by
      rw [List.map_append, List.nodup_append] at hn
      intro hm
      exact hn.2.2 _ hm _ (by simp) rfl
    unfold usedW
    rw [if_neg (by omega), if_neg (by omega), if_neg (fun hm => hid (by simp only [Int.toNat_natCast] at hm; exact List.mem_map.2 ⟨x, hm, rfl⟩)), if_pos (by rw [Int.toNat_natCast]; exact okU_iff.2 ⟨h2, h3, hid⟩)]
    rw [Int.toNat_natCast, usedW_of h4 (fun y hy => hlt y (by simp [hy])) (by rw [hn']; exact hn) (by simp at hf; omega)]
    simp

theorem freeW_some {ss : List Sl} : ∀ {f : Nat} {p : Int} {vis vs : List Nat}, freeW ss f p vis = some vs →
    ∃ r, vs = vis ++ r ∧ FCh ss p r ∧ (∀ x ∈ r, x < 60) ∧ (vis.Nodup → vs.Nodup)
  | 0, _, _, _, h => by simp [freeW] at h
  | f + 1, p, vis, vs, h => by
    unfold freeW at h
    split at h
    · next e => simp at h; subst h; exact ⟨[], by simp, e, by simp, fun h => h⟩
    split at h
    · cases h
    next hr =>
    split at h
    · cases h
    next hv =>
    split at h
    · next hk =>
      have hr' : 0 ≤ p ∧ p ≤ 59 := Decidable.not_not.1 hr
      obtain ⟨r, e1, e2, e3, e4⟩ := freeW_some h
      refine ⟨p.toNat :: r, by rw [e1]; simp, ⟨by omega, hk, e2⟩, fun x hx => ?_, fun hn => e4 ?_⟩
      · rcases List.mem_cons.1 hx with rfl | hx
        · omega
        · exact e3 x hx
      · rw [List.nodup_append]
        refine ⟨hn, by simp, fun a ha b hb => ?_⟩
        simp at hb
        subst hb
        rintro rfl
        exact hv ha
    · cases h

theorem freeW_of {ss : List Sl} : ∀ {r : List Nat} {f : Nat} {p : Int} {vis : List Nat}, FCh ss p r → (∀ x ∈ r, x < 60) → (vis ++ r).Nodup → r.length < f → freeW ss f p vis = some (vis ++ r)
  | r, 0, _, _, _, _, _, h => by omega
  | [], f + 1, p, vis, h, _, _, _ => by
    cases (h : p = -1)
    simp [freeW]
  | x :: r, f + 1, p, vis, h, hlt, hn, hf => by
    obtain ⟨rfl, h2, h3⟩ := h
    have hx := hlt x (by simp)
    have hv : x ∉ vis := by
      rw [List.nodup_append] at hn
      intro hm
      exact hn.2.2 _ hm _ (by simp) rfl
    unfold freeW
    rw [if_neg (by omega), if_neg (by omega), if_neg (by rw [Int.toNat_natCast]; exact hv), if_pos (by rw [Int.toNat_natCast]; exact h2)]
    rw [Int.toNat_natCast, freeW_of h3 (fun y hy => hlt y (by simp [hy])) (by simpa using hn) (by simp at hf; omega)]
    simp

/-! ### Validity -/
structure Val (ss : List Sl) (first last free count : Int) (us fs : List Nat) : Prop where
  len : ss.length = 60
  seg : Seg ss (-1) first us last (-1)
  fch : FCh ss free fs
  lt : ∀ x ∈ us ++ fs, x < 60
  ids : (us.map fun v => (sl ss v).id).Nodup
  nd : (us ++ fs).Nodup
  full : (us ++ fs).length = 60
  cnt : count = us.length

theorem ok_val {ss : List Sl} {first last free count : Int} (h : okQ ss first last free count = true) : ∃ us fs, Val ss first last free count us fs := by
  unfold okQ at h
  rw [Bool.and_eq_true] at h
  obtain ⟨h1, h2⟩ := h
  split at h2
  · cases h2
  next us ahead e =>
  rw [Bool.and_eq_true, Bool.and_eq_true] at h2
  obtain ⟨⟨h3, h4⟩, h5⟩ := h2
  split at h5
  · cases h5
  next vs e' =>
  obtain ⟨r, er, s1, s2, s3⟩ := usedW_some e
  rw [List.nil_append] at er
  subst er
  obtain ⟨fs, rfl, t1, t2, t3⟩ := freeW_some e'
  have hi := s3 (by simp)
  have hnd : us.Nodup := List.Pairwise.of_map _ (fun a b h e => h (by rw [e])) hi
  simp at h1 h3 h4 h5
  subst h4
  refine ⟨us, fs, h1, s1, t1, fun x hx => ?_, hi, t3 hnd, by simp; omega, by omega⟩
  rcases List.mem_append.1 hx with hx | hx
  · exact s2 x hx
  · exact t2 x hx

theorem val_ok {ss : List Sl} {first last free count : Int} {us fs : List Nat} (v : Val ss first last free count us fs) : okQ ss first last free count = true := by
  have hf := v.full
  rw [List.length_append] at hf
  have h1 := usedW_of (f := 61) (vis := []) v.seg (fun x hx => v.lt x (by simp [hx])) (by simpa using v.ids) (by omega)
  have h2 := freeW_of (f := 61) (vis := us) v.fch (fun x hx => v.lt x (by simp [hx])) v.nd (by omega)
  unfold okQ
  rw [h1]
  simp only [List.nil_append, h2]
  have hl := v.len
  have hc := v.cnt
  simp [hl, hc]
  omega
end Go.Proofs.Ytehdbdolhkflcaa.Que

namespace Go.Proofs.Ytehdbdolhkflcaa.Que

theorem sl_set (ss : List Sl) (i j : Nat) (s : Sl) (hi : i < ss.length) : sl (ss.set i s) j = if j = i then s else sl ss j := by
  unfold sl
  rw [List.getD_eq_getElem?_getD, List.getD_eq_getElem?_getD, List.getElem?_set]
  by_cases e : i = j
  · subst e; simp [hi]
  · rw [if_neg e, if_neg (fun h => e h.symm)]

def wNext (s : Sl) (v : Int) : Sl := ⟨s.id, s.prev, v, s.used⟩
def wPrev (s : Sl) (v : Int) : Sl := ⟨s.id, v, s.next, s.used⟩
def setNext (ss : List Sl) (i v : Int) : List Sl := if i = -1 then ss else ss.set i.toNat (wNext (sl ss i.toNat) v)
def setPrev (ss : List Sl) (i v : Int) : List Sl := if i = -1 then ss else ss.set i.toNat (wPrev (sl ss i.toNat) v)

theorem setNext_facts {ss : List Sl} {i v : Int} (len : ss.length = 60) (h : i = -1 ∨ ∃ a : Nat, i = (a : Int) ∧ a < 60) :
    (setNext ss i v).length = 60 ∧ (∀ y : Nat, (y : Int) ≠ i → sl (setNext ss i v) y = sl ss y) ∧ ∀ y : Nat, (y : Int) = i → y < 60 → sl (setNext ss i v) y = wNext (sl ss y) v := by
  unfold setNext
  rcases h with h | ⟨a, rfl, ha⟩
  · rw [if_pos h]; exact ⟨len, fun _ _ => rfl, fun y hy => by omega⟩
  · rw [if_neg (by omega), Int.toNat_natCast]
    refine ⟨by simp [len], fun y hy => ?_, fun y hy _ => ?_⟩
    · rw [sl_set _ _ _ _ (by omega), if_neg (by omega)]
    · rw [sl_set _ _ _ _ (by omega), if_pos (by omega), show y = a from by omega]

theorem setPrev_facts {ss : List Sl} {i v : Int} (len : ss.length = 60) (h : i = -1 ∨ ∃ a : Nat, i = (a : Int) ∧ a < 60) :
    (setPrev ss i v).length = 60 ∧ (∀ y : Nat, (y : Int) ≠ i → sl (setPrev ss i v) y = sl ss y) ∧ ∀ y : Nat, (y : Int) = i → y < 60 → sl (setPrev ss i v) y = wPrev (sl ss y) v := by
  unfold setPrev
  rcases h with h | ⟨a, rfl, ha⟩
  · rw [if_pos h]; exact ⟨len, fun _ _ => rfl, fun y hy => by omega⟩
  · rw [if_neg (by omega), Int.toNat_natCast]
    refine ⟨by simp [len], fun y hy => ?_, fun y hy _ => ?_⟩
    · rw [sl_set _ _ _ _ (by omega), if_neg (by omega)]
    · rw [sl_set _ _ _ _ (by omega), if_pos (by omega), show y = a from by omega]

def pushS (ss : List Sl) (last free id : Int) : List Sl := setNext (ss.set free.toNat ⟨id, last, -1, true⟩) last free

def remS (ss : List Sl) (free : Int) (p : Nat) : List Sl :=
  (setPrev (setNext ss (sl ss p).prev (sl ss p).next) (sl ss p).next (sl ss p).prev).set p ⟨0, -1, free, false⟩

theorem map_id_congr {ss ss' : List Sl} {l : List Nat} (h : ∀ x ∈ l, (sl ss' x).id = (sl ss x).id) : (l.map fun v => (sl ss' v).id) = l.map fun v => (sl ss v).id :=
  List.map_congr_left h

theorem seg_first {ss : List Sl} {l : List Nat} {pr p m q : Int} (h : Seg ss pr p l m q) : (l = [] ∧ q = p ∧ m = pr) ∨ ∃ x r, l = x :: r ∧ p = ((x : Nat) : Int) := by
  cases l with
  | nil => exact .inl ⟨rfl, h.2, h.1⟩
  | cons x r => exact .inr ⟨x, r, rfl, h.1⟩

theorem push_val {ss : List Sl} {first last free count id : Int} {us fs : List Nat} {x : Nat} (v : Val ss first last free count us (x :: fs)) (h1 : 1 ≤ id) (h2 : id ≤ 1000000000) (hid : id ∉ us.map fun u => (sl ss u).id) :
    Val (pushS ss last free id) (if last = -1 then free else first) free (sl ss x).next (count + 1) (us ++ [x]) fs
      ∧ ((us ++ [x]).map fun u => (sl (pushS ss last free id) u).id) = (us.map fun u => (sl ss u).id) ++ [id] := by
  obtain ⟨len, seg, ⟨rfl, hf, fch⟩, lt, ids, nd, full, cnt⟩ := v
  have hx : x < 60 := lt x (by simp)
  have hnd := List.nodup_append.1 nd
  have hxu : x ∉ us := fun hm => hnd.2.2 x hm x (by simp) rfl
  have hxf : x ∉ fs := (List.nodup_cons.1 hnd.2.1).1
  have hdis : ∀ y ∈ us, y ∉ fs := fun y hy hm => hnd.2.2 y hy y (by simp [hm]) rfl
  have key : ∃ ss', pushS ss last (x : Int) id = ss' ∧ ss'.length = 60 ∧ (∀ y, y ≠ x → (y : Int) ≠ last → sl ss' y = sl ss y) ∧ sl ss' x = ⟨id, last, -1, true⟩
      ∧ ∀ y : Nat, (y : Int) = last → y ≠ x → y < 60 → sl ss' y = wNext (sl ss y) (x : Int) := by
    refine ⟨_, rfl, ?_⟩
    unfold pushS
    rw [Int.toNat_natCast]
    have hl : last = -1 ∨ ∃ a : Nat, last = (a : Int) ∧ a < 60 ∧ a ≠ x := by
      rcases seg_first seg with ⟨_, _, hl⟩ | ⟨a, r, hu, _⟩
      · exact .inl hl
      · obtain ⟨l', z, hz, hzl, _⟩ := seg_last seg (by rw [hu]; simp)
        exact .inr ⟨z, hzl, lt z (by rw [hz]; simp), by rintro rfl; exact hxu (by rw [hz]; simp)⟩
    obtain ⟨f1, f2, f3⟩ := setNext_facts (ss := ss.set x ⟨id, last, -1, true⟩) (i := last) (v := (x : Int)) (by simp [len]) (by rcases hl with h | ⟨a, h, h', _⟩; exact .inl h; exact .inr ⟨a, h, h'⟩)
    refine ⟨f1, fun y hy hyl => ?_, ?_, fun y hy hyx h60 => ?_⟩
    · rw [f2 y hyl, sl_set _ _ _ _ (by omega), if_neg hy]
    · rw [f2 x (by rcases hl with h | ⟨a, h, h', h''⟩ <;> omega), sl_set _ _ _ _ (by omega), if_pos rfl]
    · rw [f3 y hy h60, sl_set _ _ _ _ (by omega), if_neg hyx]
  obtain ⟨ss', e, len', k1, k2, k3⟩ := key
  rw [e]
  have hids : ∀ y ∈ us, (sl ss' y).id = (sl ss y).id := fun y hy => by
    have hyx : y ≠ x := by rintro rfl; exact hxu hy
    by_cases hl : (y : Int) = last
    · rw [k3 y hl hyx (lt y (by simp [hy]))]; rfl
    · rw [k1 y hyx hl]
  have hmap : ((us ++ [x]).map fun u => (sl ss' u).id) = (us.map fun u => (sl ss u).id) ++ [id] := by
    rw [List.map_append, map_id_congr hids]; simp [k2]
  refine ⟨⟨len', ?_, ?_, ?_, ?_, ?_, ?_, ?_⟩, hmap⟩
  · rcases seg_first seg with ⟨hu, hp, hl⟩ | ⟨a, r, hu, hp⟩
    · subst hl hu
      rw [if_pos rfl]
      exact ⟨rfl, by rw [k2], ⟨by rw [k2], by rw [k2]; exact h1, by rw [k2]; exact h2⟩, rfl, by rw [k2]⟩
    · obtain ⟨l', z, hz, hzl, _⟩ := seg_last seg (by rw [hu]; simp)
      subst hzl
      have hzx : z ≠ x := by rintro rfl; exact hxu (by rw [hz]; simp)
      rw [if_neg (by omega)]
      refine (seg_append _ _ _ _ _ _ _).2 ⟨(z : Int), (x : Int), ?_, ⟨rfl, by rw [k2], ⟨by rw [k2], by rw [k2]; exact h1, by rw [k2]; exact h2⟩, rfl, by rw [k2]⟩⟩
      rw [hz] at seg ⊢
      have hk := k3 z rfl hzx (lt z (by rw [hz]; simp))
      have hznd : z ∉ l' := by
        have := hnd.1
        rw [hz, List.nodup_append] at this
        exact fun hm => this.2.2 z hm z (by simp) rfl
      exact seg_out seg (fun y hy => k1 y (by rintro rfl; exact hxu (by rw [hz]; simp [hy])) (by intro h; exact hznd (by rwa [show z = y from by omega]))) (by rw [hk]; rfl) (by rw [hk]; rfl) (by rw [hk]; rfl) (by rw [hk]; rfl)
  · refine fch_congr (fun y hy => k1 y (by rintro rfl; exact hxf hy) ?_) fch
    intro hl
    rcases seg_first seg with ⟨_, _, hl'⟩ | ⟨a, r, hu, _⟩
    · omega
    · obtain ⟨l', z, hz, hzl, _⟩ := seg_last seg (by rw [hu]; simp)
      exact hdis z (by rw [hz]; simp) (by rwa [show z = y from by omega])
  · intro y hy
    exact lt y (by rw [List.append_assoc] at hy; simpa using hy)
  · rw [hmap, List.nodup_append]
    refine ⟨ids, by simp, fun a ha b hb => ?_⟩
    simp at hb
    subst hb
    rintro rfl
    exact hid ha
  · rw [List.append_assoc]; simpa using nd
  · simp at full ⊢; omega
  · simp; omega

/-- A used place stands in the queue's list. -/
theorem mem_used {ss : List Sl} {first last free count : Int} {us fs : List Nat} (v : Val ss first last free count us fs) {p : Nat} (hp : p < 60) (hu : (sl ss p).used = true) : p ∈ us := by
  have hm := mem_of_full v.nd v.lt v.full hp
  rcases List.mem_append.1 hm with h | h
  · exact h
  · exfalso
    have : ∀ (l : List Nat) (q : Int), FCh ss q l → p ∈ l → okF (sl ss p) = true := by
      intro l
      induction l with
      | nil => intro _ _ h; cases h
      | cons a r ih =>
        intro q hc hm
        rcases List.mem_cons.1 hm with rfl | hm
        · exact hc.2.1
        · exact ih _ hc.2.2 hm
    have := this fs free v.fch h
    simp [okF, hu] at this

theorem seg_used {ss : List Sl} : ∀ {l : List Nat} {pr p m q : Int}, Seg ss pr p l m q → ∀ x ∈ l, okE (sl ss x)
  | [], _, _, _, _, _, _, h => by cases h
  | a :: l, _, _, _, _, h, x, hm => by
    rcases List.mem_cons.1 hm with rfl | hm
    · exact h.2.2.1
    · exact seg_used h.2.2.2 x hm

theorem rem_val {ss : List Sl} {first last free count : Int} {l1 l2 fs : List Nat} {p : Nat} (v : Val ss first last free count (l1 ++ p :: l2) fs) :
    Val (remS ss free p) (if (sl ss p).prev = -1 then (sl ss p).next else first) (if (sl ss p).next = -1 then (sl ss p).prev else last) (p : Int) (count - 1) (l1 ++ l2) (p :: fs)
      ∧ ((l1 ++ l2).map fun u => (sl (remS ss free p) u).id) = (l1 ++ l2).map fun u => (sl ss u).id := by
  obtain ⟨len, seg, fch, lt, ids, nd, full, cnt⟩ := v
  have hp : p < 60 := lt p (by simp)
  obtain ⟨nd1, nd2, nd3⟩ := List.nodup_append.1 nd
  obtain ⟨n1, n2, n3⟩ := List.nodup_append.1 nd1
  obtain ⟨hp2, n2'⟩ := List.nodup_cons.1 n2
  have hp1 : p ∉ l1 := fun hm => n3 p hm p (by simp) rfl
  have hpf : p ∉ fs := fun hm => nd3 p (by simp) p hm rfl
  have h12 : ∀ y ∈ l1, y ∉ l2 := fun y hy hm => n3 y hy y (by simp [hm]) rfl
  have h1f : ∀ y ∈ l1, y ∉ fs := fun y hy hm => nd3 y (by simp [hy]) y hm rfl
  have h2f : ∀ y ∈ l2, y ∉ fs := fun y hy hm => nd3 y (by simp [hy]) y hm rfl
  obtain ⟨m', q', sg1, ⟨e1, e2, e3, sg2⟩⟩ := (seg_append _ _ _ _ _ _ _).1 seg
  subst e1
  -- what leads to p, and where p leads
  have hA : (l1 = [] ∧ (sl ss p).prev = -1 ∧ first = (p : Int)) ∨ ∃ (l' : List Nat) (a : Nat), l1 = l' ++ [a] ∧ (sl ss p).prev = (a : Int) ∧ a < 60 ∧ a ≠ p ∧ a ∉ l' := by
    rcases seg_first sg1 with ⟨h, hq, hm⟩ | ⟨x, r, h, _⟩
    · exact .inl ⟨h, by rw [e2, hm], hq.symm⟩
    · obtain ⟨l', a, ha, hm, _⟩ := seg_last sg1 (by rw [h]; simp)
      refine .inr ⟨l', a, ha, by rw [e2, hm], lt a (by rw [ha]; simp), by rintro rfl; exact hp1 (by rw [ha]; simp), ?_⟩
      rw [ha, List.nodup_append] at n1
      exact fun hm => n1.2.2 a hm a (by simp) rfl
  have hB : (l2 = [] ∧ (sl ss p).next = -1 ∧ last = (p : Int)) ∨ ∃ (b : Nat) (r : List Nat), l2 = b :: r ∧ (sl ss p).next = (b : Int) ∧ b < 60 ∧ b ≠ p ∧ b ∉ r := by
    rcases seg_first sg2 with ⟨h, hq, hm⟩ | ⟨b, r, h, hb⟩
    · exact .inl ⟨h, by omega, hm⟩
    · refine .inr ⟨b, r, h, hb, lt b (by rw [h]; simp), by rintro rfl; exact hp2 (by rw [h]; simp), ?_⟩
      rw [h] at n2'
      exact (List.nodup_cons.1 n2').1
  have key : ∃ ss', remS ss free p = ss' ∧ ss'.length = 60 ∧ sl ss' p = ⟨0, -1, free, false⟩ ∧ (∀ y, y ≠ p → (y : Int) ≠ (sl ss p).prev → (y : Int) ≠ (sl ss p).next → sl ss' y = sl ss y)
      ∧ (∀ y : Nat, (y : Int) = (sl ss p).prev → y ≠ p → y < 60 → (y : Int) ≠ (sl ss p).next → sl ss' y = wNext (sl ss y) (sl ss p).next)
      ∧ ∀ y : Nat, (y : Int) = (sl ss p).next → y ≠ p → y < 60 → (y : Int) ≠ (sl ss p).prev → sl ss' y = wPrev (sl ss y) (sl ss p).prev := by
    refine ⟨_, rfl, ?_⟩
    unfold remS
    obtain ⟨f1, f2, f3⟩ := setNext_facts (i := (sl ss p).prev) (v := (sl ss p).next) len (by rcases hA with ⟨_, h, _⟩ | ⟨l', a, _, h, ha, _⟩; exact .inl h; exact .inr ⟨a, h, ha⟩)
    obtain ⟨g1, g2, g3⟩ := setPrev_facts (i := (sl ss p).next) (v := (sl ss p).prev) f1 (by rcases hB with ⟨_, h, _⟩ | ⟨b, r, _, h, hb, _⟩; exact .inl h; exact .inr ⟨b, h, hb⟩)
    refine ⟨by simp [g1], ?_, fun y hy h1 h2 => ?_, fun y h1 hy hl h2 => ?_, fun y h1 hy hl h2 => ?_⟩
    · rw [sl_set _ _ _ _ (by omega), if_pos rfl]
    · rw [sl_set _ _ _ _ (by omega), if_neg hy, g2 y h2, f2 y h1]
    · rw [sl_set _ _ _ _ (by omega), if_neg hy, g2 y h2, f3 y h1 hl]
    · rw [sl_set _ _ _ _ (by omega), if_neg hy, g3 y h1 hl, f2 y h2]
  obtain ⟨ss', e, len', k0, k1, k2, k3⟩ := key
  rw [e]
  have hids : ∀ y ∈ l1 ++ l2, (sl ss' y).id = (sl ss y).id := fun y hy => by
    have hyp : y ≠ p := by
      rintro rfl
      rcases List.mem_append.1 hy with h | h
      · exact hp1 h
      · exact hp2 h
    have hy60 : y < 60 := lt y (by rcases List.mem_append.1 hy with h | h <;> simp [h])
    by_cases a : (y : Int) = (sl ss p).prev
    · by_cases b : (y : Int) = (sl ss p).next
      · exfalso
        rcases hA with ⟨_, h, _⟩ | ⟨l', a', ha, h, _⟩
        · omega
        rcases hB with ⟨_, h', _⟩ | ⟨b', r, hb, h', _⟩
        · omega
        exact h12 a' (by rw [ha]; simp) (by rw [show a' = b' from by omega, hb]; simp)
      · rw [k2 y a hyp hy60 b]; rfl
    · by_cases b : (y : Int) = (sl ss p).next
      · rw [k3 y b hyp hy60 a]; rfl
      · rw [k1 y hyp a b]
  have hmap := map_id_congr hids
  have s1' : ∃ q1, (if (sl ss p).prev = -1 then (sl ss p).next else first) = q1 ∧ Seg ss' (-1) q1 l1 (sl ss p).prev (sl ss p).next := by
    rcases hA with ⟨h, h', h''⟩ | ⟨l', a, ha, h', ha60, hap, hal⟩
    · exact ⟨_, rfl, by subst h; rw [if_pos h']; exact ⟨h', rfl⟩⟩
    · refine ⟨_, rfl, ?_⟩
      rw [if_neg (by omega), h']
      rw [ha] at sg1 ⊢
      have hm : m' = (a : Int) := by rw [← e2]; exact h'
      rw [hm] at sg1
      have hne : (a : Int) ≠ (sl ss p).next := by
        intro hn
        rcases hB with ⟨_, h2, _⟩ | ⟨b, r, hb, h2, _⟩
        · omega
        · exact h12 a (by rw [ha]; simp) (by rw [show a = b from by omega, hb]; simp)
      have hk := k2 a h'.symm hap ha60 hne
      refine seg_out sg1 (fun y hy => ?_) (by rw [hk]; rfl) (by rw [hk]; rfl) (by rw [hk]; rfl) (by rw [hk]; rfl)
      refine k1 y (by rintro rfl; exact hp1 (by rw [ha]; simp [hy])) (by intro hh; exact hal (by rwa [show a = y from by omega])) ?_
      intro hn
      rcases hB with ⟨_, h2, _⟩ | ⟨b, r, hb, h2, _⟩
      · omega
      · exact h12 y (by rw [ha]; simp [hy]) (by rw [show y = b from by omega, hb]; simp)
  have s2' : Seg ss' (sl ss p).prev (sl ss p).next l2 (if (sl ss p).next = -1 then (sl ss p).prev else last) (-1) := by
    rcases hB with ⟨h, h', h''⟩ | ⟨b, r, hb, h', hb60, hbp, hbr⟩
    · subst h; rw [if_pos h']; exact ⟨rfl, h'.symm⟩
    · rw [if_neg (by omega)]
      rw [hb] at sg2 ⊢
      have hne : (b : Int) ≠ (sl ss p).prev := by
        intro hn
        rcases hA with ⟨_, h2, _⟩ | ⟨l', a, ha, h2, _⟩
        · omega
        · exact h12 a (by rw [ha]; simp) (by rw [show a = b from by omega, hb]; simp)
      have hk := k3 b h'.symm hbp hb60 hne
      refine seg_in sg2 (fun y hy => ?_) (by rw [hk]; rfl) (by rw [hk]; rfl) (by rw [hk]; rfl) (by rw [hk]; rfl)
      refine k1 y (by rintro rfl; exact hp2 (by rw [hb]; simp [hy])) ?_ (by intro hh; exact hbr (by rwa [show b = y from by omega]))
      intro hn
      rcases hA with ⟨_, h2, _⟩ | ⟨l', a, ha, h2, _⟩
      · omega
      · exact h12 a (by rw [ha]; simp) (by rw [show a = y from by omega, hb]; simp [hy])
  obtain ⟨q1, hq1, s1''⟩ := s1'
  refine ⟨⟨len', ?_, ?_, ?_, ?_, ?_, ?_, ?_⟩, hmap⟩
  · rw [hq1]; exact (seg_append _ _ _ _ _ _ _).2 ⟨_, _, s1'', s2'⟩
  · refine ⟨rfl, by rw [k0]; rfl, ?_⟩
    rw [k0]
    refine fch_congr (fun y hy => k1 y (by rintro rfl; exact hpf hy) ?_ ?_) fch
    · intro hn
      rcases hA with ⟨_, h2, _⟩ | ⟨l', a, ha, h2, _⟩
      · omega
      · exact h1f a (by rw [ha]; simp) (by rwa [show a = y from by omega])
    · intro hn
      rcases hB with ⟨_, h2, _⟩ | ⟨b, r, hb, h2, _⟩
      · omega
      · exact h2f b (by rw [hb]; simp) (by rwa [show b = y from by omega])
  · intro y hy
    refine lt y ?_
    simp only [List.mem_append, List.mem_cons] at hy ⊢
    rcases hy with (h | h) | h | h <;> simp [h]
  · rw [hmap]
    refine List.Nodup.sublist ?_ ids
    exact List.Sublist.map _ (List.Sublist.append (List.Sublist.refl _) (List.sublist_cons_self _ _))
  · rw [List.nodup_append]
    refine ⟨List.Nodup.sublist (List.Sublist.append (List.Sublist.refl _) (List.sublist_cons_self _ _)) nd1, List.nodup_cons.2 ⟨hpf, nd2⟩, fun a ha b hb => ?_⟩
    rintro rfl
    rcases List.mem_cons.1 hb with rfl | hb
    · rcases List.mem_append.1 ha with h | h
      · exact hp1 h
      · exact hp2 h
    · rcases List.mem_append.1 ha with h | h
      · exact h1f _ h hb
      · exact h2f _ h hb
  · simp at full ⊢; omega
  · simp at cnt ⊢; omega
end Go.Proofs.Ytehdbdolhkflcaa.Que

namespace Go.Proofs.Ytehdbdolhkflcaa.Que
open Go.RowKit Go.Deep Base

/-- The cell of field j of a slot. -/
def Sl.at (s : Sl) (j : Nat) : Value :=
  if j = 0 then .int .i64 s.id else if j = 1 then .int .i64 s.prev else if j = 2 then .int .i64 s.next else .bool s.used

/-- The slots ss lie in block b from its head on, and may be written. -/
def Rd (w : World) (b : Nat) (ss : List Sl) : Prop :=
  ∀ i, i < ss.length → w.cell? ⟨b, i * 4, none⟩ = some (.int .i64 (ss.getD i zSl).id) ∧ w.cell? ⟨b, i * 4 + 1, none⟩ = some (.int .i64 (ss.getD i zSl).prev)
    ∧ w.cell? ⟨b, i * 4 + 2, none⟩ = some (.int .i64 (ss.getD i zSl).next) ∧ w.cell? ⟨b, i * 4 + 3, none⟩ = some (.bool (ss.getD i zSl).used) ∧ ∀ j, w.frozen? ⟨b, j, none⟩ = false

/-- A slice of slots at A reads as ss; it lies in a block from lo on and ahead of hi. -/
def SlV (w : World) (lo hi : Nat) (A : Option Addr) (ss : List Sl) : Prop :=
  0 < ss.length → ∃ g, A = some ⟨g, 0, none⟩ ∧ lo ≤ g ∧ g < hi ∧ Rd w g ss

/-- A slice of the law's own slots at A reads as ss. -/
def LSl (w : World) (A : Option Addr) (ss : List Sl) : Prop :=
  0 < ss.length → ∃ b off, A = some ⟨b, off, none⟩ ∧ ∀ i, i < ss.length → w.cell? ⟨b, off + i * 4, none⟩ = some (.int .i64 (ss.getD i zSl).id) ∧ w.cell? ⟨b, off + i * 4 + 1, none⟩ = some (.int .i64 (ss.getD i zSl).prev)
    ∧ w.cell? ⟨b, off + i * 4 + 2, none⟩ = some (.int .i64 (ss.getD i zSl).next) ∧ w.cell? ⟨b, off + i * 4 + 3, none⟩ = some (.bool (ss.getD i zSl).used)

theorem Rd.of_block {w w' : World} {b : Nat} {ss : List Sl} (h : Rd w b ss) (e : w'.heap[b]? = w.heap[b]?) : Rd w' b ss := by
  intro i hi
  have hc : ∀ o, w'.cell? ⟨b, o, none⟩ = w.cell? ⟨b, o, none⟩ := fun o => World.cell?_of_block (w := w) e
  have hf : ∀ o, w'.frozen? ⟨b, o, none⟩ = w.frozen? ⟨b, o, none⟩ := fun o => World.frozen?_of_block (w := w) e
  obtain ⟨h0, h1, h2, h3, h4⟩ := h i hi
  exact ⟨(hc _).trans h0, (hc _).trans h1, (hc _).trans h2, (hc _).trans h3, fun j => (hf j).trans (h4 j)⟩

theorem SlV.of_block {w w' : World} {lo hi : Nat} {A : Option Addr} {ss : List Sl} (h : SlV w lo hi A ss) (e : ∀ g, lo ≤ g → g < hi → w'.heap[g]? = w.heap[g]?) : SlV w' lo hi A ss := by
  intro hp
  obtain ⟨g, rfl, h1, h2, h3⟩ := h hp
  exact ⟨g, rfl, h1, h2, h3.of_block (e g h1 h2)⟩

theorem SlV.wide {w : World} {lo hi lo' hi' : Nat} {A : Option Addr} {ss : List Sl} (h : SlV w lo hi A ss) (h1 : lo' ≤ lo) (h2 : hi ≤ hi') : SlV w lo' hi' A ss := by
  intro hp
  obtain ⟨g, rfl, h1', h2', h3⟩ := h hp
  exact ⟨g, rfl, by omega, by omega, h3⟩

theorem SlV.below {w w' : World} {lo hi B : Nat} {A : Option Addr} {ss : List Sl} (h : SlV w lo hi A ss) (hb : Below B w w') (hB : hi ≤ B) : SlV w' lo hi A ss :=
  h.of_block fun g _ h2 => hb.block g (by omega)

theorem LSl.below {w w' : World} {A : Option Addr} {ss : List Sl} (h : LSl w A ss) (hb : Below w.heap.size w w') : LSl w' A ss := by
  intro hp
  obtain ⟨b, off, rfl, hc⟩ := h hp
  have hlt := World.block_lt_of_cell? _ _ (hc 0 hp).1
  refine ⟨b, off, rfl, fun i hi => ?_⟩
  have hcc : ∀ o, w'.cell? ⟨b, o, none⟩ = w.cell? ⟨b, o, none⟩ := fun o => hb.cell hlt
  obtain ⟨h0, h1, h2, h3⟩ := hc i hi
  exact ⟨(hcc _).trans h0, (hcc _).trans h1, (hcc _).trans h2, (hcc _).trans h3⟩

/-- From w to w' only blocks from lo on and ahead of hi, and new ones, have turned. -/
structure Turns (lo hi : Nat) (w w' : World) : Prop where
  os : w'.os = w.os
  tape : w'.tape = w.tape
  output : w'.output = w.output
  size : w.heap.size ≤ w'.heap.size
  block : ∀ k, k < w.heap.size → (k < lo ∨ hi ≤ k) → w'.heap[k]? = w.heap[k]?

theorem Turns.below {lo hi : Nat} {w w' : World} (h : Turns lo hi w w') {B : Nat} (hB : B ≤ lo) (hs : B ≤ w.heap.size) : Below B w w' :=
  ⟨h.os, h.tape, h.output, h.size, fun k hk => h.block k (by omega) (.inl (by omega))⟩

theorem Turns.of_below {lo hi : Nat} {w w' : World} (h : Below w.heap.size w w') : Turns lo hi w w' := ⟨h.os, h.tape, h.output, h.size, fun k hk _ => h.block k hk⟩

theorem Turns.trans {lo hi : Nat} {a b c : World} (h : Turns lo hi a b) (k : Turns lo hi b c) : Turns lo hi a c :=
  ⟨k.os.trans h.os, k.tape.trans h.tape, k.output.trans h.output, Nat.le_trans h.size k.size, fun i hi' ho => (k.block i (Nat.lt_of_lt_of_le hi' h.size) ho).trans (h.block i hi' ho)⟩

theorem Turns.setCell {lo hi : Nat} {a w : World} (h : Turns lo hi a w) {p : Addr} (h1 : lo ≤ p.block) (h2 : p.block < hi) (u : Value) : Turns lo hi a (w.setCell p u) :=
  ⟨h.os, h.tape, h.output, by simpa [World.setCell] using h.size, fun k hk ho => (Below.heap_setCell w p u k (by rintro rfl; omega)).trans (h.block k hk ho)⟩

theorem SlV.turns {w w' : World} {lo hi l h : Nat} {A : Option Addr} {ss : List Sl} (s : SlV w lo hi A ss) (t : Turns l h w w') (hd : hi ≤ l ∨ h ≤ lo) (hs : hi ≤ w.heap.size) : SlV w' lo hi A ss :=
  s.of_block fun g _ h2 => t.block g (by omega) (by omega)
end Go.Proofs.Ytehdbdolhkflcaa.Que
