/- The plain mathematics of queues whose slots are linked by their indices: the two walks that decide validity, what they find, and that adding and removing keep it. Nothing of the program is named here. -/
namespace Go.Proofs.Ytjbfmagedkmngaa.Que

structure Sl where
  id : Int
  prev : Int
  next : Int
  used : Bool
  deriving DecidableEq

def zSl : Sl := ⟨0, 0, 0, false⟩

def sl (ss : List Sl) (p : Nat) : Sl := ss.getD p zSl

def okU (ss : List Sl) (vis : List Nat) (ahead : Int) (p : Nat) : Bool :=
  (sl ss p).used && ((sl ss p).prev == ahead) && decide (1 ≤ (sl ss p).id) && decide ((sl ss p).id ≤ 1000000000) && !((vis.map fun v => (sl ss v).id).contains (sl ss p).id)

def okF (s : Sl) : Bool := !s.used && (s.id == 0) && (s.prev == -1)

def usedW (ss : List Sl) : Nat → Int → Int → List Nat → Option (List Nat × Int)
  | 0, _, _, _ => none
  | f + 1, p, ahead, vis =>
    if p = -1 then some (vis, ahead)
    else if ¬ (0 ≤ p ∧ p ≤ 59) then none
    else if p.toNat ∈ vis then none
    else if okU ss vis ahead p.toNat then usedW ss f (sl ss p.toNat).next p (vis ++ [p.toNat])
    else none

def freeW (ss : List Sl) : Nat → Int → List Nat → Option (List Nat)
  | 0, _, _ => none
  | f + 1, p, vis =>
    if p = -1 then some vis
    else if ¬ (0 ≤ p ∧ p ≤ 59) then none
    else if p.toNat ∈ vis then none
    else if okF (sl ss p.toNat) then freeW ss f (sl ss p.toNat).next (vis ++ [p.toNat])
    else none

/-- The places of the queue in order, and all places, where the walks go through. -/
def okQ (ss : List Sl) (first last free count : Int) : Bool :=
  decide (ss.length = 60) && match usedW ss 61 first (-1) [] with
    | none => false
    | some (us, ahead) => ((us.length : Int) == count) && (last == ahead) && match freeW ss 61 free us with
      | none => false
      | some vs => vs.length == 60

/-! ### No more than n distinct numbers below n -/
theorem nodup_le : ∀ (n : Nat) (l : List Nat), l.Nodup → (∀ x ∈ l, x < n) → l.length ≤ n
  | 0, l, _, h => by
    cases l with
    | nil => simp
    | cons a r => exact absurd (h a (by simp)) (by omega)
  | n + 1, l, hd, h => by
    have h1 := nodup_le n (l.erase n) (hd.erase n) (fun x hx => by
      have hx' := (hd.mem_erase_iff).1 hx
      have := h x hx'.2
      have := hx'.1
      omega)
    have h2 : l.length ≤ (l.erase n).length + 1 := by
      rw [List.length_erase]; split <;> omega
    omega

theorem mem_of_full {n : Nat} {l : List Nat} (hd : l.Nodup) (h : ∀ x ∈ l, x < n) (hl : l.length = n) {x : Nat} (hx : x < n) : x ∈ l := by
  by_cases hm : x ∈ l
  · exact hm
  · have := nodup_le n (x :: l) (List.nodup_cons.2 ⟨hm, hd⟩) (fun y hy => by
      rcases List.mem_cons.1 hy with rfl | hy
      · exact hx
      · exact h y hy)
    simp at this
    omega

/-! ### Segments of a doubly linked list -/
def okE (s : Sl) : Prop := s.used = true ∧ 1 ≤ s.id ∧ s.id ≤ 1000000000

/-- From p on, behind pr, the places l, each led to by the one ahead of it; m the last of them (pr where there is none), q where it leads. -/
def Seg (ss : List Sl) : Int → Int → List Nat → Int → Int → Prop
  | pr, p, [], m, q => m = pr ∧ q = p
  | pr, p, x :: r, m, q => p = (x : Int) ∧ (sl ss x).prev = pr ∧ okE (sl ss x) ∧ Seg ss (x : Int) (sl ss x).next r m q

theorem seg_append (ss : List Sl) : ∀ (a b : List Nat) (pr p m q : Int), Seg ss pr p (a ++ b) m q ↔ ∃ m' q', Seg ss pr p a m' q' ∧ Seg ss m' q' b m q
  | [], b, pr, p, m, q => by
    constructor
    · intro h; exact ⟨pr, p, ⟨rfl, rfl⟩, h⟩
    · rintro ⟨m', q', ⟨rfl, rfl⟩, h⟩; exact h
  | x :: a, b, pr, p, m, q => by
    simp only [List.cons_append, Seg, seg_append ss a b]
    constructor
    · rintro ⟨h1, h2, h3, m', q', h4, h5⟩; exact ⟨m', q', ⟨h1, h2, h3, h4⟩, h5⟩
    · rintro ⟨m', q', ⟨h1, h2, h3, h4⟩, h5⟩; exact ⟨h1, h2, h3, m', q', h4, h5⟩

theorem seg_congr {ss ss' : List Sl} : ∀ {l : List Nat} {pr p m q : Int}, (∀ x ∈ l, sl ss' x = sl ss x) → Seg ss pr p l m q → Seg ss' pr p l m q
  | [], _, _, _, _, _, h => h
  | x :: l, pr, p, m, q, e, h => by
    obtain ⟨h1, h2, h3, h4⟩ := h
    have ex := e x (by simp)
    exact ⟨h1, by rw [ex]; exact h2, by rw [ex]; exact h3, by rw [ex]; exact seg_congr (fun y hy => e y (by simp [hy])) h4⟩

theorem seg_last {ss : List Sl} : ∀ {l : List Nat} {pr p m q : Int}, Seg ss pr p l m q → l ≠ [] → ∃ (l' : List Nat) (x : Nat), l = l' ++ [x] ∧ m = (x : Int) ∧ q = (sl ss x).next
  | [], _, _, _, _, _, hne => absurd rfl hne
  | [x], pr, p, m, q, h, _ => by
    obtain ⟨_, _, _, h4, h5⟩ := h
    exact ⟨[], x, rfl, h4, h5⟩
  | x :: y :: l, pr, p, m, q, h, _ => by
    obtain ⟨_, _, _, h4⟩ := h
    obtain ⟨l', z, e, e1, e2⟩ := seg_last h4 (by simp)
    exact ⟨x :: l', z, by rw [e]; rfl, e1, e2⟩

/-- Where the last of a segment leads elsewhere. -/
theorem seg_out {ss ss' : List Sl} {l' : List Nat} {x : Nat} {pr p q q' : Int} (h : Seg ss pr p (l' ++ [x]) (x : Int) q) (e : ∀ y ∈ l', sl ss' y = sl ss y)
    (e1 : (sl ss' x).prev = (sl ss x).prev) (e2 : (sl ss' x).used = (sl ss x).used) (e3 : (sl ss' x).id = (sl ss x).id) (e4 : (sl ss' x).next = q') : Seg ss' pr p (l' ++ [x]) (x : Int) q' := by
  obtain ⟨m', p', h1, h2⟩ := (seg_append _ _ _ _ _ _ _).1 h
  refine (seg_append _ _ _ _ _ _ _).2 ⟨m', p', seg_congr e h1, ?_⟩
  obtain ⟨a1, a2, a3, _, _⟩ := h2
  refine ⟨a1, e1.trans a2, ?_, rfl, e4.symm⟩
  unfold okE at a3 ⊢
  rw [e2, e3]; exact a3

/-- Where the first of a segment names another ahead of it. -/
theorem seg_in {ss ss' : List Sl} {x : Nat} {r : List Nat} {pr pr' p m q : Int} (h : Seg ss pr p (x :: r) m q) (e : ∀ y ∈ r, sl ss' y = sl ss y)
    (e1 : (sl ss' x).prev = pr') (e2 : (sl ss' x).used = (sl ss x).used) (e3 : (sl ss' x).id = (sl ss x).id) (e4 : (sl ss' x).next = (sl ss x).next) : Seg ss' pr' p (x :: r) m q := by
  obtain ⟨a1, _, a3, a4⟩ := h
  refine ⟨a1, e1, ?_, by rw [e4]; exact seg_congr e a4⟩
  unfold okE at a3 ⊢
  rw [e2, e3]; exact a3

def FCh (ss : List Sl) : Int → List Nat → Prop
  | p, [] => p = -1
  | p, x :: r => p = (x : Int) ∧ okF (sl ss x) = true ∧ FCh ss (sl ss x).next r

theorem fch_congr {ss ss' : List Sl} : ∀ {l : List Nat} {p : Int}, (∀ x ∈ l, sl ss' x = sl ss x) → FCh ss p l → FCh ss' p l
  | [], _, _, h => h
  | x :: l, p, e, h => by
    obtain ⟨h1, h2, h3⟩ := h
    have ex := e x (by simp)
    exact ⟨h1, by rw [ex]; exact h2, by rw [ex]; exact fch_congr (fun y hy => e y (by simp [hy])) h3⟩

/-! ### What the walks find -/
theorem okU_iff {ss : List Sl} {vis : List Nat} {ahead : Int} {p : Nat} : okU ss vis ahead p = true ↔ (sl ss p).prev = ahead ∧ okE (sl ss p) ∧ (sl ss p).id ∉ vis.map fun v => (sl ss v).id := by
  unfold okU okE
  simp only [Bool.and_eq_true, beq_iff_eq, decide_eq_true_eq, Bool.not_eq_true', List.contains_eq_mem, decide_eq_false_iff_not]
  constructor
  · rintro ⟨⟨⟨⟨a, b⟩, c⟩, d⟩, e⟩; exact ⟨b, ⟨a, c, d⟩, e⟩
  · rintro ⟨b, ⟨a, c, d⟩, e⟩; exact ⟨⟨⟨⟨a, b⟩, c⟩, d⟩, e⟩

theorem usedW_some {ss : List Sl} : ∀ {f : Nat} {p ahead : Int} {vis us : List Nat} {l : Int}, usedW ss f p ahead vis = some (us, l) →
    ∃ r, us = vis ++ r ∧ Seg ss ahead p r l (-1) ∧ (∀ x ∈ r, x < 60) ∧ ((vis.map fun v => (sl ss v).id).Nodup → (us.map fun v => (sl ss v).id).Nodup)
  | 0, _, _, _, _, _, h => by simp [usedW] at h
  | f + 1, p, ahead, vis, us, l, h => by
    unfold usedW at h
    split at h
    · next e => simp at h; obtain ⟨rfl, rfl⟩ := h; exact ⟨[], by simp, ⟨rfl, e.symm⟩, by simp, fun h => h⟩
    split at h
    · cases h
    next hr =>
    split at h
    · cases h
    split at h
    · next hk =>
      have hr' : 0 ≤ p ∧ p ≤ 59 := Decidable.not_not.1 hr
      obtain ⟨r, e1, e2, e3, e4⟩ := usedW_some h
      obtain ⟨k1, k2, k3⟩ := okU_iff.1 hk
      refine ⟨p.toNat :: r, by rw [e1]; simp, ⟨by omega, k1, k2, by rw [Int.toNat_of_nonneg hr'.1]; exact e2⟩, fun x hx => ?_, fun hn => e4 ?_⟩
      · rcases List.mem_cons.1 hx with rfl | hx
        · omega
        · exact e3 x hx
      · rw [List.map_append, List.nodup_append]
        refine ⟨hn, by simp, fun a ha b hb => ?_⟩
        simp at hb
        subst hb
        rintro rfl
        exact k3 ha
    · cases h

theorem usedW_of {ss : List Sl} : ∀ {r : List Nat} {f : Nat} {p ahead : Int} {vis : List Nat} {l : Int}, Seg ss ahead p r l (-1) → (∀ x ∈ r, x < 60) → ((vis ++ r).map fun v => (sl ss v).id).Nodup → r.length < f →
    usedW ss f p ahead vis = some (vis ++ r, l)
  | r, 0, _, _, _, _, _, _, _, h => by omega
  | [], f + 1, p, ahead, vis, l, h, _, _, _ => by
    obtain ⟨rfl, rfl⟩ := h
    simp [usedW]
  | x :: r, f + 1, p, ahead, vis, l, h, hlt, hn, hf => by
    obtain ⟨rfl, h2, h3, h4⟩ := h
    have hx := hlt x (by simp)
    have hn' : ((vis ++ [x]) ++ r).map (fun v => (sl ss v).id) = (vis ++ x :: r).map fun v => (sl ss v).id := by simp
    have hid : (sl ss x).id ∉ vis.map fun v => (sl ss v).id := by
      rw [List.map_append, List.nodup_append] at hn
      intro hm
      exact hn.2.2 _ hm _ (by simp) rfl
    unfold usedW
    rw [if_neg (by omega), if_neg (by omega), if_neg (fun hm => hid (by simp only [Int.toNat_natCast] at hm; exact List.mem_map.2 ⟨x, hm, rfl⟩)), if_pos (by rw [Int.toNat_natCast]; exact okU_iff.2 ⟨h2, h3, hid⟩)]
    rw [Int.toNat_natCast, usedW_of h4 (fun y hy => hlt y (by simp [hy])) (by rw [hn']; exact hn) (by simp at hf; omega)]
    simp

theorem freeW_some {ss : List Sl} : ∀ {f : Nat} {p : Int} {vis vs : List Nat}, freeW ss f p vis = some vs →
    ∃ r, vs = vis ++ r ∧ FCh ss p r ∧ (∀ x ∈ r, x < 60) ∧ (vis.Nodup → vs.Nodup)
  | 0, _, _, _, h => by simp [freeW] at h
  | f + 1, p, vis, vs, h => by
    unfold freeW at h
    split at h
    · next e => simp at h; subst h; exact ⟨[], by simp, e, by simp, fun h => h⟩
    split at h
    · cases h
    next hr =>
    split at h
    · cases h
    next hv =>
    split at h
    · next hk =>
      have hr' : 0 ≤ p ∧ p ≤ 59 := Decidable.not_not.1 hr
      obtain ⟨r, e1, e2, e3, e4⟩ := freeW_some h
      refine ⟨p.toNat :: r, by rw [e1]; simp, ⟨by omega, hk, e2⟩, fun x hx => ?_, fun hn => e4 ?_⟩
      · rcases List.mem_cons.1 hx with rfl | hx
        · omega
        · exact e3 x hx
      · rw [List.nodup_append]
        refine ⟨hn, by simp, fun a ha b hb => ?_⟩
        simp at hb
        subst hb
        rintro rfl
        exact hv ha
    · cases h

theorem freeW_of {ss : List Sl} : ∀ {r : List Nat} {f : Nat} {p : Int} {vis : List Nat}, FCh ss p r → (∀ x ∈ r, x < 60) → (vis ++ r).Nodup → r.length < f → freeW ss f p vis = some (vis ++ r)
  | r, 0, _, _, _, _, _, h => by omega
  | [], f + 1, p, vis, h, _, _, _ => by
    cases (h : p = -1)
    simp [freeW]
  | x :: r, f + 1, p, vis, h, hlt, hn, hf => by
    obtain ⟨rfl, h2, h3⟩ := h
    have hx := hlt x (by simp)
    have hv : x ∉ vis := by
      rw [List.nodup_append] at hn
      intro hm
      exact hn.2.2 _ hm _ (by simp) rfl
    unfold freeW
    rw [if_neg (by omega), if_neg (by omega), if_neg (by rw [Int.toNat_natCast]; exact hv), if_pos (by rw [Int.toNat_natCast]; exact h2)]
    rw [Int.toNat_natCast, freeW_of h3 (fun y hy => hlt y (by simp [hy])) (by simpa using hn) (by simp at hf; omega)]
    simp

/-! ### Validity -/
structure Val (ss : List Sl) (first last free count : Int) (us fs : List Nat) : Prop where
  len : ss.length = 60
  seg : Seg ss (-1) first us last (-1)
  fch : FCh ss free fs
  lt : ∀ x ∈ us ++ fs, x < 60
  ids : (us.map fun v => (sl ss v).id).Nodup
  nd : (us ++ fs).Nodup
  full : (us ++ fs).length = 60
  cnt : count = us.length

theorem ok_val {ss : List Sl} {first last free count : Int} (h : okQ ss first last free count = true) : ∃ us fs, Val ss first last free count us fs := by
  unfold okQ at h
  rw [Bool.and_eq_true] at h
  obtain ⟨h1, h2⟩ := h
  split at h2
  · cases h2
  next us ahead e =>
  rw [Bool.and_eq_true, Bool.and_eq_true] at h2
  obtain ⟨⟨h3, h4⟩, h5⟩ := h2
  split at h5
  · cases h5
  next vs e' =>
  obtain ⟨r, er, s1, s2, s3⟩ := usedW_some e
  rw [List.nil_append] at er
  subst er
  obtain ⟨fs, rfl, t1, t2, t3⟩ := freeW_some e'
  have hi := s3 (by simp)
  have hnd : us.Nodup := List.Pairwise.of_map _ (fun a b h e => h (by rw [e])) hi
  simp at h1 h3 h4 h5
  subst h4
  refine ⟨us, fs, h1, s1, t1, fun x hx => ?_, hi, t3 hnd, by simp; omega, by omega⟩
  rcases List.mem_append.1 hx with hx | hx
  · exact s2 x hx
  · exact t2 x hx

theorem val_ok {ss : List Sl} {first last free count : Int} {us fs : List Nat} (v : Val ss first last free count us fs) : okQ ss first last free count = true := by
  have hf := v.full
  rw [List.length_append] at hf
  have h1 := usedW_of (f := 61) (vis := []) v.seg (fun x hx => v.lt x (by simp [hx])) (by simpa using v.ids) (by omega)
  have h2 := freeW_of (f := 61) (vis := us) v.fch (fun x hx => v.lt x (by simp [hx])) v.nd (by omega)
  unfold okQ
  rw [h1]
  simp only [List.nil_append, h2]
  have hl := v.len
  have hc := v.cnt
  simp [hl, hc]
  omega
end Go.Proofs.Ytjbfmagedkmngaa.Que
