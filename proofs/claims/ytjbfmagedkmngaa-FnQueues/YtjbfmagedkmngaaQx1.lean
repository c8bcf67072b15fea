/- A queue as a plain list of Ids: what pushing, popping, finding and removing make of the list. -/
import Derived.Test.YtjbfmagedkmngaaRem2
namespace Go.Proofs.Ytjbfmagedkmngaa.Que
open Go.RowKit Go.Deep Base Rng

def idsL (ss : List Sl) (us : List Nat) : List Int := us.map fun u => (sl ss u).id
/-- The queue is valid and lists L. -/
def QL (ss : List Sl) (f l r c : Int) (L : List Int) : Prop := ∃ us fs, Val ss f l r c us fs ∧ idsL ss us = L

theorem QL.ok {ss : List Sl} {f l r c : Int} {L : List Int} (h : QL ss f l r c L) : okQ ss f l r c = true := by
  obtain ⟨us, fs, v, _⟩ := h
  exact val_ok v
theorem QL.len {ss : List Sl} {f l r c : Int} {L : List Int} (h : QL ss f l r c L) : ss.length = 60 := by
  obtain ⟨us, fs, v, _⟩ := h
  exact v.len
theorem QL.few {ss : List Sl} {f l r c : Int} {L : List Int} (h : QL ss f l r c L) : L.length ≤ 60 ∧ c = L.length := by
  obtain ⟨us, fs, v, rfl⟩ := h
  have h1 := v.full
  have h2 := v.cnt
  simp [idsL] at h1 ⊢
  omega
theorem QL.nodup {ss : List Sl} {f l r c : Int} {L : List Int} (h : QL ss f l r c L) : L.Nodup := by
  obtain ⟨us, fs, v, rfl⟩ := h
  exact v.ids
theorem QL.ids {ss : List Sl} {f l r c : Int} {L : List Int} (h : QL ss f l r c L) : ∀ x ∈ L, 1 ≤ x ∧ x ≤ 1000000000 := by
  obtain ⟨us, fs, v, rfl⟩ := h
  intro x hx
  obtain ⟨u, hu, rfl⟩ := List.mem_map.1 hx
  have := seg_used v.seg u hu
  exact ⟨this.2.1, this.2.2⟩

theorem qx_none {ss : List Sl} {us : List Nat} {id : Int} (h : id ∉ idsL ss us) : placeF ss us id = -1 :=
  find_not (fun y hy e => h (List.mem_map.2 ⟨y, hy, e⟩))
theorem qx_some {ss : List Sl} {us : List Nat} {id : Int} (h : id ∈ idsL ss us) : ∃ pre x suf, us = pre ++ x :: suf ∧ (sl ss x).id = id ∧ (∀ y ∈ pre, (sl ss y).id ≠ id) ∧ placeF ss us id = ((x : Nat) : Int) := by
  induction us with
  | nil => simp [idsL] at h
  | cons a t ih =>
    by_cases ha : (sl ss a).id = id
    · exact ⟨[], a, t, rfl, ha, fun y hy => by simp at hy, find_here (pre := []) (fun y hy => by simp at hy) ha⟩
    · have ht : id ∈ idsL ss t := by
        simp only [idsL, List.map_cons, List.mem_cons] at h
        rcases h with h | h
        · exact absurd h.symm ha
        · exact h
      obtain ⟨pre, x, suf, rfl, h1, h2, _⟩ := ih ht
      have h3 : ∀ y ∈ a :: pre, (sl ss y).id ≠ id := fun y hy => by
        rcases List.mem_cons.1 hy with rfl | hy
        · exact ha
        · exact h2 y hy
      exact ⟨a :: pre, x, suf, rfl, h1, h3, find_here (pre := a :: pre) h3 h1⟩

theorem QL.push {ss : List Sl} {f l r c : Int} {L : List Int} {id : Int} (h : QL ss f l r c L) (h1 : 1 ≤ id) (h2 : id ≤ 1000000000) :
    (canPush ss f l r c id = true ∧ id ∉ L ∧ L.length < 60 ∧ 0 ≤ r ∧ QL (pushS ss l r id) (if l = -1 then r else f) r (sl ss r.toNat).next (c + 1) (L ++ [id]))
    ∨ (canPush ss f l r c id = false ∧ ¬ (id ∉ L ∧ L.length < 60)) := by
  obtain ⟨us, fs, v, rfl⟩ := h
  have hlen : (idsL ss us).length = us.length := by simp [idsL]
  have hfull := v.full
  rw [List.length_append] at hfull
  have hpl := placeA_val id v
  by_cases hm : id ∈ idsL ss us
  · right
    refine ⟨?_, fun hh => hh.1 hm⟩
    obtain ⟨pre, x, suf, _, _, _, hx⟩ := qx_some hm
    unfold canPush
    rw [hpl, hx]
    have : (((x : Nat) : Int) == -1) = false := by simp
    rw [this]
    simp
  · cases fs with
    | nil =>
      right
      have hr : r = -1 := v.fch
      refine ⟨?_, fun hh => by have := hh.2; rw [hlen] at this; simp at hfull; omega⟩
      unfold canPush
      rw [hr]
      simp
    | cons x fs =>
      left
      have hr : r = (x : Int) := v.fch.1
      obtain ⟨v1, hids⟩ := push_val v h1 h2 hm
      refine ⟨?_, hm, ?_, by omega, ?_⟩
      · unfold canPush
        rw [val_ok v, hpl, qx_none hm, idB_true h1 h2, hr]
        simp
      · rw [hlen]; simp at hfull; omega
      · refine ⟨us ++ [x], fs, ?_, hids⟩
        rw [hr] at v1 ⊢
        rw [Int.toNat_natCast]
        exact v1

theorem erase_mid (pre suf : List Int) (x : Int) : (pre ++ x :: suf).eraseIdx pre.length = pre ++ suf := by
  induction pre with
  | nil => rfl
  | cons a t ih => simp [ih]

theorem QL.rem {ss : List Sl} {f l r c : Int} {pre suf fs : List Nat} {x : Nat} (v : Val ss f l r c (pre ++ x :: suf) fs) :
    canRem ss f l r c (x : Int) = true ∧ QL (remS ss r x) (if (sl ss x).prev = -1 then (sl ss x).next else f) (if (sl ss x).next = -1 then (sl ss x).prev else l) (x : Int) (c - 1) (idsL ss (pre ++ suf)) := by
  obtain ⟨v1, hids⟩ := rem_val v
  have hx : x < 60 := v.lt x (by simp)
  have hu := (seg_used v.seg x (by simp)).1
  refine ⟨?_, pre ++ suf, x :: fs, v1, hids⟩
  unfold canRem
  rw [val_ok v, Int.toNat_natCast, hu]
  simp
  omega

/-- The first is taken. -/
theorem QL.pop {ss : List Sl} {f l r c : Int} {L : List Int} (h : QL ss f l r c L) :
    (L = [] ∧ canRem ss f l r c f = false)
    ∨ ∃ a t, L = a :: t ∧ canRem ss f l r c f = true ∧ (sl ss f.toNat).id = a ∧ QL (remS ss r f.toNat) (if (sl ss f.toNat).prev = -1 then (sl ss f.toNat).next else f) (if (sl ss f.toNat).next = -1 then (sl ss f.toNat).prev else l) f (c - 1) t := by
  obtain ⟨us, fs, v, rfl⟩ := h
  cases us with
  | nil =>
    left
    have hf : f = -1 := by have := v.seg; exact this.2.symm
    refine ⟨rfl, ?_⟩
    unfold canRem
    rw [hf]
    simp
  | cons x t =>
    right
    have hf : f = (x : Int) := v.seg.1
    have hr := QL.rem (pre := []) v
    refine ⟨(sl ss x).id, idsL ss t, rfl, ?_⟩
    rw [hf, Int.toNat_natCast]
    rw [hf] at hr
    exact ⟨hr.1, rfl, hr.2⟩

/-- The one at k is found and taken. -/
theorem QL.take {ss : List Sl} {f l r c : Int} {L : List Int} {k : Nat} (h : QL ss f l r c L) (hk : k < L.length) :
    ∃ x : Nat, placeA ss f l r c (L.getD k 0) = (x : Int) ∧ canRem ss f l r c (x : Int) = true ∧ (sl ss x).id = L.getD k 0
      ∧ QL (remS ss r x) (if (sl ss x).prev = -1 then (sl ss x).next else f) (if (sl ss x).next = -1 then (sl ss x).prev else l) (x : Int) (c - 1) (L.eraseIdx k) := by
  have hnd := h.nodup
  obtain ⟨us, fs, v, rfl⟩ := h
  have hm : (idsL ss us).getD k 0 ∈ idsL ss us := by
    rw [List.getD_eq_getElem?_getD, List.getElem?_eq_getElem hk]
    exact List.getElem_mem hk
  obtain ⟨pre, x, suf, rfl, h1, h2, h3⟩ := qx_some hm
  have hr := QL.rem v
  refine ⟨x, by rw [placeA_val _ v, h3], hr.1, h1, ?_⟩
  have hkk : k = (idsL ss pre).length := by
    have e : idsL ss (pre ++ x :: suf) = idsL ss pre ++ (sl ss x).id :: idsL ss suf := by simp [idsL]
    rw [e] at hk h1 hnd
    have hl : (idsL ss pre).length < (idsL ss pre ++ (sl ss x).id :: idsL ss suf).length := by simp
    have e1 : (idsL ss pre ++ (sl ss x).id :: idsL ss suf)[k] = (idsL ss pre ++ (sl ss x).id :: idsL ss suf)[(idsL ss pre).length] := by
      have e2 : (idsL ss pre ++ (sl ss x).id :: idsL ss suf)[(idsL ss pre).length] = (sl ss x).id := by simp
      rw [e2]
      refine Eq.trans ?_ h1.symm
      rw [List.getD_eq_getElem?_getD, List.getElem?_eq_getElem hk]
      rfl
    exact (List.getElem_inj hnd).1 e1
  have e : idsL ss (pre ++ x :: suf) = idsL ss pre ++ (sl ss x).id :: idsL ss suf := by simp [idsL]
  rw [e, hkk, erase_mid]
  have e2 : idsL ss (pre ++ suf) = idsL ss pre ++ idsL ss suf := by simp [idsL]
  rw [← e2]
  exact hr.2
end Go.Proofs.Ytjbfmagedkmngaa.Que
