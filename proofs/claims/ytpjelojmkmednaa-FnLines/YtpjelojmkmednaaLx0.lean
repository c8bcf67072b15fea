/- A waiting line as plain data: what its queue and its heap are after each operation, and that it stays valid. Plain mathematics. -/
import Derived.Test.YtpjelojmkmednaaLqB
import Derived.Test.YtpjelojmkmednaaLqD
import Derived.Test.YtpjelojmkmednaaLhC
import Derived.Test.YtpjelojmkmednaaHxa
namespace Go.Proofs.Ytpjelojmkmednaa.Ln
open Go.RowKit Go.Deep Base

structure Qx where
  ss : List Que.Sl
  f : Int
  l : Int
  r : Int
  c : Int

structure Lx where
  s : Qx
  ds : List Hp.Du
  q : Int

def Qx.ok (s : Qx) : Bool := Que.okQ s.ss s.f s.l s.r s.c
def Qx.ids (s : Qx) : List Int := Que.listA s.ss s.f s.l s.r s.c
def Qx.place (s : Qx) (t : Int) : Int := Que.placeA s.ss s.f s.l s.r s.c t
def Qx.can (s : Qx) (p : Int) : Bool := Que.canRem s.ss s.f s.l s.r s.c p
def Qx.remAt (s : Qx) (p : Int) : Qx :=
  if s.can p = true then ⟨Que.remS s.ss s.r p.toNat, if (Que.sl s.ss p.toNat).prev = -1 then (Que.sl s.ss p.toNat).next else s.f, if (Que.sl s.ss p.toNat).next = -1 then (Que.sl s.ss p.toNat).prev else s.l, p, s.c - 1⟩ else s
def Qx.idAt (s : Qx) (p : Int) : Int := if s.can p = true then (Que.sl s.ss p.toNat).id else 0
def Qx.may (s : Qx) (t : Int) : Bool := Que.canPush s.ss s.f s.l s.r s.c t
def Qx.push (s : Qx) (t : Int) : Qx :=
  if s.may t = true then ⟨Que.pushS s.ss s.l s.r t, if s.l = -1 then s.r else s.f, s.r, (Que.sl s.ss s.r.toNat).next, s.c + 1⟩ else s
def Qx.slot (s : Qx) (t : Int) : Int := if s.may t = true then s.r else -1
def Qx.V (s : Qx) (us fs : List Nat) : Prop := Que.Val s.ss s.f s.l s.r s.c us fs

theorem Qx.ok_val {s : Qx} (h : s.ok = true) : ∃ us fs, s.V us fs := Que.ok_val h
theorem Qx.V.ok {s : Qx} {us fs : List Nat} (v : s.V us fs) : s.ok = true := Que.val_ok v
theorem Qx.V.ids_eq {s : Qx} {us fs : List Nat} (v : s.V us fs) : s.ids = us.map fun u => (Que.sl s.ss u).id := Que.listA_val v
theorem Qx.ids_no {s : Qx} (h : s.ok = false) : s.ids = [] := Que.listA_no h

theorem setNext_len (ss : List Que.Sl) (i v : Int) : (Que.setNext ss i v).length = ss.length := by unfold Que.setNext; split <;> simp
theorem Qx.remAt_len (s : Qx) (p : Int) : (s.remAt p).ss.length = s.ss.length := by
  unfold Qx.remAt
  split
  · exact Que.remS_len _ _ _
  · rfl
theorem Qx.push_len (s : Qx) (t : Int) : (s.push t).ss.length = s.ss.length := by
  unfold Qx.push
  split
  · show (Que.pushS _ _ _ _).length = _
    unfold Que.pushS
    rw [setNext_len, List.length_set]
  · rfl
theorem Qx.remAt_no {s : Qx} {p : Int} (h : s.can p = false) : s.remAt p = s ∧ s.idAt p = 0 := by
  unfold Qx.remAt Qx.idAt
  rw [if_neg (by rw [h]; simp), if_neg (by rw [h]; simp)]
  exact ⟨rfl, rfl⟩
theorem Qx.push_no {s : Qx} {t : Int} (h : s.may t = false) : s.push t = s ∧ s.slot t = -1 := by
  unfold Qx.push Qx.slot
  rw [if_neg (by rw [h]; simp), if_neg (by rw [h]; simp)]
  exact ⟨rfl, rfl⟩

/-- What is known of the Ids of a valid queue. -/
theorem Qx.ids_facts {s : Qx} (h : s.ok = true) : s.ids.Nodup ∧ (∀ i ∈ s.ids, 1 ≤ i ∧ i ≤ 1000000000) ∧ s.ids.length ≤ 60 ∧ s.c = (s.ids.length : Int) ∧ s.ss.length = 60 := by
  obtain ⟨us, fs, v⟩ := Qx.ok_val h
  rw [v.ids_eq]
  obtain ⟨len, seg, fch, lt, ids, nd, full, cnt⟩ := v
  refine ⟨ids, ?_, ?_, ?_, len⟩
  · intro i hi
    obtain ⟨u, hu, rfl⟩ := List.mem_map.1 hi
    obtain ⟨_, h1, h2⟩ := Que.seg_used seg u hu
    exact ⟨h1, h2⟩
  · rw [List.length_append] at full
    simp
    omega
  · simpa using cnt

theorem Qx.place_no {s : Qx} {t : Int} (h : s.ok = true) (ht : t ∉ s.ids) : s.place t = -1 := by
  obtain ⟨us, fs, v⟩ := Qx.ok_val h
  rw [v.ids_eq] at ht
  unfold Qx.place
  rw [Que.placeA_val t v]
  exact Que.find_not fun y hy e => ht (List.mem_map.2 ⟨y, hy, e⟩)
theorem Qx.can_neg (s : Qx) : s.can (-1) = false := by
  unfold Qx.can Que.canRem
  simp

theorem erase_mid {l1 l2 : List Int} {t : Int} (h : t ∉ l1) : (l1 ++ t :: l2).erase t = l1 ++ l2 := by
  rw [List.erase_append_right _ h]
  simp

theorem Qx.place_yes {s : Qx} {t : Int} (h : s.ok = true) (ht : t ∈ s.ids) : ∃ p : Nat, s.place t = (p : Int) ∧ p < 60 ∧ s.can (p : Int) = true ∧ s.idAt (p : Int) = t ∧ (s.remAt (p : Int)).ok = true ∧ (s.remAt (p : Int)).ids = s.ids.erase t ∧ ∀ r, s.ids = t :: r → s.f = (p : Int) := by
  obtain ⟨us, fs, v⟩ := Qx.ok_val h
  have hi := v.ids_eq
  rw [hi] at ht
  obtain ⟨p, hp, he⟩ := List.mem_map.1 ht
  obtain ⟨l1, l2, hl⟩ := List.append_of_mem hp
  subst hl
  have hnd := v.ids
  rw [List.map_append, List.map_cons] at hnd
  have hno : t ∉ l1.map fun u => (Que.sl s.ss u).id := by
    rw [List.nodup_append] at hnd
    intro hm
    exact hnd.2.2 t hm t (by rw [← he]; simp) rfl
  have hlt : p < 60 := v.lt p (by simp)
  have hused : (Que.sl s.ss p).used = true := (Que.seg_used v.seg p (by simp)).1
  have hcan : s.can (p : Int) = true := by
    unfold Qx.can Que.canRem
    rw [Int.toNat_natCast, hused, decide_eq_true (by omega), decide_eq_true (by omega)]
    have hk := v.ok
    unfold Qx.ok at hk
    simpa using hk
  obtain ⟨rv, rids⟩ := Que.rem_val v
  have hr : s.remAt (p : Int) = ⟨Que.remS s.ss s.r p, if (Que.sl s.ss p).prev = -1 then (Que.sl s.ss p).next else s.f, if (Que.sl s.ss p).next = -1 then (Que.sl s.ss p).prev else s.l, (p : Int), s.c - 1⟩ := by
    unfold Qx.remAt
    rw [if_pos hcan, Int.toNat_natCast]
  refine ⟨p, ?_, hlt, hcan, ?_, ?_, ?_, ?_⟩
  · unfold Qx.place
    rw [Que.placeA_val t v]
    exact Que.find_here (fun y hy e => hno (List.mem_map.2 ⟨y, hy, e⟩)) he
  · unfold Qx.idAt
    rw [if_pos hcan, Int.toNat_natCast, he]
  · rw [hr]
    exact Que.val_ok rv
  · rw [hr, hi, List.map_append, List.map_cons, he, erase_mid hno]
    rw [List.map_append] at rids
    exact (Que.listA_val rv).trans (by simpa [Que.idsOf] using rids)
  · intro r hr'
    cases l1 with
    | nil => exact v.seg.1
    | cons a l1 =>
      exfalso
      rw [hi] at hr'
      simp at hr'
      exact hno (by simp [hr'.1])

theorem Qx.first_no {s : Qx} (h : s.ok = true) (hi : s.ids = []) : s.f = -1 := by
  obtain ⟨us, fs, v⟩ := Qx.ok_val h
  rw [v.ids_eq] at hi
  have : us = [] := by simpa using hi
  subst this
  exact v.seg.2.symm

theorem Qx.push_yes {s : Qx} {t : Int} (h : s.may t = true) : s.ok = true ∧ t ∉ s.ids ∧ 0 ≤ s.r ∧ s.slot t = s.r ∧ (s.push t).ok = true ∧ (s.push t).ids = s.ids ++ [t] := by
  have h0 := h
  unfold Qx.may Que.canPush at h
  simp only [Bool.and_eq_true, Bool.not_eq_true', beq_eq_false_iff_ne, beq_iff_eq] at h
  obtain ⟨⟨⟨hok, hr⟩, hid⟩, hpl⟩ := h
  obtain ⟨us, fs, v⟩ := Que.ok_val hok
  have hi : s.ids = us.map fun u => (Que.sl s.ss u).id := Qx.V.ids_eq v
  have hnot : t ∉ s.ids := by
    intro hm
    obtain ⟨p, hp, _⟩ := Qx.place_yes (s := s) hok hm
    unfold Qx.place at hp
    omega
  have hb : 1 ≤ t ∧ t ≤ 1000000000 := by
    unfold Que.idB at hid
    simpa using hid
  match fs, v with
  | [], v => exact absurd v.fch hr
  | x :: fs, v =>
    have hx : s.r = (x : Int) := v.fch.1
    obtain ⟨pv, pids⟩ := Que.push_val v hb.1 hb.2 (by rw [← hi]; exact hnot)
    have hp : s.push t = ⟨Que.pushS s.ss s.l s.r t, if s.l = -1 then s.r else s.f, s.r, (Que.sl s.ss x).next, s.c + 1⟩ := by
      unfold Qx.push
      rw [if_pos h0, hx, Int.toNat_natCast]
    refine ⟨hok, hnot, by omega, by unfold Qx.slot; rw [if_pos h0], ?_, ?_⟩
    · rw [hp]; exact Que.val_ok pv
    · rw [hp, hi]
      exact (Que.listA_val pv).trans pids

/-- A ticket may be pushed just if the queue is valid, has a free slot, and the ticket is a new Id. -/
theorem Qx.may_iff {s : Qx} {t : Int} (h : s.ok = true) : s.may t = true ↔ s.ids.length < 60 ∧ 1 ≤ t ∧ t ≤ 1000000000 ∧ t ∉ s.ids := by
  obtain ⟨us, fs, v⟩ := Qx.ok_val h
  have hi := v.ids_eq
  have hfull := v.full
  rw [List.length_append] at hfull
  have hlen : s.ids.length = us.length := by rw [hi]; simp
  have hr : s.r = -1 ↔ fs = [] := by
    cases fs with
    | nil => exact ⟨fun _ => rfl, fun _ => v.fch⟩
    | cons x fs =>
      have := v.fch.1
      constructor
      · intro e; omega
      · intro e; cases e
  constructor
  · intro hm
    obtain ⟨_, h1, h2, _⟩ := Qx.push_yes hm
    unfold Qx.may Que.canPush at hm
    simp only [Bool.and_eq_true, Bool.not_eq_true', beq_eq_false_iff_ne, beq_iff_eq, Que.idB, decide_eq_true_eq] at hm
    have hne : fs ≠ [] := fun e => hm.1.1.2 (hr.2 e)
    have : 0 < fs.length := List.length_pos_iff.2 hne
    exact ⟨by omega, hm.1.2.1, hm.1.2.2, h1⟩
  · rintro ⟨h1, h2, h3, h4⟩
    have hp := Qx.place_no h h4
    have hne : ¬ s.r = -1 := fun e => by
      have := hr.1 e
      subst this
      simp at hfull
      omega
    unfold Qx.may Que.canPush Que.idB
    unfold Qx.place at hp
    unfold Qx.ok at h
    rw [h, hp, decide_eq_true h2, decide_eq_true h3]
    simpa using hne
end Go.Proofs.Ytpjelojmkmednaa.Ln
