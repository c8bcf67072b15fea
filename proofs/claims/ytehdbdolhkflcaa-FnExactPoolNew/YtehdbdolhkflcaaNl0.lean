/- A waiting line as plain data: what its queue and its heap are after each operation, and that it stays valid. Plain mathematics. The operations of a waiting line on plain data; a valid line stays valid. Plain mathematics. A waiting line in memory: its two rows, its boxes. The law's own words on lines: a copy is made, held against another, marked and read again. A map from numbers to true in memory: put, look-up, an entry struck, its length. What sameIds answers: whether a valid queue and a valid heap hold the same Ids. What LineOk answers, the program's and the reference's. What the laws on lines share: the boxes of the kept copy and of the argument; the law of LineOk walked. What is known of a waiting line of the law's own type that came in. Small facts that the laws on lines share. Rows of integers beside lines: what marking the one leaves of the other. What LineList, NextExpiry and NewLine answer, the program's and the reference's. -/
import Derived.Test.YtehdbdolhkflcaaNq4
import Derived.Test.YtehdbdolhkflcaaNh3
import Derived.Test.YtehdbdolhkflcaaNh2
import Derived.Test.YtehdbdolhkflcaaChecked
import Derived.Test.YtehdbdolhkflcaaBase
import Derived.RangeFuncNested
import Derived.RangeFuncLeaves
import Derived.Deep.Slices
import Derived.Deep.Fields
import Derived.ChangeSame
import Derived.OpenShut
namespace Go.Proofs.Ytehdbdolhkflcaa.Ln
open Go.RowKit Go.Deep Base

structure Qx where
  ss : List Que.Sl
  f : Int
  l : Int
  r : Int
  c : Int

structure Lx where
  s : Qx
  ds : List Hp.Du
  q : Int

def Qx.ok (s : Qx) : Bool := Que.okQ s.ss s.f s.l s.r s.c
def Qx.ids (s : Qx) : List Int := Que.listA s.ss s.f s.l s.r s.c
def Qx.place (s : Qx) (t : Int) : Int := Que.placeA s.ss s.f s.l s.r s.c t
def Qx.can (s : Qx) (p : Int) : Bool := Que.canRem s.ss s.f s.l s.r s.c p
def Qx.remAt (s : Qx) (p : Int) : Qx :=
  if s.can p = true then ⟨Que.remS s.ss s.r p.toNat, if (Que.sl s.ss p.toNat).prev = -1 then (Que.sl s.ss p.toNat).next else s.f, if (Que.sl s.ss p.toNat).next = -1 then (Que.sl s.ss p.toNat).prev else s.l, p, s.c - 1⟩ else s
def Qx.idAt (s : Qx) (p : Int) : Int := if s.can p = true then (Que.sl s.ss p.toNat).id else 0
def Qx.may (s : Qx) (t : Int) : Bool := Que.canPush s.ss s.f s.l s.r s.c t
def Qx.push (s : Qx) (t : Int) : Qx :=
  if s.may t = true then ⟨Que.pushS s.ss s.l s.r t, if s.l = -1 then s.r else s.f, s.r, (Que.sl s.ss s.r.toNat).next, s.c + 1⟩ else s
def Qx.slot (s : Qx) (t : Int) : Int := if s.may t = true then s.r else -1
def Qx.V (s : Qx) (us fs : List Nat) : Prop := Que.Val s.ss s.f s.l s.r s.c us fs

theorem Qx.ok_val {s : Qx} (h : s.ok = true) : ∃ us fs, s.V us fs := Que.ok_val h
theorem Qx.V.ok {s : Qx} {us fs : List Nat} (v : s.V us fs) : s.ok = true := Que.val_ok v
theorem Qx.V.ids_eq {s : Qx} {us fs : List Nat} (v : s.V us fs) : s.ids = us.map fun u => (Que.sl s.ss u).id := Que.listA_val v
theorem Qx.ids_no {s : Qx} (h : s.ok = false) : s.ids = [] := Que.listA_no h

theorem setNext_len (ss : List Que.Sl) (i v : Int) : (Que.setNext ss i v).length = ss.length := by unfold Que.setNext; split <;> simp
theorem Qx.remAt_len (s : Qx) (p : Int) : (s.remAt p).ss.length = s.ss.length := by
  unfold Qx.remAt
  split
  · exact Que.remS_len _ _ _
  · rfl
theorem Qx.push_len (s : Qx) (t : Int) : (s.push t).ss.length = s.ss.length := by
  unfold Qx.push
  split
  · show (Que.pushS _ _ _ _).length = _
    unfold Que.pushS
    rw [setNext_len, List.length_set]
  · rfl
theorem Qx.remAt_no {s : Qx} {p : Int} (h : s.can p = false) : s.remAt p = s ∧ s.idAt p = 0 := by
  unfold Qx.remAt Qx.idAt
  rw [if_neg (by rw [h]; simp), if_neg (by rw [h]; simp)]
  exact ⟨rfl, rfl⟩
theorem Qx.push_no {s : Qx} {t : Int} (h : s.may t = false) : s.push t = s ∧ s.slot t = -1 := by
  unfold Qx.push Qx.slot
  rw [if_neg (by rw [h]; simp), if_neg (by rw [h]; simp)]
  exact ⟨rfl, rfl⟩

/-- What is known of the Ids of a valid queue. -/
theorem Qx.ids_facts {s : Qx} (h : s.ok = true) : s.ids.Nodup ∧ (∀ i ∈ s.ids, 1 ≤ i ∧ i ≤ 1000000000) ∧ s.ids.length ≤ 60 ∧ s.c = (s.ids.length : Int) ∧ s.ss.length = 60 := by
  obtain ⟨us, fs, v⟩ := Qx.ok_val h
  rw [v.ids_eq]
  obtain ⟨len, seg, fch, lt, ids, nd, full, cnt⟩ := v
  refine ⟨ids, ?_, ?_, ?_, len⟩
  · intro i hi
    obtain ⟨u, hu, rfl⟩ := List.mem_map.1 hi
    obtain ⟨_, h1, h2⟩ := Que.seg_used seg u hu
    exact ⟨h1, h2⟩
  · rw [List.length_append] at full
    simp
    omega
  · simpa using cnt

theorem Qx.place_no {s : Qx} {t : Int} (h : s.ok = true) (ht : t ∉ s.ids) : s.place t = -1 := by
  obtain ⟨us, fs, v⟩ := Qx.ok_val h
  rw [v.ids_eq] at ht
  unfold Qx.place
  rw [Que.placeA_val t v]
  exact Que.find_not fun y hy e => ht (List.mem_map.2 ⟨y, hy, e⟩)
theorem Qx.can_neg (s : Qx) : s.can (-1) = false := by
  unfold Qx.can Que.canRem
  simp

theorem erase_mid {l1 l2 : List Int} {t : Int} (h : t ∉ l1) : (l1 ++ t :: l2).erase t = l1 ++ l2 := by
  rw [List.erase_append_right _ h]
  simp

theorem Qx.place_yes {s : Qx} {t : Int} (h : s.ok = true) (ht : t ∈ s.ids) : ∃ p : Nat, s.place t = (p : Int) ∧ p < 60 ∧ s.can (p : Int) = true ∧ s.idAt (p : Int) = t ∧ (s.remAt (p : Int)).ok = true ∧ (s.remAt (p : Int)).ids = s.ids.erase t ∧ ∀ r, s.ids = t :: r → s.f = (p : Int) := by
  obtain ⟨us, fs, v⟩ := Qx.ok_val h
  have hi := v.ids_eq
  rw [hi] at ht
  obtain ⟨p, hp, he⟩ := List.mem_map.1 ht
  obtain ⟨l1, l2, hl⟩ := List.append_of_mem hp
  subst hl
  have hnd := v.ids
  rw [List.map_append, List.map_cons] at hnd
  have hno : t ∉ l1.map fun u => (Que.sl s.ss u).id := by
    rw [List.nodup_append] at hnd
    intro hm
    exact hnd.2.2 t hm t (by rw [← he]; simp) rfl
  have hlt : p < 60 := v.lt p (by simp)
  have hused : (Que.sl s.ss p).used = true := (Que.seg_used v.seg p (by simp)).1
  have hcan : s.can (p : Int) = true := by
    unfold Qx.can Que.canRem
    rw [Int.toNat_natCast, hused, decide_eq_true (by omega), decide_eq_true (by omega)]
    have hk := v.ok
    unfold Qx.ok at hk
    simpa using hk
  obtain ⟨rv, rids⟩ := Que.rem_val v
  have hr : s.remAt (p : Int) = ⟨Que.remS s.ss s.r p, if (Que.sl s.ss p).prev = -1 then (Que.sl s.ss p).next else s.f, if (Que.sl s.ss p).next = -1 then (Que.sl s.ss p).prev else s.l, (p : Int), s.c - 1⟩ := by
    unfold Qx.remAt
    rw [if_pos hcan, Int.toNat_natCast]
  refine ⟨p, ?_, hlt, hcan, ?_, ?_, ?_, ?_⟩
  · unfold Qx.place
    rw [Que.placeA_val t v]
    exact Que.find_here (fun y hy e => hno (List.mem_map.2 ⟨y, hy, e⟩)) he
  · unfold Qx.idAt
    rw [if_pos hcan, Int.toNat_natCast, he]
  · rw [hr]
    exact Que.val_ok rv
  · rw [hr, hi, List.map_append, List.map_cons, he, erase_mid hno]
    rw [List.map_append] at rids
    exact (Que.listA_val rv).trans (by simpa [Que.idsOf] using rids)
  · intro r hr'
    cases l1 with
    | nil => exact v.seg.1
    | cons a l1 =>
      exfalso
      rw [hi] at hr'
      simp at hr'
      exact hno (by simp [hr'.1])

theorem Qx.first_no {s : Qx} (h : s.ok = true) (hi : s.ids = []) : s.f = -1 := by
  obtain ⟨us, fs, v⟩ := Qx.ok_val h
  rw [v.ids_eq] at hi
  have : us = [] := by simpa using hi
  subst this
  exact v.seg.2.symm

theorem Qx.push_yes {s : Qx} {t : Int} (h : s.may t = true) : s.ok = true ∧ t ∉ s.ids ∧ 0 ≤ s.r ∧ s.slot t = s.r ∧ (s.push t).ok = true ∧ (s.push t).ids = s.ids ++ [t] := by
  have h0 := h
  unfold Qx.may Que.canPush at h
  simp only [Bool.and_eq_true, Bool.not_eq_true', beq_eq_false_iff_ne, beq_iff_eq] at h
  obtain ⟨⟨⟨hok, hr⟩, hid⟩, hpl⟩ := h
  obtain ⟨us, fs, v⟩ := Que.ok_val hok
  have hi : s.ids = us.map fun u => (Que.sl s.ss u).id := Qx.V.ids_eq v
  have hnot : t ∉ s.ids := by
    intro hm
    obtain ⟨p, hp, _⟩ := Qx.place_yes (s := s) hok hm
    unfold Qx.place at hp
    omega
  have hb : 1 ≤ t ∧ t ≤ 1000000000 := by
    unfold Que.idB at hid
    simpa using hid
  match fs, v with
  | [], v => exact absurd v.fch hr
  | x :: fs, v =>
    have hx : s.r = (x : Int) := v.fch.1
    obtain ⟨pv, pids⟩ := Que.push_val v hb.1 hb.2 (by rw [← hi]; exact hnot)
    have hp : s.push t = ⟨Que.pushS s.ss s.l s.r t, if s.l = -1 then s.r else s.f, s.r, (Que.sl s.ss x).next, s.c + 1⟩ := by
      unfold Qx.push
      rw [if_pos h0, hx, Int.toNat_natCast]
    refine ⟨hok, hnot, by omega, by unfold Qx.slot; rw [if_pos h0], ?_, ?_⟩
    · rw [hp]; exact Que.val_ok pv
    · rw [hp, hi]
      exact (Que.listA_val pv).trans pids

/-- A ticket may be pushed just if the queue is valid, has a free slot, and the ticket is a new Id. -/
theorem Qx.may_iff {s : Qx} {t : Int} (h : s.ok = true) : s.may t = true ↔ s.ids.length < 60 ∧ 1 ≤ t ∧ t ≤ 1000000000 ∧ t ∉ s.ids := by
  obtain ⟨us, fs, v⟩ := Qx.ok_val h
  have hi := v.ids_eq
  have hfull := v.full
  rw [List.length_append] at hfull
  have hlen : s.ids.length = us.length := by rw [hi]; simp
  have hr : s.r = -1 ↔ fs = [] := by
    cases fs with
    | nil => exact ⟨fun _ => rfl, fun _ => v.fch⟩
    | cons x fs =>
      have := v.fch.1
      constructor
      · intro e; omega
      · intro e; cases e
  constructor
  · intro hm
    obtain ⟨_, h1, h2, _⟩ := Qx.push_yes hm
    unfold Qx.may Que.canPush at hm
    simp only [Bool.and_eq_true, Bool.not_eq_true', beq_eq_false_iff_ne, beq_iff_eq, Que.idB, decide_eq_true_eq] at hm
    have hne : fs ≠ [] := fun e => hm.1.1.2 (hr.2 e)
    have : 0 < fs.length := List.length_pos_iff.2 hne
    exact ⟨by omega, hm.1.2.1, hm.1.2.2, h1⟩
  · rintro ⟨h1, h2, h3, h4⟩
    have hp := Qx.place_no h h4
    have hne : ¬ s.r = -1 := fun e => by
      have := hr.1 e
      subst this
      simp at hfull
      omega
    unfold Qx.may Que.canPush Que.idB
    unfold Qx.place at hp
    unfold Qx.ok at h
    rw [h, hp, decide_eq_true h2, decide_eq_true h3]
    simpa using hne
end Go.Proofs.Ytehdbdolhkflcaa.Ln

namespace Go.Proofs.Ytehdbdolhkflcaa.Ln
open Go.RowKit Go.Deep Base

def okL (x : Lx) : Bool := x.s.ok && Hp.okH x.ds x.q && decide (x.s.ids.length = x.ds.length) && x.s.ids.all fun i => decide (0 ≤ Hp.fndD x.ds i)
def dids (ds : List Hp.Du) : List Int := ds.map Hp.Du.id

structure LV (x : Lx) : Prop where
  ok : x.s.ok = true
  hp : Hp.HV x.ds x.q
  same : x.s.ids.Perm (dids x.ds)

theorem fnd_yes {ds : List Hp.Du} {i : Int} (h : i ∈ dids ds) : ∃ k : Nat, Hp.fndD ds i = (k : Int) ∧ k < ds.length ∧ (ds.getD k Hp.zDu).id = i := by
  have hn : ¬ Hp.fndD ds i < 0 := by
    intro hlt
    unfold Hp.fndD at hlt
    cases e : ds.findIdx? (fun d => d.id == i) with
    | some k => rw [e] at hlt; simp at hlt; omega
    | none =>
      rw [List.findIdx?_eq_none_iff] at e
      obtain ⟨d, hd, rfl⟩ := List.mem_map.1 h
      have := e d hd
      simp at this
  obtain ⟨k, hk, hlt⟩ := Hp.fndD_lt hn
  refine ⟨k, hk, hlt, ?_⟩
  unfold Hp.fndD at hk
  cases e : ds.findIdx? (fun d => d.id == i) with
  | none => rw [e] at hk; simp at hk
  | some j =>
    rw [e] at hk
    have hj : j = k := Int.ofNat.inj hk
    subst hj
    rw [List.findIdx?_eq_some_iff_getElem] at e
    obtain ⟨h1, h2, _⟩ := e
    simpa [List.getD_eq_getElem?_getD, h1] using h2

theorem fnd_no {ds : List Hp.Du} {i : Int} (h : i ∉ dids ds) : Hp.fndD ds i = -1 :=
  Hp.fndD_not fun j hj e => h (List.mem_map.2 ⟨ds.getD j Hp.zDu, by simp [List.getD_eq_getElem?_getD, hj], e⟩)

theorem fnd_iff {ds : List Hp.Du} {i : Int} : 0 ≤ Hp.fndD ds i ↔ i ∈ dids ds := by
  constructor
  · intro h
    by_cases hm : i ∈ dids ds
    · exact hm
    · rw [fnd_no hm] at h; omega
  · intro h
    obtain ⟨k, hk, _⟩ := fnd_yes h
    omega

theorem perm_of : ∀ {a b : List Int}, a.Nodup → (∀ x ∈ a, x ∈ b) → b.length ≤ a.length → a.Perm b
  | [], b, _, _, hl => by
    have : b = [] := List.length_eq_zero_iff.1 (by simpa using hl)
    subst this
    exact List.Perm.refl _
  | x :: a, b, hn, hs, hl => by
    obtain ⟨hx, hn'⟩ := List.nodup_cons.1 hn
    have hb : x ∈ b := hs x (by simp)
    have hp := List.perm_cons_erase hb
    refine (List.Perm.cons x (perm_of hn' (fun y hy => ?_) ?_)).trans hp.symm
    · have hne : y ≠ x := fun e => hx (by rw [← e]; exact hy)
      exact (List.mem_erase_of_ne hne).2 (hs y (by simp [hy]))
    · rw [List.length_erase_of_mem hb]
      simp at hl
      omega

theorem dids_nodup {ds : List Hp.Du} {q : Int} (h : Hp.HV ds q) : (dids ds).Nodup :=
  (Hp.apart_iff (f := Hp.Du.id)).1 fun i j hj hi => (h.apart i j hj hi).1

theorem okL_iff {x : Lx} : okL x = true ↔ LV x := by
  constructor
  · intro h
    unfold okL at h
    simp only [Bool.and_eq_true, decide_eq_true_eq, List.all_eq_true] at h
    obtain ⟨⟨⟨h1, h2⟩, h3⟩, h4⟩ := h
    exact ⟨h1, Hp.okH_val h2, perm_of (Qx.ids_facts h1).1 (fun i hi => fnd_iff.1 (h4 i hi)) (by simp [dids]; omega)⟩
  · intro h
    unfold okL
    rw [h.ok, Hp.okH_true h.hp, decide_eq_true (by simpa [dids] using h.same.length_eq)]
    simp only [Bool.true_and, List.all_eq_true, decide_eq_true_eq]
    exact fun i hi => fnd_iff.2 (h.same.subset hi)
theorem okL_no {x : Lx} (h : ¬ LV x) : okL x = false := by
  cases e : okL x
  · rfl
  · exact absurd (okL_iff.1 e) h

/-- What is in the heap when ticket t has left it. -/
theorem can_yes {ds : List Hp.Du} {q t : Int} (h : Hp.HV ds q) (ht : t ∈ dids ds) : Hp.canB ds q t = true ∧ Hp.HV (Hp.canD ds q t) q ∧ (dids (Hp.canD ds q t)).Perm ((dids ds).erase t) := by
  obtain ⟨k, hk, hlt, hid⟩ := fnd_yes ht
  have ho := Hp.okH_true h
  refine ⟨Hp.canB_yes ho hk, ?_, ?_⟩
  · rw [Hp.canD_yes ho hk]; exact Hp.rem_val h hlt
  · rw [Hp.canD_yes ho hk]
    have hp := (Hp.rem_perm hlt).map Hp.Du.id
    rw [List.map_cons, hid] at hp
    have := hp.erase t
    rw [List.erase_cons_head] at this
    exact this
theorem can_no {ds : List Hp.Du} {q t : Int} (ht : t ∉ dids ds) : Hp.canB ds q t = false ∧ Hp.canD ds q t = ds := by
  have h1 := Hp.canB_none (q := q) (id := t) (ds := ds) (by rw [fnd_no ht]; omega)
  exact ⟨h1, Hp.canD_no h1⟩

/-- A ticket leaves. -/
def lvX (x : Lx) (t : Int) : Lx := if okL x = true then ⟨x.s.remAt (x.s.place t), Hp.canD x.ds x.q t, x.q⟩ else x
def lvB (x : Lx) (t : Int) : Bool := okL x && decide (t ∈ x.s.ids)

theorem lv_bad {x : Lx} {t : Int} (h : okL x = false) : lvX x t = x ∧ lvB x t = false := by
  unfold lvX lvB
  rw [if_neg (by rw [h]; simp), h]
  exact ⟨rfl, rfl⟩
theorem lv_ok {x : Lx} (t : Int) (h : okL x = true) : lvX x t = ⟨x.s.remAt (x.s.place t), Hp.canD x.ds x.q t, x.q⟩ ∧ lvB x t = decide (t ∈ x.s.ids) := by
  unfold lvX lvB
  rw [if_pos h, h]
  exact ⟨rfl, rfl⟩
theorem lv_none {x : Lx} {t : Int} (h : LV x) (ht : t ∉ x.s.ids) : x.s.place t = -1 ∧ x.s.remAt (-1) = x.s ∧ Hp.canD x.ds x.q t = x.ds ∧ Hp.canB x.ds x.q t = false ∧ lvX x t = x ∧ lvB x t = false := by
  have h1 := Qx.place_no h.ok ht
  have h2 := (Qx.remAt_no (Qx.can_neg x.s)).1
  obtain ⟨h3, h4⟩ := can_no (q := x.q) (fun hm => ht (h.same.symm.subset hm) : t ∉ dids x.ds)
  obtain ⟨h5, h6⟩ := lv_ok t (okL_iff.2 h)
  refine ⟨h1, h2, h4, h3, ?_, ?_⟩
  · rw [h5, h1, h2, h4]
  · rw [h6, decide_eq_false ht]
theorem lv_some {x : Lx} {t : Int} (h : LV x) (ht : t ∈ x.s.ids) : 0 ≤ x.s.place t ∧ Hp.canB x.ds x.q t = true ∧ lvB x t = true ∧ LV (lvX x t) ∧ (lvX x t).s.ids = x.s.ids.erase t ∧ (dids (lvX x t).ds).Perm ((dids x.ds).erase t) := by
  obtain ⟨p, h1, h2, h3, h4, h5, h6, _⟩ := Qx.place_yes h.ok ht
  obtain ⟨h7, h8, h9⟩ := can_yes h.hp (h.same.subset ht)
  obtain ⟨e1, e2⟩ := lv_ok t (okL_iff.2 h)
  refine ⟨by omega, h7, by rw [e2, decide_eq_true ht], ?_, ?_, ?_⟩
  · rw [e1, h1]
    exact ⟨h5, h8, by rw [h6]; exact (h.same.erase t).trans h9.symm⟩
  · rw [e1, h1]; exact h6
  · rw [e1]; exact h9
theorem lv_val {x : Lx} (t : Int) (h : LV x) : LV (lvX x t) := by
  by_cases ht : t ∈ x.s.ids
  · exact (lv_some h ht).2.2.2.1
  · rw [(lv_none h ht).2.2.2.2.1]; exact h
theorem lvX_len (x : Lx) (t : Int) : (lvX x t).s.ss.length = x.s.ss.length := by
  unfold lvX
  split
  · exact Qx.remAt_len _ _
  · rfl
theorem lvX_few (x : Lx) (t : Int) : (lvX x t).ds.length ≤ x.ds.length := by
  unfold lvX
  split
  · exact Hp.canD_len _ _ _
  · exact Nat.le_refl _

/-- A ticket comes. -/
def enB (x : Lx) (t u : Int) : Bool := okL x && x.s.may t && Hp.schB x.ds x.q t u
def enX (x : Lx) (t u : Int) : Lx := if enB x t u = true then ⟨x.s.push t, Hp.schD x.ds x.q t u, Hp.schQ x.ds x.q t u⟩ else x
theorem en_no {x : Lx} {t u : Int} (h : enB x t u = false) : enX x t u = x := by unfold enX; rw [if_neg (by rw [h]; simp)]
theorem en_yes {x : Lx} {t u : Int} (h : enB x t u = true) : enX x t u = ⟨x.s.push t, Hp.schD x.ds x.q t u, Hp.schQ x.ds x.q t u⟩ := by unfold enX; rw [if_pos h]
theorem enX_len (x : Lx) (t u : Int) : (enX x t u).s.ss.length = x.s.ss.length := by
  unfold enX
  split
  · exact Qx.push_len _ _
  · rfl

/-- The first ticket is served. -/
def sfT (x : Lx) : Int := if okL x = true then x.s.ids.headD 0 else 0
def sfX (x : Lx) : Lx := if okL x = true then ⟨x.s.remAt x.s.f, Hp.canD x.ds x.q (x.s.idAt x.s.f), x.q⟩ else x
theorem sf_bad {x : Lx} (h : okL x = false) : sfX x = x ∧ sfT x = 0 := by
  unfold sfX sfT
  rw [if_neg (by rw [h]; simp), if_neg (by rw [h]; simp)]
  exact ⟨rfl, rfl⟩
theorem sf_ok {x : Lx} (h : okL x = true) : sfX x = ⟨x.s.remAt x.s.f, Hp.canD x.ds x.q (x.s.idAt x.s.f), x.q⟩ ∧ sfT x = x.s.idAt x.s.f := by
  have v := okL_iff.1 h
  unfold sfX sfT
  rw [if_pos h, if_pos h]
  refine ⟨rfl, ?_⟩
  cases e : x.s.ids with
  | nil =>
    rw [Qx.first_no v.ok e, (Qx.remAt_no (Qx.can_neg x.s)).2]
    rfl
  | cons t r =>
    obtain ⟨p, h1, h2, h3, h4, h5, h6, h7⟩ := Qx.place_yes (t := t) v.ok (by rw [e]; simp)
    rw [h7 r e, h4]
    rfl
theorem sf_none {x : Lx} (h : LV x) (hi : x.s.ids = []) : sfX x = x ∧ sfT x = 0 := by
  have ho := okL_iff.2 h
  have h0 : x.s.idAt (-1) = 0 := (Qx.remAt_no (Qx.can_neg x.s)).2
  have hd : (0 : Int) ∉ dids x.ds := fun hm => by
    have := h.same.symm.subset hm
    rw [hi] at this
    cases this
  refine ⟨?_, ?_⟩
  · rw [(sf_ok ho).1, Qx.first_no h.ok hi, h0, (Qx.remAt_no (Qx.can_neg x.s)).1, (can_no hd).2]
  · rw [(sf_ok ho).2, Qx.first_no h.ok hi, h0]
theorem sf_some {x : Lx} {t : Int} {r : List Int} (h : LV x) (hi : x.s.ids = t :: r) : sfX x = lvX x t ∧ sfT x = t := by
  have ho := okL_iff.2 h
  obtain ⟨p, h1, h2, h3, h4, h5, h6, h7⟩ := Qx.place_yes (t := t) h.ok (by rw [hi]; simp)
  have hf := h7 r hi
  refine ⟨?_, ?_⟩
  · rw [(sf_ok ho).1, (lv_ok t ho).1, hf, h4, h1]
  · rw [(sf_ok ho).2, hf, h4]
theorem sfX_len (x : Lx) : (sfX x).s.ss.length = x.s.ss.length := by
  unfold sfX
  split
  · exact Qx.remAt_len _ _
  · rfl
theorem sfX_few (x : Lx) : (sfX x).ds.length ≤ x.ds.length := by
  unfold sfX
  split
  · exact Hp.canD_len _ _ _
  · exact Nat.le_refl _
theorem sf_val {x : Lx} (h : LV x) : LV (sfX x) := by
  cases e : x.s.ids with
  | nil => rw [(sf_none h e).1]; exact h
  | cons t r => rw [(sf_some h e).1]; exact lv_val t h

/-- The tickets of a list leave one after the other. -/
def lvAll : List Int → Lx → Lx
  | [], x => x
  | t :: ts, x => lvAll ts (lvX x t)
def quAll : List Int → Qx → Qx
  | [], s => s
  | t :: ts, s => quAll ts (s.remAt (s.place t))
theorem lvAll_snoc (t : Int) : ∀ (ts : List Int) (x : Lx), lvAll (ts ++ [t]) x = lvX (lvAll ts x) t
  | [], _ => rfl
  | a :: ts, x => lvAll_snoc t ts (lvX x a)
theorem quAll_snoc (t : Int) : ∀ (ts : List Int) (s : Qx), quAll (ts ++ [t]) s = (quAll ts s).remAt ((quAll ts s).place t)
  | [], _ => rfl
  | a :: ts, s => quAll_snoc t ts (s.remAt (s.place a))
theorem lvAll_val : ∀ (ts : List Int) {x : Lx}, LV x → LV (lvAll ts x)
  | [], _, h => h
  | t :: ts, _, h => lvAll_val ts (lv_val t h)
theorem lvAll_len : ∀ (ts : List Int) (x : Lx), (lvAll ts x).s.ss.length = x.s.ss.length
  | [], _ => rfl
  | t :: ts, x => (lvAll_len ts (lvX x t)).trans (lvX_len x t)
theorem lvAll_few : ∀ (ts : List Int) (x : Lx), (lvAll ts x).ds.length ≤ x.ds.length
  | [], _ => Nat.le_refl _
  | t :: ts, x => Nat.le_trans (lvAll_few ts (lvX x t)) (lvX_few x t)
theorem quAll_len : ∀ (ts : List Int) (s : Qx), (quAll ts s).ss.length = s.ss.length
  | [], _ => rfl
  | t :: ts, s => (quAll_len ts (s.remAt (s.place t))).trans (Qx.remAt_len _ _)

/-- What is due leaves: the queue loses the tickets one by one, the heap is what is left of it. -/
theorem lvAll_pop (now : Int) : ∀ (F : Nat) {x : Lx}, LV x → x.ds.length ≤ F → lvAll (Hp.popI F x.ds now) x = ⟨quAll (Hp.popI F x.ds now) x.s, Hp.popR F x.ds now, x.q⟩
  | 0, x, h, hl => rfl
  | F + 1, x, h, hl => by
    cases e : Hp.dueB x.ds now
    · obtain ⟨e1, e2⟩ := Hp.pop_stop (F := F + 1) e
      rw [e1, e2]
      rfl
    · obtain ⟨e1, e2⟩ := Hp.pop_go (F := F) e
      have hpos := (Hp.due_pos e).1
      have hx := (lv_ok (x.ds.getD 0 Hp.zDu).id (okL_iff.2 h)).1
      have hd : Hp.canD x.ds x.q (x.ds.getD 0 Hp.zDu).id = Hp.remD x.ds 0 := Hp.canD_yes (Hp.okH_true h.hp) (Hp.fndD_first hpos)
      rw [hd] at hx
      have ih := lvAll_pop now F (x := lvX x (x.ds.getD 0 Hp.zDu).id) (lv_val _ h) (by
        rw [hx]
        show (Hp.remD x.ds 0).length ≤ F
        rw [Hp.remD_len]
        omega)
      rw [e1, e2]
      show lvAll (Hp.popI F (Hp.remD x.ds 0) now) (lvX x _) = _
      rw [hx] at ih ⊢
      exact ih

def exX (x : Lx) (now : Int) : Lx := if okL x = true then ⟨quAll (Hp.popL x.ds x.q now) x.s, Hp.popD x.ds x.q now, x.q⟩ else x
def exL (x : Lx) (now : Int) : List Int := if okL x = true then Hp.popL x.ds x.q now else []
theorem ex_bad {x : Lx} {now : Int} (h : okL x = false) : exX x now = x ∧ exL x now = [] := by
  unfold exX exL
  rw [if_neg (by rw [h]; simp), if_neg (by rw [h]; simp)]
  exact ⟨rfl, rfl⟩
theorem ex_ok {x : Lx} (now : Int) (h : okL x = true) : exX x now = ⟨quAll (Hp.popL x.ds x.q now) x.s, Hp.popD x.ds x.q now, x.q⟩ ∧ exL x now = Hp.popL x.ds x.q now ∧ exX x now = lvAll (Hp.popL x.ds x.q now) x := by
  have v := okL_iff.1 h
  have hL : exX x now = ⟨quAll (Hp.popL x.ds x.q now) x.s, Hp.popD x.ds x.q now, x.q⟩ := by unfold exX; rw [if_pos h]
  refine ⟨hL, by unfold exL; rw [if_pos h], ?_⟩
  rw [hL]
  have hk := Hp.okH_true v.hp
  unfold Hp.popL Hp.popD
  rw [if_pos hk, if_pos hk]
  exact (lvAll_pop now x.ds.length v (Nat.le_refl _)).symm
theorem exX_len (x : Lx) (now : Int) : (exX x now).s.ss.length = x.s.ss.length := by
  unfold exX
  split
  · exact quAll_len _ _
  · rfl
theorem exX_few (x : Lx) (now : Int) : (exX x now).ds.length ≤ x.ds.length := by
  cases h : okL x
  · rw [(ex_bad h).1]; exact Nat.le_refl _
  · rw [(ex_ok now h).2.2]; exact lvAll_few _ _
end Go.Proofs.Ytehdbdolhkflcaa.Ln

namespace Go.Proofs.Ytehdbdolhkflcaa.Ln
open Go.RowKit Go.Deep Base

/-- Where a line's two rows lie: the queue's in blocks a to b, the heap's in blocks c to d. -/
structure Rg where
  a : Nat
  b : Nat
  c : Nat
  d : Nat
structure Rg.In (R : Rg) (lo hi : Nat) : Prop where
  a : lo ≤ R.a
  b : R.b ≤ hi
  c : lo ≤ R.c
  d : R.d ≤ hi
theorem Rg.In.wide {R : Rg} {lo hi lo' hi' : Nat} (h : R.In lo hi) (h1 : lo' ≤ lo) (h2 : hi ≤ hi') : R.In lo' hi' :=
  ⟨Nat.le_trans h1 h.a, Nat.le_trans h.b h2, Nat.le_trans h1 h.c, Nat.le_trans h.d h2⟩

structure LnV (w : World) (R : Rg) (A B : Option Addr) (x : Lx) : Prop where
  apart : R.b ≤ R.c ∨ R.d ≤ R.a
  s : Que.SlV w R.a R.b A x.s.ss
  h : Hp.DV w R.c R.d B x.ds

theorem LnV.below {w w' : World} {R : Rg} {A B : Option Addr} {x : Lx} {n hi : Nat} (h : LnV w R A B x) (hb : Below n w w') (hR : R.In hi n) : LnV w' R A B x :=
  ⟨h.apart, h.s.below hb hR.b, h.h.below hb hR.d⟩

/-- Only blocks of R have changed. -/
structure Tz (R : Rg) (w w' : World) : Prop where
  os : w'.os = w.os
  tape : w'.tape = w.tape
  output : w'.output = w.output
  size : w.heap.size ≤ w'.heap.size
  block : ∀ k, k < w.heap.size → (k < R.a ∨ R.b ≤ k) → (k < R.c ∨ R.d ≤ k) → w'.heap[k]? = w.heap[k]?
theorem Tz.below {R : Rg} {w w' : World} (h : Tz R w w') {B hi : Nat} (hB : R.In B hi) (hs : B ≤ w.heap.size) : Below B w w' :=
  ⟨h.os, h.tape, h.output, h.size, fun k hk => h.block k (by omega) (.inl (Nat.lt_of_lt_of_le hk hB.a)) (.inl (Nat.lt_of_lt_of_le hk hB.c))⟩
/-- A line that lies apart from the blocks of R stays. -/
theorem LnV.turn {w w' : World} {R Q : Rg} {A B : Option Addr} {x : Lx} {lo hi m : Nat} (h : LnV w Q A B x) (t : Tz R w w') (hQ : Q.In lo hi) (hR : R.In m w.heap.size) (hs : hi ≤ w.heap.size) (ha : hi ≤ m) : LnV w' Q A B x := by
  obtain ⟨q1, q2, q3, q4⟩ := hQ
  obtain ⟨r1, r2, r3, r4⟩ := hR
  exact ⟨h.apart, h.s.of_block fun g h1 h2 => t.block g (by omega) (by omega) (by omega), h.h.of_block fun g h1 h2 => t.block g (by omega) (by omega) (by omega)⟩
theorem LnV.turn' {w w' : World} {R Q : Rg} {A B : Option Addr} {x : Lx} {lo hi m n : Nat} (h : LnV w Q A B x) (t : Tz R w w') (hQ : Q.In lo hi) (hR : R.In m n) (hs : hi ≤ w.heap.size) (ha : n ≤ lo) : LnV w' Q A B x := by
  obtain ⟨q1, q2, q3, q4⟩ := hQ
  obtain ⟨r1, r2, r3, r4⟩ := hR
  exact ⟨h.apart, h.s.of_block fun g h1 h2 => t.block g (by omega) (by omega) (by omega), h.h.of_block fun g h1 h2 => t.block g (by omega) (by omega) (by omega)⟩

/-- A new line comes back, alone or with a second result. -/
def NewL (w : World) (x : Lx) (e : Ending) (w' : World) : Prop :=
  ∃ R A ca B cb, e = .returned (.agg #[.slice A x.s.ss.length ca, .int .i64 x.s.f, .int .i64 x.s.l, .int .i64 x.s.r, .int .i64 x.s.c, .slice B x.ds.length cb, .int .i64 x.q]) ∧ LnV w' R A B x ∧ R.In w.heap.size w'.heap.size ∧ Below w.heap.size w w'
def NewL2 (w : World) (x : Lx) (v : Value) (e : Ending) (w' : World) : Prop :=
  ∃ R A ca B cb, e = .returned (.tuple #[.agg #[.slice A x.s.ss.length ca, .int .i64 x.s.f, .int .i64 x.s.l, .int .i64 x.s.r, .int .i64 x.s.c, .slice B x.ds.length cb, .int .i64 x.q], v]) ∧ LnV w' R A B x ∧ R.In w.heap.size w'.heap.size ∧ Below w.heap.size w w'

/-- A block that is known whole. -/
def Bx (w : World) (g : Nat) (ty : TypeId) (vs : Array Value) : Prop := w.heap[g]? = some (.cells vs ty (0, 0))
theorem Bx.lt {w : World} {g : Nat} {ty : TypeId} {vs : Array Value} (h : Bx w g ty vs) : g < w.heap.size := (Array.getElem?_eq_some_iff.1 h).1
theorem Bx.of_block {w w' : World} {g : Nat} {ty : TypeId} {vs : Array Value} (h : Bx w g ty vs) (e : w'.heap[g]? = w.heap[g]?) : Bx w' g ty vs := e.trans h
theorem Bx.below {w w' : World} {g : Nat} {ty : TypeId} {vs : Array Value} (h : Bx w g ty vs) (hb : Below w.heap.size w w') : Bx w' g ty vs := h.of_block (hb.block g h.lt)
theorem Bx.alloc {w : World} {g : Nat} {ty : TypeId} {vs : Array Value} (h : Bx w g ty vs) (o : Obj) : Bx (w.alloc o) g ty vs := h.below (bel_alloc w o)
theorem Bx.new (w : World) (ty : TypeId) (vs : Array Value) : Bx (w.alloc (.cells vs ty)) w.heap.size ty vs := heap_alloc_new w _
theorem Bx.other {w : World} {g : Nat} {ty : TypeId} {vs : Array Value} (h : Bx w g ty vs) {p : Addr} (hp : g ≠ p.block) (u : Value) : Bx (w.setCell p u) g ty vs := (Below.heap_setCell w p u g hp).trans h
theorem Bx.cell {w : World} {g : Nat} {ty : TypeId} {vs : Array Value} (h : Bx w g ty vs) (o : Nat) : w.cell? ⟨g, o, none⟩ = vs[o]? := cell_of_row _ _ o _ _ (0, 0) h
theorem Bx.still {w : World} {g : Nat} {ty : TypeId} {vs : Array Value} (h : Bx w g ty vs) (j : Nat) : w.frozen? ⟨g, j, none⟩ = false := by unfold Bx at h; simp [World.frozen?, h]
theorem Bx.set {w : World} {g : Nat} {ty : TypeId} {vs : Array Value} (h : Bx w g ty vs) (o : Nat) (u : Value) : Bx (w.setCell ⟨g, o, none⟩ u) g ty (vs.setIfInBounds o u) := by
  unfold Bx at h ⊢
  simp [World.setCell, Array.getElem?_modify, h]
theorem Bx.cells7 {w : World} {g : Nat} {ty : TypeId} {v0 v1 v2 v3 v4 v5 v6 : Value} (h : Bx w g ty #[v0, v1, v2, v3, v4, v5, v6]) :
    w.cell? ⟨g, 0, none⟩ = some v0 ∧ w.cell? ⟨g, 1, none⟩ = some v1 ∧ w.cell? ⟨g, 2, none⟩ = some v2 ∧ w.cell? ⟨g, 3, none⟩ = some v3 ∧ w.cell? ⟨g, 4, none⟩ = some v4 ∧ w.cell? ⟨g, 5, none⟩ = some v5 ∧ w.cell? ⟨g, 6, none⟩ = some v6 ∧ ∀ j, w.frozen? ⟨g, j, none⟩ = false :=
  ⟨h.cell 0, h.cell 1, h.cell 2, h.cell 3, h.cell 4, h.cell 5, h.cell 6, h.still⟩
theorem Bx.cells5 {w : World} {g : Nat} {ty : TypeId} {v0 v1 v2 v3 v4 : Value} (h : Bx w g ty #[v0, v1, v2, v3, v4]) :
    w.cell? ⟨g, 0, none⟩ = some v0 ∧ w.cell? ⟨g, 1, none⟩ = some v1 ∧ w.cell? ⟨g, 2, none⟩ = some v2 ∧ w.cell? ⟨g, 3, none⟩ = some v3 ∧ w.cell? ⟨g, 4, none⟩ = some v4 ∧ ∀ j, w.frozen? ⟨g, j, none⟩ = false :=
  ⟨h.cell 0, h.cell 1, h.cell 2, h.cell 3, h.cell 4, h.still⟩
theorem Bx.cells2 {w : World} {g : Nat} {ty : TypeId} {v0 v1 : Value} (h : Bx w g ty #[v0, v1]) :
    w.cell? ⟨g, 0, none⟩ = some v0 ∧ w.cell? ⟨g, 1, none⟩ = some v1 ∧ ∀ j, w.frozen? ⟨g, j, none⟩ = false :=
  ⟨h.cell 0, h.cell 1, h.still⟩

/-- The world behind stores into block g, from cell o on. -/
def sets (g : Nat) : Nat → List Value → World → World
  | _, [], w => w
  | o, v :: r, w => sets g (o + 1) r (w.setCell ⟨g, o, none⟩ v)
theorem sets_size (g : Nat) : ∀ (r : List Value) (o : Nat) (w : World), (sets g o r w).heap.size = w.heap.size
  | [], _, _ => rfl
  | v :: r, o, w => (sets_size g r (o + 1) _).trans (by simp [World.setCell])
theorem sets_below (g B : Nat) (hB : B ≤ g) {a : World} : ∀ (r : List Value) (o : Nat) (w : World), Below B a w → Below B a (sets g o r w)
  | [], _, _, h => h
  | v :: r, o, w, h => sets_below g B hB r (o + 1) _ (h.setCell (by exact hB) _)
theorem sets_other (g : Nat) {k : Nat} (hk : k ≠ g) : ∀ (r : List Value) (o : Nat) (w : World), (sets g o r w).heap[k]? = w.heap[k]?
  | [], _, _ => rfl
  | v :: r, o, w => (sets_other g hk r (o + 1) _).trans (Below.heap_setCell w _ v k (by exact hk))
theorem Bx.sto {w : World} {k g o : Nat} {ty : TypeId} {vs : Array Value} {r : List Value} (h : Bx w k ty vs) (hk : k ≠ g) : Bx (sets g o r w) k ty vs := (sets_other g hk r o w).trans h
theorem slv_sets {w : World} {lo hi g o : Nat} {A : Option Addr} {ss : List Que.Sl} {r : List Value} (h : Que.SlV w lo hi A ss) (hg : g < lo ∨ hi ≤ g) : Que.SlV (sets g o r w) lo hi A ss := h.of_block fun k h1 h2 => sets_other g (by omega) r o w
theorem dv_sets {w : World} {lo hi g o : Nat} {A : Option Addr} {ds : List Hp.Du} {r : List Value} (h : Hp.DV w lo hi A ds) (hg : g < lo ∨ hi ≤ g) : Hp.DV (sets g o r w) lo hi A ds := h.of_block fun k h1 h2 => sets_other g (by omega) r o w
theorem LnV.sto {w : World} {g o : Nat} {A B : Option Addr} {x : Lx} {R : Rg} {r : List Value} (h : LnV w R A B x) {lo hi : Nat} (hR : R.In lo hi) (hg : g < lo ∨ hi ≤ g) : LnV (sets g o r w) R A B x := by
  obtain ⟨r1, r2, r3, r4⟩ := hR
  exact ⟨h.apart, slv_sets h.s (by omega), dv_sets h.h (by omega)⟩
theorem Bx.at_new (w : World) (n : Nat) (hn : w.heap.size = n) (ty : TypeId) (vs : Array Value) : Bx (w.alloc (.cells vs ty)) n ty vs := by
  subst hn
  exact Bx.new w ty vs
/-- Stores into a block ahead of a new line leave it a new line. -/
theorem new_sto {w v : World} {g o : Nat} {A B : Option Addr} {x : Lx} {R : Rg} {r : List Value} {n : Nat} (h : LnV v R A B x) (hR : R.In (g + 1) n) (hn : n ≤ v.heap.size) (hb : Below w.heap.size w v) (hg : w.heap.size ≤ g) :
    LnV (sets g o r v) R A B x ∧ R.In w.heap.size (sets g o r v).heap.size ∧ Below w.heap.size w (sets g o r v) :=
  ⟨h.sto hR (.inl (by omega)), hR.wide (by omega) (by rw [sets_size]; exact hn), sets_below g _ hg r o v hb⟩
/-- A block of seven cells behind the stores of five, of two, of all. -/
theorem Bx.put5 {w : World} {g : Nat} {ty : TypeId} {v0 v1 v2 v3 v4 v5 v6 : Value} (h : Bx w g ty #[v0, v1, v2, v3, v4, v5, v6]) (u0 u1 u2 u3 u4 : Value) : Bx (sets g 0 [u0, u1, u2, u3, u4] w) g ty #[u0, u1, u2, u3, u4, v5, v6] :=
  ((((h.set 0 u0).set 1 u1).set 2 u2).set 3 u3).set 4 u4
theorem Bx.put2 {w : World} {g : Nat} {ty : TypeId} {v0 v1 v2 v3 v4 v5 v6 : Value} (h : Bx w g ty #[v0, v1, v2, v3, v4, v5, v6]) (u0 u1 : Value) : Bx (sets g 5 [u0, u1] w) g ty #[v0, v1, v2, v3, v4, u0, u1] :=
  (h.set 5 u0).set 6 u1
theorem Bx.put7 {w : World} {g : Nat} {ty : TypeId} {v0 v1 v2 v3 v4 v5 v6 : Value} (h : Bx w g ty #[v0, v1, v2, v3, v4, v5, v6]) (u0 u1 u2 u3 u4 u5 u6 : Value) : Bx (sets g 0 [u0, u1, u2, u3, u4, u5, u6] w) g ty #[u0, u1, u2, u3, u4, u5, u6] :=
  (h.put5 u0 u1 u2 u3 u4).put2 u5 u6
end Go.Proofs.Ytehdbdolhkflcaa.Ln

namespace Go.Proofs.Ytehdbdolhkflcaa.Ln
open Go.RowKit Go.Deep Base

set_option maxRecDepth 100000 in
set_option maxHeartbeats 1000000 in
theorem toLine_any (A : Option Addr) (ca : Nat) (x : Lx) (B : Option Addr) (cb : Nat) (w : World) (hn : x.s.ss.length ≤ 1048576) (hm : x.ds.length ≤ 1048576) (h : Que.LSl w A x.s.ss) (k : Hp.LD w B x.ds) :
    Calls Try.prog 42 #[.agg #[.slice A x.s.ss.length ca, .int .i64 x.s.f, .int .i64 x.s.l, .int .i64 x.s.r, .int .i64 x.s.c, .slice B x.ds.length cb, .int .i64 x.q]] w (NewL w x) := by
  have HS := Lib.hid h
  have HD := Lib.hid k
  clear h k
  go_enter Try.func42, Try.ntmps42
  go_wp2_with fail
  have hB : ∀ o o' o'', Below w.heap.size w (((w.alloc o).alloc o').alloc o'') := fun _ _ _ => (((Below.refl _ _).alloc (Nat.le_refl _) _).alloc (by simp) _).alloc (by simp; omega) _
  refine (Que.toQueue_any A _ ca x.s.ss _ _ _ _ _ rfl hn (HS.out.below (hB _ _ _))).mono ?_
  rintro e w1 ⟨A1, c1, rfl, v1, b1⟩
  have K : Hid (Bx w1 w.heap.size 53 #[.slice A x.s.ss.length ca, .int .i64 x.s.f, .int .i64 x.s.l, .int .i64 x.s.r, .int .i64 x.s.c, .slice B x.ds.length cb, .int .i64 x.q]) := (((Bx.new w _ _).alloc _).alloc _).below b1
  have Q : Hid (Bx w1 (w.heap.size + 1) 33 #[.slice none 0 0, .int .i64 0, .int .i64 0, .int .i64 0, .int .i64 0, .slice none 0 0, .int .i64 0]) := ((Bx.at_new (w.alloc _) _ (by simp) _ _).alloc _).below b1
  have X : Hid (Bx w1 (w.heap.size + 1 + 1) 33 #[.slice none 0 0, .int .i64 0, .int .i64 0, .int .i64 0, .int .i64 0, .slice none 0 0, .int .i64 0]) := (Bx.at_new ((w.alloc _).alloc _) _ (by simp) _ _).below b1
  have V := Lib.hid v1
  have W1 := Lib.hid (bel_trans (hB _ _ _) b1)
  simp only [World.size_alloc] at V
  have z1 := X.out.lt
  clear v1 b1 hB
  obtain ⟨k0, k1, k2, k3, k4, k5, k6, kf⟩ := K.out.cells7
  obtain ⟨x0, x1, x2, x3, x4, x5, x6, xf⟩ := X.out.cells7
  go_wp2_with fail
  obtain ⟨W, hW⟩ : ∃ W, sets (w.heap.size + 1 + 1) 0 [.slice A1 x.s.ss.length c1, .int .i64 x.s.f, .int .i64 x.s.l, .int .i64 x.s.r, .int .i64 x.s.c] w1 = W := ⟨_, rfl⟩
  change Calls Try.prog 81 #[.agg #[.slice B x.ds.length cb, .int .i64 x.q]] (sets (w.heap.size + 1 + 1) 0 [.slice A1 x.s.ss.length c1, .int .i64 x.s.f, .int .i64 x.s.l, .int .i64 x.s.r, .int .i64 x.s.c] w1) _
  replace K := Lib.hid (K.out.sto (r := [.slice A1 x.s.ss.length c1, .int .i64 x.s.f, .int .i64 x.s.l, .int .i64 x.s.r, .int .i64 x.s.c]) (o := 0) (g := w.heap.size + 1 + 1) (by omega))
  replace Q := Lib.hid (Q.out.sto (r := [.slice A1 x.s.ss.length c1, .int .i64 x.s.f, .int .i64 x.s.l, .int .i64 x.s.r, .int .i64 x.s.c]) (o := 0) (g := w.heap.size + 1 + 1) (by omega))
  replace X := Lib.hid (X.out.put5 (.slice A1 x.s.ss.length c1) (.int .i64 x.s.f) (.int .i64 x.s.l) (.int .i64 x.s.r) (.int .i64 x.s.c))
  replace V := Lib.hid (slv_sets (r := [.slice A1 x.s.ss.length c1, .int .i64 x.s.f, .int .i64 x.s.l, .int .i64 x.s.r, .int .i64 x.s.c]) (o := 0) (g := w.heap.size + 1 + 1) V.out (by omega))
  replace W1 := Lib.hid (sets_below (w.heap.size + 1 + 1) _ (by omega) [.slice A1 x.s.ss.length c1, .int .i64 x.s.f, .int .i64 x.s.l, .int .i64 x.s.r, .int .i64 x.s.c] 0 _ W1.out)
  have sz := sets_size (w.heap.size + 1 + 1) [.slice A1 x.s.ss.length c1, .int .i64 x.s.f, .int .i64 x.s.l, .int .i64 x.s.r, .int .i64 x.s.c] 0 w1
  rw [hW] at K Q X V W1 sz ⊢
  clear hW k0 k1 k2 k3 k4 k5 k6 kf x0 x1 x2 x3 x4 x5 x6 xf
  refine (Hp.toHeap_any B _ cb x.ds _ W rfl hm (HD.out.below W1.out)).mono ?_
  rintro e w2 ⟨B1, d1, rfl, v2, b2⟩
  have z2 := b2.size
  replace K := Lib.hid (K.out.below b2)
  replace Q := Lib.hid (Q.out.below b2)
  replace X := Lib.hid (X.out.below b2)
  replace V := Lib.hid (V.out.below b2 (by omega))
  replace W1 := Lib.hid (bel_trans W1.out b2)
  have D := Lib.hid v2
  clear b2 v2
  obtain ⟨x0, x1, x2, x3, x4, x5, x6, xf⟩ := X.out.cells7
  obtain ⟨q0, q1, q2, q3, q4, q5, q6, qf⟩ := Q.out.cells7
  go_wp2_with fail
  refine bodyPost_ret (v := .agg #[.slice A1 x.s.ss.length c1, .int .i64 x.s.f, .int .i64 x.s.l, .int .i64 x.s.r, .int .i64 x.s.c, .slice B1 x.ds.length d1, .int .i64 x.q]) (by simp [results, Try.results42, go_sem, q0, q1, q2, q3, q4, q5, q6]) rfl ⟨⟨w.heap.size + 1 + 1 + 1, w1.heap.size, W.heap.size, w2.heap.size⟩, A1, c1, B1, d1, rfl, ?_⟩
  exact new_sto (g := w.heap.size + 1) (o := 0) (r := [.slice A1 x.s.ss.length c1, .int .i64 x.s.f, .int .i64 x.s.l, .int .i64 x.s.r, .int .i64 x.s.c, .slice B1 x.ds.length d1, .int .i64 x.q]) (v := sets (w.heap.size + 1 + 1) 5 [.slice B1 x.ds.length d1, .int .i64 x.q] w2) (n := w2.heap.size)
    ⟨.inl (by show w1.heap.size ≤ W.heap.size; omega), slv_sets V.out (.inl (by show w.heap.size + 1 + 1 < w.heap.size + 1 + 1 + 1; omega)), dv_sets D.out (.inl (by show w.heap.size + 1 + 1 < W.heap.size; omega))⟩
    ⟨by show w.heap.size + 1 + 1 ≤ w.heap.size + 1 + 1 + 1; omega, by show w1.heap.size ≤ w2.heap.size; omega, by show w.heap.size + 1 + 1 ≤ W.heap.size; omega, Nat.le_refl _⟩ (by rw [sets_size]; exact Nat.le_refl _) (sets_below _ _ (by omega) _ _ _ W1.out) (by omega)

set_option maxRecDepth 100000 in
set_option maxHeartbeats 1000000 in
theorem szLine_any (A : Option Addr) (ca : Nat) (x : Lx) (B : Option Addr) (cb : Nat) (left : Int) (w : World) (hn : x.s.ss.length ≤ 9223372036854775807) (hm : x.ds.length ≤ 9223372036854775807) (h0 : 0 ≤ left) (h1 : left ≤ 1048576) :
    Calls Try.prog 39 #[.agg #[.slice A x.s.ss.length ca, .int .i64 x.s.f, .int .i64 x.s.l, .int .i64 x.s.r, .int .i64 x.s.c, .slice B x.ds.length cb, .int .i64 x.q], .int .i64 left] w fun e w' => e = .returned (.int .i64 (if left < x.s.ss.length + x.ds.length then -1 else left - x.s.ss.length - x.ds.length)) ∧ Below w.heap.size w w' := by
  go_enter Try.func39, Try.ntmps39
  go_wp2_with fail
  refine (Que.szQueue_any A _ ca _ _ _ _ left _ hn h0 h1).mono ?_
  rintro e w1 ⟨rfl, b1⟩
  have K : Hid (Bx w1 w.heap.size 53 #[.slice A x.s.ss.length ca, .int .i64 x.s.f, .int .i64 x.s.l, .int .i64 x.s.r, .int .i64 x.s.c, .slice B x.ds.length cb, .int .i64 x.q]) := (Bx.new w _ _).below b1
  have W1 := Lib.hid (bel_trans (bel_alloc w _) b1)
  clear b1
  by_cases hl : left < (x.s.ss.length : Int)
  · rw [if_pos hl]
    have h2 : left < (x.s.ss.length : Int) + (x.ds.length : Int) := by omega
    clear hl
    go_wp2
    go_ret
    exact ⟨ret_int (by first | rfl | rw [if_pos h2]), W1.out⟩
  rw [if_neg hl]
  have h2 : 0 ≤ left - (x.s.ss.length : Int) := by omega
  have h3 : ¬ left - (x.s.ss.length : Int) < 0 := by omega
  obtain ⟨k0, k1, k2, k3, k4, k5, k6, kf⟩ := K.out.cells7
  go_wp2_with fail
  refine (Hp.szHeap_any B _ cb _ (left - x.s.ss.length) _ hm h2 (by omega)).mono ?_
  rintro e w2 ⟨rfl, b2⟩
  have W2 := Lib.hid (bel_trans W1.out b2)
  clear b2 k0 k1 k2 k3 k4 k5 k6 kf
  by_cases hl' : left - (x.s.ss.length : Int) < (x.ds.length : Int)
  · rw [if_pos hl']
    have h5 : left < (x.s.ss.length : Int) + (x.ds.length : Int) := by omega
    clear hl'
    go_wp2
    go_ret
    exact ⟨ret_int (by first | rfl | rw [if_pos h5]), W2.out⟩
  rw [if_neg hl']
  have h4 : ¬ left - (x.s.ss.length : Int) - (x.ds.length : Int) < 0 := by omega
  have h5 : ¬ left < (x.s.ss.length : Int) + (x.ds.length : Int) := by omega
  go_wp2
  go_ret
  exact ⟨ret_int (by first | rfl | rw [if_neg h5]), W2.out⟩

set_option maxRecDepth 100000 in
set_option maxHeartbeats 1000000 in
theorem eqLine_same (A1 : Option Addr) (c1 : Nat) (x : Lx) (B1 : Option Addr) (d1 : Nat) (A2 : Option Addr) (c2 : Nat) (B2 : Option Addr) (d2 : Nat) (R Q : Rg) (w : World) (hn : x.s.ss.length ≤ 1048576) (hm : x.ds.length ≤ 1048576) (h1 : LnV w R A1 B1 x) (h2 : LnV w Q A2 B2 x) (hR : R.In 0 w.heap.size) (hQ : Q.In 0 w.heap.size) :
    Calls Try.prog 30 #[.agg #[.slice A1 x.s.ss.length c1, .int .i64 x.s.f, .int .i64 x.s.l, .int .i64 x.s.r, .int .i64 x.s.c, .slice B1 x.ds.length d1, .int .i64 x.q], .agg #[.slice A2 x.s.ss.length c2, .int .i64 x.s.f, .int .i64 x.s.l, .int .i64 x.s.r, .int .i64 x.s.c, .slice B2 x.ds.length d2, .int .i64 x.q]] w fun e w' => e = .returned (.bool true) ∧ Below w.heap.size w w' := by
  have H1 := Lib.hid h1
  have H2 := Lib.hid h2
  have HR := Lib.hid hR
  have HQ := Lib.hid hQ
  clear h1 h2 hR hQ
  have ha : ∀ o o', Below w.heap.size w ((w.alloc o).alloc o') := fun o o' => ((Below.refl _ _).alloc (Nat.le_refl _) _).alloc (by simp) _
  have Ha := Lib.hid ha
  clear ha
  go_enter Try.func30, Try.ntmps30
  go_wp2_with fail
  refine (Que.eqQueue_same A1 A2 _ c1 c2 R.a R.b Q.a Q.b x.s.ss _ _ _ _ _ rfl hn (H1.out.s.below (Ha.out _ _) HR.out.b) (H2.out.s.below (Ha.out _ _) HQ.out.b) (Nat.le_trans HR.out.b (Ha.out _ _).size) (Nat.le_trans HQ.out.b (Ha.out _ _).size)).mono ?_
  rintro e w1 ⟨rfl, b1⟩
  have K : Hid (Bx w1 w.heap.size 33 #[.slice A1 x.s.ss.length c1, .int .i64 x.s.f, .int .i64 x.s.l, .int .i64 x.s.r, .int .i64 x.s.c, .slice B1 x.ds.length d1, .int .i64 x.q]) := ((Bx.new w _ _).alloc _).below b1
  have X : Hid (Bx w1 (w.heap.size + 1) 33 #[.slice A2 x.s.ss.length c2, .int .i64 x.s.f, .int .i64 x.s.l, .int .i64 x.s.r, .int .i64 x.s.c, .slice B2 x.ds.length d2, .int .i64 x.q]) := (Bx.at_new (w.alloc _) _ (by simp) _ _).below b1
  have W1 := Lib.hid (bel_trans (Ha.out _ _) b1)
  clear b1 Ha
  obtain ⟨k0, k1, k2, k3, k4, k5, k6, kf⟩ := K.out.cells7
  obtain ⟨x0, x1, x2, x3, x4, x5, x6, xf⟩ := X.out.cells7
  go_wp2_with fail
  refine (Hp.eqHeap_same B1 B2 _ d1 d2 R.c R.d Q.c Q.d x.ds _ _ rfl hm (H1.out.h.below W1.out HR.out.d) (H2.out.h.below W1.out HQ.out.d) (Nat.le_trans HR.out.d W1.out.size) (Nat.le_trans HQ.out.d W1.out.size)).mono ?_
  rintro e w2 ⟨rfl, b2⟩
  have W2 := Lib.hid (bel_trans W1.out b2)
  clear b2 k0 k1 k2 k3 k4 k5 k6 kf x0 x1 x2 x3 x4 x5 x6 xf
  go_wp2
  go_ret
  exact ⟨rfl, W2.out⟩

/-- A marked line. -/
def mkX (k : Int) (x : Lx) : Lx := ⟨⟨Que.mkL k x.s.ss.length, x.s.f, x.s.l, x.s.r, x.s.c⟩, Hp.mkL (k + 4 * (x.s.ss.length : Int)) x.ds.length, x.q⟩

set_option maxRecDepth 100000 in
set_option maxHeartbeats 1000000 in
theorem markLine_any (A : Option Addr) (ca : Nat) (x : Lx) (B : Option Addr) (cb : Nat) (R : Rg) (k : Int) (w : World) (hn : x.s.ss.length ≤ 1048576) (hm : x.ds.length ≤ 1048576) (hk0 : 0 ≤ k) (hk1 : k ≤ 1000000000) (h : LnV w R A B x) (hR : R.In 0 w.heap.size) :
    Calls Try.prog 33 #[.agg #[.slice A x.s.ss.length ca, .int .i64 x.s.f, .int .i64 x.s.l, .int .i64 x.s.r, .int .i64 x.s.c, .slice B x.ds.length cb, .int .i64 x.q], .int .i64 k] w fun e w' => e = .returned (.int .i64 (k + 4 * x.s.ss.length + 3 * x.ds.length)) ∧ LnV w' R A B (mkX k x) ∧ Tz R w w' := by
  have H := Lib.hid h
  have HR := Lib.hid hR
  clear h hR
  go_enter Try.func33, Try.ntmps33
  go_wp2_with fail
  refine (Que.markQueue_any A _ ca R.a R.b k _ _ _ _ x.s.ss _ rfl hn hk0 (by omega) (H.out.s.below (bel_alloc w _) HR.out.b) (Nat.le_trans HR.out.b (bel_alloc w _).size)).mono ?_
  rintro e w1 ⟨rfl, v1, t1⟩
  have z1 := t1.size
  rw [World.size_alloc] at z1
  obtain ⟨r1, r2, r3, r4⟩ := HR.out
  have K : Hid (Bx w1 w.heap.size 33 #[.slice A x.s.ss.length ca, .int .i64 x.s.f, .int .i64 x.s.l, .int .i64 x.s.r, .int .i64 x.s.c, .slice B x.ds.length cb, .int .i64 x.q]) := (Bx.new w _ _).of_block (t1.block _ (by simp) (.inr r2))
  have D : Hid (Hp.DV w1 R.c R.d B x.ds) := (H.out.h.below (bel_alloc w _) r4).of_block fun g h1 h2 => t1.block g (by rw [World.size_alloc]; omega) (by rcases H.out.apart with h | h <;> omega)
  have V := Lib.hid v1
  have T := Lib.hid t1
  clear t1 v1
  obtain ⟨k0, k1, k2, k3, k4, k5, k6, kf⟩ := K.out.cells7
  go_wp2_with fail
  refine (Hp.markHeap_any B _ cb R.c R.d (k + 4 * x.s.ss.length) _ x.ds _ rfl (by omega) (by omega) (by omega) D.out (by omega)).mono ?_
  rintro e w2 ⟨rfl, v2, t2⟩
  have D2 := Lib.hid v2
  have T2 := Lib.hid t2
  clear t2 v2 k0 k1 k2 k3 k4 k5 k6 kf
  go_wp2
  go_ret
  refine ⟨rfl, ⟨H.out.apart, V.out.of_block fun g h1 h2 => T2.out.block g (by omega) (by rcases H.out.apart with h | h <;> omega), D2.out⟩, ⟨T2.out.os.trans T.out.os, T2.out.tape.trans T.out.tape, T2.out.output.trans T.out.output, by have := T2.out.size; omega, fun g hg h1 h2 => ?_⟩⟩
  exact (T2.out.block g (by omega) h2).trans ((T.out.block g (by rw [World.size_alloc]; omega) h1).trans (Below.heap_alloc w _ g hg))

set_option maxRecDepth 100000 in
set_option maxHeartbeats 1000000 in
theorem heldLine_any (A : Option Addr) (ca : Nat) (x : Lx) (B : Option Addr) (cb : Nat) (R : Rg) (k : Int) (w : World) (hn : x.s.ss.length ≤ 1048576) (hm : x.ds.length ≤ 1048576) (hk0 : 0 ≤ k) (hk1 : k ≤ 1000000000) (h : LnV w R A B (mkX k x)) (hR : R.In 0 w.heap.size) :
    Calls Try.prog 36 #[.agg #[.slice A x.s.ss.length ca, .int .i64 x.s.f, .int .i64 x.s.l, .int .i64 x.s.r, .int .i64 x.s.c, .slice B x.ds.length cb, .int .i64 x.q], .int .i64 k] w fun e w' => e = .returned (.int .i64 (k + 4 * x.s.ss.length + 3 * x.ds.length)) ∧ Below w.heap.size w w' := by
  have H := Lib.hid h
  have HR := Lib.hid hR
  clear h hR
  have h1 : ¬ k + 4 * (x.s.ss.length : Int) < 0 := by omega
  have h2 : ¬ k + 4 * (x.s.ss.length : Int) + 3 * (x.ds.length : Int) < 0 := by omega
  go_enter Try.func36, Try.ntmps36
  go_wp2_with fail
  refine (Que.heldQueue_any A _ ca R.a R.b k _ _ _ _ _ hn hk0 (by omega) (H.out.s.below (bel_alloc w _) HR.out.b) (Nat.le_trans HR.out.b (bel_alloc w _).size)).mono ?_
  rintro e w1 ⟨rfl, b1⟩
  have K : Hid (Bx w1 w.heap.size 33 #[.slice A x.s.ss.length ca, .int .i64 x.s.f, .int .i64 x.s.l, .int .i64 x.s.r, .int .i64 x.s.c, .slice B x.ds.length cb, .int .i64 x.q]) := (Bx.new w _ _).below b1
  have W1 := Lib.hid (bel_trans (bel_alloc w _) b1)
  clear b1
  obtain ⟨k0, k1, k2, k3, k4, k5, k6, kf⟩ := K.out.cells7
  go_wp2_with fail
  refine (Hp.heldHeap_any B _ cb R.c R.d (k + 4 * x.s.ss.length) _ _ (by omega) (by omega) (by omega) (H.out.h.below W1.out HR.out.d) (Nat.le_trans HR.out.d W1.out.size)).mono ?_
  rintro e w2 ⟨rfl, b2⟩
  have W2 := Lib.hid (bel_trans W1.out b2)
  clear b2 k0 k1 k2 k3 k4 k5 k6 kf
  go_wp2
  go_ret
  exact ⟨rfl, W2.out⟩
end Go.Proofs.Ytehdbdolhkflcaa.Ln

namespace Go.Proofs.Ytehdbdolhkflcaa.Ln
open Go.RowKit Go.Deep Base

def kv (e : MapEntry) : Value × Value := (e.key, e.val)
def vals (S : List Int) : List (Value × Value) := S.map fun x => (.int .i64 x, .bool true)

/-- Block mb is a map that holds just the numbers of S, each with true. -/
def Im (w : World) (mb : Nat) (S : List Int) : Prop := ∃ es clock, w.heap[mb]? = some (.map es clock) ∧ es.toList.map kv = vals S

theorem Im.of_block {w w' : World} {mb : Nat} {S : List Int} (h : Im w mb S) (e : w'.heap[mb]? = w.heap[mb]?) : Im w' mb S := by
  obtain ⟨es, c, h1, h2⟩ := h
  exact ⟨es, c, e.trans h1, h2⟩
theorem Im.lt {w : World} {mb : Nat} {S : List Int} (h : Im w mb S) : mb < w.heap.size := by
  obtain ⟨es, c, h1, h2⟩ := h
  exact (Array.getElem?_eq_some_iff.1 h1).1
theorem Im.zero {w : World} {mb c : Nat} (h : w.heap[mb]? = some (.map #[] c)) : Im w mb [] := ⟨_, _, h, rfl⟩

theorem find_no (x : Int) : ∀ (S : List Int) (es : List MapEntry) (k : Nat), es.map kv = vals S → x ∉ S → Instr.findNow (.int .i64) (.int .i64 x) es k = some none
  | [], [], k, _, _ => rfl
  | [], e :: es, k, h, _ => by simp [vals] at h
  | y :: l, [], k, h, _ => by simp [vals] at h
  | y :: l, e :: es, k, h, hn => by
    simp only [vals, List.map_cons, List.cons.injEq, kv, Prod.mk.injEq] at h
    have hb : (x == y) = false := beq_eq_false_iff_ne.2 fun e => hn (by simp [e])
    simp only [Instr.findNow, h.1.1, Instr.sameNow, hb]
    simpa using find_no x l es (k + 1) h.2 fun hz => hn (by simp [hz])

theorem find_yes (x : Int) : ∀ (S : List Int) (es : List MapEntry) (k : Nat), es.map kv = vals S → x ∈ S →
    ∃ j, Instr.findNow (.int .i64) (.int .i64 x) es k = some (some (k + j, .bool true)) ∧ (es.eraseIdx j).map kv = vals (S.erase x) ∧ j < es.length
  | [], _, _, _, hx => by cases hx
  | y :: l, [], k, h, _ => by simp [vals] at h
  | y :: l, e :: es, k, h, hx => by
    simp only [vals, List.map_cons, List.cons.injEq, kv, Prod.mk.injEq] at h
    by_cases ey : y = x
    · subst ey
      refine ⟨0, ?_, ?_, by simp⟩
      · simp [Instr.findNow, h.1.1, Instr.sameNow, h.1.2]
      · simpa [vals] using h.2
    · have hb : (x == y) = false := beq_eq_false_iff_ne.2 fun e => ey e.symm
      have hxl : x ∈ l := by
        rcases List.mem_cons.1 hx with h | h
        · exact absurd h.symm ey
        · exact h
      obtain ⟨j, h1, h2, h3⟩ := find_yes x l es (k + 1) h.2 hxl
      refine ⟨j + 1, ?_, ?_, by simp; omega⟩
      · simp only [Instr.findNow, h.1.1, Instr.sameNow, hb]
        rw [show k + (j + 1) = k + 1 + j from by omega]
        simpa using h1
      · have he : (y :: l).erase x = y :: l.erase x := by rw [List.erase_cons]; simp [ey]
        rw [he]
        simp only [List.eraseIdx_cons_succ, List.map_cons, vals, kv, h.1.1, h.1.2]
        exact congrArg _ h2

theorem check_int (b : Bool) (x : Int) (w : World) : (Instr.checkKey b 10000 3 (.int .i64 x)).run Try.prog w = .ok () w := by
  unfold Instr.checkKey
  simp [Sem.run_bind, run_underlying Try.underlying3]

theorem find_key {x : Int} {es : List MapEntry} {r : Option (Nat × Value)} (h : Instr.findNow (.int .i64) (.int .i64 x) es 0 = some r) (w : World) : (Instr.findKey 3 (.int .i64 x) es).run Try.prog w = .ok r w := by
  simp [Instr.findKey, Sem.run_bind, run_underlying Try.underlying3, h]

theorem get_map {w : World} {mb c : Nat} {es : Array MapEntry} (h : w.heap[mb]? = some (.map es c)) : (getObj mb).run Try.prog w = .ok (.map es c) w := by simp [getObj, Sem.run, h]

theorem look_ids {w : World} {mb : Nat} {S : List Int} (h : Im w mb S) (x : Int) : (Instr.lookup 118 (.map (some mb)) (.int .i64 x) false).run Try.prog w = .ok (.bool (decide (x ∈ S))) w := by
  obtain ⟨es, c, h1, h2⟩ := h
  have hg := get_map h1
  have he : ∀ q, (Instr.checkKey q 10000 3 (.int .i64 x)).run Try.prog w = .ok () w := fun q => check_int q _ w
  have hz : (zeroValue 4).run Try.prog w = .ok (.bool false) w := Try.zeroValue4 w
  by_cases hx : x ∈ S
  · obtain ⟨j, h3, _, _⟩ := find_yes x S es.toList 0 h2 hx
    have hf := find_key h3 w
    rw [decide_eq_true hx]
    simp [Instr.lookup, Sem.run_bind, run_underlying Try.underlying118, hg, he, hf]
  · have h3 := find_no x S es.toList 0 h2 hx
    have hf := find_key h3 w
    rw [decide_eq_false hx]
    simp [Instr.lookup, Sem.run_bind, run_underlying Try.underlying118, hg, he, hf, hz]

theorem put_below {w W : World} {mb n : Nat} (o : Obj) (hb : Below n w W) (hm : n ≤ mb) : Below n w (W.putObj mb o) :=
  ⟨hb.os, hb.tape, hb.output, by simpa [World.putObj] using hb.size, fun k hk => (World.putObj_heap_other (by omega)).trans (hb.block k hk)⟩

theorem set_run {w : World} {mb c : Nat} {es : Array MapEntry} {o' : Obj} (h : w.heap[mb]? = some (.map es c)) : (setObj mb o').run Try.prog w = .ok () (w.putObj mb o') := by simp [setObj, Sem.run, h, World.putObj]

theorem put_new {w : World} {mb : Nat} {S : List Int} {x : Int} (h : Im w mb S) (hn : x ∉ S) :
    ∃ o, (Instr.mapUpdate 118 (.map (some mb)) (.int .i64 x) (.bool true)).run Try.prog w = .ok () (w.putObj mb o) ∧ Im (w.putObj mb o) mb (S ++ [x]) := by
  obtain ⟨es, c, h1, h2⟩ := h
  have h3 := find_no x S es.toList 0 h2 hn
  have hf := find_key h3 w
  have hg := get_map h1
  have he := check_int false x w
  have hs := set_run (o' := .map (es.push { key := .int .i64 x, val := .bool true, born := c }) (c + 1)) h1
  refine ⟨.map (es.push { key := .int .i64 x, val := .bool true, born := c }) (c + 1), ?_, es.push { key := .int .i64 x, val := .bool true, born := c }, c + 1, World.putObj_heap_same (Array.getElem?_eq_some_iff.1 h1).1, ?_⟩
  · simp only [Instr.mapUpdate, Sem.run_bind, run_underlying Try.underlying118, hg, he, hf, Result.andThen]
    exact hs
  · rw [Array.toList_push, List.map_append, h2]
    simp [vals, kv]

theorem del_yes {w : World} {mb : Nat} {S : List Int} {x : Int} (h : Im w mb S) (hx : x ∈ S) :
    ∃ o, (Builtin.delete_ #[118, 3] 0 #[.map (some mb), .int .i64 x]).run Try.prog w = .ok (.tuple #[]) (w.putObj mb o) ∧ Im (w.putObj mb o) mb (S.erase x) := by
  obtain ⟨es, c, h1, h2⟩ := h
  obtain ⟨j, h3, h4, h5⟩ := find_yes x S es.toList 0 h2 hx
  rw [Nat.zero_add] at h3
  have hf := find_key h3 w
  have hg := get_map h1
  have he : ∀ q, (Instr.checkKey q 10000 3 (.int .i64 x)).run Try.prog w = .ok () w := fun q => check_int q _ w
  have hs := set_run (o' := .map (es.eraseIdxIfInBounds j) c) h1
  refine ⟨.map (es.eraseIdxIfInBounds j) c, ?_, es.eraseIdxIfInBounds j, c, World.putObj_heap_same (Array.getElem?_eq_some_iff.1 h1).1, ?_⟩
  · simp only [Builtin.delete_]
    simp [Sem.run_bind, run_underlying Try.underlying118, hg, he, hf, hs, Result.andThen]
  · have hj : j < es.size := by simpa using h5
    rw [show (es.eraseIdxIfInBounds j).toList = es.toList.eraseIdx j by simp [Array.eraseIdxIfInBounds, hj]]
    exact h4

theorem len_ids {w : World} {mb : Nat} {S : List Int} (h : Im w mb S) : (Builtin.len_ #[118] 3 #[.map (some mb)]).run Try.prog w = .ok (.int .i64 (S.length : Int)) w := by
  obtain ⟨es, c, h1, h2⟩ := h
  have hl : es.size = S.length := by
    have := congrArg List.length h2
    simpa [vals] using this
  rw [← hl]
  exact run_len_map (w := w) _ _ _ es _ (by kernel_rfl) h1
end Go.Proofs.Ytehdbdolhkflcaa.Ln

namespace Go.Proofs.Ytehdbdolhkflcaa.Ln
open Go.RowKit Go.Deep Base

def sameB (s : Qx) (ds : List Hp.Du) : Bool := decide (s.ids.length = ds.length) && s.ids.all fun i => decide (0 ≤ Hp.fndD ds i)
theorem okL_same (x : Lx) : okL x = (x.s.ok && Hp.okH x.ds x.q && sameB x.s x.ds) := by
  unfold okL sameB
  rw [Bool.and_assoc]

theorem len_le_of : ∀ {a b : List Int}, a.Nodup → (∀ x ∈ a, x ∈ b) → a.length ≤ b.length
  | [], b, _, _ => Nat.zero_le _
  | x :: a, b, hn, hs => by
    obtain ⟨hx, hn'⟩ := List.nodup_cons.1 hn
    have hb : x ∈ b := hs x (by simp)
    have h := len_le_of (b := b.erase x) hn' (fun y hy => (List.mem_erase_of_ne fun e => hx (by rw [← e]; exact hy)).2 (hs y (by simp [hy])))
    rw [List.length_erase_of_mem hb] at h
    have : 0 < b.length := List.length_pos_of_mem hb
    simp
    omega

theorem sameB_iff {s : Qx} {ds : List Hp.Du} {q : Int} (h : s.ok = true) (hv : Hp.HV ds q) : sameB s ds = true ↔ s.ids.length = ds.length ∧ ∀ d ∈ ds, d.id ∈ s.ids := by
  unfold sameB
  simp only [Bool.and_eq_true, decide_eq_true_eq, List.all_eq_true]
  constructor
  · rintro ⟨h1, h2⟩
    refine ⟨h1, fun d hd => ?_⟩
    have hp := perm_of (Qx.ids_facts h).1 (fun i hi => fnd_iff.1 (h2 i hi)) (by simp [dids]; omega)
    exact hp.symm.subset (List.mem_map.2 ⟨d, hd, rfl⟩)
  · rintro ⟨h1, h2⟩
    refine ⟨h1, fun i hi => fnd_iff.2 ?_⟩
    have hp := perm_of (a := dids ds) (b := s.ids) (dids_nodup hv) (fun y hy => by
      obtain ⟨d, hd, rfl⟩ := List.mem_map.1 hy
      exact h2 d hd) (by simp [dids]; omega)
    exact hp.symm.subset hi

/-- The Ids of the used ones of the first k slots. -/
def upTo (ss : List Que.Sl) (k : Nat) : List Int := ((List.range k).filter fun i => (Que.sl ss i).used).map fun i => (Que.sl ss i).id
theorem upTo_yes {ss : List Que.Sl} {k : Nat} (h : (Que.sl ss k).used = true) : upTo ss (k + 1) = upTo ss k ++ [(Que.sl ss k).id] := by
  unfold upTo
  rw [List.range_succ, List.filter_append, List.map_append]
  simp [h]
theorem upTo_no {ss : List Que.Sl} {k : Nat} (h : (Que.sl ss k).used = false) : upTo ss (k + 1) = upTo ss k := by
  unfold upTo
  rw [List.range_succ, List.filter_append, List.map_append]
  simp [h]
theorem same_id {ss : List Que.Sl} {us : List Nat} (h : (us.map fun v => (Que.sl ss v).id).Nodup) {x y : Nat} (hx : x ∈ us) (hy : y ∈ us) (e : (Que.sl ss x).id = (Que.sl ss y).id) : x = y := by
  rw [List.Nodup, List.pairwise_map] at h
  obtain ⟨i, hi, rfl⟩ := List.mem_iff_getElem.1 hx
  obtain ⟨j, hj, rfl⟩ := List.mem_iff_getElem.1 hy
  rw [List.pairwise_iff_getElem] at h
  rcases Nat.lt_trichotomy i j with hlt | rfl | hlt
  · exact absurd e (h i j hi hj hlt)
  · rfl
  · exact absurd e.symm (h j i hj hi hlt)
theorem upTo_new {s : Qx} {us fs : List Nat} (v : s.V us fs) {k : Nat} (hk : k < 60) (h : (Que.sl s.ss k).used = true) : (Que.sl s.ss k).id ∉ upTo s.ss k := by
  intro hm
  obtain ⟨i, hi, he⟩ := List.mem_map.1 hm
  rw [List.mem_filter, List.mem_range] at hi
  have := same_id v.ids (Que.mem_used v (by omega) hi.2) (Que.mem_used v hk h) he
  omega
theorem upTo_nodup {s : Qx} {us fs : List Nat} (v : s.V us fs) : ∀ {k : Nat}, k ≤ 60 → (upTo s.ss k).Nodup
  | 0, _ => by simp [upTo]
  | k + 1, h => by
    cases e : (Que.sl s.ss k).used
    · rw [upTo_no e]; exact upTo_nodup v (by omega)
    · rw [upTo_yes e, List.nodup_append]
      have hn := upTo_new v (by omega) e
      exact ⟨upTo_nodup v (by omega), by simp, fun a ha b hb => by simp at hb; rintro rfl; rw [hb] at ha; exact hn ha⟩
theorem upTo_mem {s : Qx} {us fs : List Nat} (v : s.V us fs) (t : Int) : t ∈ upTo s.ss 60 ↔ t ∈ s.ids := by
  rw [v.ids_eq]
  unfold upTo
  constructor
  · intro h
    obtain ⟨i, hi, he⟩ := List.mem_map.1 h
    rw [List.mem_filter, List.mem_range] at hi
    exact List.mem_map.2 ⟨i, Que.mem_used v hi.1 hi.2, he⟩
  · intro h
    obtain ⟨i, hi, he⟩ := List.mem_map.1 h
    refine List.mem_map.2 ⟨i, ?_, he⟩
    rw [List.mem_filter, List.mem_range]
    exact ⟨v.lt i (by simp [hi]), (Que.seg_used v.seg i hi).1⟩
theorem upTo_len {s : Qx} {us fs : List Nat} (v : s.V us fs) : (upTo s.ss 60).length = s.ids.length :=
  Nat.le_antisymm (len_le_of (upTo_nodup v (Nat.le_refl _)) fun t h => (upTo_mem v t).1 h) (len_le_of (Qx.ids_facts v.ok).1 fun t h => (upTo_mem v t).2 h)

/-- What is left of U when the first k items' Ids have been struck. -/
structure Ers (U : List Int) (ds : List Hp.Du) (k : Nat) (S : List Int) : Prop where
  nd : S.Nodup
  mem : ∀ x, x ∈ S ↔ x ∈ U ∧ ∀ i, i < k → (ds.getD i Hp.zDu).id ≠ x
  len : S.length + k = U.length
  all : ∀ i, i < k → (ds.getD i Hp.zDu).id ∈ U
theorem Ers.zero {U : List Int} (ds : List Hp.Du) (h : U.Nodup) : Ers U ds 0 U := ⟨h, fun x => by simp, rfl, fun i hi => absurd hi (by omega)⟩
theorem Ers.step {U : List Int} {ds : List Hp.Du} {k : Nat} {S : List Int} (h : Ers U ds k S) (hin : (ds.getD k Hp.zDu).id ∈ S) : Ers U ds (k + 1) (S.erase (ds.getD k Hp.zDu).id) := by
  refine ⟨h.nd.erase _, fun x => ?_, ?_, fun i hi => ?_⟩
  · rw [h.nd.mem_erase_iff, h.mem]
    constructor
    · rintro ⟨h1, h2, h3⟩
      refine ⟨h2, fun i hi => ?_⟩
      by_cases e : i = k
      · subst e; exact fun e => h1 e.symm
      · exact h3 i (by omega)
    · rintro ⟨h1, h2⟩
      exact ⟨fun e => h2 k (by omega) e.symm, h1, fun i hi => h2 i (by omega)⟩
  · rw [List.length_erase_of_mem hin]
    have := h.len
    have : 0 < S.length := List.length_pos_of_mem hin
    omega
  · by_cases e : i = k
    · subst e; exact ((h.mem _).1 hin).1
    · exact h.all i (by omega)
theorem Ers.miss {U : List Int} {ds : List Hp.Du} {k : Nat} {S : List Int} {q : Int} (h : Ers U ds k S) (hv : Hp.HV ds q) (hk : k < ds.length) (hin : (ds.getD k Hp.zDu).id ∉ S) : (ds.getD k Hp.zDu).id ∉ U :=
  fun hu => hin ((h.mem _).2 ⟨hu, fun i hi => (hv.apart k i hi hk).1⟩)

/-- Between two rounds of the first walk. -/
structure SiSt (w wr : World) (A : Option Addr) (ca : Nat) (s : Qx) (B : Option Addr) (cb : Nat) (ds : List Hp.Du) (q : Int) (S : List Int) : Prop where
  map : Im wr (w.heap.size + 1 + 1) S
  hb : Bx wr (w.heap.size + 1) 31 #[.slice B ds.length cb, .int .i64 q]
  old : Below w.heap.size w wr

set_option maxRecDepth 100000 in
set_option maxHeartbeats 2000000 in
theorem sameIds_any (A : Option Addr) (ca : Nat) (s : Qx) (B : Option Addr) (cb : Nat) (ds : List Hp.Du) (q : Int) (a b c d : Nat) (w : World) (hok : s.ok = true) (hv : Hp.HV ds q) (h1 : Que.SlV w a b A s.ss) (h2 : Hp.DV w c d B ds) (hb : b ≤ w.heap.size) (hd : d ≤ w.heap.size) :
    Calls Try.prog 97 #[.agg #[.slice A s.ss.length ca, .int .i64 s.f, .int .i64 s.l, .int .i64 s.r, .int .i64 s.c], .agg #[.slice B ds.length cb, .int .i64 q]] w fun e w' => e = .returned (.bool (sameB s ds)) ∧ Below w.heap.size w w' := by
  obtain ⟨us, fs, v⟩ := Qx.ok_val hok
  have HV := Lib.hid v
  have HH := Lib.hid hv
  have HS := Lib.hid h1
  have HD := Lib.hid h2
  have hn : s.ss.length = 60 := v.len
  have hm : ds.length ≤ 100 := hv.few
  have Hi := Lib.hid (sameB_iff hok hv)
  clear h1 h2 v hv hok
  have Hn := Lib.hid hn
  clear hn
  have hmm := @run_makeMap Try.prog
  go_enter Try.func97, Try.ntmps97
  go_wp2
  clear hmm
  go_loopw [14] (fun i wr => ∃ k : Nat, k ≤ s.ss.length ∧ i = .int .i64 k ∧ SiSt w wr A ca s B cb ds q (upTo s.ss k)) (fun i _ => s.ss.length - (intOf i).toNat)
  case atStart =>
    refine ⟨0, Nat.zero_le _, rfl, Im.zero (c := 0) ?_, (Bx.at_new (w.alloc _) _ (by simp) _ _).alloc _, (((Below.refl _ _).alloc (Nat.le_refl _) _).alloc (by simp) _).alloc (by simp; omega) _⟩
    have h := heap_alloc_new ((w.alloc (.cells #[.slice A s.ss.length ca, .int .i64 s.f, .int .i64 s.l, .int .i64 s.r, .int .i64 s.c] 28)).alloc (.cells #[.slice B ds.length cb, .int .i64 q] 31)) (.map #[] 0)
    simp only [World.size_alloc] at h
    exact h
  case round =>
    obtain ⟨k, hk, rfl, hi⟩ := hrel
    have Si := Lib.hid hi
    clear hi
    by_cases hlt : k < s.ss.length
    · obtain ⟨g, rfl, hg1, hg2, hrd⟩ := (HS.out.below Si.out.old hb) (by omega)
      obtain ⟨c0, c1, c2, c3, _⟩ := hrd k (by omega)
      obtain ⟨sid, sprev, snext, su, hsl⟩ : ∃ a b c d, s.ss.getD k Que.zSl = ⟨a, b, c, d⟩ := ⟨_, _, _, _, rfl⟩
      rw [hsl] at c0 c1 c2 c3
      dsimp only at c0 c1 c2 c3
      have Hsl : Hid (Que.sl s.ss k = ⟨sid, sprev, snext, su⟩) := hsl
      clear hsl hrd
      have hk0 : (0 : Int) ≤ (k : Int) := by omega
      have hk1 : (k : Int) < (s.ss.length : Int) := by omega
      have hk2 : (k : Int) < 60 := by have := Hn.out; omega
      cases su
      · have Hu : Hid (upTo s.ss (k + 1) = upTo s.ss k) := upTo_no (by rw [Hsl.out])
        go_wp2
        go_roundw
        case rel => exact ⟨k + 1, by omega, by go_num, by rw [Hu.out]; exact ⟨Si.out.map.of_block (Below.heap_alloc _ _ _ Si.out.map.lt), Si.out.hb.alloc _, bel_trans Si.out.old (bel_alloc wr _)⟩⟩
        case measure => simp [intOf]; omega
      · have Hu : Hid (upTo s.ss (k + 1) = upTo s.ss k ++ [sid]) := (upTo_yes (by rw [Hsl.out])).trans (by rw [Hsl.out])
        have hnew := upTo_new HV.out (k := k) (by have := Hn.out; omega) (by rw [Hsl.out])
        rw [Hsl.out] at hnew
        obtain ⟨o, hp, him⟩ := put_new (w := wr.alloc (.cells #[.int .i64 sid, .int .i64 sprev, .int .i64 snext, .bool true] 122)) (Si.out.map.of_block (Below.heap_alloc _ _ _ Si.out.map.lt)) hnew
        have Him := Lib.hid him
        have hne : w.heap.size + 1 + 1 ≠ w.heap.size + 1 := by omega
        have Ho : Hid (SiSt w ((wr.alloc (.cells #[.int .i64 sid, .int .i64 sprev, .int .i64 snext, .bool true] 122)).putObj (w.heap.size + 1 + 1) o) (some ⟨g, 0, none⟩) ca s B cb ds q (upTo s.ss (k + 1))) := by
          refine ⟨by rw [Hu.out]; exact him, (Si.out.hb.alloc _).of_block (World.putObj_heap_other (by omega)), put_below o (bel_trans Si.out.old (bel_alloc wr _)) (by omega)⟩
        clear hnew him
        go_wp2
        go_roundw
        case rel => exact ⟨k + 1, by omega, by go_num, Ho.out⟩
        case measure => simp [intOf]; omega
    · obtain rfl : k = s.ss.length := by omega
      have U := Lib.hid (upTo_nodup HV.out (Nat.le_refl _))
      have M := Lib.hid (upTo_mem HV.out)
      have L := Lib.hid (upTo_len HV.out)
      have hS : s.ss.length = 60 := Hn.out
      rw [hS] at Si
      clear hS
      generalize upTo s.ss 60 = u at Si U M L
      have E := Lib.hid (Ers.zero ds U.out)
      obtain ⟨x0, x1, xf⟩ := Si.out.hb.cells2
      go_wp2
      clear x0 x1 xf
      go_loopw [27] (fun i wr => ∃ k : Nat, k ≤ ds.length ∧ i = .int .i64 k ∧ ∃ S, Ers u ds k S ∧ SiSt w wr A ca s B cb ds q S) (fun i _ => ds.length - (intOf i).toNat)
      case atStart => exact ⟨0, Nat.zero_le _, rfl, u, E.out, Si.out⟩
      case round =>
        obtain ⟨k, hk, rfl, S, he, hi⟩ := hrel
        have Si := Lib.hid hi
        have Er := Lib.hid he
        clear hi he E
        by_cases hlt : k < ds.length
        · obtain ⟨g, rfl, hg1, hg2, hrd⟩ := (HD.out.below Si.out.old hd) (by omega)
          obtain ⟨c0, c1, c2, _⟩ := hrd k (by omega)
          obtain ⟨dat, dseq, did, hdu⟩ : ∃ a b c, ds.getD k Hp.zDu = ⟨a, b, c⟩ := ⟨_, _, _, rfl⟩
          rw [hdu] at c0 c1 c2
          dsimp only at c0 c1 c2
          have Hdu := Lib.hid hdu
          clear hdu hrd
          have hk0 : (0 : Int) ≤ (k : Int) := by omega
          have hk1 : (k : Int) < (ds.length : Int) := by omega
          have hk2 : (k : Int) < 100 := by omega
          have hmap : Im (wr.alloc (.cells #[.int .i64 dat, .int .i64 dseq, .int .i64 did] 108)) (w.heap.size + 1 + 1) S := Si.out.map.of_block (Below.heap_alloc _ _ _ Si.out.map.lt)
          have hlk := look_ids hmap did
          by_cases hin : did ∈ S
          · rw [decide_eq_true hin] at hlk
            obtain ⟨o, hp, him⟩ := del_yes hmap hin
            have Ho : Hid (∃ S', Ers u ds (k + 1) S' ∧ SiSt w ((wr.alloc (.cells #[.int .i64 dat, .int .i64 dseq, .int .i64 did] 108)).putObj (w.heap.size + 1 + 1) o) A ca s (some ⟨g, 0, none⟩) cb ds q S') := by
              refine ⟨_, Er.out.step (by rw [Hdu.out]; exact hin), ⟨?_, (Si.out.hb.alloc _).of_block (World.putObj_heap_other (by omega)), put_below o (bel_trans Si.out.old (bel_alloc wr _)) (by omega)⟩⟩
              rw [Hdu.out]
              exact him
            clear hin hmap him
            go_wp2
            go_roundw
            case rel => exact ⟨k + 1, by omega, by go_num, Ho.out⟩
            case measure => simp [intOf]; omega
          · rw [decide_eq_false hin] at hlk
            have Hno : Hid (sameB s ds = false) := by
              show sameB s ds = false
              cases e : sameB s ds
              · rfl
              · exfalso
                have h1 := Er.out.miss HH.out hlt (by rw [Hdu.out]; exact hin)
                exact h1 ((M.out _).2 ((Hi.out.1 e).2 _ (by simp [List.getD_eq_getElem?_getD, hlt])))
            clear hin hmap
            go_wp2
            go_ret
            exact ⟨by rw [Hno.out]; rfl, bel_trans Si.out.old (bel_alloc wr _)⟩
        · obtain rfl : k = ds.length := by omega
          have hlen := len_ids Si.out.map
          have Ho : Hid (sameB s ds = ((S.length : Int) == 0)) := by
            show sameB s ds = _
            have h1 := Er.out.len
            have h2 := L.out
            rw [Bool.eq_iff_iff, Hi.out, beq_iff_eq]
            constructor
            · rintro ⟨h3, _⟩; omega
            · intro h3
              refine ⟨by omega, fun d hd => ?_⟩
              obtain ⟨i, hi, rfl⟩ := List.mem_iff_getElem.1 hd
              have := Er.out.all i hi
              rw [M.out] at this
              simpa [List.getD_eq_getElem?_getD, hi] using this
          go_wp2
          go_ret
          exact ⟨by rw [Ho.out]; rfl, Si.out.old⟩
end Go.Proofs.Ytehdbdolhkflcaa.Ln

namespace Go.Proofs.Ytehdbdolhkflcaa.Ln
open Go.RowKit Go.Deep Base

set_option maxRecDepth 100000 in
set_option maxHeartbeats 2000000 in
theorem implLineOk_any (A : Option Addr) (ca : Nat) (x : Lx) (B : Option Addr) (cb : Nat) (R : Rg) (w : World) (hm : x.ds.length ≤ 1048576) (h : LnV w R A B x) (hR : R.In 0 w.heap.size) :
    Calls Try.prog 58 #[.agg #[.slice A x.s.ss.length ca, .int .i64 x.s.f, .int .i64 x.s.l, .int .i64 x.s.r, .int .i64 x.s.c, .slice B x.ds.length cb, .int .i64 x.q]] w fun e w' => e = .returned (.bool (okL x)) ∧ Below w.heap.size w w' := by
  have H := Lib.hid h
  have HR := Lib.hid hR
  have Ho := Lib.hid (okL_same x)
  clear h hR
  go_enter Try.func58, Try.ntmps58
  go_wp2_with fail
  refine (Que.queueOk_any A _ ca x.s.ss _ _ _ _ R.a R.b _ rfl (H.out.s.below (bel_alloc w _) HR.out.b) (Nat.le_trans HR.out.b (bel_alloc w _).size)).mono ?_
  rintro e w1 ⟨rfl, b1⟩
  have K : Hid (Bx w1 w.heap.size 33 #[.slice A x.s.ss.length ca, .int .i64 x.s.f, .int .i64 x.s.l, .int .i64 x.s.r, .int .i64 x.s.c, .slice B x.ds.length cb, .int .i64 x.q]) := (Bx.new w _ _).below b1
  have W1 := Lib.hid (bel_trans (bel_alloc w _) b1)
  clear b1
  obtain ⟨k0, k1, k2, k3, k4, k5, k6, kf⟩ := K.out.cells7
  have e1 : Que.okQ x.s.ss x.s.f x.s.l x.s.r x.s.c = x.s.ok := rfl
  rw [e1]
  clear e1
  cases hq : x.s.ok
  · have Ho' : Hid (okL x = false) := by show okL x = false; rw [Ho.out, hq]; rfl
    clear hq
    go_wp2
    go_ret
    exact ⟨by rw [Ho'.out]; rfl, W1.out⟩
  have Hq := Lib.hid hq
  clear hq
  go_wp2_with fail
  refine (Hp.implHeapOk_any B _ cb R.c R.d x.ds _ _ rfl hm (H.out.h.below W1.out HR.out.d) (Nat.le_trans HR.out.d W1.out.size)).mono ?_
  rintro e w2 ⟨rfl, b2⟩
  replace K := Lib.hid (K.out.below b2)
  replace W1 := Lib.hid (bel_trans W1.out b2)
  clear b2 k0 k1 k2 k3 k4 k5 k6 kf
  obtain ⟨k0, k1, k2, k3, k4, k5, k6, kf⟩ := K.out.cells7
  cases hh : Hp.okH x.ds x.q
  · have Ho' : Hid (okL x = false) := by show okL x = false; rw [Ho.out, hh]; simp
    clear hh
    go_wp2
    go_ret
    exact ⟨by rw [Ho'.out]; rfl, W1.out⟩
  have Hh := Lib.hid hh
  clear hh
  have Ho' : Hid (okL x = sameB x.s x.ds) := by show okL x = _; rw [Ho.out, Hq.out, Hh.out]; rfl
  go_wp2_with fail
  refine (sameIds_any A ca x.s B cb x.ds x.q R.a R.b R.c R.d _ Hq.out (Hp.okH_val Hh.out) (H.out.s.below W1.out HR.out.b) (H.out.h.below W1.out HR.out.d) (Nat.le_trans HR.out.b W1.out.size) (Nat.le_trans HR.out.d W1.out.size)).mono ?_
  rintro e w3 ⟨rfl, b3⟩
  replace W1 := Lib.hid (bel_trans W1.out b3)
  clear b3 k0 k1 k2 k3 k4 k5 k6 kf
  go_wp2
  go_ret
  exact ⟨by rw [Ho'.out]; rfl, W1.out⟩

set_option maxRecDepth 100000 in
set_option maxHeartbeats 2000000 in
theorem specLineOk_any (A : Option Addr) (ca : Nat) (x : Lx) (B : Option Addr) (cb : Nat) (R : Rg) (w : World) (hn : x.s.ss.length ≤ 1048576) (hm : x.ds.length ≤ 1048576) (h : LnV w R A B x) (hR : R.In 0 w.heap.size) :
    Calls Try.prog 52 #[.agg #[.slice A x.s.ss.length ca, .int .i64 x.s.f, .int .i64 x.s.l, .int .i64 x.s.r, .int .i64 x.s.c, .slice B x.ds.length cb, .int .i64 x.q]] w fun e w' => e = .returned (.bool (okL x)) ∧ Below w.heap.size w w' := by
  have H := Lib.hid h
  have HR := Lib.hid hR
  have Ho := Lib.hid (okL_same x)
  clear h hR
  go_enter Try.func52, Try.ntmps52
  go_wp2_with fail
  refine (Que.specQueueOk_any A _ ca R.a R.b _ _ _ _ x.s.ss _ rfl hn (H.out.s.below (bel_alloc w _) HR.out.b) (Nat.le_trans HR.out.b (bel_alloc w _).size)).mono ?_
  rintro e w1 ⟨rfl, b1⟩
  have K : Hid (Bx w1 w.heap.size 33 #[.slice A x.s.ss.length ca, .int .i64 x.s.f, .int .i64 x.s.l, .int .i64 x.s.r, .int .i64 x.s.c, .slice B x.ds.length cb, .int .i64 x.q]) := (Bx.new w _ _).below b1
  have W1 := Lib.hid (bel_trans (bel_alloc w _) b1)
  clear b1
  obtain ⟨k0, k1, k2, k3, k4, k5, k6, kf⟩ := K.out.cells7
  have e1 : Que.okQ x.s.ss x.s.f x.s.l x.s.r x.s.c = x.s.ok := rfl
  rw [e1]
  clear e1
  cases hq : x.s.ok
  · have Ho' : Hid (okL x = false) := by show okL x = false; rw [Ho.out, hq]; rfl
    clear hq
    go_wp2
    go_ret
    exact ⟨by rw [Ho'.out]; rfl, W1.out⟩
  have Hq := Lib.hid hq
  clear hq
  go_wp2_with fail
  refine (Hp.specHeapOk_any B _ cb R.c R.d x.ds _ _ rfl hm (H.out.h.below W1.out HR.out.d) (Nat.le_trans HR.out.d W1.out.size)).mono ?_
  rintro e w2 ⟨rfl, b2⟩
  replace K := Lib.hid (K.out.below b2)
  replace W1 := Lib.hid (bel_trans W1.out b2)
  clear b2 k0 k1 k2 k3 k4 k5 k6 kf
  obtain ⟨k0, k1, k2, k3, k4, k5, k6, kf⟩ := K.out.cells7
  cases hh : Hp.okH x.ds x.q
  · have Ho' : Hid (okL x = false) := by show okL x = false; rw [Ho.out, hh]; simp
    clear hh
    go_wp2
    go_ret
    exact ⟨by rw [Ho'.out]; rfl, W1.out⟩
  have Hh := Lib.hid hh
  clear hh
  have Ho' : Hid (okL x = sameB x.s x.ds) := by show okL x = _; rw [Ho.out, Hq.out, Hh.out]; rfl
  have F := Lib.hid (Qx.ids_facts Hq.out)
  by_cases hc : x.s.ids.length = x.ds.length
  · have hne : (x.s.c != (x.ds.length : Int)) = false := by
      rw [F.out.2.2.2.1, hc]
      simp
    have Hc := Lib.hid hc
    clear hc
    go_wp2_with fail
    refine (Que.specList_any A _ ca x.s.ss _ _ _ _ R.a R.b _ rfl hn (H.out.s.below W1.out HR.out.b) (Nat.le_trans HR.out.b W1.out.size)).mono ?_
    rintro e w3 ⟨G, cg, rfl, v3, b3⟩
    have e2 : Que.listA x.s.ss x.s.f x.s.l x.s.r x.s.c = x.s.ids := rfl
    rw [e2] at v3 ⊢
    clear e2
    have V := Lib.hid v3
    replace K := Lib.hid (K.out.below b3)
    replace W1 := Lib.hid (bel_trans W1.out b3)
    clear b3 k0 k1 k2 k3 k4 k5 k6 kf v3 hne
    have hl60 : (x.s.ids.length : Int) ≤ 60 := by have := F.out.2.2.1; omega
    go_wp2
    go_loopw [4] (fun i wr => ∃ k : Nat, k ≤ x.s.ids.length ∧ i = .int .i64 k ∧ Below w3.heap.size w3 wr ∧ ∀ j, j < k → 0 ≤ Hp.fndD x.ds (x.s.ids.getD j 0)) (fun i _ => x.s.ids.length - (intOf i).toNat)
    case atStart => exact ⟨0, Nat.zero_le _, rfl, Below.refl _ _, fun j hj => absurd hj (by omega)⟩
    case round =>
      obtain ⟨k, hk, rfl, hr, hf⟩ := hrel
      have Hf := Lib.hid hf
      have Hr := Lib.hid hr
      clear hf hr
      have Kr := Lib.hid (K.out.below Hr.out)
      have Wr := Lib.hid (bel_trans W1.out Hr.out)
      have HDr := Lib.hid (H.out.h.below Wr.out HR.out.d)
      by_cases hlt : k < x.s.ids.length
      · obtain ⟨g, rfl, hg1, hg2, hri⟩ := (V.out.below Hr.out (Nat.le_refl _)) (by omega)
        obtain ⟨t, ht⟩ : ∃ t, x.s.ids.getD k 0 = t := ⟨_, rfl⟩
        have c0 := (hri k (by omega)).1
        rw [ht] at c0
        have Ht := Lib.hid ht
        clear hri ht
        obtain ⟨k0, k1, k2, k3, k4, k5, k6, kf⟩ := Kr.out.cells7
        have hk0 : (0 : Int) ≤ (k : Int) := by omega
        have hk1 : (k : Int) < (x.s.ids.length : Int) := by omega
        go_wp2
        go_still_tail 6, (by kernel_rfl)
        change wpList _ _ _ _ _ wr.drew
        go_wp2_with fail
        refine (Hp.specFind_any B _ cb R.c R.d x.ds x.q t wr.drew rfl hm (show Hp.DV wr.drew R.c R.d B x.ds from HDr.out) (show R.d ≤ wr.drew.heap.size from Nat.le_trans HR.out.d Wr.out.size)).mono ?_
        rintro e w4 ⟨rfl, b4⟩
        have W4 := Lib.hid (bel_of_drew b4)
        clear b4 k0 k1 k2 k3 k4 k5 k6 kf c0
        by_cases hneg : Hp.fndD x.ds t < 0
        · have Hno : Hid (sameB x.s x.ds = false) := by
            show sameB x.s x.ds = false
            cases e : sameB x.s x.ds
            · rfl
            · exfalso
              unfold sameB at e
              simp only [Bool.and_eq_true, decide_eq_true_eq, List.all_eq_true] at e
              have := e.2 (x.s.ids.getD k 0) (by simp [List.getD_eq_getElem?_getD, hlt])
              rw [Ht.out] at this
              omega
          go_wp2
          go_ret
          exact ⟨by rw [Ho'.out, Hno.out]; rfl, bel_trans Wr.out W4.out⟩
        · have Hs : Hid (∀ j, j < k + 1 → 0 ≤ Hp.fndD x.ds (x.s.ids.getD j 0)) := fun j hj => by
            by_cases e : j = k
            · subst e; rw [Ht.out]; omega
            · exact Hf.out j (by omega)
          go_wp2
          go_roundw
          case rel => exact ⟨k + 1, by omega, by go_num, bel_trans Hr.out W4.out, Hs.out⟩
          case measure => simp [intOf]; omega
      · obtain rfl : k = x.s.ids.length := by omega
        have Hyes : Hid (sameB x.s x.ds = true) := by
          show sameB x.s x.ds = true
          unfold sameB
          rw [decide_eq_true Hc.out, Bool.true_and, List.all_eq_true]
          intro i hi
          obtain ⟨j, hj, rfl⟩ := List.mem_iff_getElem.1 hi
          have := Hf.out j hj
          simpa [List.getD_eq_getElem?_getD, hj] using this
        go_wp2
        go_ret
        exact ⟨by rw [Ho'.out, Hyes.out]; rfl, Wr.out⟩
  · have hne : (x.s.c != (x.ds.length : Int)) = true := by
      rw [F.out.2.2.2.1]
      simp
      omega
    have Hno : Hid (sameB x.s x.ds = false) := by
      show sameB x.s x.ds = false
      unfold sameB
      rw [decide_eq_false hc]
      rfl
    clear hc
    go_wp2
    go_ret
    exact ⟨by rw [Ho'.out, Hno.out]; rfl, W1.out⟩
end Go.Proofs.Ytehdbdolhkflcaa.Ln

namespace Go.Proofs.Ytehdbdolhkflcaa.Ln
open Go.RowKit Go.Deep Base

/-- At the laws' last comparison: the box of the kept copy and that of the argument. -/
structure Tw (g a : Nat) (vs us : Array Value) (V : World) : Prop where
  x : Bx V g 33 vs
  a : Bx V a 53 us
theorem Tw.below {g a : Nat} {vs us : Array Value} {V W : World} (h : Tw g a vs us V) (hb : Below V.heap.size V W) : Tw g a vs us W := ⟨h.x.below hb, h.a.below hb⟩


end Go.Proofs.Ytehdbdolhkflcaa.Ln

namespace Go.Proofs.Ytehdbdolhkflcaa.Ln
open Go.RowKit Go.Deep Go.ChangeShapes Go.WideShapes Base

section
variable {H : Type} {enc : TypeId × Value → H} {W : World} {base : Nat} {spare : Nat → Bool} {held : Bool}

set_option maxRecDepth 100000 in
theorem queue_cells {fuel : Nat} {cs : List Value} {x : DataW H × List MemPlace} (h : DataW.trod enc Try.prog W base spare held fuel 48 cs = some x) :
    ∃ (A : Option Addr) (ca : Nat) (s : Qx), cs = [.slice A s.ss.length ca, .int .i64 s.f, .int .i64 s.l, .int .i64 s.r, .int .i64 s.c] ∧ s.ss.length ≤ maxLen ∧ Que.LSl W A s.ss := by
  have hC : Try.prog.cellsOf 48 = 5 := by kernel_rfl
  have hI : Try.prog.cellsOf 3 = 1 := by kernel_rfl
  have hS : Try.prog.cellsOf 46 = 1 := by kernel_rfl
  obtain ⟨ys, k, _, _, hcl, hyl, hg⟩ := DataW.trod_struct Try.underlying48 h
  rw [hC] at hcl
  match cs, hcl, ys, hyl with
  | [q0, q1, q2, q3, q4], _, [y0, y1, y2, y3, y4], _ =>
    have g0 : DataW.trod enc Try.prog W base spare held k 46 [q0] = some y0 := by have := hg 0 _ rfl; simpa [hS] using this
    have g1 : DataW.trod enc Try.prog W base spare held k 3 [q1] = some y1 := by have := hg 1 _ rfl; simpa [hI] using this
    have g2 : DataW.trod enc Try.prog W base spare held k 3 [q2] = some y2 := by have := hg 2 _ rfl; simpa [hI] using this
    have g3 : DataW.trod enc Try.prog W base spare held k 3 [q3] = some y3 := by have := hg 3 _ rfl; simpa [hI] using this
    have g4 : DataW.trod enc Try.prog W base spare held k 3 [q4] = some y4 := by have := hg 4 _ rfl; simpa [hI] using this
    obtain ⟨A, n, cap, ss, e0, hn, hm, hl⟩ := Que.open_slots g0
    obtain ⟨n1, e1, _⟩ := DataW.trod_int Try.underlying3 g1
    obtain ⟨n2, e2, _⟩ := DataW.trod_int Try.underlying3 g2
    obtain ⟨n3, e3, _⟩ := DataW.trod_int Try.underlying3 g3
    obtain ⟨n4, e4, _⟩ := DataW.trod_int Try.underlying3 g4
    simp at e0 e1 e2 e3 e4
    subst e0 e1 e2 e3 e4 hn
    exact ⟨A, cap, ⟨ss, n1, n2, n3, n4⟩, rfl, hm, hl⟩

set_option maxRecDepth 100000 in
theorem heap_cells {fuel : Nat} {cs : List Value} {x : DataW H × List MemPlace} (h : DataW.trod enc Try.prog W base spare held fuel 51 cs = some x) :
    ∃ (B : Option Addr) (cb : Nat) (q : Int) (ds : List Hp.Du), cs = [.slice B ds.length cb, .int .i64 q] ∧ ds.length ≤ maxLen ∧ Hp.LD W B ds := by
  have hC : Try.prog.cellsOf 51 = 2 := by kernel_rfl
  have hI : Try.prog.cellsOf 3 = 1 := by kernel_rfl
  have hS : Try.prog.cellsOf 49 = 1 := by kernel_rfl
  obtain ⟨ys, k, _, _, hcl, hyl, hg⟩ := DataW.trod_struct Try.underlying51 h
  rw [hC] at hcl
  match cs, hcl, ys, hyl with
  | [q0, q1], _, [y0, y1], _ =>
    have g0 : DataW.trod enc Try.prog W base spare held k 49 [q0] = some y0 := by have := hg 0 _ rfl; simpa [hS] using this
    have g1 : DataW.trod enc Try.prog W base spare held k 3 [q1] = some y1 := by have := hg 1 _ rfl; simpa [hI] using this
    obtain ⟨B, n, cap, ds, e0, hn, hm, hl⟩ := Hp.open_dues g0
    obtain ⟨n1, e1, _⟩ := DataW.trod_int Try.underlying3 g1
    simp at e0 e1
    subst e0 e1 hn
    exact ⟨B, cap, n1, ds, rfl, hm, hl⟩

set_option maxRecDepth 100000 in
theorem open_line {rr : Reach} {b0 : Nat} {v : Value} {d : DataW H} {p : List MemPlace} (hv : Value.okWide Try.prog W rr b0 53 v) (h : DataW.Trod enc Try.prog W base spare held 53 v d p) :
    ∃ (A : Option Addr) (ca : Nat) (x : Lx) (B : Option Addr) (cb : Nat), v = .agg #[.slice A x.s.ss.length ca, .int .i64 x.s.f, .int .i64 x.s.l, .int .i64 x.s.r, .int .i64 x.s.c, .slice B x.ds.length cb, .int .i64 x.q] ∧ x.s.ss.length ≤ maxLen ∧ x.ds.length ≤ maxLen ∧ Que.LSl W A x.s.ss ∧ Hp.LD W B x.ds := by
  have hC : Try.prog.cellsOf 53 = 7 := by kernel_rfl
  have hQ : Try.prog.cellsOf 48 = 5 := by kernel_rfl
  have hH : Try.prog.cellsOf 51 = 2 := by kernel_rfl
  obtain ⟨cs, rfl, hsz⟩ := okWide_struct Try.underlying53 hv
  obtain ⟨cl⟩ := cs
  obtain ⟨fuel, hf⟩ := h
  obtain ⟨ys, k, _, _, _, hyl, hg⟩ := DataW.trod_struct Try.underlying53 hf
  match cl, hsz.trans hC, ys, hyl with
  | [q0, q1, q2, q3, q4, q5, q6], _, [y0, y1], _ =>
    have g0 : DataW.trod enc Try.prog W base spare held k 48 [q0, q1, q2, q3, q4] = some y0 := by have := hg 0 _ rfl; simpa [hQ, Value.cells] using this
    have g1 : DataW.trod enc Try.prog W base spare held k 51 [q5, q6] = some y1 := by have := hg 1 _ rfl; simpa [hH, Value.cells] using this
    obtain ⟨A, ca, s, e0, hm, hl⟩ := queue_cells g0
    obtain ⟨B, cb, q, ds, e1, hm', hl'⟩ := heap_cells g1
    simp at e0 e1
    obtain ⟨rfl, rfl, rfl, rfl, rfl⟩ := e0
    obtain ⟨rfl, rfl⟩ := e1
    exact ⟨A, ca, ⟨s, ds, q⟩, B, cb, rfl, hm, hm', hl, hl'⟩
end
end Go.Proofs.Ytehdbdolhkflcaa.Ln

namespace Go.Proofs.Ytehdbdolhkflcaa.Ln
open Go.RowKit Go.Deep Base

theorem Bx.turn {w w' : World} {g : Nat} {ty : TypeId} {vs : Array Value} {R : Rg} {lo hi : Nat} (h : Bx w g ty vs) (t : Tz R w w') (hR : R.In lo hi) (hg : g < lo ∨ hi ≤ g) : Bx w' g ty vs := by
  obtain ⟨r1, r2, r3, r4⟩ := hR
  exact h.of_block (t.block g h.lt (by omega) (by omega))

theorem en_few (x : Lx) (t u : Int) (h : x.ds.length ≤ 1048576) : (enX x t u).ds.length ≤ 1048576 := by
  unfold enX
  split
  · exact Hp.schD_len _ _ _ _ h
  · exact h
end Go.Proofs.Ytehdbdolhkflcaa.Ln

namespace Go.Proofs.Ytehdbdolhkflcaa.Ln
open Go.RowKit Go.Deep Base

theorem iv_tz {w w' : World} {R : Rg} {l h : Nat} {C : Option Addr} {zs : List Int} (k : Que.IV w l h C zs) (t : Tz R w w') (hs : h ≤ w.heap.size) (a1 : h ≤ R.a ∨ R.b ≤ l) (a2 : h ≤ R.c ∨ R.d ≤ l) : Que.IV w' l h C zs :=
  k.of_block fun g h1 h2 => t.block g (by omega) (by omega) (by omega)
theorem ln_turns {w w' : World} {R : Rg} {A B : Option Addr} {x : Lx} {l h lo : Nat} (k : LnV w R A B x) (t : Que.Turns l h w w') (hR : R.In lo w.heap.size) (a1 : h ≤ R.a ∨ R.b ≤ l) (a2 : h ≤ R.c ∨ R.d ≤ l) : LnV w' R A B x := by
  obtain ⟨r1, r2, r3, r4⟩ := hR
  exact ⟨k.apart, k.s.of_block fun g h1 h2 => t.block g (by omega) (by omega), k.h.of_block fun g h1 h2 => t.block g (by omega) (by omega)⟩
theorem bx_turns {w w' : World} {g : Nat} {ty : TypeId} {vs : Array Value} {l h : Nat} (k : Bx w g ty vs) (t : Que.Turns l h w w') (hg : g < l ∨ h ≤ g) : Bx w' g ty vs :=
  k.of_block (t.block g k.lt hg)

/-- A new line and a new row of integers come back, apart from each other. -/
def NewLI (w : World) (x : Lx) (zs : List Int) (e : Ending) (w' : World) : Prop :=
  ∃ R A ca B cb C cc l h, e = .returned (.tuple #[.agg #[.slice A x.s.ss.length ca, .int .i64 x.s.f, .int .i64 x.s.l, .int .i64 x.s.r, .int .i64 x.s.c, .slice B x.ds.length cb, .int .i64 x.q], .slice C zs.length cc]) ∧ LnV w' R A B x ∧ R.In w.heap.size w'.heap.size ∧ Que.IV w' l h C zs ∧ w.heap.size ≤ l ∧ h ≤ w'.heap.size ∧ (h ≤ R.a ∨ R.b ≤ l) ∧ (h ≤ R.c ∨ R.d ≤ l) ∧ Below w.heap.size w w'
end Go.Proofs.Ytehdbdolhkflcaa.Ln

namespace Go.Proofs.Ytehdbdolhkflcaa.Ln
open Go.RowKit Go.Deep Base

def llA (x : Lx) : List Int := if okL x = true then x.s.ids else []
def neA (x : Lx) : Int := if (okL x && Hp.nextOk x.ds x.q) = true then (Hp.nextD x.ds x.q).at else -1
def nlX : Lx := ⟨⟨Que.newS, -1, -1, 0, 0⟩, [], 0⟩

set_option maxRecDepth 100000 in
set_option maxHeartbeats 2000000 in
theorem implList_any (A : Option Addr) (ca : Nat) (x : Lx) (B : Option Addr) (cb : Nat) (R : Rg) (w : World) (_hn : x.s.ss.length ≤ 1048576) (hm : x.ds.length ≤ 1048576) (h : LnV w R A B x) (hR : R.In 0 w.heap.size) :
    Calls Try.prog 45 #[.agg #[.slice A x.s.ss.length ca, .int .i64 x.s.f, .int .i64 x.s.l, .int .i64 x.s.r, .int .i64 x.s.c, .slice B x.ds.length cb, .int .i64 x.q]] w (Que.NewI w (llA x)) := by
  have H := Lib.hid h
  have HR := Lib.hid hR
  clear h hR
  go_enter Try.func45, Try.ntmps45
  go_wp2_with fail
  refine (implLineOk_any A ca x B cb R _ hm (H.out.below (bel_alloc w _) HR.out) (HR.out.wide (Nat.le_refl _) (bel_alloc w _).size)).mono ?_
  rintro e w1 ⟨rfl, b1⟩
  have K : Hid (Bx w1 w.heap.size 33 #[.slice A x.s.ss.length ca, .int .i64 x.s.f, .int .i64 x.s.l, .int .i64 x.s.r, .int .i64 x.s.c, .slice B x.ds.length cb, .int .i64 x.q]) := (Bx.new w _ _).below b1
  have W1 := Lib.hid (bel_trans (bel_alloc w _) b1)
  clear b1
  obtain ⟨k0, k1, k2, k3, k4, k5, k6, kf⟩ := K.out.cells7
  cases ho : okL x
  · have Hl : Hid (llA x = []) := by show llA x = []; unfold llA; rw [ho]; rfl
    clear ho
    go_wp2
    go_ret
    rw [Hl.out]
    exact ⟨none, 0, rfl, fun hp => absurd hp (by simp), W1.out⟩
  have Hl : Hid (llA x = x.s.ids) := by show llA x = _; unfold llA; rw [ho]; rfl
  clear ho
  go_wp2_with fail
  refine (Que.implList_any A _ ca R.a R.b x.s.ss _ _ _ _ _ rfl (H.out.s.below W1.out HR.out.b) (Nat.le_trans HR.out.b W1.out.size)).mono ?_
  rintro e w2 ⟨G, cg, rfl, v2, b2⟩
  have e2 : Que.listA x.s.ss x.s.f x.s.l x.s.r x.s.c = x.s.ids := rfl
  rw [e2] at v2 ⊢
  clear e2 k0 k1 k2 k3 k4 k5 k6 kf
  have V := Lib.hid v2
  have z1 := W1.out.size
  have W2 := Lib.hid (bel_trans W1.out b2)
  clear b2 v2
  go_wp2
  go_ret
  rw [Hl.out]
  exact ⟨G, cg, rfl, V.out.wide z1 (Nat.le_refl _), W2.out⟩

set_option maxRecDepth 100000 in
set_option maxHeartbeats 2000000 in
theorem specList_any (A : Option Addr) (ca : Nat) (x : Lx) (B : Option Addr) (cb : Nat) (R : Rg) (w : World) (hn : x.s.ss.length ≤ 1048576) (hm : x.ds.length ≤ 1048576) (h : LnV w R A B x) (hR : R.In 0 w.heap.size) :
    Calls Try.prog 44 #[.agg #[.slice A x.s.ss.length ca, .int .i64 x.s.f, .int .i64 x.s.l, .int .i64 x.s.r, .int .i64 x.s.c, .slice B x.ds.length cb, .int .i64 x.q]] w (Que.NewI w (llA x)) := by
  have H := Lib.hid h
  have HR := Lib.hid hR
  clear h hR
  go_enter Try.func44, Try.ntmps44
  go_wp2_with fail
  refine (specLineOk_any A ca x B cb R _ hn hm (H.out.below (bel_alloc w _) HR.out) (HR.out.wide (Nat.le_refl _) (bel_alloc w _).size)).mono ?_
  rintro e w1 ⟨rfl, b1⟩
  have K : Hid (Bx w1 w.heap.size 33 #[.slice A x.s.ss.length ca, .int .i64 x.s.f, .int .i64 x.s.l, .int .i64 x.s.r, .int .i64 x.s.c, .slice B x.ds.length cb, .int .i64 x.q]) := (Bx.new w _ _).below b1
  have W1 := Lib.hid (bel_trans (bel_alloc w _) b1)
  clear b1
  obtain ⟨k0, k1, k2, k3, k4, k5, k6, kf⟩ := K.out.cells7
  cases ho : okL x
  · have Hl : Hid (llA x = []) := by show llA x = []; unfold llA; rw [ho]; rfl
    clear ho
    go_wp2
    go_ret
    rw [Hl.out]
    exact ⟨none, 0, rfl, fun hp => absurd hp (by simp), W1.out⟩
  have Hl : Hid (llA x = x.s.ids) := by show llA x = _; unfold llA; rw [ho]; rfl
  clear ho
  go_wp2_with fail
  refine (Que.specList_any A _ ca x.s.ss _ _ _ _ R.a R.b _ rfl hn (H.out.s.below W1.out HR.out.b) (Nat.le_trans HR.out.b W1.out.size)).mono ?_
  rintro e w2 ⟨G, cg, rfl, v2, b2⟩
  have e2 : Que.listA x.s.ss x.s.f x.s.l x.s.r x.s.c = x.s.ids := rfl
  rw [e2] at v2 ⊢
  clear e2 k0 k1 k2 k3 k4 k5 k6 kf
  have V := Lib.hid v2
  have z1 := W1.out.size
  have W2 := Lib.hid (bel_trans W1.out b2)
  clear b2 v2
  go_wp2
  go_ret
  rw [Hl.out]
  exact ⟨G, cg, rfl, V.out.wide z1 (Nat.le_refl _), W2.out⟩

set_option maxRecDepth 100000 in
set_option maxHeartbeats 2000000 in
theorem implNextE_any (A : Option Addr) (ca : Nat) (x : Lx) (B : Option Addr) (cb : Nat) (R : Rg) (w : World) (_hn : x.s.ss.length ≤ 1048576) (hm : x.ds.length ≤ 1048576) (h : LnV w R A B x) (hR : R.In 0 w.heap.size) :
    Calls Try.prog 49 #[.agg #[.slice A x.s.ss.length ca, .int .i64 x.s.f, .int .i64 x.s.l, .int .i64 x.s.r, .int .i64 x.s.c, .slice B x.ds.length cb, .int .i64 x.q]] w fun e w' => e = .returned (.int .i64 (neA x)) ∧ Below w.heap.size w w' := by
  have H := Lib.hid h
  have HR := Lib.hid hR
  clear h hR
  go_enter Try.func49, Try.ntmps49
  go_wp2_with fail
  refine (Hp.implNext_any B _ cb R.c R.d x.ds _ _ rfl hm (H.out.h.below (bel_alloc w _) HR.out.d) (Nat.le_trans HR.out.d (bel_alloc w _).size)).mono ?_
  rintro e w1 ⟨rfl, b1⟩
  obtain ⟨dd, hdd⟩ : ∃ dd, Hp.nextD x.ds x.q = dd := ⟨_, rfl⟩
  obtain ⟨nb, hnb⟩ : ∃ nb, Hp.nextOk x.ds x.q = nb := ⟨_, rfl⟩
  rw [hdd, hnb]
  have Hdd := Lib.hid hdd
  have Hnb := Lib.hid hnb
  clear hdd hnb
  obtain ⟨w2, hw2⟩ : ∃ w2, w1.alloc (.cells #[.int .i64 dd.at, .int .i64 dd.seq, .int .i64 dd.id] 108) = w2 := ⟨_, rfl⟩
  have b12 : Below w1.heap.size w1 w2 := by rw [← hw2]; exact bel_alloc w1 _
  have D : Hid (Bx w2 w1.heap.size 108 #[.int .i64 dd.at, .int .i64 dd.seq, .int .i64 dd.id]) := by rw [← hw2]; exact Bx.new w1 _ _
  have K : Hid (Bx w2 w.heap.size 33 #[.slice A x.s.ss.length ca, .int .i64 x.s.f, .int .i64 x.s.l, .int .i64 x.s.r, .int .i64 x.s.c, .slice B x.ds.length cb, .int .i64 x.q]) := ((Bx.new w _ _).below b1).below b12
  have W1 := Lib.hid (bel_trans (bel_trans (bel_alloc w _) b1) b12)
  clear b1 b12
  obtain ⟨k0, k1, k2, k3, k4, k5, k6, kf⟩ := K.out.cells7
  go_wp2_with fail
  refine (implLineOk_any A ca x B cb R _ hm (H.out.below W1.out HR.out) (HR.out.wide (Nat.le_refl _) W1.out.size)).mono ?_
  rintro e w3 ⟨rfl, b3⟩
  replace D := Lib.hid (D.out.below b3)
  replace W1 := Lib.hid (bel_trans W1.out b3)
  clear b3 k0 k1 k2 k3 k4 k5 k6 kf hw2
  cases ho : okL x
  · have Ha : Hid (neA x = -1) := by show neA x = -1; unfold neA; rw [ho]; rfl
    clear ho
    go_wp2
    go_ret
    exact ⟨ret_int (by rw [Ha.out]), W1.out⟩
  cases nb
  · have Ha : Hid (neA x = -1) := by show neA x = -1; unfold neA; rw [ho, Hnb.out]; rfl
    clear ho
    go_wp2
    go_ret
    exact ⟨ret_int (by rw [Ha.out]), W1.out⟩
  have Ha : Hid (neA x = dd.at) := by show neA x = _; unfold neA; rw [ho, Hnb.out, Hdd.out]; rfl
  clear ho
  have d0 := D.out.cell 0
  go_wp2
  go_ret
  exact ⟨ret_int (by rw [Ha.out]), W1.out⟩

set_option maxRecDepth 100000 in
set_option maxHeartbeats 2000000 in
theorem specNextE_any (A : Option Addr) (ca : Nat) (x : Lx) (B : Option Addr) (cb : Nat) (R : Rg) (w : World) (hn : x.s.ss.length ≤ 1048576) (hm : x.ds.length ≤ 1048576) (h : LnV w R A B x) (hR : R.In 0 w.heap.size) :
    Calls Try.prog 46 #[.agg #[.slice A x.s.ss.length ca, .int .i64 x.s.f, .int .i64 x.s.l, .int .i64 x.s.r, .int .i64 x.s.c, .slice B x.ds.length cb, .int .i64 x.q]] w fun e w' => e = .returned (.int .i64 (neA x)) ∧ Below w.heap.size w w' := by
  have H := Lib.hid h
  have HR := Lib.hid hR
  clear h hR
  go_enter Try.func46, Try.ntmps46
  go_wp2_with fail
  refine (specLineOk_any A ca x B cb R _ hn hm (H.out.below (bel_alloc w _) HR.out) (HR.out.wide (Nat.le_refl _) (bel_alloc w _).size)).mono ?_
  rintro e w1 ⟨rfl, b1⟩
  have K : Hid (Bx w1 w.heap.size 33 #[.slice A x.s.ss.length ca, .int .i64 x.s.f, .int .i64 x.s.l, .int .i64 x.s.r, .int .i64 x.s.c, .slice B x.ds.length cb, .int .i64 x.q]) := (Bx.new w _ _).below b1
  have W1 := Lib.hid (bel_trans (bel_alloc w _) b1)
  clear b1
  obtain ⟨k0, k1, k2, k3, k4, k5, k6, kf⟩ := K.out.cells7
  cases ho : okL x
  · have Ha : Hid (neA x = -1) := by show neA x = -1; unfold neA; rw [ho]; rfl
    clear ho
    go_wp2
    go_ret
    exact ⟨ret_int (by rw [Ha.out]), W1.out⟩
  have Ho := Lib.hid ho
  clear ho
  go_wp2_with fail
  refine (Hp.specNext_any B _ cb R.c R.d x.ds _ _ rfl hm (H.out.h.below W1.out HR.out.d) (Nat.le_trans HR.out.d W1.out.size)).mono ?_
  rintro e w2 ⟨rfl, b2⟩
  obtain ⟨dd, hdd⟩ : ∃ dd, Hp.nextD x.ds x.q = dd := ⟨_, rfl⟩
  obtain ⟨nb, hnb⟩ : ∃ nb, Hp.nextOk x.ds x.q = nb := ⟨_, rfl⟩
  rw [hdd, hnb]
  have Hdd := Lib.hid hdd
  have Hnb := Lib.hid hnb
  clear hdd hnb k0 k1 k2 k3 k4 k5 k6 kf
  have W2 := Lib.hid (bel_trans (bel_trans W1.out b2) (bel_alloc w2 (.cells #[.int .i64 dd.at, .int .i64 dd.seq, .int .i64 dd.id] 108)))
  clear b2
  cases nb
  · have Ha : Hid (neA x = -1) := by show neA x = -1; unfold neA; rw [Ho.out, Hnb.out]; rfl
    go_wp2
    go_ret
    exact ⟨ret_int (by rw [Ha.out]), W2.out⟩
  have Ha : Hid (neA x = dd.at) := by show neA x = _; unfold neA; rw [Ho.out, Hnb.out, Hdd.out]; rfl
  go_wp2
  go_ret
  exact ⟨ret_int (by rw [Ha.out]), W2.out⟩

set_option maxRecDepth 100000 in
set_option maxHeartbeats 2000000 in
theorem implNewLine_any (w : World) : Calls Try.prog 27 #[] w (NewL w nlX) := by
  go_enter Try.func27, Try.ntmps27
  go_wp2_with fail
  refine (Que.implNew_any _).mono ?_
  rintro e w1 ⟨A1, c1, rfl, v1, b1⟩
  have Q : Hid (Bx w1 w.heap.size 33 #[.slice none 0 0, .int .i64 0, .int .i64 0, .int .i64 0, .int .i64 0, .slice none 0 0, .int .i64 0]) := (Bx.new w _ _).below b1
  have W1 := Lib.hid (bel_trans (bel_alloc w _) b1)
  have V := Lib.hid v1
  rw [World.size_alloc] at V
  have z1 := Q.out.lt
  clear b1 v1
  obtain ⟨q0, q1, q2, q3, q4, q5, q6, qf⟩ := Q.out.cells7
  go_wp2_with fail
  refine bodyPost_ret (v := .agg #[.slice A1 60 c1, .int .i64 (-1), .int .i64 (-1), .int .i64 0, .int .i64 0, .slice none 0 0, .int .i64 0]) (by simp [results, Try.results27, go_sem, q0, q1, q2, q3, q4, q5, q6]) rfl ⟨⟨w.heap.size + 1, w1.heap.size, w1.heap.size, w1.heap.size⟩, A1, c1, none, 0, by rfl, ?_⟩
  exact new_sto (g := w.heap.size) (o := 0) (r := [.slice A1 60 c1, .int .i64 (-1), .int .i64 (-1), .int .i64 0, .int .i64 0, .slice none 0 0, .int .i64 0]) (v := w1) (n := w1.heap.size) (x := nlX)
    ⟨.inl (Nat.le_refl _), V.out, fun hp => absurd hp (by simp [nlX])⟩ ⟨Nat.le_refl _, Nat.le_refl _, z1, Nat.le_refl _⟩ (Nat.le_refl _) W1.out (Nat.le_refl _)

set_option maxRecDepth 100000 in
set_option maxHeartbeats 2000000 in
theorem specNewLine_any (w : World) : Calls Try.prog 25 #[] w (NewL w nlX) := by
  go_enter Try.func25, Try.ntmps25
  go_wp2_with fail
  refine (Que.specNew_any _).mono ?_
  rintro e w1 ⟨A1, c1, rfl, v1, b1⟩
  have Q : Hid (Bx w1 w.heap.size 33 #[.slice none 0 0, .int .i64 0, .int .i64 0, .int .i64 0, .int .i64 0, .slice none 0 0, .int .i64 0]) := (Bx.new w _ _).below b1
  have W1 := Lib.hid (bel_trans (bel_alloc w _) b1)
  have V := Lib.hid v1
  rw [World.size_alloc] at V
  have z1 := Q.out.lt
  clear b1 v1
  obtain ⟨q0, q1, q2, q3, q4, q5, q6, qf⟩ := Q.out.cells7
  go_wp2_with fail
  refine bodyPost_ret (v := .agg #[.slice A1 60 c1, .int .i64 (-1), .int .i64 (-1), .int .i64 0, .int .i64 0, .slice none 0 0, .int .i64 0]) (by simp [results, Try.results25, go_sem, q0, q1, q2, q3, q4, q5, q6]) rfl ⟨⟨w.heap.size + 1, w1.heap.size, w1.heap.size, w1.heap.size⟩, A1, c1, none, 0, by rfl, ?_⟩
  exact new_sto (g := w.heap.size) (o := 0) (r := [.slice A1 60 c1, .int .i64 (-1), .int .i64 (-1), .int .i64 0, .int .i64 0, .slice none 0 0, .int .i64 0]) (v := w1) (n := w1.heap.size) (x := nlX)
    ⟨.inl (Nat.le_refl _), V.out, fun hp => absurd hp (by simp [nlX])⟩ ⟨Nat.le_refl _, Nat.le_refl _, z1, Nat.le_refl _⟩ (Nat.le_refl _) W1.out (Nat.le_refl _)

end Go.Proofs.Ytehdbdolhkflcaa.Ln
