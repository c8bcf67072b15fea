/- The operations of a waiting line on plain data; a valid line stays valid. Plain mathematics. -/
import Derived.Test.YtpjelojmkmednaaLx0
namespace Go.Proofs.Ytpjelojmkmednaa.Ln
open Go.RowKit Go.Deep Base

def okL (x : Lx) : Bool := x.s.ok && Hp.okH x.ds x.q && decide (x.s.ids.length = x.ds.length) && x.s.ids.all fun i => decide (0 ≤ Hp.fndD x.ds i)
def dids (ds : List Hp.Du) : List Int := ds.map Hp.Du.id

structure LV (x : Lx) : Prop where
  ok : x.s.ok = true
  hp : Hp.HV x.ds x.q
  same : x.s.ids.Perm (dids x.ds)

theorem fnd_yes {ds : List Hp.Du} {i : Int} (h : i ∈ dids ds) : ∃ k : Nat, Hp.fndD ds i = (k : Int) ∧ k < ds.length ∧ (ds.getD k Hp.zDu).id = i := by
  have hn : ¬ Hp.fndD ds i < 0 := by
    intro hlt
    unfold Hp.fndD at hlt
    cases e : ds.findIdx? (fun d => d.id == i) with
    | some k => rw [e] at hlt; simp at hlt; omega
    | none =>
      rw [List.findIdx?_eq_none_iff] at e
      obtain ⟨d, hd, rfl⟩ := List.mem_map.1 h
      have := e d hd
      simp at this
  obtain ⟨k, hk, hlt⟩ := Hp.fndD_lt hn
  refine ⟨k, hk, hlt, ?_⟩
  unfold Hp.fndD at hk
  cases e : ds.findIdx? (fun d => d.id == i) with
  | none => rw [e] at hk; simp at hk
  | some j =>
    rw [e] at hk
    have hj : j = k := Int.ofNat.inj hk
    subst hj
    rw [List.findIdx?_eq_some_iff_getElem] at e
    obtain ⟨h1, h2, _⟩ := e
    simpa [List.getD_eq_getElem?_getD, h1] using h2

theorem fnd_no {ds : List Hp.Du} {i : Int} (h : i ∉ dids ds) : Hp.fndD ds i = -1 :=
  Hp.fndD_not fun j hj e => h (List.mem_map.2 ⟨ds.getD j Hp.zDu, by simp [List.getD_eq_getElem?_getD, hj], e⟩)

theorem fnd_iff {ds : List Hp.Du} {i : Int} : 0 ≤ Hp.fndD ds i ↔ i ∈ dids ds := by
  constructor
  · intro h
    by_cases hm : i ∈ dids ds
    · exact hm
    · rw [fnd_no hm] at h; omega
  · intro h
    obtain ⟨k, hk, _⟩ := fnd_yes h
    omega

theorem perm_of : ∀ {a b : List Int}, a.Nodup → (∀ x ∈ a, x ∈ b) → b.length ≤ a.length → a.Perm b
  | [], b, _, _, hl => by
    have : b = [] := List.length_eq_zero_iff.1 (by simpa using hl)
    subst this
    exact List.Perm.refl _
  | x :: a, b, hn, hs, hl => by
    obtain ⟨hx, hn'⟩ := List.nodup_cons.1 hn
    have hb : x ∈ b := hs x (by simp)
    have hp := List.perm_cons_erase hb
    refine (List.Perm.cons x (perm_of hn' (fun y hy => ?_) ?_)).trans hp.symm
    · have hne : y ≠ x := fun e => hx (by rw [← e]; exact hy)
      exact (List.mem_erase_of_ne hne).2 (hs y (by simp [hy]))
    · rw [List.length_erase_of_mem hb]
      simp at hl
      omega

theorem dids_nodup {ds : List Hp.Du} {q : Int} (h : Hp.HV ds q) : (dids ds).Nodup :=
  (Hp.apart_iff (f := Hp.Du.id)).1 fun i j hj hi => (h.apart i j hj hi).1

theorem okL_iff {x : Lx} : okL x = true ↔ LV x := by
  constructor
  · intro h
    unfold okL at h
    simp only [Bool.and_eq_true, decide_eq_true_eq, List.all_eq_true] at h
    obtain ⟨⟨⟨h1, h2⟩, h3⟩, h4⟩ := h
    exact ⟨h1, Hp.okH_val h2, perm_of (Qx.ids_facts h1).1 (fun i hi => fnd_iff.1 (h4 i hi)) (by simp [dids]; omega)⟩
  · intro h
    unfold okL
    rw [h.ok, Hp.okH_true h.hp, decide_eq_true (by simpa [dids] using h.same.length_eq)]
    simp only [Bool.true_and, List.all_eq_true, decide_eq_true_eq]
    exact fun i hi => fnd_iff.2 (h.same.subset hi)
theorem okL_no {x : Lx} (h : ¬ LV x) : okL x = false := by
  cases e : okL x
  · rfl
  · exact absurd (okL_iff.1 e) h

/-- What is in the heap when ticket t has left it. -/
theorem can_yes {ds : List Hp.Du} {q t : Int} (h : Hp.HV ds q) (ht : t ∈ dids ds) : Hp.canB ds q t = true ∧ Hp.HV (Hp.canD ds q t) q ∧ (dids (Hp.canD ds q t)).Perm ((dids ds).erase t) := by
  obtain ⟨k, hk, hlt, hid⟩ := fnd_yes ht
  have ho := Hp.okH_true h
  refine ⟨Hp.canB_yes ho hk, ?_, ?_⟩
  · rw [Hp.canD_yes ho hk]; exact Hp.rem_val h hlt
  · rw [Hp.canD_yes ho hk]
    have hp := (Hp.rem_perm hlt).map Hp.Du.id
    rw [List.map_cons, hid] at hp
    have := hp.erase t
    rw [List.erase_cons_head] at this
    exact this
theorem can_no {ds : List Hp.Du} {q t : Int} (ht : t ∉ dids ds) : Hp.canB ds q t = false ∧ Hp.canD ds q t = ds := by
  have h1 := Hp.canB_none (q := q) (id := t) (ds := ds) (by rw [fnd_no ht]; omega)
  exact ⟨h1, Hp.canD_no h1⟩

/-- A ticket leaves. -/
def lvX (x : Lx) (t : Int) : Lx := if okL x = true then ⟨x.s.remAt (x.s.place t), Hp.canD x.ds x.q t, x.q⟩ else x
def lvB (x : Lx) (t : Int) : Bool := okL x && decide (t ∈ x.s.ids)

theorem lv_bad {x : Lx} {t : Int} (h : okL x = false) : lvX x t = x ∧ lvB x t = false := by
  unfold lvX lvB
  rw [if_neg (by rw [h]; simp), h]
  exact ⟨rfl, rfl⟩
theorem lv_ok {x : Lx} (t : Int) (h : okL x = true) : lvX x t = ⟨x.s.remAt (x.s.place t), Hp.canD x.ds x.q t, x.q⟩ ∧ lvB x t = decide (t ∈ x.s.ids) := by
  unfold lvX lvB
  rw [if_pos h, h]
  exact ⟨rfl, rfl⟩
theorem lv_none {x : Lx} {t : Int} (h : LV x) (ht : t ∉ x.s.ids) : x.s.place t = -1 ∧ x.s.remAt (-1) = x.s ∧ Hp.canD x.ds x.q t = x.ds ∧ Hp.canB x.ds x.q t = false ∧ lvX x t = x ∧ lvB x t = false := by
  have h1 := Qx.place_no h.ok ht
  have h2 := (Qx.remAt_no (Qx.can_neg x.s)).1
  obtain ⟨h3, h4⟩ := can_no (q := x.q) (fun hm => ht (h.same.symm.subset hm) : t ∉ dids x.ds)
  obtain ⟨h5, h6⟩ := lv_ok t (okL_iff.2 h)
  refine ⟨h1, h2, h4, h3, ?_, ?_⟩
  · rw [h5, h1, h2, h4]
  · rw [h6, decide_eq_false ht]
theorem lv_some {x : Lx} {t : Int} (h : LV x) (ht : t ∈ x.s.ids) : 0 ≤ x.s.place t ∧ Hp.canB x.ds x.q t = true ∧ lvB x t = true ∧ LV (lvX x t) ∧ (lvX x t).s.ids = x.s.ids.erase t ∧ (dids (lvX x t).ds).Perm ((dids x.ds).erase t) := by
  obtain ⟨p, h1, h2, h3, h4, h5, h6, _⟩ := Qx.place_yes h.ok ht
  obtain ⟨h7, h8, h9⟩ := can_yes h.hp (h.same.subset ht)
  obtain ⟨e1, e2⟩ := lv_ok t (okL_iff.2 h)
  refine ⟨by omega, h7, by rw [e2, decide_eq_true ht], ?_, ?_, ?_⟩
  · rw [e1, h1]
    exact ⟨h5, h8, by rw [h6]; exact (h.same.erase t).trans h9.symm⟩
  · rw [e1, h1]; exact h6
  · rw [e1]; exact h9
theorem lv_val {x : Lx} (t : Int) (h : LV x) : LV (lvX x t) := by
  by_cases ht : t ∈ x.s.ids
  · exact (lv_some h ht).2.2.2.1
  · rw [(lv_none h ht).2.2.2.2.1]; exact h
theorem lvX_len (x : Lx) (t : Int) : (lvX x t).s.ss.length = x.s.ss.length := by
  unfold lvX
  split
  · exact Qx.remAt_len _ _
  · rfl
theorem lvX_few (x : Lx) (t : Int) : (lvX x t).ds.length ≤ x.ds.length := by
  unfold lvX
  split
  · exact Hp.canD_len _ _ _
  · exact Nat.le_refl _

/-- A ticket comes. -/
def enB (x : Lx) (t u : Int) : Bool := okL x && x.s.may t && Hp.schB x.ds x.q t u
def enX (x : Lx) (t u : Int) : Lx := if enB x t u = true then ⟨x.s.push t, Hp.schD x.ds x.q t u, Hp.schQ x.ds x.q t u⟩ else x
theorem en_no {x : Lx} {t u : Int} (h : enB x t u = false) : enX x t u = x := by unfold enX; rw [if_neg (by rw [h]; simp)]
theorem en_yes {x : Lx} {t u : Int} (h : enB x t u = true) : enX x t u = ⟨x.s.push t, Hp.schD x.ds x.q t u, Hp.schQ x.ds x.q t u⟩ := by unfold enX; rw [if_pos h]
theorem enX_len (x : Lx) (t u : Int) : (enX x t u).s.ss.length = x.s.ss.length := by
  unfold enX
  split
  · exact Qx.push_len _ _
  · rfl

/-- The first ticket is served. -/
def sfT (x : Lx) : Int := if okL x = true then x.s.ids.headD 0 else 0
def sfX (x : Lx) : Lx := if okL x = true then ⟨x.s.remAt x.s.f, Hp.canD x.ds x.q (x.s.idAt x.s.f), x.q⟩ else x
theorem sf_bad {x : Lx} (h : okL x = false) : sfX x = x ∧ sfT x = 0 := by
  unfold sfX sfT
  rw [if_neg (by rw [h]; simp), if_neg (by rw [h]; simp)]
  exact ⟨rfl, rfl⟩
theorem sf_ok {x : Lx} (h : okL x = true) : sfX x = ⟨x.s.remAt x.s.f, Hp.canD x.ds x.q (x.s.idAt x.s.f), x.q⟩ ∧ sfT x = x.s.idAt x.s.f := by
  have v := okL_iff.1 h
  unfold sfX sfT
  rw [if_pos h, if_pos h]
  refine ⟨rfl, ?_⟩
  cases e : x.s.ids with
  | nil =>
    rw [Qx.first_no v.ok e, (Qx.remAt_no (Qx.can_neg x.s)).2]
    rfl
  | cons t r =>
    obtain ⟨p, h1, h2, h3, h4, h5, h6, h7⟩ := Qx.place_yes (t := t) v.ok (by rw [e]; simp)
    rw [h7 r e, h4]
    rfl
theorem sf_none {x : Lx} (h : LV x) (hi : x.s.ids = []) : sfX x = x ∧ sfT x = 0 := by
  have ho := okL_iff.2 h
  have h0 : x.s.idAt (-1) = 0 := (Qx.remAt_no (Qx.can_neg x.s)).2
  have hd : (0 : Int) ∉ dids x.ds := fun hm => by
    have := h.same.symm.subset hm
    rw [hi] at this
    cases this
  refine ⟨?_, ?_⟩
  · rw [(sf_ok ho).1, Qx.first_no h.ok hi, h0, (Qx.remAt_no (Qx.can_neg x.s)).1, (can_no hd).2]
  · rw [(sf_ok ho).2, Qx.first_no h.ok hi, h0]
theorem sf_some {x : Lx} {t : Int} {r : List Int} (h : LV x) (hi : x.s.ids = t :: r) : sfX x = lvX x t ∧ sfT x = t := by
  have ho := okL_iff.2 h
  obtain ⟨p, h1, h2, h3, h4, h5, h6, h7⟩ := Qx.place_yes (t := t) h.ok (by rw [hi]; simp)
  have hf := h7 r hi
  refine ⟨?_, ?_⟩
  · rw [(sf_ok ho).1, (lv_ok t ho).1, hf, h4, h1]
  · rw [(sf_ok ho).2, hf, h4]
theorem sfX_len (x : Lx) : (sfX x).s.ss.length = x.s.ss.length := by
  unfold sfX
  split
  · exact Qx.remAt_len _ _
  · rfl
theorem sfX_few (x : Lx) : (sfX x).ds.length ≤ x.ds.length := by
  unfold sfX
  split
  · exact Hp.canD_len _ _ _
  · exact Nat.le_refl _
theorem sf_val {x : Lx} (h : LV x) : LV (sfX x) := by
  cases e : x.s.ids with
  | nil => rw [(sf_none h e).1]; exact h
  | cons t r => rw [(sf_some h e).1]; exact lv_val t h

/-- The tickets of a list leave one after the other. -/
def lvAll : List Int → Lx → Lx
  | [], x => x
  | t :: ts, x => lvAll ts (lvX x t)
def quAll : List Int → Qx → Qx
  | [], s => s
  | t :: ts, s => quAll ts (s.remAt (s.place t))
theorem lvAll_snoc (t : Int) : ∀ (ts : List Int) (x : Lx), lvAll (ts ++ [t]) x = lvX (lvAll ts x) t
  | [], _ => rfl
  | a :: ts, x => lvAll_snoc t ts (lvX x a)
theorem quAll_snoc (t : Int) : ∀ (ts : List Int) (s : Qx), quAll (ts ++ [t]) s = (quAll ts s).remAt ((quAll ts s).place t)
  | [], _ => rfl
  | a :: ts, s => quAll_snoc t ts (s.remAt (s.place a))
theorem lvAll_val : ∀ (ts : List Int) {x : Lx}, LV x → LV (lvAll ts x)
  | [], _, h => h
  | t :: ts, _, h => lvAll_val ts (lv_val t h)
theorem lvAll_len : ∀ (ts : List Int) (x : Lx), (lvAll ts x).s.ss.length = x.s.ss.length
  | [], _ => rfl
  | t :: ts, x => (lvAll_len ts (lvX x t)).trans (lvX_len x t)
theorem lvAll_few : ∀ (ts : List Int) (x : Lx), (lvAll ts x).ds.length ≤ x.ds.length
  | [], _ => Nat.le_refl _
  | t :: ts, x => Nat.le_trans (lvAll_few ts (lvX x t)) (lvX_few x t)
theorem quAll_len : ∀ (ts : List Int) (s : Qx), (quAll ts s).ss.length = s.ss.length
  | [], _ => rfl
  | t :: ts, s => (quAll_len ts (s.remAt (s.place t))).trans (Qx.remAt_len _ _)

/-- What is due leaves: the queue loses the tickets one by one, the heap is what is left of it. -/
theorem lvAll_pop (now : Int) : ∀ (F : Nat) {x : Lx}, LV x → x.ds.length ≤ F → lvAll (Hp.popI F x.ds now) x = ⟨quAll (Hp.popI F x.ds now) x.s, Hp.popR F x.ds now, x.q⟩
  | 0, x, h, hl => rfl
  | F + 1, x, h, hl => by
    cases e : Hp.dueB x.ds now
    · obtain ⟨e1, e2⟩ := Hp.pop_stop (F := F + 1) e
      rw [e1, e2]
      rfl
    · obtain ⟨e1, e2⟩ := Hp.pop_go (F := F) e
      have hpos := (Hp.due_pos e).1
      have hx := (lv_ok (x.ds.getD 0 Hp.zDu).id (okL_iff.2 h)).1
      have hd : Hp.canD x.ds x.q (x.ds.getD 0 Hp.zDu).id = Hp.remD x.ds 0 := Hp.canD_yes (Hp.okH_true h.hp) (Hp.fndD_first hpos)
      rw [hd] at hx
      have ih := lvAll_pop now F (x := lvX x (x.ds.getD 0 Hp.zDu).id) (lv_val _ h) (by
        rw [hx]
        show (Hp.remD x.ds 0).length ≤ F
        rw [Hp.remD_len]
        omega)
      rw [e1, e2]
      show lvAll (Hp.popI F (Hp.remD x.ds 0) now) (lvX x _) = _
      rw [hx] at ih ⊢
      exact ih

def exX (x : Lx) (now : Int) : Lx := if okL x = true then ⟨quAll (Hp.popL x.ds x.q now) x.s, Hp.popD x.ds x.q now, x.q⟩ else x
def exL (x : Lx) (now : Int) : List Int := if okL x = true then Hp.popL x.ds x.q now else []
theorem ex_bad {x : Lx} {now : Int} (h : okL x = false) : exX x now = x ∧ exL x now = [] := by
  unfold exX exL
  rw [if_neg (by rw [h]; simp), if_neg (by rw [h]; simp)]
  exact ⟨rfl, rfl⟩
theorem ex_ok {x : Lx} (now : Int) (h : okL x = true) : exX x now = ⟨quAll (Hp.popL x.ds x.q now) x.s, Hp.popD x.ds x.q now, x.q⟩ ∧ exL x now = Hp.popL x.ds x.q now ∧ exX x now = lvAll (Hp.popL x.ds x.q now) x := by
  have v := okL_iff.1 h
  have hL : exX x now = ⟨quAll (Hp.popL x.ds x.q now) x.s, Hp.popD x.ds x.q now, x.q⟩ := by unfold exX; rw [if_pos h]
  refine ⟨hL, by unfold exL; rw [if_pos h], ?_⟩
  rw [hL]
  have hk := Hp.okH_true v.hp
  unfold Hp.popL Hp.popD
  rw [if_pos hk, if_pos hk]
  exact (lvAll_pop now x.ds.length v (Nat.le_refl _)).symm
theorem exX_len (x : Lx) (now : Int) : (exX x now).s.ss.length = x.s.ss.length := by
  unfold exX
  split
  · exact quAll_len _ _
  · rfl
theorem exX_few (x : Lx) (now : Int) : (exX x now).ds.length ≤ x.ds.length := by
  cases h : okL x
  · rw [(ex_bad h).1]; exact Nat.le_refl _
  · rw [(ex_ok now h).2.2]; exact lvAll_few _ _
end Go.Proofs.Ytpjelojmkmednaa.Ln
