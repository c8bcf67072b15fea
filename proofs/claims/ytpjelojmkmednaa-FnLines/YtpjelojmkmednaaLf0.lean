/- The law on lines, its mathematics: a plain list of tickets with their deadlines beside the line. -/
import Derived.Test.YtpjelojmkmednaaLll
import Derived.Test.YtpjelojmkmednaaLfX
namespace Go.Proofs.Ytpjelojmkmednaa.Hp
open Go.RowKit Go.Deep Base

theorem getD_snoc {ds : List Du} {d : Du} {i : Nat} : (ds ++ [d]).getD i zDu = if i < ds.length then ds.getD i zDu else if i = ds.length then d else zDu := by
  simp only [List.getD_eq_getElem?_getD]
  by_cases h : i < ds.length
  · rw [if_pos h, List.getElem?_append_left h]
  · rw [if_neg h, List.getElem?_append_right (by omega)]
    by_cases e : i = ds.length
    · subst e; simp
    · rw [if_neg e, List.getElem?_eq_none (by simp; omega)]
      rfl

theorem add_perm (ds : List Du) (d : Du) : (addD ds d).Perm (d :: ds) := by
  unfold addD
  refine (up_perm _ _ _ (by simp)).trans ?_
  exact (List.perm_append_comm (l₁ := ds) (l₂ := [d])).trans (List.Perm.refl _)

/-- A new item, later than all that are there by its number: still valid. -/
theorem add_val {ds : List Du} {q : Int} {d : Du} (h : HV ds q) (hl : ds.length < 100) (hd : d.seq = q + 1) (hat : Tick.isT d.at = true) (hid : Tick.inB d.id 1 1000000000 = true) (hq : Tick.isT (q + 1) = true) (hnew : d.id ∉ ds.map Du.id) : HV (addD ds d) (q + 1) := by
  have hp := add_perm ds d
  have hq0 : 0 ≤ q := by
    have := Tick.isT_iff.1 h.tick
    omega
  have hsq : ∀ e ∈ ds, 1 ≤ e.seq ∧ e.seq ≤ q := fun e he => by
    have := each_iff.1 h.each e he
    unfold okD Tick.inB at this
    simp at this
    omega
  have hok : ∀ e ∈ d :: ds, okD (q + 1) e = true := by
    intro e he
    rcases List.mem_cons.1 he with rfl | he
    · unfold okD
      rw [hat, hid, Tick.inB_true (by omega) (by omega)]
      rfl
    · have h1 := each_iff.1 h.each e he
      have h2 := hsq e he
      unfold okD at h1 ⊢
      simp only [Bool.and_eq_true] at h1 ⊢
      exact ⟨⟨h1.1.1, Tick.inB_true (by omega) (by omega)⟩, h1.2⟩
  have hn1 : (ds.map Du.id).Nodup := apart_iff.1 (fun i j hj hi => (h.apart i j hj hi).1)
  have hn2 : (ds.map Du.seq).Nodup := apart_iff.1 (fun i j hj hi => (h.apart i j hj hi).2)
  have hm1 : ((addD ds d).map Du.id).Nodup := (hp.map Du.id).nodup_iff.2 (List.nodup_cons.2 ⟨hnew, hn1⟩)
  have hm2 : ((addD ds d).map Du.seq).Nodup := (hp.map Du.seq).nodup_iff.2 (List.nodup_cons.2 ⟨fun hm => by
    obtain ⟨e, he, he2⟩ := List.mem_map.1 hm
    have := hsq e he
    omega, hn2⟩)
  refine ⟨by rw [addD_len]; omega, hq, each_iff.2 fun e he => hok e (hp.subset he), fun i j hj hi => ⟨apart_iff.2 hm1 i j hj hi, apart_iff.2 hm2 i j hj hi⟩, ?_⟩
  unfold addD
  refine up_heap _ _ _ (by simp) (Nat.le_refl _) ⟨fun i h0 hi hne => ?_, fun hk i h0 hi hpi => ?_⟩
  · rw [List.length_append, List.length_singleton] at hi
    have hpl : par i < ds.length := by unfold par; omega
    rw [getD_snoc, getD_snoc, if_pos (by omega), if_pos hpl]
    exact h.heap i h0 (by omega)
  · exfalso
    rw [List.length_append, List.length_singleton] at hi
    unfold par at hpi
    omega
end Go.Proofs.Ytpjelojmkmednaa.Hp

namespace Go.Proofs.Ytpjelojmkmednaa.Ln
open Go.RowKit Go.Deep Base

def pairs (ds : List Hp.Du) : List (Int × Int) := ds.map fun d => (d.id, d.at)

/-- The line x stands beside the tickets L with the deadlines U, after k steps. -/
structure Pl (x : Lx) (L U : List Int) (now tk k : Int) : Prop where
  lv : LV x
  ids : x.s.ids = L
  len : U.length = L.length
  pr : (pairs x.ds).Perm (L.zip U)
  tk0 : 0 ≤ tk
  tk1 : tk ≤ k
  lt : ∀ i ∈ L, i ≤ tk
  now0 : 0 ≤ now
  now1 : now ≤ 8 * k
  q : x.q ≤ k

theorem nlX_ids : nlX.s.ok = true ∧ nlX.s.ids = [] := by
  obtain ⟨us, fs, v, h⟩ := Que.ql_new
  have v' : nlX.s.V us fs := v
  exact ⟨v'.ok, by rw [v'.ids_eq]; exact h⟩
theorem Pl.zero : Pl nlX [] [] 0 0 0 := by
  obtain ⟨h1, h2⟩ := nlX_ids
  refine ⟨⟨h1, Hp.nil_val, by rw [h2]; exact List.Perm.refl _⟩, h2, rfl, List.Perm.refl _, by omega, by omega, fun i hi => (List.not_mem_nil hi).elim, by omega, by omega, ?_⟩
  show (0 : Int) ≤ 0
  omega
theorem Pl.next {x : Lx} {L U : List Int} {now tk k : Int} (h : Pl x L U now tk k) : Pl x L U now tk (k + 1) :=
  ⟨h.lv, h.ids, h.len, h.pr, h.tk0, by have := h.tk1; omega, h.lt, h.now0, by have := h.now1; omega, by have := h.q; omega⟩

theorem q_low {x : Lx} (h : LV x) : 0 ≤ x.q := by
  have := Tick.isT_iff.1 h.hp.tick
  omega

theorem Pl.few {x : Lx} {L U : List Int} {now tk k : Int} (h : Pl x L U now tk k) : L.length ≤ 60 := by
  have := (Qx.ids_facts h.lv.ok).2.2.1
  rw [h.ids] at this
  exact this
theorem Pl.dlen {x : Lx} {L U : List Int} {now tk k : Int} (h : Pl x L U now tk k) : x.ds.length = L.length := by
  have := h.lv.same.length_eq
  rw [h.ids] at this
  simpa [dids] using this.symm

/-- A ticket comes: it is taken just if there is room. -/
theorem Pl.enq {x : Lx} {L U : List Int} {now tk k u : Int} (h : Pl x L U now tk k) (hk : k < 1000) (hu0 : 0 ≤ u) (hu1 : u ≤ 1000000000) :
    enB x (tk + 1) u = decide (L.length < 60) ∧ (L.length < 60 → Pl (enX x (tk + 1) u) (L ++ [tk + 1]) (U ++ [u]) now (tk + 1) (k + 1)) ∧ (¬ L.length < 60 → enX x (tk + 1) u = x ∧ Pl x L U now (tk + 1) (k + 1)) := by
  have hnot : tk + 1 ∉ x.s.ids := fun hm => by
    rw [h.ids] at hm
    have := h.lt _ hm
    omega
  have hmay := Qx.may_iff (s := x.s) (t := tk + 1) h.lv.ok
  have t0 := h.tk0
  have t1 := h.tk1
  by_cases hl : L.length < 60
  · have hm : x.s.may (tk + 1) = true := hmay.2 ⟨by rw [h.ids]; exact hl, by omega, by omega, hnot⟩
    have hnd : tk + 1 ∉ dids x.ds := fun hd => hnot (h.lv.same.symm.subset hd)
    obtain ⟨_, hcd⟩ := can_no (q := x.q) hnd
    have hdl := h.dlen
    have q0 := q_low h.lv
    have q1 := h.q
    have hval := Hp.add_val (d := ⟨u, x.q + 1, tk + 1⟩) h.lv.hp (by omega) rfl (Tick.isT_true hu0 hu1) (Tick.inB_true (by show 1 ≤ tk + 1; omega) (by show tk + 1 ≤ 1000000000; omega)) (Tick.isT_true (by omega) (by omega)) hnd
    have hsn : Hp.schN x.ds x.q (tk + 1) u = Hp.addD x.ds ⟨u, x.q + 1, tk + 1⟩ := by unfold Hp.schN; rw [hcd]
    have hsb : Hp.schB x.ds x.q (tk + 1) u = true := by
      unfold Hp.schB
      rw [Hp.okH_true h.lv.hp, hsn, Hp.okH_true hval, Tick.inB_true (by omega) (by omega)]
      have : Tick.isT u = true := Tick.isT_true hu0 hu1
      rw [this]
      rfl
    have he : enB x (tk + 1) u = true := by unfold enB; rw [okL_iff.2 h.lv, hm, hsb]; rfl
    obtain ⟨s1, s2⟩ := Hp.schD_yes hsb
    rw [hsn] at s1
    have hx : enX x (tk + 1) u = ⟨x.s.push (tk + 1), Hp.addD x.ds ⟨u, x.q + 1, tk + 1⟩, x.q + 1⟩ := by rw [en_yes he, s1, s2]
    obtain ⟨_, _, _, _, p1, p2⟩ := Qx.push_yes hm
    have hap := Hp.add_perm x.ds ⟨u, x.q + 1, tk + 1⟩
    refine ⟨by rw [he, decide_eq_true hl], fun _ => ?_, fun hn => absurd hl hn⟩
    rw [hx]
    refine ⟨⟨p1, hval, ?_⟩, by show (x.s.push (tk + 1)).ids = _; rw [p2, h.ids], by simp [h.len], ?_, by omega, by omega, fun i hi => ?_, h.now0, by have := h.now1; omega, by show x.q + 1 ≤ k + 1; omega⟩
    · show (x.s.push (tk + 1)).ids.Perm (dids (Hp.addD x.ds _))
      rw [p2]
      exact (List.perm_append_comm.trans (List.Perm.cons (tk + 1) h.lv.same)).trans (hap.map Hp.Du.id).symm
    · show (pairs (Hp.addD x.ds _)).Perm _
      rw [List.zip_append h.len.symm]
      exact ((hap.map fun d : Hp.Du => (d.id, d.at)).trans (List.Perm.cons (tk + 1, u) h.pr)).trans (List.perm_append_comm (l₁ := [(tk + 1, u)]) (l₂ := L.zip U))
    · rcases List.mem_append.1 hi with hi | hi
      · have := h.lt i hi; omega
      · simp at hi; omega
  · have hm : x.s.may (tk + 1) = false := by
      cases e : x.s.may (tk + 1)
      · rfl
      · have := (hmay.1 e).1
        rw [h.ids] at this
        exact absurd this hl
    have he : enB x (tk + 1) u = false := by unfold enB; rw [hm]; simp
    refine ⟨by rw [he, decide_eq_false hl], fun hn => absurd hn hl, fun _ => ⟨en_no he, ?_⟩⟩
    exact ⟨h.lv, h.ids, h.len, h.pr, by omega, by omega, fun i hi => by have := h.lt i hi; omega, h.now0, by have := h.now1; omega, by have := h.q; omega⟩

theorem canD_perm {ds : List Hp.Du} {q t : Int} (h : Hp.HV ds q) (ht : t ∈ dids ds) : ∃ d, d.id = t ∧ (d :: Hp.canD ds q t).Perm ds := by
  obtain ⟨k, hk, hlt, hid⟩ := fnd_yes ht
  exact ⟨ds.getD k Hp.zDu, hid, by rw [Hp.canD_yes (Hp.okH_true h) hk]; exact Hp.rem_perm hlt⟩

theorem zip_fst : ∀ {L U : List Int}, U.length = L.length → (L.zip U).map Prod.fst = L
  | [], [], _ => rfl
  | a :: L, b :: U, h => by simp [zip_fst (L := L) (U := U) (by simpa using h)]
  | [], _ :: _, h => by simp at h
  | _ :: _, [], h => by simp at h

/-- The first ticket is served. -/
theorem Pl.srv_nil {x : Lx} {now tk k : Int} {U : List Int} (h : Pl x [] U now tk k) : sfT x = 0 ∧ sfX x = x := (sf_none h.lv h.ids).symm
theorem Pl.srv {x : Lx} {L U : List Int} {a c now tk k : Int} (h : Pl x (a :: L) (c :: U) now tk k) : sfT x = a ∧ Pl (sfX x) L U now tk (k + 1) := by
  obtain ⟨e1, e2⟩ := sf_some h.lv h.ids
  have hm : a ∈ x.s.ids := by rw [h.ids]; simp
  obtain ⟨_, _, _, l1, l2, _⟩ := lv_some h.lv hm
  have hnd := (Qx.ids_facts h.lv.ok).1
  rw [h.ids] at hnd
  have hx := (lv_ok a (okL_iff.2 h.lv)).1
  obtain ⟨d, hd, hp⟩ := canD_perm h.lv.hp (h.lv.same.subset hm)
  refine ⟨e2, ?_⟩
  rw [e1]
  refine ⟨l1, by rw [l2, h.ids, List.erase_cons_head], by have := h.len; simpa using this, ?_, h.tk0, by have := h.tk1; omega, fun i hi => h.lt i (by simp [hi]), h.now0, by have := h.now1; omega, ?_⟩
  · have h1 : (pairs (d :: Hp.canD x.ds x.q a)).Perm ((a, c) :: L.zip U) := (hp.map _).trans h.pr
    have hmem : (a, d.at) ∈ ((a, c) :: L.zip U) := h1.subset (by simp [pairs, hd])
    have hat : d.at = c := by
      rcases List.mem_cons.1 hmem with e | e
      · exact congrArg Prod.snd e
      · exfalso
        have h2 : a ∈ (L.zip U).map Prod.fst := List.mem_map.2 ⟨_, e, rfl⟩
        rw [zip_fst (by have := h.len; simpa using this)] at h2
        exact (List.nodup_cons.1 hnd).1 h2
    rw [hx]
    have h3 : ((a, c) :: pairs (Hp.canD x.ds x.q a)).Perm ((a, c) :: L.zip U) := by
      have e : pairs (d :: Hp.canD x.ds x.q a) = (a, c) :: pairs (Hp.canD x.ds x.q a) := by simp [pairs, hd, hat]
      rw [e] at h1
      exact h1
    exact List.Perm.cons_inv h3
  · rw [hx]; have := h.q; show x.q ≤ k + 1; omega
end Go.Proofs.Ytpjelojmkmednaa.Ln
