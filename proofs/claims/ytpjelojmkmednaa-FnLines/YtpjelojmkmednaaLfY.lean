/- The law on lines, its mathematics: a plain list of tickets with their deadlines beside the line. The law on lines, its mathematics: what expires, and the soonest deadline. An append of one number to a slice with its room, as one step of the walk: whether it grows in place or moves. The law on lines: its state between two rounds. -/
import Derived.Test.YtpjelojmkmednaaLll
import Derived.Test.YtpjelojmkmednaaLfX
import Derived.Test.YtpjelojmkmednaaLlx
namespace Go.Proofs.Ytpjelojmkmednaa.Hp
open Go.RowKit Go.Deep Base

theorem getD_snoc {ds : List Du} {d : Du} {i : Nat} : (ds ++ [d]).getD i zDu = if i < ds.length then ds.getD i zDu else if i = ds.length then d else zDu := by
  simp only [List.getD_eq_getElem?_getD]
  by_cases h : i < ds.length
  · rw [if_pos h, List.getElem?_append_left h]
  · rw [if_neg h, List.getElem?_append_right (by omega)]
    by_cases e : i = ds.length
    · subst e; simp
    · rw [if_neg e, List.getElem?_eq_none (by simp; omega)]
      rfl

theorem add_perm (ds : List Du) (d : Du) : (addD ds d).Perm (d :: ds) := by
  unfold addD
  refine (up_perm _ _ _ (by simp)).trans ?_
  exact (List.perm_append_comm (l₁ := ds) (l₂ := [d])).trans (List.Perm.refl _)

/-- A new item, later than all that are there by its number: still valid. -/
theorem add_val {ds : List Du} {q : Int} {d : Du} (h : HV ds q) (hl : ds.length < 100) (hd : d.seq = q + 1) (hat : Tick.isT d.at = true) (hid : Tick.inB d.id 1 1000000000 = true) (hq : Tick.isT (q + 1) = true) (hnew : d.id ∉ ds.map Du.id) : HV (addD ds d) (q + 1) := by
  have hp := add_perm ds d
  have hq0 : 0 ≤ q := by
    have := Tick.isT_iff.1 h.tick
    omega
  have hsq : ∀ e ∈ ds, 1 ≤ e.seq ∧ e.seq ≤ q := fun e he => by
    have := each_iff.1 h.each e he
    unfold okD Tick.inB at this
    simp at this
    omega
  have hok : ∀ e ∈ d :: ds, okD (q + 1) e = true := by
    intro e he
    rcases List.mem_cons.1 he with rfl | he
    · unfold okD
      rw [hat, hid, Tick.inB_true (by omega) (by omega)]
      rfl
    · have h1 := each_iff.1 h.each e he
      have h2 := hsq e he
      unfold okD at h1 ⊢
      simp only [Bool.and_eq_true] at h1 ⊢
      exact ⟨⟨h1.1.1, Tick.inB_true (by omega) (by omega)⟩, h1.2⟩
  have hn1 : (ds.map Du.id).Nodup := apart_iff.1 (fun i j hj hi => (h.apart i j hj hi).1)
  have hn2 : (ds.map Du.seq).Nodup := apart_iff.1 (fun i j hj hi => (h.apart i j hj hi).2)
  have hm1 : ((addD ds d).map Du.id).Nodup := (hp.map Du.id).nodup_iff.2 (List.nodup_cons.2 ⟨hnew, hn1⟩)
  have hm2 : ((addD ds d).map Du.seq).Nodup := (hp.map Du.seq).nodup_iff.2 (List.nodup_cons.2 ⟨fun hm => by
    obtain ⟨e, he, he2⟩ := List.mem_map.1 hm
    have := hsq e he
    omega, hn2⟩)
  refine ⟨by rw [addD_len]; omega, hq, each_iff.2 fun e he => hok e (hp.subset he), fun i j hj hi => ⟨apart_iff.2 hm1 i j hj hi, apart_iff.2 hm2 i j hj hi⟩, ?_⟩
  unfold addD
  refine up_heap _ _ _ (by simp) (Nat.le_refl _) ⟨fun i h0 hi hne => ?_, fun hk i h0 hi hpi => ?_⟩
  · rw [List.length_append, List.length_singleton] at hi
    have hpl : par i < ds.length := by unfold par; omega
    rw [getD_snoc, getD_snoc, if_pos (by omega), if_pos hpl]
    exact h.heap i h0 (by omega)
  · exfalso
    rw [List.length_append, List.length_singleton] at hi
    unfold par at hpi
    omega
end Go.Proofs.Ytpjelojmkmednaa.Hp

namespace Go.Proofs.Ytpjelojmkmednaa.Ln
open Go.RowKit Go.Deep Base

def pairs (ds : List Hp.Du) : List (Int × Int) := ds.map fun d => (d.id, d.at)

/-- The line x stands beside the tickets L with the deadlines U, after k steps. -/
structure Pl (x : Lx) (L U : List Int) (now tk k : Int) : Prop where
  lv : LV x
  ids : x.s.ids = L
  len : U.length = L.length
  pr : (pairs x.ds).Perm (L.zip U)
  tk0 : 0 ≤ tk
  tk1 : tk ≤ k
  lt : ∀ i ∈ L, i ≤ tk
  now0 : 0 ≤ now
  now1 : now ≤ 8 * k
  q : x.q ≤ k

theorem nlX_ids : nlX.s.ok = true ∧ nlX.s.ids = [] := by
  obtain ⟨us, fs, v, h⟩ := Que.ql_new
  have v' : nlX.s.V us fs := v
  exact ⟨v'.ok, by rw [v'.ids_eq]; exact h⟩
theorem Pl.zero : Pl nlX [] [] 0 0 0 := by
  obtain ⟨h1, h2⟩ := nlX_ids
  refine ⟨⟨h1, Hp.nil_val, by rw [h2]; exact List.Perm.refl _⟩, h2, rfl, List.Perm.refl _, by omega, by omega, fun i hi => (List.not_mem_nil hi).elim, by omega, by omega, ?_⟩
  show (0 : Int) ≤ 0
  omega
theorem Pl.next {x : Lx} {L U : List Int} {now tk k : Int} (h : Pl x L U now tk k) : Pl x L U now tk (k + 1) :=
  ⟨h.lv, h.ids, h.len, h.pr, h.tk0, by have := h.tk1; omega, h.lt, h.now0, by have := h.now1; omega, by have := h.q; omega⟩

theorem q_low {x : Lx} (h : LV x) : 0 ≤ x.q := by
  have := Tick.isT_iff.1 h.hp.tick
  omega

theorem Pl.few {x : Lx} {L U : List Int} {now tk k : Int} (h : Pl x L U now tk k) : L.length ≤ 60 := by
  have := (Qx.ids_facts h.lv.ok).2.2.1
  rw [h.ids] at this
  exact this
theorem Pl.dlen {x : Lx} {L U : List Int} {now tk k : Int} (h : Pl x L U now tk k) : x.ds.length = L.length := by
  have := h.lv.same.length_eq
  rw [h.ids] at this
  simpa [dids] using this.symm

/-- A ticket comes: it is taken just if there is room. -/
theorem Pl.enq {x : Lx} {L U : List Int} {now tk k u : Int} (h : Pl x L U now tk k) (hk : k < 1000) (hu0 : 0 ≤ u) (hu1 : u ≤ 1000000000) :
    enB x (tk + 1) u = decide (L.length < 60) ∧ (L.length < 60 → Pl (enX x (tk + 1) u) (L ++ [tk + 1]) (U ++ [u]) now (tk + 1) (k + 1)) ∧ (¬ L.length < 60 → enX x (tk + 1) u = x ∧ Pl x L U now (tk + 1) (k + 1)) := by
  have hnot : tk + 1 ∉ x.s.ids := fun hm => by
    rw [h.ids] at hm
    have := h.lt _ hm
    omega
  have hmay := Qx.may_iff (s := x.s) (t := tk + 1) h.lv.ok
  have t0 := h.tk0
  have t1 := h.tk1
  by_cases hl : L.length < 60
  · have hm : x.s.may (tk + 1) = true := hmay.2 ⟨by rw [h.ids]; exact hl, by omega, by omega, hnot⟩
    have hnd : tk + 1 ∉ dids x.ds := fun hd => hnot (h.lv.same.symm.subset hd)
    obtain ⟨_, hcd⟩ := can_no (q := x.q) hnd
    have hdl := h.dlen
    have q0 := q_low h.lv
    have q1 := h.q
    have hval := Hp.add_val (d := ⟨u, x.q + 1, tk + 1⟩) h.lv.hp (by omega) rfl (Tick.isT_true hu0 hu1) (Tick.inB_true (by show 1 ≤ tk + 1; omega) (by show tk + 1 ≤ 1000000000; omega)) (Tick.isT_true (by omega) (by omega)) hnd
    have hsn : Hp.schN x.ds x.q (tk + 1) u = Hp.addD x.ds ⟨u, x.q + 1, tk + 1⟩ := by unfold Hp.schN; rw [hcd]
    have hsb : Hp.schB x.ds x.q (tk + 1) u = true := by
      unfold Hp.schB
      rw [Hp.okH_true h.lv.hp, hsn, Hp.okH_true hval, Tick.inB_true (by omega) (by omega)]
      have : Tick.isT u = true := Tick.isT_true hu0 hu1
      rw [this]
      rfl
    have he : enB x (tk + 1) u = true := by unfold enB; rw [okL_iff.2 h.lv, hm, hsb]; rfl
    obtain ⟨s1, s2⟩ := Hp.schD_yes hsb
    rw [hsn] at s1
    have hx : enX x (tk + 1) u = ⟨x.s.push (tk + 1), Hp.addD x.ds ⟨u, x.q + 1, tk + 1⟩, x.q + 1⟩ := by rw [en_yes he, s1, s2]
    obtain ⟨_, _, _, _, p1, p2⟩ := Qx.push_yes hm
    have hap := Hp.add_perm x.ds ⟨u, x.q + 1, tk + 1⟩
    refine ⟨by rw [he, decide_eq_true hl], fun _ => ?_, fun hn => absurd hl hn⟩
    rw [hx]
    refine ⟨⟨p1, hval, ?_⟩, by show (x.s.push (tk + 1)).ids = _; rw [p2, h.ids], by simp [h.len], ?_, by omega, by omega, fun i hi => ?_, h.now0, by have := h.now1; omega, by show x.q + 1 ≤ k + 1; omega⟩
    · show (x.s.push (tk + 1)).ids.Perm (dids (Hp.addD x.ds _))
      rw [p2]
      exact (List.perm_append_comm.trans (List.Perm.cons (tk + 1) h.lv.same)).trans (hap.map Hp.Du.id).symm
    · show (pairs (Hp.addD x.ds _)).Perm _
      rw [List.zip_append h.len.symm]
      exact ((hap.map fun d : Hp.Du => (d.id, d.at)).trans (List.Perm.cons (tk + 1, u) h.pr)).trans (List.perm_append_comm (l₁ := [(tk + 1, u)]) (l₂ := L.zip U))
    · rcases List.mem_append.1 hi with hi | hi
      · have := h.lt i hi; omega
      · simp at hi; omega
  · have hm : x.s.may (tk + 1) = false := by
      cases e : x.s.may (tk + 1)
      · rfl
      · have := (hmay.1 e).1
        rw [h.ids] at this
        exact absurd this hl
    have he : enB x (tk + 1) u = false := by unfold enB; rw [hm]; simp
    refine ⟨by rw [he, decide_eq_false hl], fun hn => absurd hn hl, fun _ => ⟨en_no he, ?_⟩⟩
    exact ⟨h.lv, h.ids, h.len, h.pr, by omega, by omega, fun i hi => by have := h.lt i hi; omega, h.now0, by have := h.now1; omega, by have := h.q; omega⟩

theorem canD_perm {ds : List Hp.Du} {q t : Int} (h : Hp.HV ds q) (ht : t ∈ dids ds) : ∃ d, d.id = t ∧ (d :: Hp.canD ds q t).Perm ds := by
  obtain ⟨k, hk, hlt, hid⟩ := fnd_yes ht
  exact ⟨ds.getD k Hp.zDu, hid, by rw [Hp.canD_yes (Hp.okH_true h) hk]; exact Hp.rem_perm hlt⟩

theorem zip_fst : ∀ {L U : List Int}, U.length = L.length → (L.zip U).map Prod.fst = L
  | [], [], _ => rfl
  | a :: L, b :: U, h => by simp [zip_fst (L := L) (U := U) (by simpa using h)]
  | [], _ :: _, h => by simp at h
  | _ :: _, [], h => by simp at h

/-- The first ticket is served. -/
theorem Pl.srv_nil {x : Lx} {now tk k : Int} {U : List Int} (h : Pl x [] U now tk k) : sfT x = 0 ∧ sfX x = x := (sf_none h.lv h.ids).symm
theorem Pl.srv {x : Lx} {L U : List Int} {a c now tk k : Int} (h : Pl x (a :: L) (c :: U) now tk k) : sfT x = a ∧ Pl (sfX x) L U now tk (k + 1) := by
  obtain ⟨e1, e2⟩ := sf_some h.lv h.ids
  have hm : a ∈ x.s.ids := by rw [h.ids]; simp
  obtain ⟨_, _, _, l1, l2, _⟩ := lv_some h.lv hm
  have hnd := (Qx.ids_facts h.lv.ok).1
  rw [h.ids] at hnd
  have hx := (lv_ok a (okL_iff.2 h.lv)).1
  obtain ⟨d, hd, hp⟩ := canD_perm h.lv.hp (h.lv.same.subset hm)
  refine ⟨e2, ?_⟩
  rw [e1]
  refine ⟨l1, by rw [l2, h.ids, List.erase_cons_head], by have := h.len; simpa using this, ?_, h.tk0, by have := h.tk1; omega, fun i hi => h.lt i (by simp [hi]), h.now0, by have := h.now1; omega, ?_⟩
  · have h1 : (pairs (d :: Hp.canD x.ds x.q a)).Perm ((a, c) :: L.zip U) := (hp.map _).trans h.pr
    have hmem : (a, d.at) ∈ ((a, c) :: L.zip U) := h1.subset (by simp [pairs, hd])
    have hat : d.at = c := by
      rcases List.mem_cons.1 hmem with e | e
      · exact congrArg Prod.snd e
      · exfalso
        have h2 : a ∈ (L.zip U).map Prod.fst := List.mem_map.2 ⟨_, e, rfl⟩
        rw [zip_fst (by have := h.len; simpa using this)] at h2
        exact (List.nodup_cons.1 hnd).1 h2
    rw [hx]
    have h3 : ((a, c) :: pairs (Hp.canD x.ds x.q a)).Perm ((a, c) :: L.zip U) := by
      have e : pairs (d :: Hp.canD x.ds x.q a) = (a, c) :: pairs (Hp.canD x.ds x.q a) := by simp [pairs, hd, hat]
      rw [e] at h1
      exact h1
    exact List.Perm.cons_inv h3
  · rw [hx]; have := h.q; show x.q ≤ k + 1; omega
end Go.Proofs.Ytpjelojmkmednaa.Ln

namespace Go.Proofs.Ytpjelojmkmednaa.Ln
open Go.RowKit Go.Deep Base

theorem lvX_ids {x : Lx} (t : Int) (h : LV x) : (lvX x t).s.ids = x.s.ids.erase t := by
  by_cases ht : t ∈ x.s.ids
  · exact (lv_some h ht).2.2.2.2.1
  · rw [(lv_none h ht).2.2.2.2.1, List.erase_of_not_mem ht]
theorem lvAll_ids : ∀ (ts : List Int) {x : Lx}, LV x → (lvAll ts x).s.ids = ts.foldl List.erase x.s.ids
  | [], _, _ => rfl
  | t :: ts, x, h => by
    show (lvAll ts (lvX x t)).s.ids = _
    rw [lvAll_ids ts (lv_val t h), lvX_ids t h]
    rfl
theorem foldl_erase : ∀ (ts : List Int) {L : List Int}, L.Nodup → ts.foldl List.erase L = L.filter fun a => !decide (a ∈ ts)
  | [], L, _ => by
    show L = _
    rw [List.filter_eq_self.2]
    intro a _
    simp
  | t :: ts, L, h => by
    show ts.foldl List.erase (L.erase t) = _
    rw [foldl_erase ts (h.erase t), h.erase_eq_filter, List.filter_filter]
    apply List.filter_congr
    intro a _
    by_cases e : a = t
    · subst e; simp
    · simp [e]

/-- The pairs that stay, of those whose deadline is later than now. -/
def stay (now : Int) (Z : List (Int × Int)) : List (Int × Int) := Z.filter fun p => !decide (p.2 ≤ now)
def gone (now : Int) (Z : List (Int × Int)) : List (Int × Int) := Z.filter fun p => decide (p.2 ≤ now)
theorem zip_back : ∀ (Z : List (Int × Int)), (Z.map Prod.fst).zip (Z.map Prod.snd) = Z
  | [] => rfl
  | p :: Z => by simp [zip_back Z]
theorem stay_snoc {now a u : Int} {Z : List (Int × Int)} : stay now (Z ++ [(a, u)]) = if u ≤ now then stay now Z else stay now Z ++ [(a, u)] := by
  unfold stay
  rw [List.filter_append]
  by_cases h : u ≤ now
  · rw [if_pos h]; simp [h]
  · rw [if_neg h]; simp [h]
theorem gone_snoc {now a u : Int} {Z : List (Int × Int)} : (gone now (Z ++ [(a, u)])).length = if u ≤ now then (gone now Z).length + 1 else (gone now Z).length := by
  unfold gone
  rw [List.filter_append]
  by_cases h : u ≤ now
  · rw [if_pos h]; simp [h]
  · rw [if_neg h]; simp [h]
theorem zip_take {L U : List Int} {j : Nat} (hl : U.length = L.length) (hj : j < L.length) : (L.zip U).take (j + 1) = (L.zip U).take j ++ [(L.getD j 0, U.getD j 0)] := by
  have hz : j < (L.zip U).length := by simp; omega
  rw [List.take_succ_eq_append_getElem hz]
  simp [List.getD_eq_getElem?_getD, hj, show j < U.length by omega]

/-- What is due at a later time leaves. -/
theorem Pl.exp {x : Lx} {L U : List Int} {now tk k nw : Int} (h : Pl x L U now tk k) (h0 : 0 ≤ nw) (h1 : nw ≤ 8 * (k + 1)) :
    (∀ j, j < L.length → U.getD j 0 ≤ nw → L.getD j 0 ∈ exL x nw) ∧ (exL x nw).length = (gone nw (L.zip U)).length
      ∧ Pl (exX x nw) ((stay nw (L.zip U)).map Prod.fst) ((stay nw (L.zip U)).map Prod.snd) nw tk (k + 1) := by
  have ho := okL_iff.2 h.lv
  obtain ⟨e1, e2, e3⟩ := ex_ok nw ho
  have hk := Hp.okH_true h.lv.hp
  have hL : Hp.popL x.ds x.q nw = Hp.popI x.ds.length x.ds nw := by unfold Hp.popL; rw [if_pos hk]
  have hD : Hp.popD x.ds x.q nw = Hp.popR x.ds.length x.ds nw := by unfold Hp.popD; rw [if_pos hk]
  have hE := Hp.popE_ids x.ds.length x.ds nw
  have hP := Hp.popE_perm x.ds.length x.ds nw
  have hdue := Hp.popE_due x.ds.length x.ds nw
  have hlate := Hp.popR_late x.ds.length x.ds nw h.lv.hp.heap (Nat.le_refl _)
  generalize Hp.popE x.ds.length x.ds nw = E at hE hP hdue
  have hZ : (pairs E ++ pairs (Hp.popR x.ds.length x.ds nw)).Perm (L.zip U) := by
    have := hP.map fun d => (d.id, d.at)
    rw [List.map_append] at this
    exact this.trans h.pr
  have hg : (pairs E).Perm (gone nw (L.zip U)) := by
    have := hZ.filter fun p => decide (p.2 ≤ nw)
    rw [List.filter_append] at this
    have f1 : (pairs E).filter (fun p => decide (p.2 ≤ nw)) = pairs E := by
      rw [List.filter_eq_self]
      intro p hp
      obtain ⟨d, hd, rfl⟩ := List.mem_map.1 hp
      simpa using hdue d hd
    have f2 : (pairs (Hp.popR x.ds.length x.ds nw)).filter (fun p => decide (p.2 ≤ nw)) = [] := by
      rw [List.filter_eq_nil_iff]
      intro p hp
      obtain ⟨d, hd, rfl⟩ := List.mem_map.1 hp
      have := hlate d hd
      simp
      omega
    rw [f1, f2, List.append_nil] at this
    exact this
  have hs : (pairs (Hp.popR x.ds.length x.ds nw)).Perm (stay nw (L.zip U)) := by
    have := hZ.filter fun p => !decide (p.2 ≤ nw)
    rw [List.filter_append] at this
    have f1 : (pairs E).filter (fun p => !decide (p.2 ≤ nw)) = [] := by
      rw [List.filter_eq_nil_iff]
      intro p hp
      obtain ⟨d, hd, rfl⟩ := List.mem_map.1 hp
      have := hdue d hd
      simpa using this
    have f2 : (pairs (Hp.popR x.ds.length x.ds nw)).filter (fun p => !decide (p.2 ≤ nw)) = pairs (Hp.popR x.ds.length x.ds nw) := by
      rw [List.filter_eq_self]
      intro p hp
      obtain ⟨d, hd, rfl⟩ := List.mem_map.1 hp
      have := hlate d hd
      simp
      omega
    rw [f1, f2, List.nil_append] at this
    exact this
  have hex : exL x nw = E.map Hp.Du.id := by rw [e2, hL, hE]
  have hfst : (pairs E).map Prod.fst = E.map Hp.Du.id := by
    show (E.map fun d => (d.id, d.at)).map Prod.fst = _
    rw [List.map_map]
    rfl
  have hmem : ∀ a, a ∈ exL x nw ↔ a ∈ (gone nw (L.zip U)).map Prod.fst := fun a => by
    rw [hex, ← hfst]
    exact (hg.map Prod.fst).mem_iff
  have hnd : L.Nodup := by
    have := (Qx.ids_facts h.lv.ok).1
    rw [h.ids] at this
    exact this
  have hzf := zip_fst h.len
  -- a pair of the list is told just if it is due
  have hin : ∀ p ∈ L.zip U, (p.1 ∈ exL x nw ↔ p.2 ≤ nw) := by
    intro p hp
    rw [hmem]
    constructor
    · intro hm
      obtain ⟨p', hp', hpe⟩ := List.mem_map.1 hm
      unfold gone at hp'
      rw [List.mem_filter] at hp'
      have heq : p' = p := by
        obtain ⟨i, hi, rfl⟩ := List.mem_iff_getElem.1 hp
        obtain ⟨j, hj, rfl⟩ := List.mem_iff_getElem.1 hp'.1
        have hij : (L.zip U)[j].1 = (L.zip U)[i].1 := hpe
        have hiL : i < L.length := by simp at hi; omega
        have hjL : j < L.length := by simp at hj; omega
        simp only [List.getElem_zip] at hij
        have : j = i := by
          rw [List.Nodup, List.pairwise_iff_getElem] at hnd
          rcases Nat.lt_trichotomy j i with hlt | rfl | hlt
          · exact absurd hij (hnd j i hjL hiL hlt)
          · rfl
          · exact absurd hij.symm (hnd i j hiL hjL hlt)
        subst this
        rfl
      rw [heq] at hp'
      simpa using hp'.2
    · intro hle
      refine List.mem_map.2 ⟨p, ?_, rfl⟩
      unfold gone
      rw [List.mem_filter]
      exact ⟨hp, by simpa using hle⟩
  have hlen : (exL x nw).length = (gone nw (L.zip U)).length := by
    rw [hex, ← hfst, List.length_map]
    exact hg.length_eq
  have hids : (exX x nw).s.ids = (stay nw (L.zip U)).map Prod.fst := by
    rw [e3, lvAll_ids _ h.lv, h.ids, foldl_erase _ hnd, ← e2]
    unfold stay
    conv => lhs; rw [← hzf]
    rw [List.filter_map]
    congr 1
    apply List.filter_congr
    intro p hp
    have := hin p hp
    by_cases hle : p.2 ≤ nw
    · simp [hle, this.2 hle]
    · have hno : ¬ p.1 ∈ exL x nw := fun hm => hle (this.1 hm)
      simp [hle, hno]
  refine ⟨fun j hj hu => ?_, hlen, ?_⟩
  · have hz : j < (L.zip U).length := by have := h.len; simp; omega
    have hp : (L.getD j 0, U.getD j 0) ∈ L.zip U := by
      have e : (L.zip U)[j] = (L.getD j 0, U.getD j 0) := by
        have := h.len
        simp [List.getD_eq_getElem?_getD, hj, show j < U.length by omega]
      rw [← e]
      exact List.getElem_mem hz
    exact (hin _ hp).2 hu
  · refine ⟨by rw [e3]; exact lvAll_val _ h.lv, hids, by simp, ?_, h.tk0, by have := h.tk1; omega, fun i hi => ?_, h0, h1, ?_⟩
    · rw [zip_back, e1]
      show (pairs (Hp.popD x.ds x.q nw)).Perm _
      rw [hD]
      exact hs
    · obtain ⟨p, hp, rfl⟩ := List.mem_map.1 hi
      unfold stay at hp
      rw [List.mem_filter] at hp
      have : p.1 ∈ (L.zip U).map Prod.fst := List.mem_map.2 ⟨p, hp.1, rfl⟩
      rw [hzf] at this
      exact h.lt _ this
    · rw [e1]; have := h.q; show x.q ≤ k + 1; omega

/-- The soonest of the first j deadlines; -1 where there is none. -/
structure Soon (U : List Int) (j : Nat) (s : Int) : Prop where
  none : j = 0 → s = -1
  some : 0 < j → (∃ i, i < j ∧ U.getD i 0 = s) ∧ ∀ i, i < j → s ≤ U.getD i 0
theorem Soon.zero (U : List Int) : Soon U 0 (-1) := ⟨fun _ => rfl, fun h => absurd h (by omega)⟩
theorem Soon.take {U : List Int} {j : Nat} {s : Int} (h : Soon U j s) (hu : j = 0 ∨ U.getD j 0 < s) : Soon U (j + 1) (U.getD j 0) := by
  refine ⟨fun e => absurd e (by omega), fun _ => ⟨⟨j, by omega, rfl⟩, fun i hi => ?_⟩⟩
  by_cases e : i = j
  · subst e; omega
  · have := (h.some (by omega)).2 i (by omega)
    omega
theorem Soon.pass {U : List Int} {j : Nat} {s : Int} (h : Soon U j s) (hj : 0 < j) (hu : ¬ U.getD j 0 < s) : Soon U (j + 1) s := by
  obtain ⟨⟨i, hi, he⟩, hall⟩ := h.some hj
  refine ⟨fun e => absurd e (by omega), fun _ => ⟨⟨i, by omega, he⟩, fun i' hi' => ?_⟩⟩
  by_cases e : i' = j
  · subst e; omega
  · exact hall i' (by omega)

theorem Pl.ul {x : Lx} {L U : List Int} {now tk k : Int} (h : Pl x L U now tk k) {i : Nat} (hi : i < U.length) : 0 ≤ U.getD i 0 := by
  have hl := h.len
  have hp : (L.getD i 0, U.getD i 0) ∈ L.zip U := by
    have hz : i < (L.zip U).length := by simp; omega
    have e : (L.zip U)[i] = (L.getD i 0, U.getD i 0) := by simp [List.getD_eq_getElem?_getD, hi, show i < L.length by omega]
    rw [← e]
    exact List.getElem_mem hz
  obtain ⟨d, hd, he⟩ := List.mem_map.1 (h.pr.symm.subset hp)
  have h1 := Hp.each_iff.1 h.lv.hp.each d hd
  have e2 : d.at = U.getD i 0 := congrArg Prod.snd he
  unfold Hp.okD at h1
  simp only [Bool.and_eq_true] at h1
  have h9 := Tick.isT_iff.1 h1.1.1
  omega

theorem Pl.next_eq {x : Lx} {L U : List Int} {now tk k s : Int} (h : Pl x L U now tk k) (hs : Soon U U.length s) : neA x = s := by
  have hl := h.len
  have hdl := h.dlen
  by_cases h0 : U.length = 0
  · have hz : x.ds.length = 0 := by omega
    rw [hs.none h0]
    unfold neA Hp.nextOk
    rw [decide_eq_false (by omega)]
    simp
  · have hpos : 0 < x.ds.length := by omega
    have hok : Hp.nextOk x.ds x.q = true := by unfold Hp.nextOk; rw [Hp.okH_true h.lv.hp, decide_eq_true hpos]; rfl
    have hne : neA x = (x.ds.getD 0 Hp.zDu).at := by
      unfold neA
      rw [okL_iff.2 h.lv, hok, Hp.next_yes hok]
      rfl
    obtain ⟨⟨i, hi, he⟩, hall⟩ := hs.some (by omega)
    -- the first of the heap is one of the deadlines
    have hm0 : x.ds.getD 0 Hp.zDu ∈ x.ds := by simp [List.getD_eq_getElem?_getD, hpos]
    have hp0 : ((x.ds.getD 0 Hp.zDu).id, (x.ds.getD 0 Hp.zDu).at) ∈ L.zip U := h.pr.subset (List.mem_map.2 ⟨_, hm0, rfl⟩)
    obtain ⟨j, hj, hje⟩ := List.mem_iff_getElem.1 hp0
    have hjU : j < U.length := by simp at hj; omega
    have h2 : U.getD j 0 = (x.ds.getD 0 Hp.zDu).at := by
      have := congrArg Prod.snd hje
      simp only [List.getElem_zip] at this
      rw [← this]
      simp [List.getD_eq_getElem?_getD, hjU]
    -- and no deadline is sooner
    have hpi : (L.getD i 0, U.getD i 0) ∈ L.zip U := by
      have hz : i < (L.zip U).length := by simp; omega
      have e : (L.zip U)[i] = (L.getD i 0, U.getD i 0) := by simp [List.getD_eq_getElem?_getD, hi, show i < L.length by omega]
      rw [← e]
      exact List.getElem_mem hz
    obtain ⟨d, hd, hde⟩ := List.mem_map.1 (h.pr.symm.subset hpi)
    have h3 : d.at = U.getD i 0 := congrArg Prod.snd hde
    have h4 := Hp.first_mem h.lv.hp.heap hd
    have h5 : (x.ds.getD 0 Hp.zDu).at ≤ d.at := by
      unfold Hp.before at h4
      simp only [Bool.or_eq_false_iff, decide_eq_false_iff_not] at h4
      omega
    have h6 := hall j hjU
    rw [hne]
    omega
end Go.Proofs.Ytpjelojmkmednaa.Ln

namespace Go.Proofs.Ytpjelojmkmednaa.Ln
open Go.RowKit Go.Deep Base

theorem wpList_append_li {w : World} {ops : Array Oper} {rest : List Oper} {o : Oper} {a : Act} {Q : Exit → Act → World → Prop} {lo b off n cap sb : Nat} {L : List Int} {x : Int}
    (hg : o.guard = none) (s y : Operand) (hop : o.op = Op.call { callee := Callee.builtin Builtin.append, args := #[s, y], argTypes := #[33, 33] })
    (hl : Li w lo b off n cap L) (hs : a.eval s = .slice (some ⟨b, off, none⟩) n cap) (hy : a.eval y = .slice (some ⟨sb, 0, none⟩) 1 1) (hc : w.cell? ⟨sb, 0, none⟩ = some (.int .i64 x)) (hn : n ≤ 1000) (hlo : lo ≤ w.heap.size)
    (h : ∀ b' off' cap' w', Hid (Li w' lo b' off' (n + 1) cap' (L ++ [x])) → Hid (Que.Turns b (b + 1) w w') → (b' = b ∨ w.heap.size ≤ b') → wpList Try.prog ops Q rest (a.put o.dst (.slice (some ⟨b', off', none⟩) (n + 1) cap')) w') :
    wpList Try.prog ops Q (o :: rest) a w := by
  obtain ⟨i0, hi0, hz0, hz1, hz2⟩ := info_parts Que.infoInt
  refine wpList_append_arg w hg s y 33 hop 3 i0 (.int .i64 0) 1 8 Try.underlying33 hi0 hz0 hz1 hz2 rfl (by decide) b off n cap (L.map (Value.int .i64)) hs (by rw [List.length_map, hl.len]; omega) ?_ ⟨sb, 0, none⟩ 1 1 [.int .i64 x] hy rfl ?_ (by simp [Value.oneCell']) ?_ (by unfold maxLen; omega) (by omega) ?_ ?_
  · intro j u9 hj
    have hjl : j < L.length := by have := (List.getElem?_eq_some_iff.1 hj).1; simpa using this
    rw [hl.cells j (by have := hl.len; omega)]
    simp [hjl] at hj
    rw [← hj]
    simp [List.getD_eq_getElem?_getD, hjl]
  · intro j u9 hj
    have hj0 : j = 0 := by have := (List.getElem?_eq_some_iff.1 hj).1; simp at this; omega
    subst hj0
    simp at hj
    rw [← hj]
    exact hc
  · intro hr9 j hj
    simp at hj
    subst hj
    have := hl.room n (by omega)
    simpa using this
  · intro hrm
    rw [Nat.mul_one]
    refine h b off cap (w.setCells b (off + n) [.int .i64 x]) ?_ ?_ (.inl rfl)
    · exact hl.set hrm x
    · have t0 : Que.Turns b (b + 1) w w := ⟨rfl, rfl, rfl, Nat.le_refl _, fun _ _ _ => rfl⟩
      exact t0.setCell (p := ⟨b, off + n, none⟩) (Nat.le_refl _) (Nat.lt_succ_self _) _
  · intro _ v' w' hown hgr
    obtain ⟨gn, cn, rfl, hgn, l6⟩ := Li.grow (lo := lo) (x := x) hl.len hown hlo
    refine h gn 0 cn w' l6 ?_ (.inr hgn)
    exact ⟨hgr.os, hgr.tape, hgr.output, hgr.size, fun k hk _ => hgr.block k hk (by simp)⟩
end Go.Proofs.Ytpjelojmkmednaa.Ln

namespace Go.Proofs.Ytpjelojmkmednaa.Ln
open Go.RowKit Go.Deep Base

/-- Between two rounds: the line in the box at g, the two plain lists beside it. -/
structure Ls (w wr : World) (g : Nat) (x : Lx) (R : Rg) (A : Option Addr) (ca : Nat) (B : Option Addr) (cb : Nat) (m b1 o1 c1 : Nat) (L : List Int) (b2 o2 c2 : Nat) (U : List Int) : Prop where
  box : Bx wr g 31 #[.slice A x.s.ss.length ca, .int .i64 x.s.f, .int .i64 x.s.l, .int .i64 x.s.r, .int .i64 x.s.c, .slice B x.ds.length cb, .int .i64 x.q]
  row : LnV wr R A B x
  rg : R.In w.heap.size wr.heap.size
  l1 : Li wr w.heap.size b1 o1 m c1 L
  l2 : Li wr w.heap.size b2 o2 m c2 U
  n12 : b1 ≠ b2
  n1 : b1 ≠ g
  n2 : b2 ≠ g
  low : w.heap.size ≤ g
  old : Below w.heap.size w wr
  f1 : (b1 < R.a ∨ R.b ≤ b1) ∧ (b1 < R.c ∨ R.d ≤ b1)
  f2 : (b2 < R.a ∨ R.b ≤ b2) ∧ (b2 < R.c ∨ R.d ≤ b2)

/-- Old memory stands. -/
theorem Ls.keep {w wr w' : World} {g : Nat} {x : Lx} {R : Rg} {A : Option Addr} {ca : Nat} {B : Option Addr} {cb m b1 o1 c1 : Nat} {L : List Int} {b2 o2 c2 : Nat} {U : List Int} (h : Ls w wr g x R A ca B cb m b1 o1 c1 L b2 o2 c2 U) (hb : Below wr.heap.size wr w') :
    Ls w w' g x R A ca B cb m b1 o1 c1 L b2 o2 c2 U :=
  ⟨h.box.below hb, h.row.below hb h.rg, h.rg.wide (Nat.le_refl _) hb.size, h.l1.below hb h.l1.lt, h.l2.below hb h.l2.lt, h.n12, h.n1, h.n2, h.low, bel_trans h.old hb, h.f1, h.f2⟩

/-- A line in rows that only block b's change leaves, b being none of them. -/
theorem ln_turn1 {w w' : World} {R : Rg} {A B : Option Addr} {x : Lx} {b lo : Nat} (k : LnV w R A B x) (t : Que.Turns b (b + 1) w w') (hR : R.In lo w.heap.size) (f : (b < R.a ∨ R.b ≤ b) ∧ (b < R.c ∨ R.d ≤ b)) : LnV w' R A B x :=
  ln_turns k t hR (by omega) (by omega)
theorem li_turn1 {w w' : World} {lo c o n cap b : Nat} {L : List Int} (k : Li w lo c o n cap L) (t : Que.Turns b (b + 1) w w') (h : c ≠ b) : Li w' lo c o n cap L :=
  k.of_block (t.block c k.lt (by omega)) (Nat.lt_of_lt_of_le k.lt t.size)
theorem bx_turn1 {w w' : World} {g b : Nat} {ty : TypeId} {vs : Array Value} (k : Bx w g ty vs) (t : Que.Turns b (b + 1) w w') (h : g ≠ b) : Bx w' g ty vs := bx_turns k t (by omega)

/-- The first of a slice is cut off; at the end of its room its address stays. -/
theorem li_tail {w : World} {lo b off n c : Nat} {a : Int} {t : List Int} (h : Li w lo b off (n + 1) (c + 1) (a :: t)) : Li w lo b (if c = 0 then off else off + 1) n c t := by
  have h1 := h.le
  have h2 := h.len
  by_cases e : c = 0
  · rw [if_pos e]
    subst e
    have hn : n = 0 := by omega
    subst hn
    exact ⟨by simpa using h2, Nat.le_refl _, h.low, h.lt, fun i hi => absurd hi (by omega), fun i hi => absurd hi (by omega)⟩
  · rw [if_neg e]
    have := h.tail
    simpa using this

/-- The line is put anew into its box. -/
theorem Ls.put {w v : World} {g : Nat} {y : Lx} {Q : Rg} {m b1 o1 c1 : Nat} {L : List Int} {b2 o2 c2 : Nat} {U : List Int} {A2 : Option Addr} {ca2 : Nat} {B2 : Option Addr} {cb2 lo : Nat} {v0 v1 v2 v3 v4 v5 v6 : Value}
    (hb : Bx v g 31 #[v0, v1, v2, v3, v4, v5, v6]) (hrow : LnV v Q A2 B2 y) (hrg : Q.In lo v.heap.size) (hlo : w.heap.size ≤ lo) (hg : g < lo) (h1 : Li v w.heap.size b1 o1 m c1 L) (h2 : Li v w.heap.size b2 o2 m c2 U) (n12 : b1 ≠ b2) (n1 : b1 ≠ g) (n2 : b2 ≠ g) (low : w.heap.size ≤ g) (old : Below w.heap.size w v)
    (f1 : (b1 < Q.a ∨ Q.b ≤ b1) ∧ (b1 < Q.c ∨ Q.d ≤ b1)) (f2 : (b2 < Q.a ∨ Q.b ≤ b2) ∧ (b2 < Q.c ∨ Q.d ≤ b2)) :
    Ls w (sets g 0 [.slice A2 y.s.ss.length ca2, .int .i64 y.s.f, .int .i64 y.s.l, .int .i64 y.s.r, .int .i64 y.s.c, .slice B2 y.ds.length cb2, .int .i64 y.q] v) g y Q A2 ca2 B2 cb2 m b1 o1 c1 L b2 o2 c2 U := by
  have hz := sets_size g [.slice A2 y.s.ss.length ca2, .int .i64 y.s.f, .int .i64 y.s.l, .int .i64 y.s.r, .int .i64 y.s.c, .slice B2 y.ds.length cb2, .int .i64 y.q] 0 v
  have ho : ∀ b, b ≠ g → (sets g 0 [.slice A2 y.s.ss.length ca2, .int .i64 y.s.f, .int .i64 y.s.l, .int .i64 y.s.r, .int .i64 y.s.c, .slice B2 y.ds.length cb2, .int .i64 y.q] v).heap[b]? = v.heap[b]? := fun b hb => sets_other g hb _ _ _
  exact ⟨hb.put7 _ _ _ _ _ _ _, hrow.sto hrg (.inl hg), hrg.wide hlo (by rw [hz]; exact Nat.le_refl _), h1.of_block (ho _ n1) (by rw [hz]; exact h1.lt), h2.of_block (ho _ n2) (by rw [hz]; exact h2.lt), n12, n1, n2, low, sets_below g _ low _ _ _ old, f1, f2⟩
end Go.Proofs.Ytpjelojmkmednaa.Ln
