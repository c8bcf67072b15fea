/- The law on lines, its mathematics: what expires, and the soonest deadline. -/
import Derived.Test.YtpjelojmkmednaaLf0
namespace Go.Proofs.Ytpjelojmkmednaa.Ln
open Go.RowKit Go.Deep Base

theorem lvX_ids {x : Lx} (t : Int) (h : LV x) : (lvX x t).s.ids = x.s.ids.erase t := by
  by_cases ht : t ∈ x.s.ids
  · exact (lv_some h ht).2.2.2.2.1
  · rw [(lv_none h ht).2.2.2.2.1, List.erase_of_not_mem ht]
theorem lvAll_ids : ∀ (ts : List Int) {x : Lx}, LV x → (lvAll ts x).s.ids = ts.foldl List.erase x.s.ids
  | [], _, _ => rfl
  | t :: ts, x, h => by
    show (lvAll ts (lvX x t)).s.ids = _
    rw [lvAll_ids ts (lv_val t h), lvX_ids t h]
    rfl
theorem foldl_erase : ∀ (ts : List Int) {L : List Int}, L.Nodup → ts.foldl List.erase L = L.filter fun a => !decide (a ∈ ts)
  | [], L, _ => by
    show L = _
    rw [List.filter_eq_self.2]
    intro a _
    simp
  | t :: ts, L, h => by
    show ts.foldl List.erase (L.erase t) = _
    rw [foldl_erase ts (h.erase t), h.erase_eq_filter, List.filter_filter]
    apply List.filter_congr
    intro a _
    by_cases e : a = t
    · subst e; simp
    · simp [e]

/-- The pairs that stay, of those whose deadline is later than now. -/
def stay (now : Int) (Z : List (Int × Int)) : List (Int × Int) := Z.filter fun p => !decide (p.2 ≤ now)
def gone (now : Int) (Z : List (Int × Int)) : List (Int × Int) := Z.filter fun p => decide (p.2 ≤ now)
theorem zip_back : ∀ (Z : List (Int × Int)), (Z.map Prod.fst).zip (Z.map Prod.snd) = Z
  | [] => rfl
  | p :: Z => by simp [zip_back Z]
theorem stay_snoc {now a u : Int} {Z : List (Int × Int)} : stay now (Z ++ [(a, u)]) = if u ≤ now then stay now Z else stay now Z ++ [(a, u)] := by
  unfold stay
  rw [List.filter_append]
  by_cases h : u ≤ now
  · rw [if_pos h]; simp [h]
  · rw [if_neg h]; simp [h]
theorem gone_snoc {now a u : Int} {Z : List (Int × Int)} : (gone now (Z ++ [(a, u)])).length = if u ≤ now then (gone now Z).length + 1 else (gone now Z).length := by
  unfold gone
  rw [List.filter_append]
  by_cases h : u ≤ now
  · rw [if_pos h]; simp [h]
  · rw [if_neg h]; simp [h]
theorem zip_take {L U : List Int} {j : Nat} (hl : U.length = L.length) (hj : j < L.length) : (L.zip U).take (j + 1) = (L.zip U).take j ++ [(L.getD j 0, U.getD j 0)] := by
  have hz : j < (L.zip U).length := by simp; omega
  rw [List.take_succ_eq_append_getElem hz]
  simp [List.getD_eq_getElem?_getD, hj, show j < U.length by omega]

/-- What is due at a later time leaves. -/
theorem Pl.exp {x : Lx} {L U : List Int} {now tk k nw : Int} (h : Pl x L U now tk k) (h0 : 0 ≤ nw) (h1 : nw ≤ 8 * (k + 1)) :
    (∀ j, j < L.length → U.getD j 0 ≤ nw → L.getD j 0 ∈ exL x nw) ∧ (exL x nw).length = (gone nw (L.zip U)).length
      ∧ Pl (exX x nw) ((stay nw (L.zip U)).map Prod.fst) ((stay nw (L.zip U)).map Prod.snd) nw tk (k + 1) := by
  have ho := okL_iff.2 h.lv
  obtain ⟨e1, e2, e3⟩ := ex_ok nw ho
  have hk := Hp.okH_true h.lv.hp
  have hL : Hp.popL x.ds x.q nw = Hp.popI x.ds.length x.ds nw := by unfold Hp.popL; rw [if_pos hk]
  have hD : Hp.popD x.ds x.q nw = Hp.popR x.ds.length x.ds nw := by unfold Hp.popD; rw [if_pos hk]
  have hE := Hp.popE_ids x.ds.length x.ds nw
  have hP := Hp.popE_perm x.ds.length x.ds nw
  have hdue := Hp.popE_due x.ds.length x.ds nw
  have hlate := Hp.popR_late x.ds.length x.ds nw h.lv.hp.heap (Nat.le_refl _)
  generalize Hp.popE x.ds.length x.ds nw = E at hE hP hdue
  have hZ : (pairs E ++ pairs (Hp.popR x.ds.length x.ds nw)).Perm (L.zip U) := by
    have := hP.map fun d => (d.id, d.at)
    rw [List.map_append] at this
    exact this.trans h.pr
  have hg : (pairs E).Perm (gone nw (L.zip U)) := by
    have := hZ.filter fun p => decide (p.2 ≤ nw)
    rw [List.filter_append] at this
    have f1 : (pairs E).filter (fun p => decide (p.2 ≤ nw)) = pairs E := by
      rw [List.filter_eq_self]
      intro p hp
      obtain ⟨d, hd, rfl⟩ := List.mem_map.1 hp
      simpa using hdue d hd
    have f2 : (pairs (Hp.popR x.ds.length x.ds nw)).filter (fun p => decide (p.2 ≤ nw)) = [] := by
      rw [List.filter_eq_nil_iff]
      intro p hp
      obtain ⟨d, hd, rfl⟩ := List.mem_map.1 hp
      have := hlate d hd
      simp
      omega
    rw [f1, f2, List.append_nil] at this
    exact this
  have hs : (pairs (Hp.popR x.ds.length x.ds nw)).Perm (stay nw (L.zip U)) := by
    have := hZ.filter fun p => !decide (p.2 ≤ nw)
    rw [List.filter_append] at this
    have f1 : (pairs E).filter (fun p => !decide (p.2 ≤ nw)) = [] := by
      rw [List.filter_eq_nil_iff]
      intro p hp
      obtain ⟨d, hd, rfl⟩ := List.mem_map.1 hp
      have := hdue d hd
      simpa using this
    have f2 : (pairs (Hp.popR x.ds.length x.ds nw)).filter (fun p => !decide (p.2 ≤ nw)) = pairs (Hp.popR x.ds.length x.ds nw) := by
      rw [List.filter_eq_self]
      intro p hp
      obtain ⟨d, hd, rfl⟩ := List.mem_map.1 hp
      have := hlate d hd
      simp
      omega
    rw [f1, f2, List.nil_append] at this
    exact this
  have hex : exL x nw = E.map Hp.Du.id := by rw [e2, hL, hE]
  have hfst : (pairs E).map Prod.fst = E.map Hp.Du.id := by
    show (E.map fun d => (d.id, d.at)).map Prod.fst = _
    rw [List.map_map]
    rfl
  have hmem : ∀ a, a ∈ exL x nw ↔ a ∈ (gone nw (L.zip U)).map Prod.fst := fun a => by
    rw [hex, ← hfst]
    exact (hg.map Prod.fst).mem_iff
  have hnd : L.Nodup := by
    have := (Qx.ids_facts h.lv.ok).1
    rw [h.ids] at this
    exact this
  have hzf := zip_fst h.len
  -- a pair of the list is told just if it is due
  have hin : ∀ p ∈ L.zip U, (p.1 ∈ exL x nw ↔ p.2 ≤ nw) := by
    intro p hp
    rw [hmem]
    constructor
    · intro hm
      obtain ⟨p', hp', hpe⟩ := List.mem_map.1 hm
      unfold gone at hp'
      rw [List.mem_filter] at hp'
      have heq : p' = p := by
        obtain ⟨i, hi, rfl⟩ := List.mem_iff_getElem.1 hp
        obtain ⟨j, hj, rfl⟩ := List.mem_iff_getElem.1 hp'.1
        have hij : (L.zip U)[j].1 = (L.zip U)[i].1 := hpe
        have hiL : i < L.length := by simp at hi; omega
        have hjL : j < L.length := by simp at hj; omega
        simp only [List.getElem_zip] at hij
        have : j = i := by
          rw [List.Nodup, List.pairwise_iff_getElem] at hnd
          rcases Nat.lt_trichotomy j i with hlt | rfl | hlt
          · exact absurd hij (hnd j i hjL hiL hlt)
          · rfl
          · exact absurd hij.symm (hnd i j hiL hjL hlt)
        subst this
        rfl
      rw [heq] at hp'
      simpa using hp'.2
    · intro hle
      refine List.mem_map.2 ⟨p, ?_, rfl⟩
      unfold gone
      rw [List.mem_filter]
      exact ⟨hp, by simpa using hle⟩
  have hlen : (exL x nw).length = (gone nw (L.zip U)).length := by
    rw [hex, ← hfst, List.length_map]
    exact hg.length_eq
  have hids : (exX x nw).s.ids = (stay nw (L.zip U)).map Prod.fst := by
    rw [e3, lvAll_ids _ h.lv, h.ids, foldl_erase _ hnd, ← e2]
    unfold stay
    conv => lhs; rw [← hzf]
    rw [List.filter_map]
    congr 1
    apply List.filter_congr
    intro p hp
    have := hin p hp
    by_cases hle : p.2 ≤ nw
    · simp [hle, this.2 hle]
    · have hno : ¬ p.1 ∈ exL x nw := fun hm => hle (this.1 hm)
      simp [hle, hno]
  refine ⟨fun j hj hu => ?_, hlen, ?_⟩
  · have hz : j < (L.zip U).length := by have := h.len; simp; omega
    have hp : (L.getD j 0, U.getD j 0) ∈ L.zip U := by
      have e : (L.zip U)[j] = (L.getD j 0, U.getD j 0) := by
        have := h.len
        simp [List.getD_eq_getElem?_getD, hj, show j < U.length by omega]
      rw [← e]
      exact List.getElem_mem hz
    exact (hin _ hp).2 hu
  · refine ⟨by rw [e3]; exact lvAll_val _ h.lv, hids, by simp, ?_, h.tk0, by have := h.tk1; omega, fun i hi => ?_, h0, h1, ?_⟩
    · rw [zip_back, e1]
      show (pairs (Hp.popD x.ds x.q nw)).Perm _
      rw [hD]
      exact hs
    · obtain ⟨p, hp, rfl⟩ := List.mem_map.1 hi
      unfold stay at hp
      rw [List.mem_filter] at hp
      have : p.1 ∈ (L.zip U).map Prod.fst := List.mem_map.2 ⟨p, hp.1, rfl⟩
      rw [hzf] at this
      exact h.lt _ this
    · rw [e1]; have := h.q; show x.q ≤ k + 1; omega

/-- The soonest of the first j deadlines; -1 where there is none. -/
structure Soon (U : List Int) (j : Nat) (s : Int) : Prop where
  none : j = 0 → s = -1
  some : 0 < j → (∃ i, i < j ∧ U.getD i 0 = s) ∧ ∀ i, i < j → s ≤ U.getD i 0
theorem Soon.zero (U : List Int) : Soon U 0 (-1) := ⟨fun _ => rfl, fun h => absurd h (by omega)⟩
theorem Soon.take {U : List Int} {j : Nat} {s : Int} (h : Soon U j s) (hu : j = 0 ∨ U.getD j 0 < s) : Soon U (j + 1) (U.getD j 0) := by
  refine ⟨fun e => absurd e (by omega), fun _ => ⟨⟨j, by omega, rfl⟩, fun i hi => ?_⟩⟩
  by_cases e : i = j
  · subst e; omega
  · have := (h.some (by omega)).2 i (by omega)
    omega
theorem Soon.pass {U : List Int} {j : Nat} {s : Int} (h : Soon U j s) (hj : 0 < j) (hu : ¬ U.getD j 0 < s) : Soon U (j + 1) s := by
  obtain ⟨⟨i, hi, he⟩, hall⟩ := h.some hj
  refine ⟨fun e => absurd e (by omega), fun _ => ⟨⟨i, by omega, he⟩, fun i' hi' => ?_⟩⟩
  by_cases e : i' = j
  · subst e; omega
  · exact hall i' (by omega)

theorem Pl.ul {x : Lx} {L U : List Int} {now tk k : Int} (h : Pl x L U now tk k) {i : Nat} (hi : i < U.length) : 0 ≤ U.getD i 0 := by
  have hl := h.len
  have hp : (L.getD i 0, U.getD i 0) ∈ L.zip U := by
    have hz : i < (L.zip U).length := by simp; omega
    have e : (L.zip U)[i] = (L.getD i 0, U.getD i 0) := by simp [List.getD_eq_getElem?_getD, hi, show i < L.length by omega]
    rw [← e]
    exact List.getElem_mem hz
  obtain ⟨d, hd, he⟩ := List.mem_map.1 (h.pr.symm.subset hp)
  have h1 := Hp.each_iff.1 h.lv.hp.each d hd
  have e2 : d.at = U.getD i 0 := congrArg Prod.snd he
  unfold Hp.okD at h1
  simp only [Bool.and_eq_true] at h1
  have h9 := Tick.isT_iff.1 h1.1.1
  omega

theorem Pl.next_eq {x : Lx} {L U : List Int} {now tk k s : Int} (h : Pl x L U now tk k) (hs : Soon U U.length s) : neA x = s := by
  have hl := h.len
  have hdl := h.dlen
  by_cases h0 : U.length = 0
  · have hz : x.ds.length = 0 := by omega
    rw [hs.none h0]
    unfold neA Hp.nextOk
    rw [decide_eq_false (by omega)]
    simp
  · have hpos : 0 < x.ds.length := by omega
    have hok : Hp.nextOk x.ds x.q = true := by unfold Hp.nextOk; rw [Hp.okH_true h.lv.hp, decide_eq_true hpos]; rfl
    have hne : neA x = (x.ds.getD 0 Hp.zDu).at := by
      unfold neA
      rw [okL_iff.2 h.lv, hok, Hp.next_yes hok]
      rfl
    obtain ⟨⟨i, hi, he⟩, hall⟩ := hs.some (by omega)
    -- the first of the heap is one of the deadlines
    have hm0 : x.ds.getD 0 Hp.zDu ∈ x.ds := by simp [List.getD_eq_getElem?_getD, hpos]
    have hp0 : ((x.ds.getD 0 Hp.zDu).id, (x.ds.getD 0 Hp.zDu).at) ∈ L.zip U := h.pr.subset (List.mem_map.2 ⟨_, hm0, rfl⟩)
    obtain ⟨j, hj, hje⟩ := List.mem_iff_getElem.1 hp0
    have hjU : j < U.length := by simp at hj; omega
    have h2 : U.getD j 0 = (x.ds.getD 0 Hp.zDu).at := by
      have := congrArg Prod.snd hje
      simp only [List.getElem_zip] at this
      rw [← this]
      simp [List.getD_eq_getElem?_getD, hjU]
    -- and no deadline is sooner
    have hpi : (L.getD i 0, U.getD i 0) ∈ L.zip U := by
      have hz : i < (L.zip U).length := by simp; omega
      have e : (L.zip U)[i] = (L.getD i 0, U.getD i 0) := by simp [List.getD_eq_getElem?_getD, hi, show i < L.length by omega]
      rw [← e]
      exact List.getElem_mem hz
    obtain ⟨d, hd, hde⟩ := List.mem_map.1 (h.pr.symm.subset hpi)
    have h3 : d.at = U.getD i 0 := congrArg Prod.snd hde
    have h4 := Hp.first_mem h.lv.hp.heap hd
    have h5 : (x.ds.getD 0 Hp.zDu).at ≤ d.at := by
      unfold Hp.before at h4
      simp only [Bool.or_eq_false_iff, decide_eq_false_iff_not] at h4
      omega
    have h6 := hall j hjU
    rw [hne]
    omega
end Go.Proofs.Ytpjelojmkmednaa.Ln
