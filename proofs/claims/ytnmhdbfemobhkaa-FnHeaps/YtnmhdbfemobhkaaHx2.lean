/- What SortedIds, DueOf, PopDue and NextDue say of a valid heap, place by place. Plain mathematics. -/
import Derived.Test.YtnmhdbfemobhkaaHx1
import Derived.Test.YtnmhdbfemobhkaaNxt2
namespace Go.Proofs.Ytnmhdbfemobhkaa.Hp
open Go.RowKit Go.Deep Base

/-- All items in order. -/
def allE (ds : List Du) : List Du := popE ds.length ds 1000000000
def dAt (ds : List Du) (i : Nat) : Int := ((allE ds).getD i zDu).at
theorem at_most {q : Int} {d : Du} (h : okD q d = true) : d.at ≤ 1000000000 := by
  unfold okD Tick.isT Tick.inB at h
  simp only [Bool.and_eq_true, decide_eq_true_eq] at h
  omega
theorem srt_eq {ds : List Du} {q : Int} (h : HV ds q) : srtL ds q = (allE ds).map Du.id := by
  unfold srtL popL
  rw [if_pos (okH_true h), popE_ids]
  rfl
theorem srt_perm {ds : List Du} {q : Int} (h : HV ds q) : (allE ds).Perm ds := by
  have h1 := popE_perm ds.length ds 1000000000
  have h2 : popR ds.length ds 1000000000 = [] := by
    apply List.eq_nil_iff_forall_not_mem.2
    intro d hd
    have h3 := popR_late _ _ _ h.heap (Nat.le_refl _) d hd
    have h4 := at_most (each_iff.1 h.each d (h1.subset (List.mem_append_right _ hd)))
    omega
  rw [h2, List.append_nil] at h1
  exact h1
theorem srt_len {ds : List Du} {q : Int} (h : HV ds q) : (srtL ds q).length = ds.length := by
  rw [srt_eq h, List.length_map]
  exact (srt_perm h).length_eq
theorem due_of_mem {ds : List Du} {q : Int} {d : Du} (h : HV ds q) (hd : d ∈ ds) : dueA ds q d.id = d.at := by
  obtain ⟨k, hk, rfl⟩ := List.mem_iff_getElem.1 hd
  have e : ds[k] = ds.getD k zDu := by simp [List.getD_eq_getElem?_getD, hk]
  rw [e]
  exact dueA_at (okH_true h) (fndD_here hk (fun j hj => (h.apart k j hj hk).1) rfl)
theorem getD_map_id {l : List Du} {i : Nat} (hi : i < l.length) : (l.map Du.id).getD i 0 = (l.getD i zDu).id := by simp [List.getD_eq_getElem?_getD, hi]
theorem getD_mem' {l : List Du} {i : Nat} (hi : i < l.length) : l.getD i zDu ∈ l := by
  have e : l.getD i zDu = l[i] := by simp [List.getD_eq_getElem?_getD, hi]
  rw [e]
  exact List.getElem_mem hi
theorem srt_due {ds : List Du} {q : Int} {i : Nat} (h : HV ds q) (hi : i < ds.length) : dueA ds q ((srtL ds q).getD i 0) = dAt ds i := by
  have hl : i < (allE ds).length := by rw [(srt_perm h).length_eq]; exact hi
  rw [srt_eq h, getD_map_id hl]
  exact due_of_mem h ((srt_perm h).subset (getD_mem' hl))
theorem srt_up {ds : List Du} {q : Int} {i j : Nat} (h : HV ds q) (hij : i < j) (hj : j < ds.length) : dAt ds i ≤ dAt ds j := by
  have hl : (allE ds).length = ds.length := (srt_perm h).length_eq
  have h1 := List.pairwise_iff_getElem.1 (popE_sorted ds.length ds 1000000000 h.heap) i j (by show i < (allE ds).length; omega) (by show j < (allE ds).length; omega) hij
  have h2 : before ((allE ds).getD j zDu) ((allE ds).getD i zDu) = false := by
    have ei : (allE ds).getD i zDu = (popE ds.length ds 1000000000)[i]'(by show i < (allE ds).length; omega) := by
      rw [List.getD_eq_getElem?_getD, List.getElem?_eq_getElem (by omega)]; rfl
    have ej : (allE ds).getD j zDu = (popE ds.length ds 1000000000)[j]'(by show j < (allE ds).length; omega) := by
      rw [List.getD_eq_getElem?_getD, List.getElem?_eq_getElem (by omega)]; rfl
    rw [ei, ej]
    exact h1
  unfold dAt
  rw [← Bool.not_eq_true, before_iff] at h2
  omega

theorem pop_eq {ds : List Du} {q now : Int} (h : HV ds q) : popL ds q now = (popE ds.length ds now).map Du.id ∧ popD ds q now = popR ds.length ds now := by
  unfold popL popD
  rw [if_pos (okH_true h), if_pos (okH_true h), popE_ids]
  exact ⟨rfl, rfl⟩
theorem popD_val {ds : List Du} {q now : Int} (h : HV ds q) : HV (popD ds q now) q := by
  rw [(pop_eq h).2]
  exact pop_val _ _ _ _ h
theorem pop_sum {ds : List Du} {q now : Int} (h : HV ds q) : (popD ds q now).length + (popL ds q now).length = ds.length := by
  rw [(pop_eq h).1, (pop_eq h).2, List.length_map]
  have := (popE_perm ds.length ds now).length_eq
  rw [List.length_append] at this
  omega
theorem pop_split {ds : List Du} {q now : Int} (h : HV ds q) (hn : now ≤ 1000000000) : ∃ T, allE ds = popE ds.length ds now ++ T ∧ T.Perm (popR ds.length ds now) := by
  obtain ⟨T, hT⟩ := popE_prefix ds.length ds now 1000000000 hn
  refine ⟨T, hT.symm, ?_⟩
  have h1 : (popE ds.length ds now ++ T).Perm (popE ds.length ds now ++ popR ds.length ds now) := by
    rw [hT]
    exact (srt_perm h).trans (popE_perm ds.length ds now).symm
  exact (List.perm_append_left_iff _).1 h1
theorem pop_same {ds : List Du} {q now : Int} {i : Nat} (h : HV ds q) (hn : now ≤ 1000000000) (hi : i < (popL ds q now).length) : (popL ds q now).getD i 0 = (srtL ds q).getD i 0 := by
  obtain ⟨T, hT, _⟩ := pop_split h hn
  rw [srt_eq h, hT, (pop_eq h).1, List.map_append]
  rw [(pop_eq h).1] at hi
  simp only [List.getD_eq_getElem?_getD, List.getElem?_append_left hi]
theorem pop_iff {ds : List Du} {q now : Int} {i : Nat} (h : HV ds q) (hn : now ≤ 1000000000) (hi : i < ds.length) : i < (popL ds q now).length ↔ dAt ds i ≤ now := by
  obtain ⟨T, hT, hp⟩ := pop_split h hn
  have hl : (allE ds).length = ds.length := (srt_perm h).length_eq
  rw [(pop_eq h).1, List.length_map]
  unfold dAt
  have hl2 : (popE ds.length ds now).length + T.length = ds.length := by rw [hT, List.length_append] at hl; exact hl
  rw [hT]
  constructor
  · intro h1
    have e : (popE ds.length ds now ++ T).getD i zDu = (popE ds.length ds now).getD i zDu := by
      simp only [List.getD_eq_getElem?_getD, List.getElem?_append_left h1]
    rw [e]
    exact popE_due _ _ _ _ (getD_mem' h1)
  · intro h1
    by_cases h2 : i < (popE ds.length ds now).length
    · exact h2
    · exfalso
      have h3 : (popE ds.length ds now).length ≤ i := by omega
      have e : (popE ds.length ds now ++ T).getD i zDu = T.getD (i - (popE ds.length ds now).length) zDu := by
        simp only [List.getD_eq_getElem?_getD, List.getElem?_append_right h3]
      rw [e] at h1
      have h4 := popR_late _ _ now h.heap (Nat.le_refl _) _ (hp.subset (getD_mem' (l := T) (i := i - (popE ds.length ds now).length) (by omega)))
      omega
theorem next_first {ds : List Du} {q : Int} (h : HV ds q) (h0 : 0 < ds.length) : (ds.getD 0 zDu).id = (srtL ds q).getD 0 0 := by
  have hl : (allE ds).length = ds.length := (srt_perm h).length_eq
  rw [srt_eq h, getD_map_id (by omega)]
  have e : allE ds = popE (ds.length - 1 + 1) ds 1000000000 := by unfold allE; congr 1; omega
  have hd : dueB ds 1000000000 = true := by
    unfold dueB
    simp only [Bool.and_eq_true, decide_eq_true_eq]
    exact ⟨h0, at_most (h.each 0 h0)⟩
  rw [e]
  unfold popE
  rw [if_pos hd]
  rfl
end Go.Proofs.Ytnmhdbfemobhkaa.Hp
