/- Decoding inverts encoding; of a truncated log the complete events are decoded. -/
import Derived.Test.YtcgmeindiaaokaaDoorBy0
namespace Go.Proofs.YtcgmeindiaaokaaDoor.By

theorem takeN_at {b r : List Int} {k : Nat} {x : Int} (h : tick x = true) (e : b.drop k = putN x ++ r) (hk : k ≤ b.length) : takeN b k = some (x, (k : Int) + ((putN x).length : Int)) := by
  unfold takeN
  rw [if_pos (by omega), Int.toNat_natCast, e, takeL_put x r h]
  rfl
theorem putE_ne {e : Ev} (h : putE e ≠ []) : 0 ≤ e.1 ∧ e.1 ≤ 11 ∧ tick e.2.1 = true ∧ tick e.2.2 = true ∧ putE e = e.1 :: (putN e.2.1 ++ putN e.2.2) := by
  unfold putE at h ⊢
  split at h
  · next hc =>
    rw [if_pos hc]
    simp only [Bool.and_eq_true, decide_eq_true_eq] at hc
    exact ⟨hc.1.1, hc.1.2, hc.2.1, hc.2.2, rfl⟩
  · exact absurd rfl h
theorem putE_yes {e : Ev} (h1 : 0 ≤ e.1) (h2 : e.1 ≤ 11) (h3 : tick e.2.1 = true) (h4 : tick e.2.2 = true) : putE e = e.1 :: (putN e.2.1 ++ putN e.2.2) := by
  unfold putE
  rw [if_pos (by simp [h1, h2, h3, h4])]
theorem putE_no {e : Ev} (h : ¬ (0 ≤ e.1 ∧ e.1 ≤ 11 ∧ tick e.2.1 = true ∧ tick e.2.2 = true)) : putE e = [] := by
  unfold putE
  rw [if_neg (by simp only [Bool.and_eq_true, decide_eq_true_eq]; rintro ⟨⟨a, b⟩, c, d⟩; exact h ⟨a, b, c, d⟩)]
theorem putE_len (e : Ev) : (putE e).length ≤ 11 := by
  by_cases h : putE e = []
  · simp [h]
  · have h' := (putE_ne h).2.2.2.2
    have h1 := putN_len e.2.1
    have h2 := putN_len e.2.2
    rw [h']
    simp; omega
theorem putE_bytes (e : Ev) : ∀ g ∈ putE e, 0 ≤ g ∧ g ≤ 255 := by
  by_cases h : putE e = []
  · simp [h]
  · obtain ⟨h0, h1, _, _, h'⟩ := putE_ne h
    rw [h']
    intro g hg
    simp only [List.mem_cons, List.mem_append] at hg
    rcases hg with rfl | hg | hg
    · omega
    · exact putN_bytes _ g hg
    · exact putN_bytes _ g hg
theorem drop_more {b r s : List Int} {k : Nat} (e : b.drop k = s ++ r) : b.drop (k + s.length) = r := by
  rw [← List.drop_drop, e, List.drop_left]
theorem takeE_at {b r : List Int} {k : Nat} {e : Ev} (h : putE e ≠ []) (hb : b.drop k = putE e ++ r) : takeE b k = some (e, (k : Int) + ((putE e).length : Int)) := by
  obtain ⟨h0, h1, h2, h3, h'⟩ := putE_ne h
  have hk : k < b.length := by
    rcases Nat.lt_or_ge k b.length with hk | hk
    · exact hk
    · rw [List.drop_eq_nil_of_le hk] at hb
      rw [h'] at hb
      simp at hb
  have hg : b.getD k 0 = e.1 := by
    have : (b.drop k)[0]? = some e.1 := by rw [hb, h']; simp
    rw [List.getElem?_drop] at this
    rw [List.getD_eq_getElem?_getD, show k = k + 0 from rfl, this]
    rfl
  have hd1 : b.drop (k + 1) = putN e.2.1 ++ (putN e.2.2 ++ r) := by
    rw [← List.drop_drop, hb, h']
    simp
  have hd2 : b.drop (k + 1 + (putN e.2.1).length) = putN e.2.2 ++ r := drop_more hd1
  have ht : takeN b ((k : Int) + 1) = some (e.2.1, ((k + 1 + (putN e.2.1).length : Nat) : Int)) := by
    have := takeN_at h2 hd1 (by omega)
    rw [show ((k + 1 : Nat) : Int) = (k : Int) + 1 by omega] at this
    rw [this]
    congr 2
  have hk2 : k + 1 + (putN e.2.1).length ≤ b.length := by
    have := takeN_some ht
    omega
  have hc : takeN b ((k + 1 + (putN e.2.1).length : Nat) : Int) = some (e.2.2, ((k + 1 + (putN e.2.1).length : Nat) : Int) + ((putN e.2.2).length : Int)) := takeN_at h3 hd2 hk2
  unfold takeE
  rw [if_pos (by rw [Int.toNat_natCast, hg]; omega), ht]
  simp only
  rw [hc]
  simp only
  rw [Int.toNat_natCast, hg, h']
  simp
  omega

/-- The events one after the other. -/
def cat : List Ev → List Int
  | [] => []
  | e :: r => putE e ++ cat r
theorem putG_some : ∀ (log : List Ev) (acc b : List Int), putG acc log = some b → b = acc ++ cat log ∧ (∀ e ∈ log, putE e ≠ []) ∧ (acc.length ≤ 8000 → b.length ≤ 8000)
  | [], acc, b, h => by
    rw [putG] at h
    cases h
    exact ⟨by simp [cat], by simp, id⟩
  | e :: r, acc, b, h => by
    rw [putG] at h
    split at h
    · cases h
    · next hc =>
      obtain ⟨h1, h2, h3⟩ := putG_some r _ b h
      refine ⟨by rw [h1, cat, List.append_assoc], ?_, fun _ => h3 (by rw [List.length_append]; omega)⟩
      intro e' he
      rw [List.mem_cons] at he
      rcases he with rfl | he
      · exact fun e0 => hc (.inl e0)
      · exact h2 e' he
theorem putG_yes : ∀ (log : List Ev) (acc : List Int), (∀ e ∈ log, putE e ≠ []) → acc.length + (cat log).length ≤ 8000 → putG acc log = some (acc ++ cat log)
  | [], acc, _, _ => by simp [putG, cat]
  | e :: r, acc, h, hl => by
    rw [cat, List.length_append] at hl
    rw [putG, if_neg (by rintro (e0 | e0); exact h e (by simp) e0; omega), putG_yes r _ (fun e' he => h e' (by simp [he])) (by rw [List.length_append]; omega), cat, List.append_assoc]
theorem putL_some {log : List Ev} {b : List Int} (h : putL log = some b) : b = cat log ∧ (∀ e ∈ log, putE e ≠ []) ∧ b.length ≤ 8000 ∧ log.length ≤ 2000 := by
  unfold putL at h
  split at h
  · cases h
  · obtain ⟨h1, h2, h3⟩ := putG_some log [] b h
    exact ⟨by simpa using h1, h2, h3 (by simp), by omega⟩
theorem cat_bytes : ∀ (log : List Ev), ∀ g ∈ cat log, 0 ≤ g ∧ g ≤ 255
  | [], g, h => by simp [cat] at h
  | e :: r, g, h => by
    rw [cat, List.mem_append] at h
    rcases h with h | h
    · exact putE_bytes e g h
    · exact cat_bytes r g h

theorem takeN_take {b : List Int} {at_ x n : Int} (c : Nat) (hc : c ≤ b.length) (h : takeN b at_ = some (x, n)) : takeN (b.take c) at_ = if n ≤ (c : Int) then some (x, n) else none := by
  have hs := takeN_some h
  have hlen : (b.take c).length = c := by rw [List.length_take]; omega
  unfold takeN at h
  rw [if_pos (by omega)] at h
  cases e : takeL (b.drop at_.toNat) with
  | none => rw [e] at h; simp at h
  | some p =>
    obtain ⟨y, k⟩ := p
    rw [e] at h
    simp at h
    obtain ⟨rfl, rfl⟩ := h
    unfold takeN
    by_cases hac : at_ ≤ (c : Int)
    · rw [if_pos (by omega), List.drop_take, takeL_take _ e]
      by_cases hk : k ≤ c - at_.toNat
      · rw [if_pos hk, if_pos (by omega)]; rfl
      · rw [if_neg hk, if_neg (by omega)]; rfl
    · rw [if_neg (by omega), if_neg (by omega)]
theorem takeE_take {b : List Int} {at_ n : Int} {e : Ev} (c : Nat) (hc : c ≤ b.length) (h : takeE b at_ = some (e, n)) : takeE (b.take c) at_ = if n ≤ (c : Int) then some (e, n) else none := by
  have hs := takeE_some h
  have hlen : (b.take c).length = c := by rw [List.length_take]; omega
  unfold takeE at h
  split at h
  · next hb =>
    split at h
    · cases h
    · next t m hm =>
      split at h
      · cases h
      · next c' m' hm' =>
        cases h
        have h1 := takeN_some hm
        have h2 := takeN_some hm'
        unfold takeE
        by_cases hac : at_ < (c : Int)
        · have hg : (b.take c).getD at_.toNat 0 = b.getD at_.toNat 0 := by
            rw [List.getD_eq_getElem?_getD, List.getD_eq_getElem?_getD, List.getElem?_take, if_pos (by omega)]
          rw [if_pos ⟨hb.1, by omega, by rw [hg]; exact hb.2.2⟩, takeN_take c hc hm]
          by_cases hmc : m ≤ (c : Int)
          · rw [if_pos hmc]
            simp only
            rw [takeN_take c hc hm']
            by_cases hnc : n ≤ (c : Int)
            · rw [if_pos hnc, if_pos hnc, hg]
            · rw [if_neg hnc, if_neg hnc]
          · rw [if_neg hmc, if_neg (by omega)]
        · rw [if_neg (by omega), if_neg (by omega)]
  · cases h
theorem takeE_end {b : List Int} {at_ : Int} (h : (b.length : Int) ≤ at_) : takeE b at_ = none := by
  unfold takeE
  rw [if_neg (by omega)]

/-- Of a truncated log the complete events come. -/
theorem mostF_cut : ∀ (log : List Ev) (f k c : Nat) (b : List Int), (∀ e ∈ log, putE e ≠ []) → b.drop k = cat log → k ≤ c → c ≤ b.length → log.length ≤ f →
    ∃ j, j ≤ log.length ∧ mostF f (b.take c) k = (log.take j, (k : Int) + ((cat (log.take j)).length : Int)) ∧ k + (cat (log.take j)).length ≤ c ∧ (j = log.length ∧ k + (cat (log.take j)).length = b.length ∧ c = b.length ∨ c < k + (cat (log.take j)).length + 11)
  | [], f, k, c, b, _, hd, hk, hc, _ => by
    have hl : b.length ≤ k := by simpa [cat] using hd
    have hck : c = k := by omega
    subst hck
    refine ⟨0, by simp, ?_, by simp [cat], .inr (by simp [cat])⟩
    cases f with
    | zero => simp [mostF, cat]
    | succ f =>
      rw [mostF, takeE_end (by rw [List.length_take]; omega)]
      simp [cat]
  | e :: r, 0, k, c, b, _, _, _, _, hf => by simp at hf
  | e :: r, f + 1, k, c, b, he, hd, hk, hc, hf => by
    have h1 := takeE_at (he e (by simp)) (show b.drop k = putE e ++ cat r from hd)
    have hs := takeE_some h1
    have h2 := takeE_take c hc h1
    rw [mostF, h2]
    by_cases hn : k + (putE e).length ≤ c
    · rw [if_pos (by omega)]
      simp only
      obtain ⟨j, j1, j2, j3, j4⟩ := mostF_cut r f (k + (putE e).length) c b (fun e' h' => he e' (by simp [h'])) (drop_more hd) hn hc (by simp at hf; omega)
      rw [show ((k : Int) + ((putE e).length : Int)) = ((k + (putE e).length : Nat) : Int) by omega, j2]
      refine ⟨j + 1, by simp; omega, ?_, ?_, ?_⟩
      · simp only [List.take_succ_cons, cat, List.length_append]
        congr 1
        omega
      · simp only [List.take_succ_cons, cat, List.length_append]; omega
      · simp only [List.take_succ_cons, cat, List.length_append, List.length_cons]; omega
    · rw [if_neg (by omega)]
      refine ⟨0, by simp, by simp [cat], by simp [cat]; omega, .inr ?_⟩
      simp only [List.take_zero, cat, List.length_nil]
      have := putE_len e
      omega

theorem mostF_cat : ∀ (log : List Ev) (f k : Nat) (b : List Int), (∀ e ∈ log, putE e ≠ []) → b.drop k = cat log → k ≤ b.length → log.length ≤ f → mostF f b k = (log, (b.length : Int))
  | [], f, k, b, _, hd, hk, _ => by
    have hl : b.length ≤ k := by simpa [cat] using hd
    cases f with
    | zero => simp [mostF]; omega
    | succ f =>
      rw [mostF, takeE_end (by omega)]
      simp; omega
  | e :: r, 0, k, b, _, _, _, hf => by simp at hf
  | e :: r, f + 1, k, b, he, hd, hk, hf => by
    have h1 := takeE_at (he e (by simp)) (show b.drop k = putE e ++ cat r from hd)
    have hs := takeE_some h1
    rw [mostF, h1]
    simp only
    rw [show ((k : Int) + ((putE e).length : Int)) = ((k + (putE e).length : Nat) : Int) by omega, mostF_cat r f (k + (putE e).length) b (fun e' h' => he e' (by simp [h'])) (drop_more hd) (by omega) (by simp at hf; omega)]

/-- The law's mathematics. -/
theorem back {log : List Ev} {b : List Int} (h : putL log = some b) : most b = (log, (b.length : Int)) ∧ takeLog b = some log := by
  obtain ⟨h1, h2, h3, h4⟩ := putL_some h
  have hm : most b = (log, (b.length : Int)) := by
    unfold most
    rw [if_neg (by omega)]
    exact mostF_cat log 2000 0 b h2 (by simpa using h1) (by omega) h4
  refine ⟨hm, ?_⟩
  unfold takeLog
  rw [hm, if_pos rfl]
theorem cut_back {log : List Ev} {b : List Int} (h : putL log = some b) {c : Nat} (hc : c ≤ b.length) :
    ∃ j, j ≤ log.length ∧ most (b.take c) = (log.take j, ((cat (log.take j)).length : Int)) ∧ (cat (log.take j)).length ≤ c ∧ (j = log.length ∨ c < (cat (log.take j)).length + 11) ∧ putL (log.take j) = some (cat (log.take j)) := by
  obtain ⟨h1, h2, h3, h4⟩ := putL_some h
  obtain ⟨j, j1, j2, j3, j4⟩ := mostF_cut log 2000 0 c b h2 (by simpa using h1) (by omega) hc h4
  simp only [Nat.zero_add] at j3 j4
  refine ⟨j, j1, ?_, j3, ?_, ?_⟩
  · unfold most
    rw [if_neg (by rw [List.length_take]; omega)]
    have e0 : ((0 : Nat) : Int) = 0 := rfl
    rw [e0] at j2
    rw [j2]
    simp
  · rcases j4 with j4 | j4
    · exact .inl j4.1
    · exact .inr j4
  · unfold putL
    rw [if_neg (by rw [List.length_take]; omega), putG_yes _ [] (fun e he => h2 e (List.mem_of_mem_take he)) (by simp; omega)]
    simp
end Go.Proofs.YtcgmeindiaaokaaDoor.By
