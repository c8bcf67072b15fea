/- Parsing the text of a configuration gives it back, as plain mathematics. -/
import Derived.Test.YtahfmgjchjjlmaaGreatDoorRc2
namespace Go.Proofs.YtahfmgjchjjlmaaGreatDoor.Fm
open Go.RowKit Go.Deep Base Cf Ct Num Parts

theorem parts_snoc {c : UInt8} {r : List UInt8} : ∀ {l : List UInt8} {P : List (List UInt8)} {q : List UInt8}, parts c l = P ++ [q] → parts c (l ++ r) = P ++ glue q (parts c r)
  | [], P, q, h => by
    have h0 : [[]] = P ++ [q] := h
    cases P with
    | nil =>
      have hq : q = [] := by simpa using h0.symm
      subst hq
      show parts c r = [] ++ glue [] (parts c r)
      rw [glue_nil (parts_ne c r)]
      rfl
    | cons p P => simp at h0
  | b :: l, P, q, h => by
    show parts c (b :: (l ++ r)) = _
    by_cases e : b = c
    · have h1 : parts c (b :: l) = [] :: parts c l := by conv => lhs; unfold parts; rw [if_pos e]
      have h2 : parts c (b :: (l ++ r)) = [] :: parts c (l ++ r) := by conv => lhs; unfold parts; rw [if_pos e]
      rw [h1] at h
      rw [h2]
      cases P with
      | nil =>
        exfalso
        have h3 : parts c l = [] := by simpa using (List.cons.inj h).2
        exact parts_ne c l h3
      | cons p P =>
        obtain ⟨h3, h4⟩ := List.cons.inj h
        rw [parts_snoc h4, ← h3]
        rfl
    · have h1 : parts c (b :: l) = glue [b] (parts c l) := by conv => lhs; unfold parts; rw [if_neg e]
      have h2 : parts c (b :: (l ++ r)) = glue [b] (parts c (l ++ r)) := by conv => lhs; unfold parts; rw [if_neg e]
      rw [h1] at h
      rw [h2]
      obtain ⟨P1, q1, hp⟩ : ∃ P1 q1, parts c l = P1 ++ [q1] := ⟨_, _, (List.dropLast_concat_getLast (parts_ne c l)).symm⟩
      rw [parts_snoc hp]
      rw [hp] at h
      cases P1 with
      | nil =>
        have h3 : [b :: q1] = P ++ [q] := h
        cases P with
        | nil =>
          have hq : b :: q1 = q := by simpa using h3
          subst hq
          show glue [b] (glue q1 (parts c r)) = glue (b :: q1) (parts c r)
          rw [glue_glue]
          rfl
        | cons p P => simp at h3
      | cons p P1 =>
        have h3 : (b :: p) :: (P1 ++ [q1]) = P ++ [q] := h
        cases P with
        | nil => simp at h3
        | cons p' P =>
          obtain ⟨h4, h5⟩ := List.cons.inj h3
          have h6 := List.append_inj' h5 rfl
          have h7 : q1 = q := by simpa using h6.2
          rw [← h4, h6.1, h7]
          rfl

def lineOf (c : Nat → Int) (i : Nat) : List UInt8 := (nmB i).data.toList ++ 61 :: Lib.itoa (c i)

theorem name_ok {i : Nat} (h : i < 14) : (∀ b, b ∈ (nmB i).data.toList → b ≠ 10 ∧ b ≠ 61) ∧ (nmB i).data.toList ≠ [] ∧ (nmB i).data.toList.head? ≠ some 35 := by
  have hall : ((List.range 14).all fun i => (nmB i).data.toList.all (fun b => b != 10 && b != 61) && !((nmB i).data.toList == []) && !((nmB i).data.toList.head? == some 35)) = true := by kernel_rfl
  have h1 := List.all_eq_true.1 hall i (List.mem_range.2 h)
  simp only [Bool.and_eq_true, List.all_eq_true, Bool.not_eq_true', beq_eq_false_iff_ne, bne_iff_ne] at h1
  exact ⟨h1.1.1, h1.1.2, h1.2⟩

theorem digit_far {v : Int} (h0 : 0 ≤ v) : ∀ b, b ∈ Lib.itoa v → b ≠ 10 ∧ b ≠ 61 ∧ b ≠ 45 := by
  obtain ⟨m, rfl⟩ := Int.eq_ofNat_of_zero_le h0
  intro b hb
  rw [Lib.itoa_nonneg] at hb
  have := digits_mem _ _ hb
  refine ⟨?_, ?_, ?_⟩ <;> (rintro rfl; revert this; decide)

theorem readT_num {v : Int} (h0 : 0 ≤ v) (h1 : v ≤ 1000000000) : readT (Lib.itoa v) = (v, true) := by
  have hf := digit_far h0
  obtain ⟨m, rfl⟩ := Int.eq_ofNat_of_zero_le h0
  have hp := digits_len_pos m
  have hl := digits_len_le 9 m (by simp only [Nat.reduceAdd, Nat.reducePow]; omega)
  rw [← Lib.itoa_nonneg] at hp hl
  have hh : (Lib.itoa (m : Int)).head? ≠ some 45 := fun h => (hf 45 (List.mem_of_head? h)).2.2 rfl
  have hu : unsign (Lib.itoa (m : Int)) = Lib.itoa (m : Int) := if_neg hh
  have hs : signed (Lib.itoa (m : Int)) m = (m : Int) := if_neg hh
  rw [readT_some (m := m) (by rw [hu]; omega) (by rw [hu]; omega) (by rw [hu, Lib.itoa_nonneg]; exact decFrom_digits m), hs]
  simp

theorem line_far {c : Nat → Int} (hf : Fit c) {i : Nat} (h : i < 14) : ∀ b, b ∈ lineOf c i → b ≠ 10 := by
  intro b hb
  rcases List.mem_append.1 hb with hb | hb
  · exact ((name_ok h).1 b hb).1
  · rcases List.mem_cons.1 hb with rfl | hb
    · decide
    · exact (digit_far (hf i h).1 b hb).1

theorem parts_text {c : Nat → Int} (hf : Fit c) : ∀ k, k ≤ 14 → parts 10 (txT c k) = (List.range k).map (lineOf c) ++ [[]]
  | 0, _ => rfl
  | k + 1, h => by
    have e : txT c (k + 1) = txT c k ++ (lineOf c k ++ 10 :: []) := by
      show txT c k ++ lnT c k = _
      unfold lnT lineOf
      simp
    rw [e, parts_snoc (parts_text hf k (by omega)), parts_cut (line_far hf (by omega)), List.range_succ, List.map_append]
    simp [glue, parts]

theorem lines_text {c : Nat → Int} (hf : Fit c) : linesT (txT c 14) = (List.range 14).map (lineOf c) := by
  unfold linesT
  rw [parts_text hf 14 (Nat.le_refl _), if_pos (by simp)]
  simp

def mix (c : Nat → Int) (k : Nat) : Nat → Int := fun j => if j < k then c j else dflt j
def dn (k : Nat) : Nat → Bool := fun j => decide (j < k)

theorem mix_next (c : Nat → Int) (k : Nat) : upd (mix c k) k (c k) = mix c (k + 1) := by
  funext j
  unfold upd mix
  by_cases e : j = k
  · subst e
    rw [if_pos rfl, if_pos (by omega)]
  · rw [if_neg e]
    by_cases h : j < k
    · rw [if_pos h, if_pos (by omega)]
    · rw [if_neg h, if_neg (by omega)]

theorem dn_next (k : Nat) : updB (dn k) k = dn (k + 1) := by
  funext j
  unfold updB dn
  by_cases e : j = k
  · subst e
    simp
  · rw [if_neg e]
    by_cases h : j < k
    · simp [h, show j < k + 1 by omega]
    · simp [h, show ¬ j < k + 1 by omega]

theorem after_text {c : Nat → Int} (hf : Fit c) : ∀ k, k ≤ 14 → afterL dflt ((List.range 14).map (lineOf c)) k = some (mix c k, dn k)
  | 0, _ => by
    have e1 : mix c 0 = dflt := by funext j; unfold mix; rw [if_neg (by omega)]
    have e2 : dn 0 = fun _ => false := by funext j; unfold dn; simp
    rw [e1, e2]
    rfl
  | k + 1, h => by
    rw [after_step (after_text hf k (by omega))]
    have hk : k < 14 := by omega
    have e : ((List.range 14).map (lineOf c)).getD k [] = lineOf c k := by
      rw [List.getD_eq_getElem?_getD, List.getElem?_map, List.getElem?_range hk]
      rfl
    obtain ⟨h1, h2, h3⟩ := name_ok hk
    have hl : ¬ (lineOf c k = [] ∨ (lineOf c k).head? = some 35) := by
      unfold lineOf
      cases hn : (nmB k).data.toList with
      | nil => exact absurd hn h2
      | cons a q =>
        rw [hn] at h3
        simpa using h3
    rw [e]
    unfold lineL
    rw [if_neg hl]
    have hp : parts 61 (lineOf c k) = [(nmB k).data.toList, Lib.itoa (c k)] := by
      unfold lineOf
      rw [parts_cut fun b hb => (h1 b hb).2, parts_no fun b hb => (digit_far (hf k hk).1 b hb).2.1]
    unfold setL
    rw [hp]
    have hr := readT_num (hf k hk).1 (hf k hk).2
    have hd : dn k k = false := by unfold dn; simp
    simp only [hr, if_true, fieldAt_some hk, hd]
    rw [mix_next, dn_next]
    rfl

theorem ans_text {c : Nat → Int} (hok : okC c = true) : Ans dflt (txT c 14) (mix c 14) 0 := by
  have hf := fit_ok hok
  refine .inr ⟨by have := tx_len hf 14 (Nat.le_refl _); omega, .inr ⟨mix c 14, dn 14, ?_, .inl ⟨?_, rfl, rfl⟩⟩⟩
  · rw [lines_text hf, List.length_map, List.length_range]
    exact after_text hf 14 (Nat.le_refl _)
  · have e : okC (mix c 14) = okC c := rfl
    rw [e]
    exact hok

theorem ans_empty : Ans dflt [] dflt 0 :=
  .inr ⟨by decide, .inr ⟨dflt, fun _ => false, rfl, .inl ⟨by decide, rfl, rfl⟩⟩⟩
end Go.Proofs.YtahfmgjchjjlmaaGreatDoor.Fm
