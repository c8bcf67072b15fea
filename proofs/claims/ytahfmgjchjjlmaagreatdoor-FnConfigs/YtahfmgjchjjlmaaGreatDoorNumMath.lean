/- Plain facts on decimal numerals and on the text of a tick; no program. -/
import Derived.Lib.ItoaMem
import Derived.Lib.ItoaLen
import Derived.Lib.Atoi
import Derived.Lib.AtoiBound
namespace Go.Proofs.YtahfmgjchjjlmaaGreatDoor.Num

def dd (m : Nat) : List UInt8 := if m = 0 then [] else Lib.decDigits m
def frac (r : Nat) : List UInt8 := [UInt8.ofNat (48 + r / 100), UInt8.ofNat (48 + r / 10 % 10), UInt8.ofNat (48 + r % 10)]
def tickL (n : Nat) : List UInt8 := Lib.decDigits (n / 1000) ++ 46 :: frac (n % 1000)

theorem decDigits_ten {m : Nat} (h : ¬ m < 10) : Lib.decDigits m = Lib.decDigits (m / 10) ++ [UInt8.ofNat (48 + m % 10)] := by
  conv => lhs; unfold Lib.decDigits
  rw [dif_neg h]

theorem dd_step {m : Nat} (h : 0 < m) : dd m = dd (m / 10) ++ [UInt8.ofNat (48 + m % 10)] := by
  unfold dd
  rw [if_neg (by omega)]
  by_cases h10 : m < 10
  · rw [if_pos (by omega), Lib.decDigits_one h10, Nat.mod_eq_of_lt h10]; rfl
  · rw [if_neg (by omega), decDigits_ten h10]

theorem itoa_zero : Lib.itoa 0 = [48] := by
  have := Lib.itoa_nonneg 0
  rw [Lib.decDigits_one (by omega)] at this
  exact this

theorem digits_1000 (r : Nat) (h : r < 1000) : Lib.decDigits (1000 + r) = 49 :: frac r := by
  rw [decDigits_ten (by omega), show (1000 + r) / 10 = 100 + r / 10 by omega, decDigits_ten (by omega), show (100 + r / 10) / 10 = 10 + r / 100 by omega, decDigits_ten (by omega), show (10 + r / 100) / 10 = 1 by omega, Lib.decDigits_one (by omega)]
  rw [show (1000 + r) % 10 = r % 10 by omega, show (100 + r / 10) % 10 = r / 10 % 10 by omega, show (10 + r / 100) % 10 = r / 100 by omega]
  rfl

theorem digitVal_ofNat (d : Nat) (h : d < 10) : Lib.digitVal (UInt8.ofNat (48 + d)) = some d := by
  have : d = 0 ∨ d = 1 ∨ d = 2 ∨ d = 3 ∨ d = 4 ∨ d = 5 ∨ d = 6 ∨ d = 7 ∨ d = 8 ∨ d = 9 := by omega
  rcases this with rfl | rfl | rfl | rfl | rfl | rfl | rfl | rfl | rfl | rfl <;> decide

theorem decFrom_append (l r : List UInt8) : ∀ acc : Nat, Lib.decFrom acc (l ++ r) = (Lib.decFrom acc l).bind fun a => Lib.decFrom a r := by
  induction l with
  | nil => intro acc; simp [Lib.decFrom]
  | cons b t ih =>
    intro acc
    simp only [List.cons_append, Lib.decFrom]
    cases Lib.digitVal b with
    | none => simp
    | some d => simp [ih]

theorem decFrom_one (acc d : Nat) (h : d < 10) : Lib.decFrom acc [UInt8.ofNat (48 + d)] = some (acc * 10 + d) := by
  simp only [Lib.decFrom, digitVal_ofNat d h]

theorem decFrom_digits (n : Nat) : Lib.decFrom 0 (Lib.decDigits n) = some n := by
  induction n using Nat.strongRecOn with
  | ind n ih =>
    by_cases h : n < 10
    · rw [Lib.decDigits_one h, decFrom_one 0 n h]; simp
    · rw [decDigits_ten h, decFrom_append, ih (n / 10) (by omega)]
      simp only [Option.bind_some]
      rw [decFrom_one _ _ (by omega)]
      simp; omega

theorem decFrom_frac (q r : Nat) (h : r < 1000) : Lib.decFrom q (frac r) = some (q * 1000 + r) := by
  have e : frac r = [UInt8.ofNat (48 + r / 100)] ++ ([UInt8.ofNat (48 + r / 10 % 10)] ++ [UInt8.ofNat (48 + r % 10)]) := rfl
  rw [e, decFrom_append, decFrom_one _ _ (by omega)]
  simp only [Option.bind_some]
  rw [decFrom_append, decFrom_one _ _ (by omega)]
  simp only [Option.bind_some]
  rw [decFrom_one _ _ (by omega)]
  simp; omega

theorem digits_len_pos (n : Nat) : 0 < (Lib.decDigits n).length := by
  by_cases h : n < 10
  · rw [Lib.decDigits_one h]; simp
  · rw [decDigits_ten h]; simp

theorem digits_len_le (k : Nat) : ∀ n : Nat, n < 10 ^ (k + 1) → (Lib.decDigits n).length ≤ k + 1 := by
  induction k with
  | zero => intro n h; rw [Lib.decDigits_one (by simpa using h)]; simp
  | succ k ih =>
    intro n h
    by_cases h10 : n < 10
    · rw [Lib.decDigits_one h10]; simp
    · rw [decDigits_ten h10, List.length_append]
      have := ih (n / 10) (by rw [Nat.pow_succ] at h; omega)
      simp; omega

theorem digits_mem (n : Nat) : ∀ b ∈ Lib.decDigits n, 48 ≤ b.toNat ∧ b.toNat ≤ 57 := by
  induction n using Nat.strongRecOn with
  | ind n ih =>
    intro b hb
    by_cases h : n < 10
    · rw [Lib.decDigits_one h, List.mem_singleton] at hb
      subst hb
      have := Lib.digitVal_eq (digitVal_ofNat n h)
      omega
    · rw [decDigits_ten h] at hb
      simp only [List.mem_append, List.mem_singleton] at hb
      rcases hb with hb | hb
      · exact ih (n / 10) (by omega) b hb
      · subst hb
        have := Lib.digitVal_eq (digitVal_ofNat (n % 10) (by omega))
        omega

theorem frac_mem (r : Nat) (h : r < 1000) : ∀ b ∈ frac r, 48 ≤ b.toNat ∧ b.toNat ≤ 57 := by
  intro b hb
  simp only [frac, List.mem_cons, List.not_mem_nil, or_false] at hb
  rcases hb with rfl | rfl | rfl
  · have := Lib.digitVal_eq (digitVal_ofNat (r / 100) (by omega)); omega
  · have := Lib.digitVal_eq (digitVal_ofNat (r / 10 % 10) (by omega)); omega
  · have := Lib.digitVal_eq (digitVal_ofNat (r % 10) (by omega)); omega

theorem frac_len (r : Nat) : (frac r).length = 3 := rfl

theorem tickL_len (n : Nat) : (tickL n).length = (Lib.decDigits (n / 1000)).length + 4 := by
  unfold tickL; rw [List.length_append, List.length_cons, frac_len]

theorem tickL_bounds (n : Nat) (h : n ≤ 1000000000) : 5 ≤ (tickL n).length ∧ (tickL n).length ≤ 11 := by
  rw [tickL_len]
  have h1 := digits_len_pos (n / 1000)
  have h2 := digits_len_le 6 (n / 1000) (by simp only [Nat.reduceAdd, Nat.reducePow]; omega)
  omega

theorem tickL_take (n : Nat) : (tickL n).take ((tickL n).length - 4) = Lib.decDigits (n / 1000) := by
  rw [tickL_len]; unfold tickL; simp

theorem tickL_drop (n : Nat) : (tickL n).drop ((tickL n).length - 3) = frac (n % 1000) := by
  rw [tickL_len]; unfold tickL
  rw [show (Lib.decDigits (n / 1000)).length + 4 - 3 = (Lib.decDigits (n / 1000)).length + 1 by omega, List.drop_append]
  simp

theorem atoi_of_digits {l : List UInt8} {m : Nat} (hd : ∀ b ∈ l, 48 ≤ b.toNat ∧ b.toNat ≤ 57) (hp : 0 < l.length) (h : Lib.decFrom 0 l = some m) : Lib.atoi l = some (m : Int) := by
  match l, hp, h, hd with
  | b :: r, _, h, hd =>
    have hb := hd b (by simp)
    have n45 : (b == 45) = false := by
      rw [beq_eq_false_iff_ne]; rintro rfl; revert hb; decide
    have n43 : (b == 43) = false := by
      rw [beq_eq_false_iff_ne]; rintro rfl; revert hb; decide
    have hn : Lib.decNat (b :: r) = some m := by simpa [Lib.decNat] using h
    simp [Lib.atoi, n45, n43, hn]

theorem atoi_tick (n : Nat) : Lib.atoi (Lib.decDigits (n / 1000) ++ frac (n % 1000)) = some (n : Int) := by
  refine atoi_of_digits (m := n) ?_ ?_ ?_
  · intro b hb
    rcases List.mem_append.1 hb with hb | hb
    · exact digits_mem _ b hb
    · exact frac_mem _ (by omega) b hb
  · rw [List.length_append]; have := digits_len_pos (n / 1000); omega
  · rw [decFrom_append, decFrom_digits]
    simp only [Option.bind_some]
    rw [decFrom_frac _ _ (by omega)]
    congr 1; omega

theorem tickL_inj {n m : Nat} (h : tickL n = tickL m) : n = m := by
  have h1 := tickL_take n
  have h2 := tickL_drop n
  rw [h, tickL_take m] at h1
  rw [h, tickL_drop m] at h2
  have a := atoi_tick n
  have b := atoi_tick m
  rw [← h1, ← h2, b] at a
  have := Option.some.inj a
  omega

theorem cat_cons (c : UInt8) (l : List UInt8) : (⟨#[c]⟩ : ByteArray) ++ ⟨l.toArray⟩ = ⟨(c :: l).toArray⟩ := by
  apply ByteArray.ext; simp

theorem cat_tick {L : List UInt8} {n : Nat} {c1 c2 c3 : UInt8} (hL : L = Lib.decDigits (n / 1000)) (hF : [c1, c2, c3] = frac (n % 1000)) :
    (⟨L.toArray⟩ : ByteArray) ++ ⟨#[46]⟩ ++ ⟨#[c1, c2, c3]⟩ = ⟨(tickL n).toArray⟩ := by
  unfold tickL
  rw [← hL, ← hF]
  apply ByteArray.ext
  simp

theorem cat_tick2 {L F : List UInt8} {n : Nat} (hL : L = Lib.decDigits (n / 1000)) (hF : frac (n % 1000) = F) :
    (⟨L.toArray⟩ : ByteArray) ++ ⟨#[46]⟩ ++ ⟨F.toArray⟩ = ⟨(tickL n).toArray⟩ := by
  unfold tickL
  rw [← hL, hF]
  apply ByteArray.ext
  simp
end Go.Proofs.YtahfmgjchjjlmaaGreatDoor.Num
