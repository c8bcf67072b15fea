/- Whole numbers below 2^53 as float64: sums are exact, and the number comes back; the parts of a course. -/
import Derived.Test.YtjfmkcppampokaaChecked
import Derived.Test.YtjfmkcppampokaaHtk
import Derived.Laws.FloatArith
import Derived.Laws.ComplexArith
namespace Go.Proofs.Ytjfmkcppampokaa.Flt
open Ieee Go.RowKit Base

theorem log2_mul (n k : Nat) (h : n ≠ 0) : (n * 2 ^ k).log2 = n.log2 + k := by
  have hp : 0 < 2 ^ k := Nat.two_pow_pos _
  rw [Nat.log2_eq_iff (Nat.mul_ne_zero h (by omega))]
  have h1 := Nat.log2_self_le h
  have h2 := @Nat.lt_log2_self n
  constructor
  · rw [Nat.pow_add]; exact Nat.mul_le_mul_right _ h1
  · rw [show n.log2 + k + 1 = (n.log2 + 1) + k by omega, Nat.pow_add]
    exact Nat.mul_lt_mul_of_pos_right h2 hp

theorem cut_shift (way : Toward) (n k : Nat) : way.cut false (n * 2 ^ k) k = n := by
  have key : ∀ g : Nat, 0 < g → (n * g / g = n ∧ n * g % g = 0) := fun g hg => ⟨Nat.mul_div_cancel _ hg, Nat.mul_mod_left _ _⟩
  have hg : n ≠ 0 → 1 <<< min k ((n * 2 ^ k).log2 + 2) = 2 ^ k := by
    intro h
    rw [log2_mul n k h, Nat.one_shiftLeft, Nat.min_eq_left (by omega)]
  by_cases h0 : n = 0
  · subst h0
    have hp : 0 < 2 ^ min k ((0 * 2 ^ k).log2 + 2) := Nat.two_pow_pos _
    unfold Toward.cut
    simp only [Nat.one_shiftLeft]
    generalize 2 ^ min k ((0 * 2 ^ k).log2 + 2) = g at hp ⊢
    cases way <;> simp
  · unfold Toward.cut
    simp only [hg h0]
    obtain ⟨h1, h2⟩ := key (2 ^ k) (Nat.two_pow_pos _)
    have hp : 2 ^ k ≠ 0 := Nat.ne_of_gt (Nat.two_pow_pos _)
    rw [h1, h2]
    cases way <;> simp

/-- The word of the whole number n. -/
def W (n : Nat) : Nat := double.nearest false n 0

theorem least : double.leastPlace = -1074 := by decide
theorem frac : double.fractionBits = 52 := rfl
theorem bin : double.binade = 4503599627370496 := by decide
theorem inf : double.infRung = 2047 * 4503599627370496 := by decide
theorem sgn : double.signWeight = 2048 * 4503599627370496 := by decide

theorem lt52 {n : Nat} (h : n < 2 ^ 53) : n.log2 ≤ 52 := by
  by_cases h0 : n = 0
  · subst h0; decide
  · have := (Nat.log2_lt h0).2 h; omega

theorem kept_lo {n : Nat} (h0 : n ≠ 0) (h : n < 2 ^ 53) : 4503599627370496 ≤ n * 2 ^ (52 - n.log2) ∧ n * 2 ^ (52 - n.log2) < 2 * 4503599627370496 := by
  have hl := lt52 h
  have h1 := Nat.log2_self_le h0
  have h2 := @Nat.lt_log2_self n
  have e1 : 2 ^ n.log2 * 2 ^ (52 - n.log2) = 4503599627370496 := by rw [← Nat.pow_add, show n.log2 + (52 - n.log2) = 52 by omega]
  have e2 : 2 ^ (n.log2 + 1) * 2 ^ (52 - n.log2) = 2 * 4503599627370496 := by rw [← Nat.pow_add, show n.log2 + 1 + (52 - n.log2) = 53 by omega]
  have hp : 0 < 2 ^ (52 - n.log2) := Nat.two_pow_pos _
  rw [← e2, ← e1]
  exact ⟨Nat.mul_le_mul_right _ h1, Nat.mul_lt_mul_of_pos_right h2 hp⟩

/-- The number written at whatever place. -/
theorem nearest_at {n : Nat} (h0 : n ≠ 0) (h : n < 2 ^ 53) (k : Nat) :
    double.nearest false (n * 2 ^ k) (-(k : Int)) = (n.log2 + 1022) * 4503599627370496 + n * 2 ^ (52 - n.log2) := by
  have hl := lt52 h
  have hp : n * 2 ^ k ≠ 0 := Nat.mul_ne_zero h0 (Nat.ne_of_gt (Nat.two_pow_pos _))
  unfold Format.nearest
  rw [if_neg hp]
  simp only [log2_mul n k h0, frac, least, bin, inf]
  have hm : max (-(k : Int) + ((n.log2 + k : Nat) : Int) - ((52 : Nat) : Int)) (-1074) = (n.log2 : Int) - 52 := by omega
  rw [hm]
  have hk : Toward.even.cut false ((n * 2 ^ k) <<< (-(k : Int) - ((n.log2 : Int) - 52)).toNat) ((n.log2 : Int) - 52 - -(k : Int)).toNat = n * 2 ^ (52 - n.log2) := by
    by_cases hc : k ≤ 52 - n.log2
    · have e1 : (-(k : Int) - ((n.log2 : Int) - 52)).toNat = 52 - n.log2 - k := by omega
      have e2 : ((n.log2 : Int) - 52 - -(k : Int)).toNat = 0 := by omega
      rw [e1, e2, Nat.shiftLeft_eq, Nat.mul_assoc, ← Nat.pow_add, show k + (52 - n.log2 - k) = 52 - n.log2 by omega]
      have := cut_shift .even (n * 2 ^ (52 - n.log2)) 0
      simpa using this
    · have e1 : (-(k : Int) - ((n.log2 : Int) - 52)).toNat = 0 := by omega
      have e2 : ((n.log2 : Int) - 52 - -(k : Int)).toNat = k - (52 - n.log2) := by omega
      rw [e1, e2, Nat.shiftLeft_zero]
      have := cut_shift .even (n * 2 ^ (52 - n.log2)) (k - (52 - n.log2))
      rwa [Nat.mul_assoc, ← Nat.pow_add, show (52 - n.log2) + (k - (52 - n.log2)) = k by omega] at this
  rw [hk]
  have hlo := kept_lo h0 h
  have e3 : ((n.log2 : Int) - 52 - -1074).toNat = n.log2 + 1022 := by omega
  rw [e3]
  unfold Format.word
  simp only [Bool.false_eq_true, if_false]
  rw [Nat.min_eq_left]
  omega

theorem nearest_zero (p : Int) : double.nearest false 0 p = 0 := by
  unfold Format.nearest Format.word; simp

theorem W_zero : W 0 = 0 := nearest_zero 0
theorem W_pos {n : Nat} (h0 : n ≠ 0) (h : n < 2 ^ 53) : W n = (n.log2 + 1022) * 4503599627370496 + n * 2 ^ (52 - n.log2) := by
  have := nearest_at h0 h 0
  simpa [W] using this

/-- What a datum stands for: the whole number n, not negated. -/
def Is (d : Datum) (n : Nat) : Prop := ∃ k : Nat, d = .number false (n * 2 ^ k) (-(k : Int))

theorem read_is {n : Nat} (h : n < 2 ^ 53) : Is (double.read (W n)) n := by
  by_cases h0 : n = 0
  · subst h0
    obtain ⟨k, hk⟩ : ∃ k : Nat, k = 1074 := ⟨_, rfl⟩
    refine ⟨k, ?_⟩
    rw [W_zero, Nat.zero_mul, hk]
    rfl
  · have hl := lt52 h
    obtain ⟨k1, k2⟩ := kept_lo h0 h
    refine ⟨52 - n.log2, ?_⟩
    rw [W_pos h0 h]
    obtain ⟨m, hm⟩ : ∃ m, n * 2 ^ (52 - n.log2) = m := ⟨_, rfl⟩
    rw [hm] at k1 k2 ⊢
    unfold Format.read
    simp only [least, bin, sgn, inf]
    have a1 : ((n.log2 + 1022) * 4503599627370496 + m) / (2048 * 4503599627370496) = 0 := Nat.div_eq_of_lt (by omega)
    have a2 : ((n.log2 + 1022) * 4503599627370496 + m) % (2048 * 4503599627370496) = (n.log2 + 1022) * 4503599627370496 + m := Nat.mod_eq_of_lt (by omega)
    rw [a1, a2]
    rw [if_neg (by omega), if_pos (by omega)]
    have a3 : ((n.log2 + 1022) * 4503599627370496 + m) / 4503599627370496 = n.log2 + 1023 := by omega
    have a4 : ((n.log2 + 1022) * 4503599627370496 + m) % 4503599627370496 = m - 4503599627370496 := by omega
    have a5 : 4503599627370496 + (m - 4503599627370496) = m := by omega
    have a6 : (-1074 : Int) + ((n.log2 + 1023 - 1 : Nat) : Int) = -((52 - n.log2 : Nat) : Int) := by omega
    rw [a3, a4, a5, a6]
    rfl

theorem write_is {d : Datum} {n : Nat} (h : n < 2 ^ 53) (hd : Is d n) : double.write d = W n := by
  obtain ⟨k, rfl⟩ := hd
  show double.nearest false (n * 2 ^ k) (-(k : Int)) = W n
  by_cases h0 : n = 0
  · subst h0
    rw [Nat.zero_mul, nearest_zero, W_zero]
  · rw [nearest_at h0 h k, W_pos h0 h]

theorem signed_pos (m u : Nat) : signed false m u = ((m * 2 ^ u : Nat) : Int) := by
  unfold signed
  simp [Nat.shiftLeft_eq]

theorem sum_is {a b : Nat} {x y : Datum} (hx : Is x a) (hy : Is y b) : ∃ z, x.sum y = some z ∧ Is z (a + b) := by
  obtain ⟨i, rfl⟩ := hx
  obtain ⟨j, rfl⟩ := hy
  refine ⟨_, rfl, max i j, ?_⟩
  have hb : min (-(i : Int)) (-(j : Int)) = -((max i j : Nat) : Int) := by omega
  simp only [hb, signed_pos]
  have e1 : (-(i : Int) - -((max i j : Nat) : Int)).toNat = max i j - i := by omega
  have e2 : (-(j : Int) - -((max i j : Nat) : Int)).toNat = max i j - j := by omega
  rw [e1, e2, Nat.mul_assoc, Nat.mul_assoc, ← Nat.pow_add, ← Nat.pow_add, show i + (max i j - i) = max i j by omega, show j + (max i j - j) = max i j by omega]
  have ht : ((a * 2 ^ max i j : Nat) : Int) + ((b * 2 ^ max i j : Nat) : Int) = (((a + b) * 2 ^ max i j : Nat) : Int) := by rw [Nat.add_mul]; omega
  rw [ht]
  obtain ⟨t, ht'⟩ : ∃ t, (a + b) * 2 ^ max i j = t := ⟨_, rfl⟩
  rw [ht']
  congr 1
  by_cases h : (t : Int) = 0
  · simp [h]
  · rw [if_neg h]
    have : ¬ (t : Int) < 0 := by omega
    simp [this]

theorem add_W {a b : Nat} (h : a + b < 2 ^ 53) : double.add (W a) (W b) = some (W (a + b)) := by
  obtain ⟨z, h1, h2⟩ := sum_is (read_is (n := a) (by omega)) (read_is (n := b) (by omega))
  unfold Format.add
  rw [h1, Option.map_some, write_is h h2]

theorem toInt_W {a : Nat} (h : a < 2 ^ 53) : (double.read (W a)).toInt .zero = some (a : Int) := by
  obtain ⟨k, hk⟩ := read_is h
  rw [hk]
  unfold Datum.toInt Datum.integral
  have e1 : (-(k : Int)).toNat = 0 := by omega
  have e2 : (-(-(k : Int))).toNat = k := by omega
  simp only [e1, e2, Nat.shiftLeft_zero, cut_shift, signed_pos]
  simp

theorem ofInt_W (a : Nat) : floatOfInt .f64 (a : Int) = W a := by
  unfold floatOfInt FloatKind.nearest FloatKind.encode W
  have : ¬ (a : Int) < 0 := by omega
  simp [this]
  rfl

theorem bits_add {a b : Nat} (h : a + b < 2 ^ 53) : floatBits .add .f64 (W a) (W b) = some (W (a + b)) := add_W h

theorem bits_int {a : Nat} (h : a < 2 ^ 53) : floatToIntVal .f64 (W a) .i64 = some (a : Int) := by
  have e : (FloatKind.f64.decode (W a)).toInt .zero = some (a : Int) := toInt_W h
  unfold floatToIntVal
  rw [e]
  have hm : IntKind.i64.min = -9223372036854775808 := by decide
  have hx : IntKind.i64.max = 9223372036854775807 := by decide
  simp only [hm, hx]
  rw [if_pos (by omega)]

theorem delay_any (s d : Nat) (hd : d < 2 ^ 53) (w : World) : Calls Try.prog 40 #[.complex .f64 (W s) (W d)] w fun e w' => e = .returned (.int .i64 d) ∧ w = w' := by
  have hc : ∀ w, (convert 64 3 (.float .f64 (W d))).run Try.prog w = .ok (.int .i64 d) w := fun w => run_convert_float_int w 64 3 .f64 .i64 (W d) d (by rw [Try.underlying64]; rfl) Try.underlying3 (bits_int hd)
  go_enter Try.func40, Try.ntmps40
  go_wp2_with (simp only [hc])
  go_ret
  exact ⟨rfl, rfl⟩

theorem sum_any (s d : Nat) (hd : s < 2 ^ 53) (w : World) : Calls Try.prog 44 #[.complex .f64 (W s) (W d)] w fun e w' => e = .returned (.int .i64 s) ∧ w = w' := by
  have hc : ∀ w, (convert 64 3 (.float .f64 (W s))).run Try.prog w = .ok (.int .i64 s) w := fun w => run_convert_float_int w 64 3 .f64 .i64 (W s) s (by rw [Try.underlying64]; rfl) Try.underlying3 (bits_int hd)
  go_enter Try.func44, Try.ntmps44
  go_wp2_with (simp only [hc])
  go_ret
  exact ⟨rfl, rfl⟩

theorem next_any (s d : Nat) (h1 : s + d < 2 ^ 53) (h2 : d + d < 2 ^ 53) (w : World) : Calls Try.prog 54 #[.complex .f64 (W s) (W d)] w fun e w' => e = .returned (.complex .f64 (W (s + d)) (W (d + d))) ∧ w = w' := by
  have hs : cSumBits .add .f64 (W s) (W d) (W d) (W d) = some (W (s + d), W (d + d)) := by
    unfold cSumBits
    rw [bits_add h1, bits_add h2]
    rfl
  have hop := fun t w => run_complex_sum (P := Try.prog) w .add (Or.inl rfl) t .f64 _ _ _ _ _ _ hs
  go_enter Try.func54, Try.ntmps54
  go_wp2_with (simp only [hop])
  go_ret
  exact ⟨rfl, rfl⟩
end Go.Proofs.Ytjfmkcppampokaa.Flt
