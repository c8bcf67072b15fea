/- The mathematics of the law on waits. -/
import Derived.Test.YtjfmkcppampokaaWt9
import Derived.Test.YtjfmkcppampokaaAdt
namespace Go.Proofs.Ytjfmkcppampokaa.Wt
open Go.RowKit Base Flt Cf Tick

/-- What the law asks of the delays at k + 1. -/
structure WaitFacts (c : Nat → Int) (s : Int) (k : Nat) : Prop where
  up : fw c ((k : Int) + 1) ≤ fw c ((k : Int) + 1 + 1)
  top : fw c ((k : Int) + 1) ≤ c 8
  cap : fw c ((k : Int) + 1) = c 8 ↔ s ≤ (k : Int) + 1
  dbl : 2 * fw c ((k : Int) + 1) ≤ c 8 → fw c ((k : Int) + 1 + 1) = 2 * fw c ((k : Int) + 1)
  lo : ∀ d, lw c ((k : Int) + 1) ≤ jw c ((k : Int) + 1) d
  hi : ∀ d, jw c ((k : Int) + 1) d ≤ fw c ((k : Int) + 1)
  zero : jw c ((k : Int) + 1) 0 = fw c ((k : Int) + 1)
  all : jw c ((k : Int) + 1) 1000 = lw c ((k : Int) + 1)
  sum : k ≤ 20 → ws c ((k : Int) + 1) = addT (ws c (k : Int)) (fw c ((k : Int) + 1))

theorem sh_zero : sh 0 = 0 := by decide
theorem sh_all : sh 1000 = 1000 := by decide

theorem cut_bound {m s : Int} (h0 : 0 ≤ m) (s0 : 0 ≤ s) (s1 : s ≤ 1000) : 0 ≤ (m * s).tdiv 1000 ∧ (m * s).tdiv 1000 ≤ m := by
  have h := mul_bound h0 s0 (Int.le_refl m) s1
  rw [Int.tdiv_eq_ediv_of_nonneg h.1]
  omega

theorem lim_add {a b : Nat} (hb : b ≤ 1000000) : addT (lim (a : Int)) (b : Int) = lim ((a + b : Nat) : Int) := by
  have h1 := lim_bd (a : Int)
  rw [addT_ok (isT_true h1.1 h1.2) (inB_true (by omega) (by omega))]
  unfold lim
  split <;> split <;> (try split) <;> (try split) <;> omega

theorem waitFacts {c : Nat → Int} {s : Int} (hok : okC c = true) (hs : st c s) (k : Nat) : WaitFacts c s k := by
  obtain ⟨q1, q2, q3, q4, q5, j0, j1⟩ := okC_base hok
  obtain ⟨b, hb⟩ : ∃ b, (c 7).toNat = b := ⟨_, rfl⟩
  obtain ⟨cap, hcap⟩ : ∃ cap, (c 8).toNat = cap := ⟨_, rfl⟩
  have e1 := fw_next hok k hb hcap
  have e2 := fw_next hok (k + 1) hb hcap
  rw [show ((k + 1 : Nat) : Int) + 1 = (k : Int) + 1 + 1 by omega, pow_step] at e2
  have hk1 : 0 ≤ (k : Int) + 1 := by omega
  obtain ⟨f0, f1, _⟩ := fw_bound hok hk1
  have hm := mr_bound f0 j0 j1
  have hl := lw_pos hok hk1
  have hj := fun d => jw_pos (d := d) hok hk1
  have hws : k ≤ 20 → ws c ((k : Int) + 1) = addT (ws c (k : Int)) (fw c ((k : Int) + 1)) := by
    intro h20
    rw [ws_pos hok (isT_true hk1 (by omega)), ws_pos hok (isT_true (by omega) (by omega)), fw_pos hok hk1, show ((k : Int) + 1).toNat = k + 1 by omega, show (k : Int).toNat = k by omega, hb, hcap]
    rw [lim_add (by unfold fwN; rw [hcap] at q3; split <;> omega)]
    rfl
  have hcapf : fw c ((k : Int) + 1) = c 8 ↔ s ≤ (k : Int) + 1 := by
    rcases hs with ⟨_, m, hmc, rfl⟩ | ⟨h, _⟩
    · rw [hb, hcap] at hmc
      rw [hcap] at q5
      rw [e1, q5]
      constructor
      · intro h
        refine Int.le_of_not_gt fun h2 => ?_
        have := hmc.1 k (by omega)
        omega
      · intro h
        have h1 : b * 2 ^ m ≤ b * 2 ^ k := Nat.mul_le_mul_left _ (Nat.pow_le_pow_right (by omega) (by omega))
        have := hmc.2
        omega
    · rw [hok] at h; cases h
  refine ⟨?_, ?_, hcapf, ?_, fun d => ?_, fun d => ?_, ?_, ?_, hws⟩
  · rw [e1, e2]; omega
  · rw [e1]; rw [hcap] at q5; omega
  · rw [e1, e2]; rw [hcap] at q5; omega
  · have := cut_bound hm.1 (sh_bound d).1 (sh_bound d).2
    rw [hl, hj]; omega
  · have := cut_bound hm.1 (sh_bound d).1 (sh_bound d).2
    rw [hj]; omega
  · rw [hj, sh_zero]; simp
  · rw [hl, hj, sh_all, Int.tdiv_eq_ediv_of_nonneg (by omega)]; omega
end Go.Proofs.Ytjfmkcppampokaa.Wt
