/- LeastWait and JitteredWait, the program's and the reference's, and their laws. -/
import Derived.Test.YtjfmkcppampokaaWt3
namespace Go.Proofs.Ytjfmkcppampokaa.Wt
open Go.RowKit Base Flt Cf

/-- The maximum reduction. -/
def mr (f j : Int) : Int := (f * j).tdiv 100
/-- The share of a draw. -/
def sh (d : Int) : Int := (max d 0).tmod 1001

theorem mr_eq {f j : Int} (hf : 0 ≤ f) (hj : 0 ≤ j) : mr f j = f * j / 100 := by
  unfold mr
  exact Int.tdiv_eq_ediv_of_nonneg (Int.mul_nonneg hf hj)
theorem mul_bound {f j a b : Int} (hf : 0 ≤ f) (hj : 0 ≤ j) (ha : f ≤ a) (hb : j ≤ b) : 0 ≤ f * j ∧ f * j ≤ a * b :=
  ⟨Int.mul_nonneg hf hj, Int.mul_le_mul ha hb hj (by omega)⟩
theorem mr_bound {f j : Int} (hf : 0 ≤ f) (hj : 0 ≤ j) (h1 : j ≤ 100) : 0 ≤ mr f j ∧ mr f j ≤ f := by
  rw [mr_eq hf hj]
  have h2 := mul_bound hf hj (Int.le_refl f) h1
  omega
theorem sh_bound (d : Int) : 0 ≤ sh d ∧ sh d ≤ 1000 := by
  unfold sh
  rw [Int.tmod_eq_emod_of_nonneg (by omega)]
  omega

theorem fw_bound {c : Nat → Int} {n : Int} (h : okC c = true) (h0 : 0 ≤ n) : 0 ≤ fw c n ∧ fw c n ≤ 1000000 ∧ fw c n ≤ c 8 := by
  obtain ⟨q1, q2, q3, q4, q5, _, _⟩ := okC_base h
  rw [fw_pos h h0]
  unfold fwN
  split <;> omega

/-- LeastWait's answer. -/
def lw (c : Nat → Int) (n : Int) : Int := if okC c = true ∧ 0 ≤ n then fw c n - mr (fw c n) (c 9) else -1
/-- JitteredWait's answer. -/
def jw (c : Nat → Int) (n d : Int) : Int := if okC c = true ∧ 0 ≤ n then fw c n - (mr (fw c n) (c 9) * sh d).tdiv 1000 else -1

theorem lw_pos {c : Nat → Int} {n : Int} (h : okC c = true) (h0 : 0 ≤ n) : lw c n = fw c n - mr (fw c n) (c 9) := by unfold lw; rw [if_pos ⟨h, h0⟩]
theorem lw_bad {c : Nat → Int} {n : Int} (h : okC c = false) : lw c n = -1 := by unfold lw; rw [h]; simp
theorem lw_neg {c : Nat → Int} {n : Int} (h : n < 0) : lw c n = -1 := by unfold lw; rw [if_neg (by omega)]
theorem jw_pos {c : Nat → Int} {n d : Int} (h : okC c = true) (h0 : 0 ≤ n) : jw c n d = fw c n - (mr (fw c n) (c 9) * sh d).tdiv 1000 := by unfold jw; rw [if_pos ⟨h, h0⟩]
theorem jw_bad {c : Nat → Int} {n d : Int} (h : okC c = false) : jw c n d = -1 := by unfold jw; rw [h]; simp
theorem jw_neg {c : Nat → Int} {n d : Int} (h : n < 0) : jw c n d = -1 := by unfold jw; rw [if_neg (by omega)]

set_option maxRecDepth 100000 in
set_option maxHeartbeats 2000000 in
theorem maxRed_any (c : Nat → Int) (f : Int) (hf : 0 ≤ f) (hf1 : f ≤ 1000000) (hj : 0 ≤ c 9) (hj1 : c 9 ≤ 100) (w : World) :
    Calls Try.prog 41 #[.agg #[.int .i64 (c 0), .int .i64 (c 1), .int .i64 (c 2), .int .i64 (c 3), .int .i64 (c 4), .int .i64 (c 5), .int .i64 (c 6), .int .i64 (c 7), .int .i64 (c 8), .int .i64 (c 9), .int .i64 (c 10), .int .i64 (c 11), .int .i64 (c 12), .int .i64 (c 13)], .int .i64 f] w fun e w' => e = .returned (.int .i64 (mr f (c 9))) ∧ Below w.heap.size w w' := by
  obtain ⟨m, hm⟩ : ∃ m, f * c 9 = m := ⟨_, rfl⟩
  have hb := mul_bound hf hj hf1 hj1
  rw [hm] at hb
  have hr := mr_bound hf hj hj1
  have hmr : m.tdiv 100 = mr f (c 9) := by unfold mr; rw [hm]
  generalize mr f (c 9) = r at hr hmr
  go_enter Try.func41, Try.ntmps41
  go_wp2
  go_ret
  exact ⟨ret_int rfl, bel_alloc _ _⟩

theorem share_any (d : Int) (w : World) :
    Calls Try.prog 42 #[.int .i64 d] w fun e w' => e = .returned (.int .i64 (sh d)) ∧ w = w' := by
  have hr := sh_bound d
  have hm : (max d 0).tmod 1001 = sh d := rfl
  generalize sh d = r at hr hm
  by_cases h : d < 0
  · rw [show max d 0 = 0 by omega] at hm
    go_enter Try.func42, Try.ntmps42
    go_wp2
    go_ret
    exact ⟨ret_int rfl, rfl⟩
  · rw [show max d 0 = d by omega] at hm
    go_enter Try.func42, Try.ntmps42
    go_wp2
    go_ret
    exact ⟨ret_int rfl, rfl⟩
end Go.Proofs.Ytjfmkcppampokaa.Wt
