/- FullWait, the program's and the reference's. -/
import Derived.Test.YtjfmkcppampokaaWt1
import Derived.Test.YtjfmkcppampokaaCfg1
import Derived.Test.YtjfmkcppampokaaCfg2
namespace Go.Proofs.Ytjfmkcppampokaa.Wt
open Go.RowKit Base Flt Cf

def fwN (b cap n : Nat) : Nat := if n = 0 then 0 else min (b * 2 ^ (n - 1)) cap

/-- FullWait's answer. -/
def fw (c : Nat → Int) (n : Int) : Int := if okC c = true ∧ 0 ≤ n then (fwN (c 7).toNat (c 8).toNat n.toNat : Int) else -1

theorem fwN_end {b cap n k : Nat} (h : RiseEnd b cap (n - 1) k) (h0 : n ≠ 0) : fwN b cap n = min (b * 2 ^ k) cap := by
  unfold fwN
  rw [if_neg h0]
  rcases h.stop with e | e
  · rw [e]
  · have h1 : b * 2 ^ k ≤ b * 2 ^ (n - 1) := Nat.mul_le_mul_left _ (Nat.pow_le_pow_right (by omega) h.le)
    omega

theorem fw_bad {c : Nat → Int} {n : Int} (h : okC c = false) : fw c n = -1 := by unfold fw; rw [h]; simp
theorem fw_neg {c : Nat → Int} {n : Int} (h : n < 0) : fw c n = -1 := by unfold fw; rw [if_neg (by omega)]
theorem fw_zero {c : Nat → Int} (h : okC c = true) : fw c 0 = 0 := by unfold fw; rw [if_pos ⟨h, by omega⟩]; rfl
theorem fw_pos {c : Nat → Int} {n : Int} (h : okC c = true) (h0 : 0 ≤ n) : fw c n = (fwN (c 7).toNat (c 8).toNat n.toNat : Int) := by unfold fw; rw [if_pos ⟨h, h0⟩]

theorem okC_base {c : Nat → Int} (h : okC c = true) : 1 ≤ (c 7).toNat ∧ (c 7).toNat ≤ (c 8).toNat ∧ (c 8).toNat ≤ 1000000 ∧ c 7 = ((c 7).toNat : Int) ∧ c 8 = ((c 8).toNat : Int) ∧ 0 ≤ c 9 ∧ c 9 ≤ 100 := by
  have := okC_iff.1 h
  omega

set_option maxRecDepth 100000 in
set_option maxHeartbeats 2000000 in
theorem implFull_any (c : Nat → Int) (n : Int) (hn : n ≤ 9223372036854775807) (w : World) :
    Calls Try.prog 15 #[.agg #[.int .i64 (c 0), .int .i64 (c 1), .int .i64 (c 2), .int .i64 (c 3), .int .i64 (c 4), .int .i64 (c 5), .int .i64 (c 6), .int .i64 (c 7), .int .i64 (c 8), .int .i64 (c 9), .int .i64 (c 10), .int .i64 (c 11), .int .i64 (c 12), .int .i64 (c 13)], .int .i64 n] w fun e w' => e = .returned (.int .i64 (fw c n)) ∧ Below w.heap.size w w' := by
  go_enter Try.func15, Try.ntmps15
  go_wp2_with fail
  obtain ⟨W0, hW0⟩ : ∃ W0, w.alloc (.cells #[.int .i64 (c 0), .int .i64 (c 1), .int .i64 (c 2), .int .i64 (c 3), .int .i64 (c 4), .int .i64 (c 5), .int .i64 (c 6), .int .i64 (c 7), .int .i64 (c 8), .int .i64 (c 9), .int .i64 (c 10), .int .i64 (c 11), .int .i64 (c 12), .int .i64 (c 13)] 25) = W0 := ⟨_, rfl⟩
  have B : Hid (Below w.heap.size w W0) := by rw [← hW0]; exact bel_alloc _ _
  have z0 : w.heap.size < W0.heap.size := by rw [← hW0]; simp
  have K : Hid (W0.heap[w.heap.size]? = some (.cells #[.int .i64 (c 0), .int .i64 (c 1), .int .i64 (c 2), .int .i64 (c 3), .int .i64 (c 4), .int .i64 (c 5), .int .i64 (c 6), .int .i64 (c 7), .int .i64 (c 8), .int .i64 (c 9), .int .i64 (c 10), .int .i64 (c 11), .int .i64 (c 12), .int .i64 (c 13)] 25 (0, 0))) := by rw [← hW0]; exact heap_alloc_new w _
  rw [hW0]
  clear hW0
  refine (implConfigOk_any c _).mono ?_
  rintro e w1 ⟨rfl, b1⟩
  replace B := Lib.hid (bel_trans B.out b1)
  replace K := Lib.hid ((b1.block _ z0).trans K.out)
  have z1 : w.heap.size < w1.heap.size := Nat.lt_of_lt_of_le z0 b1.size
  clear b1 z0
  cases hok : okC c
  · have Hf := Lib.hid (fw_bad (n := n) hok)
    clear hok
    go_wp2
    go_ret
    exact ⟨ret_int Hf.out.symm, B.out⟩
  · by_cases hn0 : n < 0
    · have Hf := Lib.hid (fw_neg (c := c) hn0)
      clear hok
      go_wp2
      go_ret
      exact ⟨ret_int Hf.out.symm, B.out⟩
    · by_cases hn1 : n = 0
      · subst hn1
        have Hf := Lib.hid (fw_zero hok)
        clear hok
        go_wp2
        go_ret
        exact ⟨ret_int Hf.out.symm, B.out⟩
      · obtain ⟨q1, q2, q3, q4, q5, _, _⟩ := okC_base hok
        have Hf := Lib.hid (fw_pos hok (n := n) (by omega))
        clear hok
        have x0 : w1.cell? ⟨w.heap.size, 0, none⟩ = some (.int .i64 (c 0)) := cell_of_row _ _ 0 _ _ (0, 0) K.out
        have x1 : w1.cell? ⟨w.heap.size, 1, none⟩ = some (.int .i64 (c 1)) := cell_of_row _ _ 1 _ _ (0, 0) K.out
        have x2 : w1.cell? ⟨w.heap.size, 2, none⟩ = some (.int .i64 (c 2)) := cell_of_row _ _ 2 _ _ (0, 0) K.out
        have x3 : w1.cell? ⟨w.heap.size, 3, none⟩ = some (.int .i64 (c 3)) := cell_of_row _ _ 3 _ _ (0, 0) K.out
        have x4 : w1.cell? ⟨w.heap.size, 4, none⟩ = some (.int .i64 (c 4)) := cell_of_row _ _ 4 _ _ (0, 0) K.out
        have x5 : w1.cell? ⟨w.heap.size, 5, none⟩ = some (.int .i64 (c 5)) := cell_of_row _ _ 5 _ _ (0, 0) K.out
        have x6 : w1.cell? ⟨w.heap.size, 6, none⟩ = some (.int .i64 (c 6)) := cell_of_row _ _ 6 _ _ (0, 0) K.out
        have x7 : w1.cell? ⟨w.heap.size, 7, none⟩ = some (.int .i64 (c 7)) := cell_of_row _ _ 7 _ _ (0, 0) K.out
        have x8 : w1.cell? ⟨w.heap.size, 8, none⟩ = some (.int .i64 (c 8)) := cell_of_row _ _ 8 _ _ (0, 0) K.out
        have x9 : w1.cell? ⟨w.heap.size, 9, none⟩ = some (.int .i64 (c 9)) := cell_of_row _ _ 9 _ _ (0, 0) K.out
        have x10 : w1.cell? ⟨w.heap.size, 10, none⟩ = some (.int .i64 (c 10)) := cell_of_row _ _ 10 _ _ (0, 0) K.out
        have x11 : w1.cell? ⟨w.heap.size, 11, none⟩ = some (.int .i64 (c 11)) := cell_of_row _ _ 11 _ _ (0, 0) K.out
        have x12 : w1.cell? ⟨w.heap.size, 12, none⟩ = some (.int .i64 (c 12)) := cell_of_row _ _ 12 _ _ (0, 0) K.out
        have x13 : w1.cell? ⟨w.heap.size, 13, none⟩ = some (.int .i64 (c 13)) := cell_of_row _ _ 13 _ _ (0, 0) K.out
        have HR := fun V => rise_any c (c 7).toNat (c 8).toNat (n - 1) q4 q5 (by omega) q1 q2 q3 V
        have Q5 := Lib.hid q5
        clear q4 q5
        go_wp2_with fail
        refine (HR _).mono ?_
        rintro e w2 ⟨⟨k, hk, rfl⟩, b2⟩
        clear HR
        replace B := Lib.hid (bel_trans B.out b2)
        replace K := Lib.hid ((b2.block _ z1).trans K.out)
        clear x0 x1 x2 x3 x4 x5 x6 x7 x8 x9 x10 x11 x12 x13
        have x8 : w2.cell? ⟨w.heap.size, 8, none⟩ = some (.int .i64 (c 8)) := cell_of_row _ _ 8 _ _ (0, 0) K.out
        obtain ⟨b, hb⟩ : ∃ b, (c 7).toNat = b := ⟨_, rfl⟩
        obtain ⟨cap, hcap⟩ : ∃ cap, (c 8).toNat = cap := ⟨_, rfl⟩
        rw [hb, hcap] at hk q2 Hf
        rw [hb] at q1
        have q5 := Q5.out
        rw [hcap] at q3 q5
        have hf := Hf.out
        have e1 : (n - 1).toNat = n.toNat - 1 := by omega
        rw [e1] at hk
        rw [fwN_end hk (by omega)] at hf
        have hd : b * 2 ^ k ≤ 2 * cap := Rising.top ⟨hk.le, hk.low, rfl⟩ q2
        clear hk e1
        rw [hb]
        have HF := Lib.hid hf
        clear hf
        obtain ⟨d, hd'⟩ : ∃ d, b * 2 ^ k = d := ⟨_, rfl⟩
        rw [hd'] at hd HF ⊢
        rw [q5] at x8
        have hD := fun V => delay_any (d - b) d (by omega) V
        clear hd' hb hcap Hf Q5 q5
        go_wp2_with fail
        go_region_with (go_at_call 40; refine (hD _).mono ?_; rintro e w' ⟨rfl, rfl⟩)
        all_goals
          by_cases hm : d ≤ cap
          · go_wp2
            go_ret
            exact ⟨ret_int (by rw [HF.out]; omega), bel_trans B.out (bel_of_drew (Below.refl _ _))⟩
          · go_wp2
            go_ret
            exact ⟨ret_int (by rw [HF.out]; omega), bel_trans B.out (bel_of_drew (Below.refl _ _))⟩

set_option maxRecDepth 100000 in
set_option maxHeartbeats 2000000 in
theorem specFull_any (c : Nat → Int) (n : Int) (w : World) :
    Calls Try.prog 16 #[.agg #[.int .i64 (c 0), .int .i64 (c 1), .int .i64 (c 2), .int .i64 (c 3), .int .i64 (c 4), .int .i64 (c 5), .int .i64 (c 6), .int .i64 (c 7), .int .i64 (c 8), .int .i64 (c 9), .int .i64 (c 10), .int .i64 (c 11), .int .i64 (c 12), .int .i64 (c 13)], .int .i64 n] w fun e w' => e = .returned (.int .i64 (fw c n)) ∧ Below w.heap.size w w' := by
  go_enter Try.func16, Try.ntmps16
  go_wp2_with fail
  obtain ⟨W0, hW0⟩ : ∃ W0, w.alloc (.cells #[.int .i64 (c 0), .int .i64 (c 1), .int .i64 (c 2), .int .i64 (c 3), .int .i64 (c 4), .int .i64 (c 5), .int .i64 (c 6), .int .i64 (c 7), .int .i64 (c 8), .int .i64 (c 9), .int .i64 (c 10), .int .i64 (c 11), .int .i64 (c 12), .int .i64 (c 13)] 25) = W0 := ⟨_, rfl⟩
  have B : Hid (Below w.heap.size w W0) := by rw [← hW0]; exact bel_alloc _ _
  have z0 : w.heap.size < W0.heap.size := by rw [← hW0]; simp
  have K : Hid (W0.heap[w.heap.size]? = some (.cells #[.int .i64 (c 0), .int .i64 (c 1), .int .i64 (c 2), .int .i64 (c 3), .int .i64 (c 4), .int .i64 (c 5), .int .i64 (c 6), .int .i64 (c 7), .int .i64 (c 8), .int .i64 (c 9), .int .i64 (c 10), .int .i64 (c 11), .int .i64 (c 12), .int .i64 (c 13)] 25 (0, 0))) := by rw [← hW0]; exact heap_alloc_new w _
  rw [hW0]
  clear hW0
  refine (specConfigOk_any c _).mono ?_
  rintro e w1 ⟨rfl, b1⟩
  replace B := Lib.hid (bel_trans B.out b1)
  replace K := Lib.hid ((b1.block _ z0).trans K.out)
  clear b1 z0
  cases hok : okC c
  · have Hf := Lib.hid (fw_bad (n := n) hok)
    clear hok
    go_wp2
    go_ret
    exact ⟨ret_int Hf.out.symm, B.out⟩
  · by_cases hn0 : n < 0
    · have Hf := Lib.hid (fw_neg (c := c) hn0)
      clear hok
      go_wp2
      go_ret
      exact ⟨ret_int Hf.out.symm, B.out⟩
    · by_cases hn1 : n = 0
      · subst hn1
        have Hf := Lib.hid (fw_zero hok)
        clear hok
        go_wp2
        go_ret
        exact ⟨ret_int Hf.out.symm, B.out⟩
      · obtain ⟨q1, q2, q3, q4, q5, _, _⟩ := okC_base hok
        have Hf := Lib.hid (fw_pos hok (n := n) (by omega))
        clear hok
        have x7 : w1.cell? ⟨w.heap.size, 7, none⟩ = some (.int .i64 (c 7)) := cell_of_row _ _ 7 _ _ (0, 0) K.out
        have x8 : w1.cell? ⟨w.heap.size, 8, none⟩ = some (.int .i64 (c 8)) := cell_of_row _ _ 8 _ _ (0, 0) K.out
        obtain ⟨b, hb⟩ : ∃ b, (c 7).toNat = b := ⟨_, rfl⟩
        obtain ⟨cap, hcap⟩ : ∃ cap, (c 8).toNat = cap := ⟨_, rfl⟩
        rw [hb, hcap] at q2 Hf
        rw [hb] at q1 q4
        rw [hcap] at q3 q5
        rw [q4] at x7
        rw [q5] at x8
        clear q4 q5 hb hcap
        go_wp2
        go_loop [5, 6] (fun x i => ∃ k : Nat, i = .int .i64 (k + 1) ∧ x = .int .i64 (b * 2 ^ k : Nat) ∧ k ≤ n.toNat - 1 ∧ ∀ j, j < k → b * 2 ^ j < cap) (fun _ i => n.toNat - (intOf i).toNat)
        case atStart => exact ⟨0, rfl, by simp, by omega, fun j h => absurd h (by omega)⟩
        case round =>
          obtain ⟨k, rfl, rfl, hle, hlow⟩ := hrel
          have htop : b * 2 ^ k ≤ 2 * cap := Rising.top ⟨hle, hlow, rfl⟩ q2
          have hfew := few q1 q3 htop
          obtain ⟨d, hd⟩ : ∃ d, b * 2 ^ k = d := ⟨_, rfl⟩
          have HL := Lib.hid hlow
          have HD := Lib.hid hd
          rw [hd] at htop ⊢
          clear hd hlow
          by_cases h1 : (k : Int) + 1 < n
          · by_cases h2 : d < cap
            · go_wp2
              go_round
              case rel =>
                refine ⟨k + 1, by go_num, ?_, by omega, fun j hj => ?_⟩
                · rw [pow_step, HD.out]; go_num
                · by_cases e : j = k
                  · subst e; rw [HD.out]; exact h2
                  · exact HL.out j (by omega)
              case measure => simp [intOf]; omega
            · have hf : fw c n = ((min d cap : Nat) : Int) := by rw [Hf.out, fwN_end ⟨hle, HL.out, .inr (by rw [HD.out]; omega)⟩ (by omega), HD.out]
              have HF := Lib.hid hf
              clear hf
              by_cases h3 : cap < d
              · go_wp2
                go_ret
                exact ⟨ret_int (by rw [HF.out]; omega), B.out⟩
              · go_wp2
                go_ret
                exact ⟨ret_int (by rw [HF.out]; omega), B.out⟩
          · have hf : fw c n = ((min d cap : Nat) : Int) := by rw [Hf.out, fwN_end (k := k) ⟨hle, HL.out, .inl (by omega)⟩ (by omega), HD.out]
            have HF := Lib.hid hf
            clear hf
            by_cases h3 : cap < d
            · go_wp2
              go_ret
              exact ⟨ret_int (by rw [HF.out]; omega), B.out⟩
            · go_wp2
              go_ret
              exact ⟨ret_int (by rw [HF.out]; omega), B.out⟩
end Go.Proofs.Ytjfmkcppampokaa.Wt
