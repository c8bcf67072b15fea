/- WaitSum, the program's and the reference's. -/
import Derived.Test.YtjfmkcppampokaaWt6
import Derived.Test.YtjfmkcppampokaaCfg3
namespace Go.Proofs.Ytjfmkcppampokaa.Wt
open Go.RowKit Base Flt Cf Tick

theorem lim_any (m : Int) (w : World) : Calls Try.prog 45 #[.int .i64 m] w fun e w' => e = .returned (.int .i64 (lim m)) ∧ w = w' := by
  by_cases h0 : m < 0
  · go_enter Try.func45, Try.ntmps45
    go_wp2
    go_ret
    exact ⟨ret_int (by unfold lim; rw [if_pos h0]), rfl⟩
  · by_cases h1 : 1000000000 < m
    · go_enter Try.func45, Try.ntmps45
      go_wp2
      go_ret
      exact ⟨ret_int (by unfold lim; rw [if_neg (by omega), if_pos h1]), rfl⟩
    · go_enter Try.func45, Try.ntmps45
      go_wp2
      go_ret
      exact ⟨ret_int (by unfold lim; rw [if_neg (by omega), if_neg (by omega)]), rfl⟩

/-- The sum of the delays of 1 to n. -/
def wsN (b cap : Nat) : Nat → Nat
  | 0 => 0
  | n + 1 => wsN b cap n + fwN b cap (n + 1)

theorem wsN_low {b cap k : Nat} (h : ∀ j, j < k → b * 2 ^ j < cap) : wsN b cap k = b * 2 ^ k - b := by
  induction k with
  | zero => simp [wsN]
  | succ k ih =>
    rw [wsN, ih (fun j hj => h j (by omega))]
    have h1 := h k (by omega)
    have h2 := pow_ge b k
    rw [pow_step]
    unfold fwN
    rw [if_neg (by omega), Nat.add_sub_cancel]
    omega

theorem wsN_high {b cap k : Nat} (hl : ∀ j, j < k → b * 2 ^ j < cap) (hs : cap ≤ b * 2 ^ k) (t : Nat) : wsN b cap (k + t) = b * 2 ^ k - b + t * cap := by
  induction t with
  | zero => rw [Nat.add_zero, wsN_low hl]; omega
  | succ t ih =>
    rw [← Nat.add_assoc, wsN, ih]
    have h1 : b * 2 ^ k ≤ b * 2 ^ (k + t) := Nat.mul_le_mul_left _ (Nat.pow_le_pow_right (by omega) (by omega))
    unfold fwN
    rw [if_neg (by omega), Nat.add_sub_cancel, Nat.min_eq_right (by omega), Nat.succ_mul]
    omega

theorem wsN_end {b cap n k : Nat} (h : RiseEnd b cap n k) : wsN b cap n = b * 2 ^ k - b + (n - k) * cap := by
  rcases h.stop with e | e
  · subst e
    rw [wsN_low h.low]
    simp
  · have := wsN_high h.low e (n - k)
    rwa [show k + (n - k) = n by have := h.le; omega] at this

/-- WaitSum's answer. -/
def ws (c : Nat → Int) (n : Int) : Int := if okC c = true ∧ isT n = true then lim (wsN (c 7).toNat (c 8).toNat n.toNat : Int) else -1
theorem ws_pos {c : Nat → Int} {n : Int} (h : okC c = true) (h0 : isT n = true) : ws c n = lim (wsN (c 7).toNat (c 8).toNat n.toNat : Int) := by unfold ws; rw [if_pos ⟨h, h0⟩]
theorem ws_bad {c : Nat → Int} {n : Int} (h : okC c = false) : ws c n = -1 := by unfold ws; rw [h]; simp
theorem ws_neg {c : Nat → Int} {n : Int} (h : isT n = false) : ws c n = -1 := by unfold ws; rw [h]; simp

theorem lim_nat (m : Nat) : lim (m : Int) = if 1000000000 < (m : Int) then 1000000000 else (m : Int) := by unfold lim; rw [if_neg (by omega)]

set_option maxRecDepth 100000 in
set_option maxHeartbeats 2000000 in
theorem implSum_any (c : Nat → Int) (n : Int) (w : World) :
    Calls Try.prog 20 #[.agg #[.int .i64 (c 0), .int .i64 (c 1), .int .i64 (c 2), .int .i64 (c 3), .int .i64 (c 4), .int .i64 (c 5), .int .i64 (c 6), .int .i64 (c 7), .int .i64 (c 8), .int .i64 (c 9), .int .i64 (c 10), .int .i64 (c 11), .int .i64 (c 12), .int .i64 (c 13)], .int .i64 n] w fun e w' => e = .returned (.int .i64 (ws c n)) ∧ Below w.heap.size w w' := by
  go_enter Try.func20, Try.ntmps20
  go_wp2_with fail
  obtain ⟨W0, hW0⟩ : ∃ W0, w.alloc (.cells #[.int .i64 (c 0), .int .i64 (c 1), .int .i64 (c 2), .int .i64 (c 3), .int .i64 (c 4), .int .i64 (c 5), .int .i64 (c 6), .int .i64 (c 7), .int .i64 (c 8), .int .i64 (c 9), .int .i64 (c 10), .int .i64 (c 11), .int .i64 (c 12), .int .i64 (c 13)] 25) = W0 := ⟨_, rfl⟩
  have B : Hid (Below w.heap.size w W0) := by rw [← hW0]; exact bel_alloc _ _
  have z0 : w.heap.size < W0.heap.size := by rw [← hW0]; simp
  have K : Hid (W0.heap[w.heap.size]? = some (.cells #[.int .i64 (c 0), .int .i64 (c 1), .int .i64 (c 2), .int .i64 (c 3), .int .i64 (c 4), .int .i64 (c 5), .int .i64 (c 6), .int .i64 (c 7), .int .i64 (c 8), .int .i64 (c 9), .int .i64 (c 10), .int .i64 (c 11), .int .i64 (c 12), .int .i64 (c 13)] 25 (0, 0))) := by rw [← hW0]; exact heap_alloc_new w _
  rw [hW0]
  clear hW0
  refine (implConfigOk_any c _).mono ?_
  rintro e w1 ⟨rfl, b1⟩
  replace B := Lib.hid (bel_trans B.out b1)
  replace K := Lib.hid ((b1.block _ z0).trans K.out)
  have z1 : w.heap.size < w1.heap.size := Nat.lt_of_lt_of_le z0 b1.size
  clear b1 z0
  cases hok : okC c
  · have Hf := Lib.hid (ws_bad (n := n) hok)
    clear hok
    go_wp2
    go_ret
    exact ⟨ret_int Hf.out.symm, B.out⟩
  · go_wp2_with fail
    refine (implTickOk_any n _).mono ?_
    rintro e w2 ⟨rfl, b2⟩
    replace B := Lib.hid (bel_trans B.out b2)
    replace K := Lib.hid ((b2.block _ z1).trans K.out)
    have z2 : w.heap.size < w2.heap.size := Nat.lt_of_lt_of_le z1 b2.size
    clear b2 z1
    cases ht : isT n
    · have Hf := Lib.hid (ws_neg (c := c) ht)
      clear hok ht
      go_wp2
      go_ret
      exact ⟨ret_int Hf.out.symm, B.out⟩
    · obtain ⟨q1, q2, q3, q4, q5, _, _⟩ := okC_base hok
      have Hf := Lib.hid (ws_pos hok ht)
      obtain ⟨n0, n1⟩ := isT_iff.1 ht
      clear hok ht
      have x0 : w2.cell? ⟨w.heap.size, 0, none⟩ = some (.int .i64 (c 0)) := cell_of_row _ _ 0 _ _ (0, 0) K.out
      have x1 : w2.cell? ⟨w.heap.size, 1, none⟩ = some (.int .i64 (c 1)) := cell_of_row _ _ 1 _ _ (0, 0) K.out
      have x2 : w2.cell? ⟨w.heap.size, 2, none⟩ = some (.int .i64 (c 2)) := cell_of_row _ _ 2 _ _ (0, 0) K.out
      have x3 : w2.cell? ⟨w.heap.size, 3, none⟩ = some (.int .i64 (c 3)) := cell_of_row _ _ 3 _ _ (0, 0) K.out
      have x4 : w2.cell? ⟨w.heap.size, 4, none⟩ = some (.int .i64 (c 4)) := cell_of_row _ _ 4 _ _ (0, 0) K.out
      have x5 : w2.cell? ⟨w.heap.size, 5, none⟩ = some (.int .i64 (c 5)) := cell_of_row _ _ 5 _ _ (0, 0) K.out
      have x6 : w2.cell? ⟨w.heap.size, 6, none⟩ = some (.int .i64 (c 6)) := cell_of_row _ _ 6 _ _ (0, 0) K.out
      have x7 : w2.cell? ⟨w.heap.size, 7, none⟩ = some (.int .i64 (c 7)) := cell_of_row _ _ 7 _ _ (0, 0) K.out
      have x8 : w2.cell? ⟨w.heap.size, 8, none⟩ = some (.int .i64 (c 8)) := cell_of_row _ _ 8 _ _ (0, 0) K.out
      have x9 : w2.cell? ⟨w.heap.size, 9, none⟩ = some (.int .i64 (c 9)) := cell_of_row _ _ 9 _ _ (0, 0) K.out
      have x10 : w2.cell? ⟨w.heap.size, 10, none⟩ = some (.int .i64 (c 10)) := cell_of_row _ _ 10 _ _ (0, 0) K.out
      have x11 : w2.cell? ⟨w.heap.size, 11, none⟩ = some (.int .i64 (c 11)) := cell_of_row _ _ 11 _ _ (0, 0) K.out
      have x12 : w2.cell? ⟨w.heap.size, 12, none⟩ = some (.int .i64 (c 12)) := cell_of_row _ _ 12 _ _ (0, 0) K.out
      have x13 : w2.cell? ⟨w.heap.size, 13, none⟩ = some (.int .i64 (c 13)) := cell_of_row _ _ 13 _ _ (0, 0) K.out
      have HR := fun V => rise_any c (c 7).toNat (c 8).toNat n q4 q5 n0 q1 q2 q3 V
      have Q5 := Lib.hid q5
      clear q4 q5
      go_wp2_with fail
      refine (HR _).mono ?_
      rintro e w3 ⟨⟨k, hk, rfl⟩, b3⟩
      clear HR
      replace B := Lib.hid (bel_trans B.out b3)
      replace K := Lib.hid ((b3.block _ z2).trans K.out)
      clear x0 x1 x2 x3 x4 x5 x6 x7 x8 x9 x10 x11 x12 x13 b3 z2
      have x8 : w3.cell? ⟨w.heap.size, 8, none⟩ = some (.int .i64 (c 8)) := cell_of_row _ _ 8 _ _ (0, 0) K.out
      obtain ⟨b, hb⟩ : ∃ b, (c 7).toNat = b := ⟨_, rfl⟩
      obtain ⟨cap, hcap⟩ : ∃ cap, (c 8).toNat = cap := ⟨_, rfl⟩
      rw [hb, hcap] at hk q2 Hf
      rw [hb] at q1
      have q5 := Q5.out
      rw [hcap] at q3 q5
      rw [hb]
      rw [q5] at x8
      clear Q5 q5
      have hd : b * 2 ^ k ≤ 2 * cap := Rising.top ⟨hk.le, hk.low, rfl⟩ q2
      have hkn := hk.le
      rw [wsN_end hk] at Hf
      have hge := pow_ge b k
      obtain ⟨d, hd'⟩ : ∃ d, b * 2 ^ k = d := ⟨_, rfl⟩
      rw [hd'] at hd hge Hf ⊢
      clear hk hd' hb hcap
      have hS := fun V => sum_any (d - b) d (by omega) V
      obtain ⟨p, hp⟩ : ∃ p : Nat, (n.toNat - k) * cap = p := ⟨_, rfl⟩
      have hp2 : p ≤ 1000000000 * 1000000 := by rw [← hp]; exact Nat.mul_le_mul (by omega) q3
      have hp1 : (n - (k : Int)) * (cap : Int) = (p : Int) := by
        rw [← hp, Int.natCast_mul]
        congr 1
        omega
      rw [hp] at Hf
      clear hp
      go_wp2_with fail
      go_region_with (first
        | (go_at_call 44; refine (hS _).mono ?_; rintro e w' ⟨rfl, rfl⟩)
        | (go_at_call 45; refine (lim_any _ _).mono ?_; rintro e w' ⟨rfl, rfl⟩))
      all_goals
        go_wp2
        go_ret
        refine ⟨ret_int ?_, bel_trans B.out (bel_of_drew (Below.refl _ _))⟩
        rw [Hf.out, IntWalk.i64_in (n - (k : Int)) (by omega), hp1, IntWalk.i64_in (p : Int) (by omega), IntWalk.i64_in (((d - b : Nat) : Int) + (p : Int)) (by omega), Int.natCast_add]

theorem fw_next {c : Nat → Int} (h : okC c = true) (k : Nat) {b cap : Nat} (hb : (c 7).toNat = b) (hc : (c 8).toNat = cap) : fw c ((k : Int) + 1) = ((min (b * 2 ^ k) cap : Nat) : Int) := by
  rw [fw_pos h (by omega), hb, hc, show ((k : Int) + 1).toNat = k + 1 by omega]
  unfold fwN
  rw [if_neg (by omega), Nat.add_sub_cancel]

set_option maxRecDepth 100000 in
set_option maxHeartbeats 2000000 in
theorem specSum_any (c : Nat → Int) (n : Int) (w : World) :
    Calls Try.prog 25 #[.agg #[.int .i64 (c 0), .int .i64 (c 1), .int .i64 (c 2), .int .i64 (c 3), .int .i64 (c 4), .int .i64 (c 5), .int .i64 (c 6), .int .i64 (c 7), .int .i64 (c 8), .int .i64 (c 9), .int .i64 (c 10), .int .i64 (c 11), .int .i64 (c 12), .int .i64 (c 13)], .int .i64 n] w fun e w' => e = .returned (.int .i64 (ws c n)) ∧ Below w.heap.size w w' := by
  go_enter Try.func25, Try.ntmps25
  go_wp2_with fail
  obtain ⟨W0, hW0⟩ : ∃ W0, w.alloc (.cells #[.int .i64 (c 0), .int .i64 (c 1), .int .i64 (c 2), .int .i64 (c 3), .int .i64 (c 4), .int .i64 (c 5), .int .i64 (c 6), .int .i64 (c 7), .int .i64 (c 8), .int .i64 (c 9), .int .i64 (c 10), .int .i64 (c 11), .int .i64 (c 12), .int .i64 (c 13)] 25) = W0 := ⟨_, rfl⟩
  have B : Hid (Below w.heap.size w W0) := by rw [← hW0]; exact bel_alloc _ _
  have z0 : w.heap.size < W0.heap.size := by rw [← hW0]; simp
  have K : Hid (W0.heap[w.heap.size]? = some (.cells #[.int .i64 (c 0), .int .i64 (c 1), .int .i64 (c 2), .int .i64 (c 3), .int .i64 (c 4), .int .i64 (c 5), .int .i64 (c 6), .int .i64 (c 7), .int .i64 (c 8), .int .i64 (c 9), .int .i64 (c 10), .int .i64 (c 11), .int .i64 (c 12), .int .i64 (c 13)] 25 (0, 0))) := by rw [← hW0]; exact heap_alloc_new w _
  rw [hW0]
  clear hW0
  refine (specConfigOk_any c _).mono ?_
  rintro e w1 ⟨rfl, b1⟩
  replace B := Lib.hid (bel_trans B.out b1)
  replace K := Lib.hid ((b1.block _ z0).trans K.out)
  have z1 : w.heap.size < w1.heap.size := Nat.lt_of_lt_of_le z0 b1.size
  clear b1 z0
  cases hok : okC c
  · have Hf := Lib.hid (ws_bad (n := n) hok)
    clear hok
    go_wp2
    go_ret
    exact ⟨ret_int Hf.out.symm, B.out⟩
  · rcases isT_cases n with ⟨n0, n1⟩ | h0 | h0
    rotate_left
    · have Hf := Lib.hid (ws_neg (c := c) (isT_false (.inl h0)))
      clear hok
      go_wp2
      go_ret
      exact ⟨ret_int Hf.out.symm, B.out⟩
    · have Hf := Lib.hid (ws_neg (c := c) (isT_false (.inr h0)))
      clear hok
      go_wp2
      go_ret
      exact ⟨ret_int Hf.out.symm, B.out⟩
    · obtain ⟨q1, q2, q3, q4, q5, _, _⟩ := okC_base hok
      have Hf := Lib.hid (ws_pos hok (isT_true n0 n1))
      obtain ⟨b, hb⟩ : ∃ b, (c 7).toNat = b := ⟨_, rfl⟩
      obtain ⟨cap, hcap⟩ : ∃ cap, (c 8).toNat = cap := ⟨_, rfl⟩
      have HN := Lib.hid (fun k : Nat => fw_next hok k hb hcap)
      rw [hb, hcap] at q2 Hf
      rw [hb] at q1
      rw [hcap] at q3 q5
      have Q5 := Lib.hid q5
      clear hok hb hcap q4 q5
      go_wp2
      go_loopw [5, 6] (fun x i wr => ∃ k : Nat, i = .int .i64 (k + 1) ∧ x = .int .i64 (b * 2 ^ k - b : Nat) ∧ k ≤ n.toNat ∧ (∀ j, j < k → b * 2 ^ j < cap) ∧ Below w1.heap.size w1 wr) (fun _ i _ => n.toNat + 1 - (intOf i).toNat)
      case atStart => exact ⟨0, rfl, by simp, by omega, fun j h => absurd h (by omega), Below.refl _ _⟩
      case round =>
        obtain ⟨k, rfl, rfl, hle, hlow, hb⟩ := hrel
        have htop : b * 2 ^ k ≤ 2 * cap := Rising.top ⟨hle, hlow, rfl⟩ q2
        have hge := pow_ge b k
        have hfew := few q1 q3 htop
        have hn := HN.out k
        have HL := Lib.hid hlow
        have HB := Lib.hid hb
        have HK := Lib.hid ((hb.block _ z1).trans K.out)
        have zr : w.heap.size < wr.heap.size := Nat.lt_of_lt_of_le z1 hb.size
        clear hlow hb
        obtain ⟨d, hd⟩ : ∃ d, b * 2 ^ k = d := ⟨_, rfl⟩
        rw [hd] at htop hge hn ⊢
        have HD := Lib.hid hd
        clear hd
        by_cases h1 : (k : Int) < n
        · have HF := fun V => specFull_any c ((k : Int) + 1) V
          rw [hn] at HF
          clear hn
          have x0 : wr.cell? ⟨w.heap.size, 0, none⟩ = some (.int .i64 (c 0)) := cell_of_row _ _ 0 _ _ (0, 0) HK.out
          have x1 : wr.cell? ⟨w.heap.size, 1, none⟩ = some (.int .i64 (c 1)) := cell_of_row _ _ 1 _ _ (0, 0) HK.out
          have x2 : wr.cell? ⟨w.heap.size, 2, none⟩ = some (.int .i64 (c 2)) := cell_of_row _ _ 2 _ _ (0, 0) HK.out
          have x3 : wr.cell? ⟨w.heap.size, 3, none⟩ = some (.int .i64 (c 3)) := cell_of_row _ _ 3 _ _ (0, 0) HK.out
          have x4 : wr.cell? ⟨w.heap.size, 4, none⟩ = some (.int .i64 (c 4)) := cell_of_row _ _ 4 _ _ (0, 0) HK.out
          have x5 : wr.cell? ⟨w.heap.size, 5, none⟩ = some (.int .i64 (c 5)) := cell_of_row _ _ 5 _ _ (0, 0) HK.out
          have x6 : wr.cell? ⟨w.heap.size, 6, none⟩ = some (.int .i64 (c 6)) := cell_of_row _ _ 6 _ _ (0, 0) HK.out
          have x7 : wr.cell? ⟨w.heap.size, 7, none⟩ = some (.int .i64 (c 7)) := cell_of_row _ _ 7 _ _ (0, 0) HK.out
          have x8 : wr.cell? ⟨w.heap.size, 8, none⟩ = some (.int .i64 (c 8)) := cell_of_row _ _ 8 _ _ (0, 0) HK.out
          have x9 : wr.cell? ⟨w.heap.size, 9, none⟩ = some (.int .i64 (c 9)) := cell_of_row _ _ 9 _ _ (0, 0) HK.out
          have x10 : wr.cell? ⟨w.heap.size, 10, none⟩ = some (.int .i64 (c 10)) := cell_of_row _ _ 10 _ _ (0, 0) HK.out
          have x11 : wr.cell? ⟨w.heap.size, 11, none⟩ = some (.int .i64 (c 11)) := cell_of_row _ _ 11 _ _ (0, 0) HK.out
          have x12 : wr.cell? ⟨w.heap.size, 12, none⟩ = some (.int .i64 (c 12)) := cell_of_row _ _ 12 _ _ (0, 0) HK.out
          have x13 : wr.cell? ⟨w.heap.size, 13, none⟩ = some (.int .i64 (c 13)) := cell_of_row _ _ 13 _ _ (0, 0) HK.out
          go_wp2_with fail
          refine (HF _).mono ?_
          rintro e w2 ⟨rfl, b2⟩
          clear HF x0 x1 x2 x3 x4 x5 x6 x7 x8 x9 x10 x11 x12 x13
          replace HB := Lib.hid (bel_trans HB.out b2)
          replace HK := Lib.hid ((b2.block _ zr).trans HK.out)
          have x8 : w2.cell? ⟨w.heap.size, 8, none⟩ = some (.int .i64 (c 8)) := cell_of_row _ _ 8 _ _ (0, 0) HK.out
          rw [Q5.out] at x8
          clear b2 zr
          by_cases h2 : cap ≤ d
          · have hm : min d cap = cap := by omega
            rw [hm]
            clear hm
            have hw := wsN_end (b := b) (cap := cap) (n := n.toNat) (k := k) ⟨hle, HL.out, .inr (by rw [HD.out]; exact h2)⟩
            rw [HD.out] at hw
            obtain ⟨p, hp⟩ : ∃ p : Nat, (n.toNat - k) * cap = p := ⟨_, rfl⟩
            have hp2 : p ≤ 1000000000 * 1000000 := by rw [← hp]; exact Nat.mul_le_mul (by omega) q3
            have hp1 : (n - (k : Int)) * (cap : Int) = (p : Int) := by
              rw [← hp, Int.natCast_mul]
              congr 1
              omega
            rw [hp] at hw
            have hf := Hf.out
            rw [hw, lim_nat] at hf
            have HF := Lib.hid hf
            have hp3 : (n - ((k : Int) + 1) + 1) * (cap : Int) = (p : Int) := by rw [show n - ((k : Int) + 1) + 1 = n - (k : Int) by omega]; exact hp1
            clear hf hw hp hp1
            by_cases h3 : 1000000000 < ((d - b + p : Nat) : Int)
            · rw [if_pos h3] at HF
              go_wp2
              go_ret
              exact ⟨ret_int (by rw [HF.out]), bel_trans B.out HB.out⟩
            · rw [if_neg h3] at HF
              go_wp2
              go_ret
              exact ⟨ret_int (by rw [HF.out]; omega), bel_trans B.out HB.out⟩
          · have hm : min d cap = d := by omega
            rw [hm]
            clear hm
            go_wp2
            go_roundw
            case rel =>
              refine ⟨k + 1, by go_num, ?_, by omega, fun j hj => ?_, HB.out⟩
              · rw [pow_step, HD.out]; go_num
              · by_cases e : j = k
                · subst e; rw [HD.out]; omega
                · exact HL.out j (by omega)
            case measure => simp [intOf]; omega
        · have hw := wsN_end (b := b) (cap := cap) (n := n.toNat) (k := k) ⟨hle, HL.out, .inl (by omega)⟩
          rw [HD.out, show n.toNat - k = 0 by omega, Nat.zero_mul, Nat.add_zero] at hw
          have hf := Hf.out
          rw [hw, lim_nat, if_neg (by omega)] at hf
          have HF := Lib.hid hf
          clear hf hw hn
          go_wp2
          go_ret
          exact ⟨ret_int (by rw [HF.out]), bel_trans B.out HB.out⟩

set_option maxRecDepth 100000 in
set_option maxHeartbeats 2000000 in
theorem lawWaitSum (c : Nat → Int) (n : Int) (w : World) :
    Calls Try.prog 7 #[.agg #[.int .i64 (c 0), .int .i64 (c 1), .int .i64 (c 2), .int .i64 (c 3), .int .i64 (c 4), .int .i64 (c 5), .int .i64 (c 6), .int .i64 (c 7), .int .i64 (c 8), .int .i64 (c 9), .int .i64 (c 10), .int .i64 (c 11), .int .i64 (c 12), .int .i64 (c 13)], .int .i64 n] w fun e w' => e = .returned (.bool true) ∧ Below w.heap.size w w' := by
  have HS := fun V => specSum_any c n V
  have HG := fun V => implSum_any c n V
  generalize ws c n = r at HS HG
  go_enter Try.func7, Try.ntmps7
  go_wp2_with fail
  obtain ⟨W0, hW0⟩ : ∃ W0, w.alloc (.cells #[.int .i64 (c 0), .int .i64 (c 1), .int .i64 (c 2), .int .i64 (c 3), .int .i64 (c 4), .int .i64 (c 5), .int .i64 (c 6), .int .i64 (c 7), .int .i64 (c 8), .int .i64 (c 9), .int .i64 (c 10), .int .i64 (c 11), .int .i64 (c 12), .int .i64 (c 13)] 36) = W0 := ⟨_, rfl⟩
  have B : Hid (Below w.heap.size w W0) := by rw [← hW0]; exact bel_alloc _ _
  have K : Hid (W0.heap[w.heap.size]? = some (.cells #[.int .i64 (c 0), .int .i64 (c 1), .int .i64 (c 2), .int .i64 (c 3), .int .i64 (c 4), .int .i64 (c 5), .int .i64 (c 6), .int .i64 (c 7), .int .i64 (c 8), .int .i64 (c 9), .int .i64 (c 10), .int .i64 (c 11), .int .i64 (c 12), .int .i64 (c 13)] 36 (0, 0))) := by rw [← hW0]; exact heap_alloc_new w _
  have z0 : w.heap.size < W0.heap.size := by rw [← hW0]; simp
  rw [hW0]
  clear hW0
  refine (toConfig_any c _).mono ?_
  rintro e w1 ⟨rfl, b1⟩
  replace B := Lib.hid (bel_trans B.out b1)
  replace K := Lib.hid ((b1.block _ z0).trans K.out)
  have z1 : w.heap.size < w1.heap.size := Nat.lt_of_lt_of_le z0 b1.size
  clear b1 z0
  go_wp2_with fail
  refine (HS _).mono ?_
  rintro e w2 ⟨rfl, b2⟩
  replace B := Lib.hid (bel_trans B.out b2)
  replace K := Lib.hid ((b2.block _ z1).trans K.out)
  clear b2 z1 HS
  have x0 : w2.cell? ⟨w.heap.size, 0, none⟩ = some (.int .i64 (c 0)) := cell_of_row _ _ 0 _ _ (0, 0) K.out
  have x1 : w2.cell? ⟨w.heap.size, 1, none⟩ = some (.int .i64 (c 1)) := cell_of_row _ _ 1 _ _ (0, 0) K.out
  have x2 : w2.cell? ⟨w.heap.size, 2, none⟩ = some (.int .i64 (c 2)) := cell_of_row _ _ 2 _ _ (0, 0) K.out
  have x3 : w2.cell? ⟨w.heap.size, 3, none⟩ = some (.int .i64 (c 3)) := cell_of_row _ _ 3 _ _ (0, 0) K.out
  have x4 : w2.cell? ⟨w.heap.size, 4, none⟩ = some (.int .i64 (c 4)) := cell_of_row _ _ 4 _ _ (0, 0) K.out
  have x5 : w2.cell? ⟨w.heap.size, 5, none⟩ = some (.int .i64 (c 5)) := cell_of_row _ _ 5 _ _ (0, 0) K.out
  have x6 : w2.cell? ⟨w.heap.size, 6, none⟩ = some (.int .i64 (c 6)) := cell_of_row _ _ 6 _ _ (0, 0) K.out
  have x7 : w2.cell? ⟨w.heap.size, 7, none⟩ = some (.int .i64 (c 7)) := cell_of_row _ _ 7 _ _ (0, 0) K.out
  have x8 : w2.cell? ⟨w.heap.size, 8, none⟩ = some (.int .i64 (c 8)) := cell_of_row _ _ 8 _ _ (0, 0) K.out
  have x9 : w2.cell? ⟨w.heap.size, 9, none⟩ = some (.int .i64 (c 9)) := cell_of_row _ _ 9 _ _ (0, 0) K.out
  have x10 : w2.cell? ⟨w.heap.size, 10, none⟩ = some (.int .i64 (c 10)) := cell_of_row _ _ 10 _ _ (0, 0) K.out
  have x11 : w2.cell? ⟨w.heap.size, 11, none⟩ = some (.int .i64 (c 11)) := cell_of_row _ _ 11 _ _ (0, 0) K.out
  have x12 : w2.cell? ⟨w.heap.size, 12, none⟩ = some (.int .i64 (c 12)) := cell_of_row _ _ 12 _ _ (0, 0) K.out
  have x13 : w2.cell? ⟨w.heap.size, 13, none⟩ = some (.int .i64 (c 13)) := cell_of_row _ _ 13 _ _ (0, 0) K.out
  go_wp2_with fail
  refine (toConfig_any c _).mono ?_
  rintro e w3 ⟨rfl, b3⟩
  replace B := Lib.hid (bel_trans B.out b3)
  clear b3 x0 x1 x2 x3 x4 x5 x6 x7 x8 x9 x10 x11 x12 x13
  go_wp2_with fail
  refine (HG _).mono ?_
  rintro e w4 ⟨rfl, b4⟩
  replace B := Lib.hid (bel_trans B.out b4)
  clear b4 HG
  go_wp2
  go_ret
  exact ⟨rfl, B.out⟩
end Go.Proofs.Ytjfmkcppampokaa.Wt
