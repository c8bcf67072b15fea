/- StepsToCap, the program's and the reference's; its law. -/
import Derived.Test.YtjfmkcppampokaaWt8
namespace Go.Proofs.Ytjfmkcppampokaa.Wt
open Go.RowKit Base Flt Cf Tick

/-- The doublings to the cap: the first of them that reaches it. -/
def toCap (b cap k : Nat) : Prop := (∀ j, j < k → b * 2 ^ j < cap) ∧ cap ≤ b * 2 ^ k

theorem toCap_uniq {b cap k k' : Nat} (h : toCap b cap k) (h' : toCap b cap k') : k = k' := by
  rcases Nat.lt_trichotomy k k' with hl | he | hl
  · have := h'.1 k hl; have := h.2; omega
  · exact he
  · have := h.1 k' hl; have := h'.2; omega

theorem toCap_end {b cap k : Nat} (hb : 1 ≤ b) (h : RiseEnd b cap cap k) : toCap b cap k := by
  refine ⟨h.low, ?_⟩
  rcases h.stop with e | e
  · subst e
    have h1 : k < 2 ^ k := Nat.lt_two_pow_self
    have h2 : 1 * 2 ^ k ≤ b * 2 ^ k := Nat.mul_le_mul_right _ hb
    omega
  · exact e

theorem toCap_some {b cap : Nat} (hb : 1 ≤ b) : ∃ k, toCap b cap k := by
  have h : ∀ n, ∃ k, RiseEnd b cap n k := by
    intro n
    induction n with
    | zero => exact ⟨0, Nat.le_refl _, fun j h => absurd h (by omega), .inl rfl⟩
    | succ n ih =>
      obtain ⟨k, hk⟩ := ih
      by_cases hc : cap ≤ b * 2 ^ k
      · exact ⟨k, by have := hk.le; omega, hk.low, .inr hc⟩
      · have he : k = n := by
          rcases hk.stop with e | e
          · exact e
          · exact absurd e hc
        refine ⟨n + 1, Nat.le_refl _, fun j hj => ?_, .inl rfl⟩
        by_cases e : j = n
        · subst e; subst he; omega
        · exact hk.low j (by omega)
  obtain ⟨k, hk⟩ := h cap
  exact ⟨k, toCap_end hb hk⟩

/-- StepsToCap's answer. -/
def st (c : Nat → Int) (s : Int) : Prop := (okC c = true ∧ ∃ k : Nat, toCap (c 7).toNat (c 8).toNat k ∧ s = (k : Int) + 1) ∨ (okC c = false ∧ s = -1)

theorem st_some (c : Nat → Int) : ∃ s, st c s := by
  cases h : okC c
  · exact ⟨-1, .inr ⟨h, rfl⟩⟩
  · obtain ⟨k, hk⟩ := toCap_some (cap := (c 8).toNat) (okC_base h).1
    exact ⟨_, .inl ⟨h, k, hk, rfl⟩⟩

set_option maxRecDepth 100000 in
set_option maxHeartbeats 2000000 in
theorem implSteps_any (c : Nat → Int) (s : Int) (hs : st c s) (w : World) :
    Calls Try.prog 14 #[.agg #[.int .i64 (c 0), .int .i64 (c 1), .int .i64 (c 2), .int .i64 (c 3), .int .i64 (c 4), .int .i64 (c 5), .int .i64 (c 6), .int .i64 (c 7), .int .i64 (c 8), .int .i64 (c 9), .int .i64 (c 10), .int .i64 (c 11), .int .i64 (c 12), .int .i64 (c 13)]] w fun e w' => e = .returned (.int .i64 s) ∧ Below w.heap.size w w' := by
  go_enter Try.func14, Try.ntmps14
  go_wp2_with fail
  obtain ⟨W0, hW0⟩ : ∃ W0, w.alloc (.cells #[.int .i64 (c 0), .int .i64 (c 1), .int .i64 (c 2), .int .i64 (c 3), .int .i64 (c 4), .int .i64 (c 5), .int .i64 (c 6), .int .i64 (c 7), .int .i64 (c 8), .int .i64 (c 9), .int .i64 (c 10), .int .i64 (c 11), .int .i64 (c 12), .int .i64 (c 13)] 25) = W0 := ⟨_, rfl⟩
  have B : Hid (Below w.heap.size w W0) := by rw [← hW0]; exact bel_alloc _ _
  have z0 : w.heap.size < W0.heap.size := by rw [← hW0]; simp
  have K : Hid (W0.heap[w.heap.size]? = some (.cells #[.int .i64 (c 0), .int .i64 (c 1), .int .i64 (c 2), .int .i64 (c 3), .int .i64 (c 4), .int .i64 (c 5), .int .i64 (c 6), .int .i64 (c 7), .int .i64 (c 8), .int .i64 (c 9), .int .i64 (c 10), .int .i64 (c 11), .int .i64 (c 12), .int .i64 (c 13)] 25 (0, 0))) := by rw [← hW0]; exact heap_alloc_new w _
  rw [hW0]
  clear hW0
  refine (implConfigOk_any c _).mono ?_
  rintro e w1 ⟨rfl, b1⟩
  replace B := Lib.hid (bel_trans B.out b1)
  replace K := Lib.hid ((b1.block _ z0).trans K.out)
  have z1 : w.heap.size < w1.heap.size := Nat.lt_of_lt_of_le z0 b1.size
  clear b1 z0
  rcases hs with ⟨hok, k, hk, rfl⟩ | ⟨hok, rfl⟩
  · rw [hok]
    obtain ⟨q1, q2, q3, q4, q5, _, _⟩ := okC_base hok
    clear hok
    have x0 : w1.cell? ⟨w.heap.size, 0, none⟩ = some (.int .i64 (c 0)) := cell_of_row _ _ 0 _ _ (0, 0) K.out
    have x1 : w1.cell? ⟨w.heap.size, 1, none⟩ = some (.int .i64 (c 1)) := cell_of_row _ _ 1 _ _ (0, 0) K.out
    have x2 : w1.cell? ⟨w.heap.size, 2, none⟩ = some (.int .i64 (c 2)) := cell_of_row _ _ 2 _ _ (0, 0) K.out
    have x3 : w1.cell? ⟨w.heap.size, 3, none⟩ = some (.int .i64 (c 3)) := cell_of_row _ _ 3 _ _ (0, 0) K.out
    have x4 : w1.cell? ⟨w.heap.size, 4, none⟩ = some (.int .i64 (c 4)) := cell_of_row _ _ 4 _ _ (0, 0) K.out
    have x5 : w1.cell? ⟨w.heap.size, 5, none⟩ = some (.int .i64 (c 5)) := cell_of_row _ _ 5 _ _ (0, 0) K.out
    have x6 : w1.cell? ⟨w.heap.size, 6, none⟩ = some (.int .i64 (c 6)) := cell_of_row _ _ 6 _ _ (0, 0) K.out
    have x7 : w1.cell? ⟨w.heap.size, 7, none⟩ = some (.int .i64 (c 7)) := cell_of_row _ _ 7 _ _ (0, 0) K.out
    have x8 : w1.cell? ⟨w.heap.size, 8, none⟩ = some (.int .i64 (c 8)) := cell_of_row _ _ 8 _ _ (0, 0) K.out
    have x9 : w1.cell? ⟨w.heap.size, 9, none⟩ = some (.int .i64 (c 9)) := cell_of_row _ _ 9 _ _ (0, 0) K.out
    have x10 : w1.cell? ⟨w.heap.size, 10, none⟩ = some (.int .i64 (c 10)) := cell_of_row _ _ 10 _ _ (0, 0) K.out
    have x11 : w1.cell? ⟨w.heap.size, 11, none⟩ = some (.int .i64 (c 11)) := cell_of_row _ _ 11 _ _ (0, 0) K.out
    have x12 : w1.cell? ⟨w.heap.size, 12, none⟩ = some (.int .i64 (c 12)) := cell_of_row _ _ 12 _ _ (0, 0) K.out
    have x13 : w1.cell? ⟨w.heap.size, 13, none⟩ = some (.int .i64 (c 13)) := cell_of_row _ _ 13 _ _ (0, 0) K.out
    have HR := fun V => rise_any c (c 7).toNat (c 8).toNat (c 8) q4 q5 (by omega) q1 q2 q3 V
    have HK := Lib.hid hk
    have htop : (c 7).toNat * 2 ^ k ≤ 2 * (c 8).toNat := Rising.top (n := k) ⟨Nat.le_refl _, hk.1, rfl⟩ q2
    have hfew := few q1 q3 htop
    clear q4 q5 hk htop
    go_wp2_with fail
    refine (HR _).mono ?_
    rintro e w2 ⟨⟨k', hk', rfl⟩, b2⟩
    obtain rfl : k = k' := toCap_uniq HK.out (toCap_end q1 hk')
    replace B := Lib.hid (bel_trans B.out b2)
    clear hk' b2 x0 x1 x2 x3 x4 x5 x6 x7 x8 x9 x10 x11 x12 x13 HR
    go_wp2
    go_ret
    exact ⟨ret_int rfl, B.out⟩
  · rw [hok]
    clear hok
    go_wp2
    go_ret
    exact ⟨ret_int rfl, B.out⟩

set_option maxRecDepth 100000 in
set_option maxHeartbeats 2000000 in
theorem specSteps_any (c : Nat → Int) (s : Int) (hs : st c s) (w : World) :
    Calls Try.prog 26 #[.agg #[.int .i64 (c 0), .int .i64 (c 1), .int .i64 (c 2), .int .i64 (c 3), .int .i64 (c 4), .int .i64 (c 5), .int .i64 (c 6), .int .i64 (c 7), .int .i64 (c 8), .int .i64 (c 9), .int .i64 (c 10), .int .i64 (c 11), .int .i64 (c 12), .int .i64 (c 13)]] w fun e w' => e = .returned (.int .i64 s) ∧ Below w.heap.size w w' := by
  go_enter Try.func26, Try.ntmps26
  go_wp2_with fail
  obtain ⟨W0, hW0⟩ : ∃ W0, w.alloc (.cells #[.int .i64 (c 0), .int .i64 (c 1), .int .i64 (c 2), .int .i64 (c 3), .int .i64 (c 4), .int .i64 (c 5), .int .i64 (c 6), .int .i64 (c 7), .int .i64 (c 8), .int .i64 (c 9), .int .i64 (c 10), .int .i64 (c 11), .int .i64 (c 12), .int .i64 (c 13)] 25) = W0 := ⟨_, rfl⟩
  have B : Hid (Below w.heap.size w W0) := by rw [← hW0]; exact bel_alloc _ _
  have z0 : w.heap.size < W0.heap.size := by rw [← hW0]; simp
  have K : Hid (W0.heap[w.heap.size]? = some (.cells #[.int .i64 (c 0), .int .i64 (c 1), .int .i64 (c 2), .int .i64 (c 3), .int .i64 (c 4), .int .i64 (c 5), .int .i64 (c 6), .int .i64 (c 7), .int .i64 (c 8), .int .i64 (c 9), .int .i64 (c 10), .int .i64 (c 11), .int .i64 (c 12), .int .i64 (c 13)] 25 (0, 0))) := by rw [← hW0]; exact heap_alloc_new w _
  rw [hW0]
  clear hW0
  refine (specConfigOk_any c _).mono ?_
  rintro e w1 ⟨rfl, b1⟩
  replace B := Lib.hid (bel_trans B.out b1)
  replace K := Lib.hid ((b1.block _ z0).trans K.out)
  have z1 : w.heap.size < w1.heap.size := Nat.lt_of_lt_of_le z0 b1.size
  clear b1 z0
  rcases hs with ⟨hok, m, hm, rfl⟩ | ⟨hok, rfl⟩
  · obtain ⟨q1, q2, q3, q4, q5, _, _⟩ := okC_base hok
    obtain ⟨b, hb⟩ : ∃ b, (c 7).toNat = b := ⟨_, rfl⟩
    obtain ⟨cap, hcap⟩ : ∃ cap, (c 8).toNat = cap := ⟨_, rfl⟩
    have HN := Lib.hid (fun k : Nat => fw_next hok k hb hcap)
    rw [hok]
    rw [hb, hcap] at q2 hm
    rw [hb] at q1
    rw [hcap] at q3 q5
    have Q5 := Lib.hid q5
    have HM := Lib.hid hm
    clear hok hb hcap q4 q5 hm
    go_wp2
    go_loopw [3] (fun i wr => ∃ k : Nat, i = .int .i64 (k + 1) ∧ (∀ j, j < k → b * 2 ^ j < cap) ∧ Below w1.heap.size w1 wr) (fun i _ => m + 2 - (intOf i).toNat)
    case atStart => exact ⟨0, rfl, fun j h => absurd h (by omega), Below.refl _ _⟩
    case round =>
      obtain ⟨k, rfl, hlow, hb⟩ := hrel
      have htop : b * 2 ^ k ≤ 2 * cap := Rising.top (n := k) ⟨Nat.le_refl _, hlow, rfl⟩ q2
      have hkm : k ≤ m := by
        refine Nat.le_of_not_lt fun h => ?_
        have := hlow m h
        have := HM.out.2
        omega
      have hfew := few q1 q3 htop
      have hn := HN.out k
      have HL := Lib.hid hlow
      have HB := Lib.hid hb
      have HK := Lib.hid ((hb.block _ z1).trans K.out)
      have zr : w.heap.size < wr.heap.size := Nat.lt_of_lt_of_le z1 hb.size
      clear hlow hb
      have HF := fun V => specFull_any c ((k : Int) + 1) V
      rw [hn] at HF
      clear hn
      obtain ⟨d, hd⟩ : ∃ d, b * 2 ^ k = d := ⟨_, rfl⟩
      rw [hd] at htop HF
      have HD := Lib.hid hd
      clear hd
      have x0 : wr.cell? ⟨w.heap.size, 0, none⟩ = some (.int .i64 (c 0)) := cell_of_row _ _ 0 _ _ (0, 0) HK.out
      have x1 : wr.cell? ⟨w.heap.size, 1, none⟩ = some (.int .i64 (c 1)) := cell_of_row _ _ 1 _ _ (0, 0) HK.out
      have x2 : wr.cell? ⟨w.heap.size, 2, none⟩ = some (.int .i64 (c 2)) := cell_of_row _ _ 2 _ _ (0, 0) HK.out
      have x3 : wr.cell? ⟨w.heap.size, 3, none⟩ = some (.int .i64 (c 3)) := cell_of_row _ _ 3 _ _ (0, 0) HK.out
      have x4 : wr.cell? ⟨w.heap.size, 4, none⟩ = some (.int .i64 (c 4)) := cell_of_row _ _ 4 _ _ (0, 0) HK.out
      have x5 : wr.cell? ⟨w.heap.size, 5, none⟩ = some (.int .i64 (c 5)) := cell_of_row _ _ 5 _ _ (0, 0) HK.out
      have x6 : wr.cell? ⟨w.heap.size, 6, none⟩ = some (.int .i64 (c 6)) := cell_of_row _ _ 6 _ _ (0, 0) HK.out
      have x7 : wr.cell? ⟨w.heap.size, 7, none⟩ = some (.int .i64 (c 7)) := cell_of_row _ _ 7 _ _ (0, 0) HK.out
      have x8 : wr.cell? ⟨w.heap.size, 8, none⟩ = some (.int .i64 (c 8)) := cell_of_row _ _ 8 _ _ (0, 0) HK.out
      have x9 : wr.cell? ⟨w.heap.size, 9, none⟩ = some (.int .i64 (c 9)) := cell_of_row _ _ 9 _ _ (0, 0) HK.out
      have x10 : wr.cell? ⟨w.heap.size, 10, none⟩ = some (.int .i64 (c 10)) := cell_of_row _ _ 10 _ _ (0, 0) HK.out
      have x11 : wr.cell? ⟨w.heap.size, 11, none⟩ = some (.int .i64 (c 11)) := cell_of_row _ _ 11 _ _ (0, 0) HK.out
      have x12 : wr.cell? ⟨w.heap.size, 12, none⟩ = some (.int .i64 (c 12)) := cell_of_row _ _ 12 _ _ (0, 0) HK.out
      have x13 : wr.cell? ⟨w.heap.size, 13, none⟩ = some (.int .i64 (c 13)) := cell_of_row _ _ 13 _ _ (0, 0) HK.out
      by_cases h2 : cap ≤ d
      · have e8 : ((min d cap : Nat) : Int) = c 8 := by rw [Q5.out]; omega
        rw [e8] at HF
        clear e8
        have Hm : Hid (k = m) := toCap_uniq ⟨HL.out, by rw [HD.out]; exact h2⟩ HM.out
        go_wp2_with fail
        go_region_with (go_at_call 16; refine (HF _).mono ?_; rintro e w2 ⟨rfl, b2⟩; have y8 : w2.cell? ⟨w.heap.size, 8, none⟩ = some (.int .i64 (c 8)) := cell_of_row _ _ 8 _ _ (0, 0) ((b2.block _ zr).trans HK.out); have H2 := Lib.hid (bel_of_drew b2); clear b2)
        all_goals
          go_wp2
          go_ret
          exact ⟨ret_int (by rw [Hm.out]), bel_trans B.out (bel_trans HB.out H2.out)⟩
      · rw [show min d cap = d by omega] at HF
        have h8 : (d : Int) < c 8 := by rw [Q5.out]; omega
        go_wp2_with fail
        go_region_with (go_at_call 16; refine (HF _).mono ?_; rintro e w2 ⟨rfl, b2⟩; have y8 : w2.cell? ⟨w.heap.size, 8, none⟩ = some (.int .i64 (c 8)) := cell_of_row _ _ 8 _ _ (0, 0) ((b2.block _ zr).trans HK.out); have H2 := Lib.hid (bel_of_drew b2); clear b2)
        all_goals
          go_wp2
          go_roundw
          case rel =>
            refine ⟨k + 1, by go_num, fun j hj => ?_, bel_trans HB.out H2.out⟩
            by_cases e : j = k
            · subst e; rw [HD.out]; omega
            · exact HL.out j (by omega)
          case measure => simp [intOf]; omega
  · rw [hok]
    clear hok
    go_wp2
    go_ret
    exact ⟨ret_int rfl, B.out⟩

set_option maxRecDepth 100000 in
set_option maxHeartbeats 2000000 in
theorem lawStepsToCap (c : Nat → Int) (w : World) :
    Calls Try.prog 8 #[.agg #[.int .i64 (c 0), .int .i64 (c 1), .int .i64 (c 2), .int .i64 (c 3), .int .i64 (c 4), .int .i64 (c 5), .int .i64 (c 6), .int .i64 (c 7), .int .i64 (c 8), .int .i64 (c 9), .int .i64 (c 10), .int .i64 (c 11), .int .i64 (c 12), .int .i64 (c 13)]] w fun e w' => e = .returned (.bool true) ∧ Below w.heap.size w w' := by
  obtain ⟨s, hs⟩ := st_some c
  have HS := fun V => specSteps_any c s hs V
  have HG := fun V => implSteps_any c s hs V
  clear hs
  go_enter Try.func8, Try.ntmps8
  go_wp2_with fail
  obtain ⟨W0, hW0⟩ : ∃ W0, w.alloc (.cells #[.int .i64 (c 0), .int .i64 (c 1), .int .i64 (c 2), .int .i64 (c 3), .int .i64 (c 4), .int .i64 (c 5), .int .i64 (c 6), .int .i64 (c 7), .int .i64 (c 8), .int .i64 (c 9), .int .i64 (c 10), .int .i64 (c 11), .int .i64 (c 12), .int .i64 (c 13)] 36) = W0 := ⟨_, rfl⟩
  have B : Hid (Below w.heap.size w W0) := by rw [← hW0]; exact bel_alloc _ _
  have K : Hid (W0.heap[w.heap.size]? = some (.cells #[.int .i64 (c 0), .int .i64 (c 1), .int .i64 (c 2), .int .i64 (c 3), .int .i64 (c 4), .int .i64 (c 5), .int .i64 (c 6), .int .i64 (c 7), .int .i64 (c 8), .int .i64 (c 9), .int .i64 (c 10), .int .i64 (c 11), .int .i64 (c 12), .int .i64 (c 13)] 36 (0, 0))) := by rw [← hW0]; exact heap_alloc_new w _
  have z0 : w.heap.size < W0.heap.size := by rw [← hW0]; simp
  rw [hW0]
  clear hW0
  refine (toConfig_any c _).mono ?_
  rintro e w1 ⟨rfl, b1⟩
  replace B := Lib.hid (bel_trans B.out b1)
  replace K := Lib.hid ((b1.block _ z0).trans K.out)
  have z1 : w.heap.size < w1.heap.size := Nat.lt_of_lt_of_le z0 b1.size
  clear b1 z0
  go_wp2_with fail
  refine (HS _).mono ?_
  rintro e w2 ⟨rfl, b2⟩
  replace B := Lib.hid (bel_trans B.out b2)
  replace K := Lib.hid ((b2.block _ z1).trans K.out)
  clear b2 z1 HS
  have x0 : w2.cell? ⟨w.heap.size, 0, none⟩ = some (.int .i64 (c 0)) := cell_of_row _ _ 0 _ _ (0, 0) K.out
  have x1 : w2.cell? ⟨w.heap.size, 1, none⟩ = some (.int .i64 (c 1)) := cell_of_row _ _ 1 _ _ (0, 0) K.out
  have x2 : w2.cell? ⟨w.heap.size, 2, none⟩ = some (.int .i64 (c 2)) := cell_of_row _ _ 2 _ _ (0, 0) K.out
  have x3 : w2.cell? ⟨w.heap.size, 3, none⟩ = some (.int .i64 (c 3)) := cell_of_row _ _ 3 _ _ (0, 0) K.out
  have x4 : w2.cell? ⟨w.heap.size, 4, none⟩ = some (.int .i64 (c 4)) := cell_of_row _ _ 4 _ _ (0, 0) K.out
  have x5 : w2.cell? ⟨w.heap.size, 5, none⟩ = some (.int .i64 (c 5)) := cell_of_row _ _ 5 _ _ (0, 0) K.out
  have x6 : w2.cell? ⟨w.heap.size, 6, none⟩ = some (.int .i64 (c 6)) := cell_of_row _ _ 6 _ _ (0, 0) K.out
  have x7 : w2.cell? ⟨w.heap.size, 7, none⟩ = some (.int .i64 (c 7)) := cell_of_row _ _ 7 _ _ (0, 0) K.out
  have x8 : w2.cell? ⟨w.heap.size, 8, none⟩ = some (.int .i64 (c 8)) := cell_of_row _ _ 8 _ _ (0, 0) K.out
  have x9 : w2.cell? ⟨w.heap.size, 9, none⟩ = some (.int .i64 (c 9)) := cell_of_row _ _ 9 _ _ (0, 0) K.out
  have x10 : w2.cell? ⟨w.heap.size, 10, none⟩ = some (.int .i64 (c 10)) := cell_of_row _ _ 10 _ _ (0, 0) K.out
  have x11 : w2.cell? ⟨w.heap.size, 11, none⟩ = some (.int .i64 (c 11)) := cell_of_row _ _ 11 _ _ (0, 0) K.out
  have x12 : w2.cell? ⟨w.heap.size, 12, none⟩ = some (.int .i64 (c 12)) := cell_of_row _ _ 12 _ _ (0, 0) K.out
  have x13 : w2.cell? ⟨w.heap.size, 13, none⟩ = some (.int .i64 (c 13)) := cell_of_row _ _ 13 _ _ (0, 0) K.out
  go_wp2_with fail
  refine (toConfig_any c _).mono ?_
  rintro e w3 ⟨rfl, b3⟩
  replace B := Lib.hid (bel_trans B.out b3)
  clear b3 x0 x1 x2 x3 x4 x5 x6 x7 x8 x9 x10 x11 x12 x13
  go_wp2_with fail
  refine (HG _).mono ?_
  rintro e w4 ⟨rfl, b4⟩
  replace B := Lib.hid (bel_trans B.out b4)
  clear b4 HG
  go_wp2
  go_ret
  exact ⟨rfl, B.out⟩
end Go.Proofs.Ytjfmkcppampokaa.Wt
