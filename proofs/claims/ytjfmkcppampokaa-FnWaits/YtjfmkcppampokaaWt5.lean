/- LeastWait and JitteredWait, the program's. -/
import Derived.Test.YtjfmkcppampokaaWt4
namespace Go.Proofs.Ytjfmkcppampokaa.Wt
open Go.RowKit Base Flt Cf

set_option maxRecDepth 100000 in
set_option maxHeartbeats 2000000 in
theorem implLeast_any (c : Nat → Int) (n : Int) (hn : n ≤ 9223372036854775807) (w : World) :
    Calls Try.prog 19 #[.agg #[.int .i64 (c 0), .int .i64 (c 1), .int .i64 (c 2), .int .i64 (c 3), .int .i64 (c 4), .int .i64 (c 5), .int .i64 (c 6), .int .i64 (c 7), .int .i64 (c 8), .int .i64 (c 9), .int .i64 (c 10), .int .i64 (c 11), .int .i64 (c 12), .int .i64 (c 13)], .int .i64 n] w fun e w' => e = .returned (.int .i64 (lw c n)) ∧ Below w.heap.size w w' := by
  go_enter Try.func19, Try.ntmps19
  go_wp2_with fail
  obtain ⟨W0, hW0⟩ : ∃ W0, w.alloc (.cells #[.int .i64 (c 0), .int .i64 (c 1), .int .i64 (c 2), .int .i64 (c 3), .int .i64 (c 4), .int .i64 (c 5), .int .i64 (c 6), .int .i64 (c 7), .int .i64 (c 8), .int .i64 (c 9), .int .i64 (c 10), .int .i64 (c 11), .int .i64 (c 12), .int .i64 (c 13)] 25) = W0 := ⟨_, rfl⟩
  have B : Hid (Below w.heap.size w W0) := by rw [← hW0]; exact bel_alloc _ _
  have z0 : w.heap.size < W0.heap.size := by rw [← hW0]; simp
  have K : Hid (W0.heap[w.heap.size]? = some (.cells #[.int .i64 (c 0), .int .i64 (c 1), .int .i64 (c 2), .int .i64 (c 3), .int .i64 (c 4), .int .i64 (c 5), .int .i64 (c 6), .int .i64 (c 7), .int .i64 (c 8), .int .i64 (c 9), .int .i64 (c 10), .int .i64 (c 11), .int .i64 (c 12), .int .i64 (c 13)] 25 (0, 0))) := by rw [← hW0]; exact heap_alloc_new w _
  rw [hW0]
  clear hW0
  refine (implFull_any c n hn _).mono ?_
  rintro e w1 ⟨rfl, b1⟩
  replace B := Lib.hid (bel_trans B.out b1)
  replace K := Lib.hid ((b1.block _ z0).trans K.out)
  have z1 : w.heap.size < w1.heap.size := Nat.lt_of_lt_of_le z0 b1.size
  clear b1 z0
  by_cases hk : okC c = true ∧ 0 ≤ n
  · obtain ⟨hok, hn0⟩ := hk
    obtain ⟨f0, f1, _⟩ := fw_bound hok hn0
    have j0 := (okC_base hok).2.2.2.2.2.1
    have j1 := (okC_base hok).2.2.2.2.2.2
    have Ha := Lib.hid (lw_pos hok hn0)
    have HM := fun V => maxRed_any c (fw c n) f0 f1 j0 j1 V
    have hmb := mr_bound f0 j0 j1
    clear hok
    have x0 : w1.cell? ⟨w.heap.size, 0, none⟩ = some (.int .i64 (c 0)) := cell_of_row _ _ 0 _ _ (0, 0) K.out
    have x1 : w1.cell? ⟨w.heap.size, 1, none⟩ = some (.int .i64 (c 1)) := cell_of_row _ _ 1 _ _ (0, 0) K.out
    have x2 : w1.cell? ⟨w.heap.size, 2, none⟩ = some (.int .i64 (c 2)) := cell_of_row _ _ 2 _ _ (0, 0) K.out
    have x3 : w1.cell? ⟨w.heap.size, 3, none⟩ = some (.int .i64 (c 3)) := cell_of_row _ _ 3 _ _ (0, 0) K.out
    have x4 : w1.cell? ⟨w.heap.size, 4, none⟩ = some (.int .i64 (c 4)) := cell_of_row _ _ 4 _ _ (0, 0) K.out
    have x5 : w1.cell? ⟨w.heap.size, 5, none⟩ = some (.int .i64 (c 5)) := cell_of_row _ _ 5 _ _ (0, 0) K.out
    have x6 : w1.cell? ⟨w.heap.size, 6, none⟩ = some (.int .i64 (c 6)) := cell_of_row _ _ 6 _ _ (0, 0) K.out
    have x7 : w1.cell? ⟨w.heap.size, 7, none⟩ = some (.int .i64 (c 7)) := cell_of_row _ _ 7 _ _ (0, 0) K.out
    have x8 : w1.cell? ⟨w.heap.size, 8, none⟩ = some (.int .i64 (c 8)) := cell_of_row _ _ 8 _ _ (0, 0) K.out
    have x9 : w1.cell? ⟨w.heap.size, 9, none⟩ = some (.int .i64 (c 9)) := cell_of_row _ _ 9 _ _ (0, 0) K.out
    have x10 : w1.cell? ⟨w.heap.size, 10, none⟩ = some (.int .i64 (c 10)) := cell_of_row _ _ 10 _ _ (0, 0) K.out
    have x11 : w1.cell? ⟨w.heap.size, 11, none⟩ = some (.int .i64 (c 11)) := cell_of_row _ _ 11 _ _ (0, 0) K.out
    have x12 : w1.cell? ⟨w.heap.size, 12, none⟩ = some (.int .i64 (c 12)) := cell_of_row _ _ 12 _ _ (0, 0) K.out
    have x13 : w1.cell? ⟨w.heap.size, 13, none⟩ = some (.int .i64 (c 13)) := cell_of_row _ _ 13 _ _ (0, 0) K.out
    generalize fw c n = f at Ha HM hmb f0 f1 ⊢
    generalize mr f (c 9) = m at Ha HM hmb
    clear j0 j1
    go_wp2_with fail
    refine (HM _).mono ?_
    rintro e w2 ⟨rfl, b2⟩
    replace B := Lib.hid (bel_trans B.out b2)
    clear b2 HM x0 x1 x2 x3 x4 x5 x6 x7 x8 x9 x10 x11 x12 x13
    go_wp2
    go_ret
    exact ⟨ret_int Ha.out.symm, B.out⟩
  · have Hf : Hid (fw c n = -1) := by
      show fw c n = -1
      unfold fw
      rw [if_neg hk]
    have Ha : Hid (lw c n = -1) := by
      show lw c n = -1
      unfold lw
      rw [if_neg hk]
    clear hk
    rw [Hf.out]
    go_wp2
    go_ret
    exact ⟨ret_int Ha.out.symm, B.out⟩

set_option maxRecDepth 100000 in
set_option maxHeartbeats 2000000 in
theorem implJit_any (c : Nat → Int) (n d : Int) (hn : n ≤ 9223372036854775807) (w : World) :
    Calls Try.prog 17 #[.agg #[.int .i64 (c 0), .int .i64 (c 1), .int .i64 (c 2), .int .i64 (c 3), .int .i64 (c 4), .int .i64 (c 5), .int .i64 (c 6), .int .i64 (c 7), .int .i64 (c 8), .int .i64 (c 9), .int .i64 (c 10), .int .i64 (c 11), .int .i64 (c 12), .int .i64 (c 13)], .int .i64 n, .int .i64 d] w fun e w' => e = .returned (.int .i64 (jw c n d)) ∧ Below w.heap.size w w' := by
  go_enter Try.func17, Try.ntmps17
  go_wp2_with fail
  obtain ⟨W0, hW0⟩ : ∃ W0, w.alloc (.cells #[.int .i64 (c 0), .int .i64 (c 1), .int .i64 (c 2), .int .i64 (c 3), .int .i64 (c 4), .int .i64 (c 5), .int .i64 (c 6), .int .i64 (c 7), .int .i64 (c 8), .int .i64 (c 9), .int .i64 (c 10), .int .i64 (c 11), .int .i64 (c 12), .int .i64 (c 13)] 25) = W0 := ⟨_, rfl⟩
  have B : Hid (Below w.heap.size w W0) := by rw [← hW0]; exact bel_alloc _ _
  have z0 : w.heap.size < W0.heap.size := by rw [← hW0]; simp
  have K : Hid (W0.heap[w.heap.size]? = some (.cells #[.int .i64 (c 0), .int .i64 (c 1), .int .i64 (c 2), .int .i64 (c 3), .int .i64 (c 4), .int .i64 (c 5), .int .i64 (c 6), .int .i64 (c 7), .int .i64 (c 8), .int .i64 (c 9), .int .i64 (c 10), .int .i64 (c 11), .int .i64 (c 12), .int .i64 (c 13)] 25 (0, 0))) := by rw [← hW0]; exact heap_alloc_new w _
  rw [hW0]
  clear hW0
  refine (implFull_any c n hn _).mono ?_
  rintro e w1 ⟨rfl, b1⟩
  replace B := Lib.hid (bel_trans B.out b1)
  replace K := Lib.hid ((b1.block _ z0).trans K.out)
  have z1 : w.heap.size < w1.heap.size := Nat.lt_of_lt_of_le z0 b1.size
  clear b1 z0
  by_cases hk : okC c = true ∧ 0 ≤ n
  · obtain ⟨hok, hn0⟩ := hk
    obtain ⟨f0, f1, _⟩ := fw_bound hok hn0
    have j0 := (okC_base hok).2.2.2.2.2.1
    have j1 := (okC_base hok).2.2.2.2.2.2
    have Ha := Lib.hid (jw_pos (d := d) hok hn0)
    have HM := fun V => maxRed_any c (fw c n) f0 f1 j0 j1 V
    have hmb := mr_bound f0 j0 j1
    clear hok
    have x0 : w1.cell? ⟨w.heap.size, 0, none⟩ = some (.int .i64 (c 0)) := cell_of_row _ _ 0 _ _ (0, 0) K.out
    have x1 : w1.cell? ⟨w.heap.size, 1, none⟩ = some (.int .i64 (c 1)) := cell_of_row _ _ 1 _ _ (0, 0) K.out
    have x2 : w1.cell? ⟨w.heap.size, 2, none⟩ = some (.int .i64 (c 2)) := cell_of_row _ _ 2 _ _ (0, 0) K.out
    have x3 : w1.cell? ⟨w.heap.size, 3, none⟩ = some (.int .i64 (c 3)) := cell_of_row _ _ 3 _ _ (0, 0) K.out
    have x4 : w1.cell? ⟨w.heap.size, 4, none⟩ = some (.int .i64 (c 4)) := cell_of_row _ _ 4 _ _ (0, 0) K.out
    have x5 : w1.cell? ⟨w.heap.size, 5, none⟩ = some (.int .i64 (c 5)) := cell_of_row _ _ 5 _ _ (0, 0) K.out
    have x6 : w1.cell? ⟨w.heap.size, 6, none⟩ = some (.int .i64 (c 6)) := cell_of_row _ _ 6 _ _ (0, 0) K.out
    have x7 : w1.cell? ⟨w.heap.size, 7, none⟩ = some (.int .i64 (c 7)) := cell_of_row _ _ 7 _ _ (0, 0) K.out
    have x8 : w1.cell? ⟨w.heap.size, 8, none⟩ = some (.int .i64 (c 8)) := cell_of_row _ _ 8 _ _ (0, 0) K.out
    have x9 : w1.cell? ⟨w.heap.size, 9, none⟩ = some (.int .i64 (c 9)) := cell_of_row _ _ 9 _ _ (0, 0) K.out
    have x10 : w1.cell? ⟨w.heap.size, 10, none⟩ = some (.int .i64 (c 10)) := cell_of_row _ _ 10 _ _ (0, 0) K.out
    have x11 : w1.cell? ⟨w.heap.size, 11, none⟩ = some (.int .i64 (c 11)) := cell_of_row _ _ 11 _ _ (0, 0) K.out
    have x12 : w1.cell? ⟨w.heap.size, 12, none⟩ = some (.int .i64 (c 12)) := cell_of_row _ _ 12 _ _ (0, 0) K.out
    have x13 : w1.cell? ⟨w.heap.size, 13, none⟩ = some (.int .i64 (c 13)) := cell_of_row _ _ 13 _ _ (0, 0) K.out
    generalize fw c n = f at Ha HM hmb f0 f1 ⊢
    generalize mr f (c 9) = m at Ha HM hmb
    clear j0 j1
    have hs := sh_bound d
    have HS := fun V => share_any d V
    generalize sh d = s at Ha hs HS
    obtain ⟨p, hp⟩ : ∃ p, m * s = p := ⟨_, rfl⟩
    have hpb := mul_bound hmb.1 hs.1 (Int.le_trans hmb.2 f1) hs.2
    rw [hp] at hpb Ha
    have ht : 0 ≤ p.tdiv 1000 ∧ p.tdiv 1000 ≤ 1000000 := by rw [Int.tdiv_eq_ediv_of_nonneg hpb.1]; omega
    obtain ⟨q, hq⟩ : ∃ q, p.tdiv 1000 = q := ⟨_, rfl⟩
    rw [hq] at ht Ha
    go_wp2_with fail
    refine (HM _).mono ?_
    rintro e w2 ⟨rfl, b2⟩
    replace B := Lib.hid (bel_trans B.out b2)
    clear b2 HM x0 x1 x2 x3 x4 x5 x6 x7 x8 x9 x10 x11 x12 x13
    go_wp2_with fail
    refine (HS _).mono ?_
    rintro e w3 ⟨rfl, rfl⟩
    go_wp2
    go_ret
    exact ⟨ret_int Ha.out.symm, B.out⟩
  · have Hf : Hid (fw c n = -1) := by
      show fw c n = -1
      unfold fw
      rw [if_neg hk]
    have Ha : Hid (jw c n d = -1) := by
      show jw c n d = -1
      unfold jw
      rw [if_neg hk]
    clear hk
    rw [Hf.out]
    go_wp2
    go_ret
    exact ⟨ret_int Ha.out.symm, B.out⟩
end Go.Proofs.Ytjfmkcppampokaa.Wt
