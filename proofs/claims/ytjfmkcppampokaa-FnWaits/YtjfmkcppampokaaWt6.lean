/- LeastWait and JitteredWait, the reference's; the laws of both. -/
import Derived.Test.YtjfmkcppampokaaWt5
import Derived.Deep.RegionHeld3
namespace Go.Proofs.Ytjfmkcppampokaa.Wt
open Go.RowKit Base Flt Cf

theorem bkeep {w w' : World} {b o : Nat} {v : Value} (h : w.cell? ⟨b, o, none⟩ = some v) (hb : Below w.heap.size w w') : w'.cell? ⟨b, o, none⟩ = some v :=
  (hb.cell (p := ⟨b, o, none⟩) (World.block_lt_of_cell? _ _ h)).trans h

set_option maxRecDepth 100000 in
set_option maxHeartbeats 2000000 in
theorem most_any (c : Nat → Int) (n : Int) (hok : okC c = true) (hn0 : 0 ≤ n) (w : World) :
    Calls Try.prog 46 #[.agg #[.int .i64 (c 0), .int .i64 (c 1), .int .i64 (c 2), .int .i64 (c 3), .int .i64 (c 4), .int .i64 (c 5), .int .i64 (c 6), .int .i64 (c 7), .int .i64 (c 8), .int .i64 (c 9), .int .i64 (c 10), .int .i64 (c 11), .int .i64 (c 12), .int .i64 (c 13)], .int .i64 n] w fun e w' => e = .returned (.int .i64 (mr (fw c n) (c 9))) ∧ Below w.heap.size w w' := by
  obtain ⟨f0, f1, _⟩ := fw_bound hok hn0
  have j0 := (okC_base hok).2.2.2.2.2.1
  have j1 := (okC_base hok).2.2.2.2.2.2
  have HF := fun V => specFull_any c n V
  clear hok
  have hmb := mr_bound f0 j0 j1
  have hpb := mul_bound f0 j0 f1 j1
  have hm : (fw c n * c 9).tdiv 100 = mr (fw c n) (c 9) := rfl
  generalize fw c n = f at f0 f1 HF hmb hpb hm ⊢
  generalize mr f (c 9) = m at hmb hm ⊢
  obtain ⟨p, hp⟩ : ∃ p, f * c 9 = p := ⟨_, rfl⟩
  rw [hp] at hpb hm
  have Hp := Lib.hid hp
  have Hm := Lib.hid hm
  clear hp hm
  go_enter Try.func46, Try.ntmps46
  go_wp2_with fail
  obtain ⟨W0, hW0⟩ : ∃ W0, w.alloc (.cells #[.int .i64 (c 0), .int .i64 (c 1), .int .i64 (c 2), .int .i64 (c 3), .int .i64 (c 4), .int .i64 (c 5), .int .i64 (c 6), .int .i64 (c 7), .int .i64 (c 8), .int .i64 (c 9), .int .i64 (c 10), .int .i64 (c 11), .int .i64 (c 12), .int .i64 (c 13)] 25) = W0 := ⟨_, rfl⟩
  have B : Hid (Below w.heap.size w W0) := by rw [← hW0]; exact bel_alloc _ _
  have z0 : w.heap.size < W0.heap.size := by rw [← hW0]; simp
  have K : Hid (W0.heap[w.heap.size]? = some (.cells #[.int .i64 (c 0), .int .i64 (c 1), .int .i64 (c 2), .int .i64 (c 3), .int .i64 (c 4), .int .i64 (c 5), .int .i64 (c 6), .int .i64 (c 7), .int .i64 (c 8), .int .i64 (c 9), .int .i64 (c 10), .int .i64 (c 11), .int .i64 (c 12), .int .i64 (c 13)] 25 (0, 0))) := by rw [← hW0]; exact heap_alloc_new w _
  rw [hW0]
  clear hW0
  have x0 : W0.cell? ⟨w.heap.size, 0, none⟩ = some (.int .i64 (c 0)) := cell_of_row _ _ 0 _ _ (0, 0) K.out
  have x1 : W0.cell? ⟨w.heap.size, 1, none⟩ = some (.int .i64 (c 1)) := cell_of_row _ _ 1 _ _ (0, 0) K.out
  have x2 : W0.cell? ⟨w.heap.size, 2, none⟩ = some (.int .i64 (c 2)) := cell_of_row _ _ 2 _ _ (0, 0) K.out
  have x3 : W0.cell? ⟨w.heap.size, 3, none⟩ = some (.int .i64 (c 3)) := cell_of_row _ _ 3 _ _ (0, 0) K.out
  have x4 : W0.cell? ⟨w.heap.size, 4, none⟩ = some (.int .i64 (c 4)) := cell_of_row _ _ 4 _ _ (0, 0) K.out
  have x5 : W0.cell? ⟨w.heap.size, 5, none⟩ = some (.int .i64 (c 5)) := cell_of_row _ _ 5 _ _ (0, 0) K.out
  have x6 : W0.cell? ⟨w.heap.size, 6, none⟩ = some (.int .i64 (c 6)) := cell_of_row _ _ 6 _ _ (0, 0) K.out
  have x7 : W0.cell? ⟨w.heap.size, 7, none⟩ = some (.int .i64 (c 7)) := cell_of_row _ _ 7 _ _ (0, 0) K.out
  have x8 : W0.cell? ⟨w.heap.size, 8, none⟩ = some (.int .i64 (c 8)) := cell_of_row _ _ 8 _ _ (0, 0) K.out
  have x9 : W0.cell? ⟨w.heap.size, 9, none⟩ = some (.int .i64 (c 9)) := cell_of_row _ _ 9 _ _ (0, 0) K.out
  have x10 : W0.cell? ⟨w.heap.size, 10, none⟩ = some (.int .i64 (c 10)) := cell_of_row _ _ 10 _ _ (0, 0) K.out
  have x11 : W0.cell? ⟨w.heap.size, 11, none⟩ = some (.int .i64 (c 11)) := cell_of_row _ _ 11 _ _ (0, 0) K.out
  have x12 : W0.cell? ⟨w.heap.size, 12, none⟩ = some (.int .i64 (c 12)) := cell_of_row _ _ 12 _ _ (0, 0) K.out
  have x13 : W0.cell? ⟨w.heap.size, 13, none⟩ = some (.int .i64 (c 13)) := cell_of_row _ _ 13 _ _ (0, 0) K.out
  go_region_with (go_at_call 16; refine (HF _).mono ?_; rintro e w1 ⟨rfl, b1⟩; have y9 : w1.cell? ⟨w.heap.size, 9, none⟩ = some (.int .i64 (c 9)) := cell_of_row _ _ 9 _ _ (0, 0) ((b1.block _ z0).trans K.out); have B1 := Lib.hid (bel_trans B.out (bel_of_drew b1)); clear b1)
  all_goals
    go_wp2
    go_ret
    exact ⟨ret_int (by rw [Hp.out, IntWalk.i64_in p (by omega), Hm.out, IntWalk.i64_in m (by omega)]), B1.out⟩

set_option maxRecDepth 100000 in
set_option maxHeartbeats 2000000 in
theorem specLeast_any (c : Nat → Int) (n : Int) (w : World) :
    Calls Try.prog 24 #[.agg #[.int .i64 (c 0), .int .i64 (c 1), .int .i64 (c 2), .int .i64 (c 3), .int .i64 (c 4), .int .i64 (c 5), .int .i64 (c 6), .int .i64 (c 7), .int .i64 (c 8), .int .i64 (c 9), .int .i64 (c 10), .int .i64 (c 11), .int .i64 (c 12), .int .i64 (c 13)], .int .i64 n] w fun e w' => e = .returned (.int .i64 (lw c n)) ∧ Below w.heap.size w w' := by
  go_enter Try.func24, Try.ntmps24
  go_wp2_with fail
  obtain ⟨W0, hW0⟩ : ∃ W0, w.alloc (.cells #[.int .i64 (c 0), .int .i64 (c 1), .int .i64 (c 2), .int .i64 (c 3), .int .i64 (c 4), .int .i64 (c 5), .int .i64 (c 6), .int .i64 (c 7), .int .i64 (c 8), .int .i64 (c 9), .int .i64 (c 10), .int .i64 (c 11), .int .i64 (c 12), .int .i64 (c 13)] 25) = W0 := ⟨_, rfl⟩
  have B : Hid (Below w.heap.size w W0) := by rw [← hW0]; exact bel_alloc _ _
  have z0 : w.heap.size < W0.heap.size := by rw [← hW0]; simp
  have K : Hid (W0.heap[w.heap.size]? = some (.cells #[.int .i64 (c 0), .int .i64 (c 1), .int .i64 (c 2), .int .i64 (c 3), .int .i64 (c 4), .int .i64 (c 5), .int .i64 (c 6), .int .i64 (c 7), .int .i64 (c 8), .int .i64 (c 9), .int .i64 (c 10), .int .i64 (c 11), .int .i64 (c 12), .int .i64 (c 13)] 25 (0, 0))) := by rw [← hW0]; exact heap_alloc_new w _
  rw [hW0]
  clear hW0
  refine (specConfigOk_any c _).mono ?_
  rintro e w1 ⟨rfl, b1⟩
  replace B := Lib.hid (bel_trans B.out b1)
  replace K := Lib.hid ((b1.block _ z0).trans K.out)
  have z1 : w.heap.size < w1.heap.size := Nat.lt_of_lt_of_le z0 b1.size
  clear b1 z0
  cases hok : okC c
  · have Ha := Lib.hid (lw_bad (n := n) hok)
    clear hok
    go_wp2
    go_ret
    exact ⟨ret_int Ha.out.symm, B.out⟩
  · by_cases hn0 : n < 0
    · have Ha := Lib.hid (lw_neg (c := c) hn0)
      clear hok
      go_wp2
      go_ret
      exact ⟨ret_int Ha.out.symm, B.out⟩
    · have hn1 : 0 ≤ n := by omega
      obtain ⟨f0, f1, _⟩ := fw_bound hok hn1
      have j0 := (okC_base hok).2.2.2.2.2.1
      have j1 := (okC_base hok).2.2.2.2.2.2
      have Ha := Lib.hid (lw_pos hok hn1)
      have HF := fun V => specFull_any c n V
      have HM := fun V => most_any c n hok hn1 V
      have hmb := mr_bound f0 j0 j1
      clear hok
      have x0 : w1.cell? ⟨w.heap.size, 0, none⟩ = some (.int .i64 (c 0)) := cell_of_row _ _ 0 _ _ (0, 0) K.out
      have x1 : w1.cell? ⟨w.heap.size, 1, none⟩ = some (.int .i64 (c 1)) := cell_of_row _ _ 1 _ _ (0, 0) K.out
      have x2 : w1.cell? ⟨w.heap.size, 2, none⟩ = some (.int .i64 (c 2)) := cell_of_row _ _ 2 _ _ (0, 0) K.out
      have x3 : w1.cell? ⟨w.heap.size, 3, none⟩ = some (.int .i64 (c 3)) := cell_of_row _ _ 3 _ _ (0, 0) K.out
      have x4 : w1.cell? ⟨w.heap.size, 4, none⟩ = some (.int .i64 (c 4)) := cell_of_row _ _ 4 _ _ (0, 0) K.out
      have x5 : w1.cell? ⟨w.heap.size, 5, none⟩ = some (.int .i64 (c 5)) := cell_of_row _ _ 5 _ _ (0, 0) K.out
      have x6 : w1.cell? ⟨w.heap.size, 6, none⟩ = some (.int .i64 (c 6)) := cell_of_row _ _ 6 _ _ (0, 0) K.out
      have x7 : w1.cell? ⟨w.heap.size, 7, none⟩ = some (.int .i64 (c 7)) := cell_of_row _ _ 7 _ _ (0, 0) K.out
      have x8 : w1.cell? ⟨w.heap.size, 8, none⟩ = some (.int .i64 (c 8)) := cell_of_row _ _ 8 _ _ (0, 0) K.out
      have x9 : w1.cell? ⟨w.heap.size, 9, none⟩ = some (.int .i64 (c 9)) := cell_of_row _ _ 9 _ _ (0, 0) K.out
      have x10 : w1.cell? ⟨w.heap.size, 10, none⟩ = some (.int .i64 (c 10)) := cell_of_row _ _ 10 _ _ (0, 0) K.out
      have x11 : w1.cell? ⟨w.heap.size, 11, none⟩ = some (.int .i64 (c 11)) := cell_of_row _ _ 11 _ _ (0, 0) K.out
      have x12 : w1.cell? ⟨w.heap.size, 12, none⟩ = some (.int .i64 (c 12)) := cell_of_row _ _ 12 _ _ (0, 0) K.out
      have x13 : w1.cell? ⟨w.heap.size, 13, none⟩ = some (.int .i64 (c 13)) := cell_of_row _ _ 13 _ _ (0, 0) K.out
      generalize fw c n = f at Ha HF HM hmb f0 f1
      generalize mr f (c 9) = m at Ha HM hmb
      clear j0 j1
      go_wp2_with fail
      go_region_held3 (fun V => V.cell? ⟨w.heap.size, 0, none⟩ = some (.int .i64 (c 0)) ∧ V.cell? ⟨w.heap.size, 1, none⟩ = some (.int .i64 (c 1)) ∧ V.cell? ⟨w.heap.size, 2, none⟩ = some (.int .i64 (c 2)) ∧ V.cell? ⟨w.heap.size, 3, none⟩ = some (.int .i64 (c 3)) ∧ V.cell? ⟨w.heap.size, 4, none⟩ = some (.int .i64 (c 4)) ∧ V.cell? ⟨w.heap.size, 5, none⟩ = some (.int .i64 (c 5)) ∧ V.cell? ⟨w.heap.size, 6, none⟩ = some (.int .i64 (c 6)) ∧ V.cell? ⟨w.heap.size, 7, none⟩ = some (.int .i64 (c 7)) ∧ V.cell? ⟨w.heap.size, 8, none⟩ = some (.int .i64 (c 8)) ∧ V.cell? ⟨w.heap.size, 9, none⟩ = some (.int .i64 (c 9)) ∧ V.cell? ⟨w.heap.size, 10, none⟩ = some (.int .i64 (c 10)) ∧ V.cell? ⟨w.heap.size, 11, none⟩ = some (.int .i64 (c 11)) ∧ V.cell? ⟨w.heap.size, 12, none⟩ = some (.int .i64 (c 12)) ∧ V.cell? ⟨w.heap.size, 13, none⟩ = some (.int .i64 (c 13)))
        (first
          | with_reducible exact ⟨bkeep x0 H2.out, bkeep x1 H2.out, bkeep x2 H2.out, bkeep x3 H2.out, bkeep x4 H2.out, bkeep x5 H2.out, bkeep x6 H2.out, bkeep x7 H2.out, bkeep x8 H2.out, bkeep x9 H2.out, bkeep x10 H2.out, bkeep x11 H2.out, bkeep x12 H2.out, bkeep x13 H2.out⟩
          | with_reducible exact ⟨bkeep x0 H3.out, bkeep x1 H3.out, bkeep x2 H3.out, bkeep x3 H3.out, bkeep x4 H3.out, bkeep x5 H3.out, bkeep x6 H3.out, bkeep x7 H3.out, bkeep x8 H3.out, bkeep x9 H3.out, bkeep x10 H3.out, bkeep x11 H3.out, bkeep x12 H3.out, bkeep x13 H3.out⟩
          | go_keep)
        (first
          | (go_at_call 16; refine (HF _).mono ?_; rintro e w2 ⟨rfl, b2⟩; have H2 := Lib.hid (bel_of_drew b2); clear b2)
          | (go_at_call 46; refine (HM _).mono ?_; rintro e w3 ⟨rfl, b3⟩; have H3 := Lib.hid (bel_trans H2.out b3); clear b3))
      go_wp2
      go_ret
      exact ⟨ret_int (by rw [Ha.out, IntWalk.i64_in (f - m) (by omega)]), bel_trans B.out H3.out⟩

set_option maxRecDepth 100000 in
set_option maxHeartbeats 2000000 in
theorem specJit_any (c : Nat → Int) (n d : Int) (w : World) :
    Calls Try.prog 23 #[.agg #[.int .i64 (c 0), .int .i64 (c 1), .int .i64 (c 2), .int .i64 (c 3), .int .i64 (c 4), .int .i64 (c 5), .int .i64 (c 6), .int .i64 (c 7), .int .i64 (c 8), .int .i64 (c 9), .int .i64 (c 10), .int .i64 (c 11), .int .i64 (c 12), .int .i64 (c 13)], .int .i64 n, .int .i64 d] w fun e w' => e = .returned (.int .i64 (jw c n d)) ∧ Below w.heap.size w w' := by
  go_enter Try.func23, Try.ntmps23
  go_wp2_with fail
  obtain ⟨W0, hW0⟩ : ∃ W0, w.alloc (.cells #[.int .i64 (c 0), .int .i64 (c 1), .int .i64 (c 2), .int .i64 (c 3), .int .i64 (c 4), .int .i64 (c 5), .int .i64 (c 6), .int .i64 (c 7), .int .i64 (c 8), .int .i64 (c 9), .int .i64 (c 10), .int .i64 (c 11), .int .i64 (c 12), .int .i64 (c 13)] 25) = W0 := ⟨_, rfl⟩
  have B : Hid (Below w.heap.size w W0) := by rw [← hW0]; exact bel_alloc _ _
  have z0 : w.heap.size < W0.heap.size := by rw [← hW0]; simp
  have K : Hid (W0.heap[w.heap.size]? = some (.cells #[.int .i64 (c 0), .int .i64 (c 1), .int .i64 (c 2), .int .i64 (c 3), .int .i64 (c 4), .int .i64 (c 5), .int .i64 (c 6), .int .i64 (c 7), .int .i64 (c 8), .int .i64 (c 9), .int .i64 (c 10), .int .i64 (c 11), .int .i64 (c 12), .int .i64 (c 13)] 25 (0, 0))) := by rw [← hW0]; exact heap_alloc_new w _
  rw [hW0]
  clear hW0
  refine (specConfigOk_any c _).mono ?_
  rintro e w1 ⟨rfl, b1⟩
  replace B := Lib.hid (bel_trans B.out b1)
  replace K := Lib.hid ((b1.block _ z0).trans K.out)
  have z1 : w.heap.size < w1.heap.size := Nat.lt_of_lt_of_le z0 b1.size
  clear b1 z0
  cases hok : okC c
  · have Ha := Lib.hid (jw_bad (n := n) (d := d) hok)
    clear hok
    go_wp2
    go_ret
    exact ⟨ret_int Ha.out.symm, B.out⟩
  · by_cases hn0 : n < 0
    · have Ha := Lib.hid (jw_neg (c := c) (d := d) hn0)
      clear hok
      go_wp2
      go_ret
      exact ⟨ret_int Ha.out.symm, B.out⟩
    · have hn1 : 0 ≤ n := by omega
      obtain ⟨f0, f1, _⟩ := fw_bound hok hn1
      have j0 := (okC_base hok).2.2.2.2.2.1
      have j1 := (okC_base hok).2.2.2.2.2.2
      have Ha := Lib.hid (jw_pos (d := d) hok hn1)
      have HF := fun V => specFull_any c n V
      have HM := fun V => most_any c n hok hn1 V
      have hmb := mr_bound f0 j0 j1
      clear hok
      have x0 : w1.cell? ⟨w.heap.size, 0, none⟩ = some (.int .i64 (c 0)) := cell_of_row _ _ 0 _ _ (0, 0) K.out
      have x1 : w1.cell? ⟨w.heap.size, 1, none⟩ = some (.int .i64 (c 1)) := cell_of_row _ _ 1 _ _ (0, 0) K.out
      have x2 : w1.cell? ⟨w.heap.size, 2, none⟩ = some (.int .i64 (c 2)) := cell_of_row _ _ 2 _ _ (0, 0) K.out
      have x3 : w1.cell? ⟨w.heap.size, 3, none⟩ = some (.int .i64 (c 3)) := cell_of_row _ _ 3 _ _ (0, 0) K.out
      have x4 : w1.cell? ⟨w.heap.size, 4, none⟩ = some (.int .i64 (c 4)) := cell_of_row _ _ 4 _ _ (0, 0) K.out
      have x5 : w1.cell? ⟨w.heap.size, 5, none⟩ = some (.int .i64 (c 5)) := cell_of_row _ _ 5 _ _ (0, 0) K.out
      have x6 : w1.cell? ⟨w.heap.size, 6, none⟩ = some (.int .i64 (c 6)) := cell_of_row _ _ 6 _ _ (0, 0) K.out
      have x7 : w1.cell? ⟨w.heap.size, 7, none⟩ = some (.int .i64 (c 7)) := cell_of_row _ _ 7 _ _ (0, 0) K.out
      have x8 : w1.cell? ⟨w.heap.size, 8, none⟩ = some (.int .i64 (c 8)) := cell_of_row _ _ 8 _ _ (0, 0) K.out
      have x9 : w1.cell? ⟨w.heap.size, 9, none⟩ = some (.int .i64 (c 9)) := cell_of_row _ _ 9 _ _ (0, 0) K.out
      have x10 : w1.cell? ⟨w.heap.size, 10, none⟩ = some (.int .i64 (c 10)) := cell_of_row _ _ 10 _ _ (0, 0) K.out
      have x11 : w1.cell? ⟨w.heap.size, 11, none⟩ = some (.int .i64 (c 11)) := cell_of_row _ _ 11 _ _ (0, 0) K.out
      have x12 : w1.cell? ⟨w.heap.size, 12, none⟩ = some (.int .i64 (c 12)) := cell_of_row _ _ 12 _ _ (0, 0) K.out
      have x13 : w1.cell? ⟨w.heap.size, 13, none⟩ = some (.int .i64 (c 13)) := cell_of_row _ _ 13 _ _ (0, 0) K.out
      generalize fw c n = f at Ha HF HM hmb f0 f1
      generalize mr f (c 9) = m at Ha HM hmb
      clear j0 j1
      have hs := sh_bound d
      have hsd : (max d 0).tmod 1001 = sh d := rfl
      generalize sh d = s at Ha hs hsd
      obtain ⟨p, hp⟩ : ∃ p, m * s = p := ⟨_, rfl⟩
      have hpb := mul_bound hmb.1 hs.1 (Int.le_trans hmb.2 f1) hs.2
      rw [hp] at hpb Ha
      have ht : 0 ≤ p.tdiv 1000 ∧ p.tdiv 1000 ≤ 1000000 := by rw [Int.tdiv_eq_ediv_of_nonneg hpb.1]; omega
      obtain ⟨q, hq⟩ : ∃ q, p.tdiv 1000 = q := ⟨_, rfl⟩
      rw [hq] at ht Ha
      by_cases hd : d < 0
      · rw [show max d 0 = 0 by omega] at hsd
        go_wp2_with fail
        go_region_held3 (fun V => V.cell? ⟨w.heap.size, 0, none⟩ = some (.int .i64 (c 0)) ∧ V.cell? ⟨w.heap.size, 1, none⟩ = some (.int .i64 (c 1)) ∧ V.cell? ⟨w.heap.size, 2, none⟩ = some (.int .i64 (c 2)) ∧ V.cell? ⟨w.heap.size, 3, none⟩ = some (.int .i64 (c 3)) ∧ V.cell? ⟨w.heap.size, 4, none⟩ = some (.int .i64 (c 4)) ∧ V.cell? ⟨w.heap.size, 5, none⟩ = some (.int .i64 (c 5)) ∧ V.cell? ⟨w.heap.size, 6, none⟩ = some (.int .i64 (c 6)) ∧ V.cell? ⟨w.heap.size, 7, none⟩ = some (.int .i64 (c 7)) ∧ V.cell? ⟨w.heap.size, 8, none⟩ = some (.int .i64 (c 8)) ∧ V.cell? ⟨w.heap.size, 9, none⟩ = some (.int .i64 (c 9)) ∧ V.cell? ⟨w.heap.size, 10, none⟩ = some (.int .i64 (c 10)) ∧ V.cell? ⟨w.heap.size, 11, none⟩ = some (.int .i64 (c 11)) ∧ V.cell? ⟨w.heap.size, 12, none⟩ = some (.int .i64 (c 12)) ∧ V.cell? ⟨w.heap.size, 13, none⟩ = some (.int .i64 (c 13)))
          (first
            | with_reducible exact ⟨bkeep x0 H2.out, bkeep x1 H2.out, bkeep x2 H2.out, bkeep x3 H2.out, bkeep x4 H2.out, bkeep x5 H2.out, bkeep x6 H2.out, bkeep x7 H2.out, bkeep x8 H2.out, bkeep x9 H2.out, bkeep x10 H2.out, bkeep x11 H2.out, bkeep x12 H2.out, bkeep x13 H2.out⟩
            | with_reducible exact ⟨bkeep x0 H3.out, bkeep x1 H3.out, bkeep x2 H3.out, bkeep x3 H3.out, bkeep x4 H3.out, bkeep x5 H3.out, bkeep x6 H3.out, bkeep x7 H3.out, bkeep x8 H3.out, bkeep x9 H3.out, bkeep x10 H3.out, bkeep x11 H3.out, bkeep x12 H3.out, bkeep x13 H3.out⟩
            | go_keep)
          (first
            | (go_at_call 16; refine (HF _).mono ?_; rintro e w2 ⟨rfl, b2⟩; have H2 := Lib.hid (bel_of_drew b2); clear b2)
            | (go_at_call 46; refine (HM _).mono ?_; rintro e w3 ⟨rfl, b3⟩; have H3 := Lib.hid (bel_trans H2.out b3); clear b3))
        go_wp2
        go_ret
        exact ⟨ret_int (by rw [Ha.out, IntWalk.i64_in p (by omega), hq, IntWalk.i64_in q (by omega), IntWalk.i64_in (f - q) (by omega)]), bel_trans B.out H3.out⟩
      · rw [show max d 0 = d by omega] at hsd
        go_wp2_with fail
        go_region_held3 (fun V => V.cell? ⟨w.heap.size, 0, none⟩ = some (.int .i64 (c 0)) ∧ V.cell? ⟨w.heap.size, 1, none⟩ = some (.int .i64 (c 1)) ∧ V.cell? ⟨w.heap.size, 2, none⟩ = some (.int .i64 (c 2)) ∧ V.cell? ⟨w.heap.size, 3, none⟩ = some (.int .i64 (c 3)) ∧ V.cell? ⟨w.heap.size, 4, none⟩ = some (.int .i64 (c 4)) ∧ V.cell? ⟨w.heap.size, 5, none⟩ = some (.int .i64 (c 5)) ∧ V.cell? ⟨w.heap.size, 6, none⟩ = some (.int .i64 (c 6)) ∧ V.cell? ⟨w.heap.size, 7, none⟩ = some (.int .i64 (c 7)) ∧ V.cell? ⟨w.heap.size, 8, none⟩ = some (.int .i64 (c 8)) ∧ V.cell? ⟨w.heap.size, 9, none⟩ = some (.int .i64 (c 9)) ∧ V.cell? ⟨w.heap.size, 10, none⟩ = some (.int .i64 (c 10)) ∧ V.cell? ⟨w.heap.size, 11, none⟩ = some (.int .i64 (c 11)) ∧ V.cell? ⟨w.heap.size, 12, none⟩ = some (.int .i64 (c 12)) ∧ V.cell? ⟨w.heap.size, 13, none⟩ = some (.int .i64 (c 13)))
          (first
            | with_reducible exact ⟨bkeep x0 H2.out, bkeep x1 H2.out, bkeep x2 H2.out, bkeep x3 H2.out, bkeep x4 H2.out, bkeep x5 H2.out, bkeep x6 H2.out, bkeep x7 H2.out, bkeep x8 H2.out, bkeep x9 H2.out, bkeep x10 H2.out, bkeep x11 H2.out, bkeep x12 H2.out, bkeep x13 H2.out⟩
            | with_reducible exact ⟨bkeep x0 H3.out, bkeep x1 H3.out, bkeep x2 H3.out, bkeep x3 H3.out, bkeep x4 H3.out, bkeep x5 H3.out, bkeep x6 H3.out, bkeep x7 H3.out, bkeep x8 H3.out, bkeep x9 H3.out, bkeep x10 H3.out, bkeep x11 H3.out, bkeep x12 H3.out, bkeep x13 H3.out⟩
            | go_keep)
          (first
            | (go_at_call 16; refine (HF _).mono ?_; rintro e w2 ⟨rfl, b2⟩; have H2 := Lib.hid (bel_of_drew b2); clear b2)
            | (go_at_call 46; refine (HM _).mono ?_; rintro e w3 ⟨rfl, b3⟩; have H3 := Lib.hid (bel_trans H2.out b3); clear b3))
        go_wp2
        go_ret
        exact ⟨ret_int (by rw [Ha.out, IntWalk.i64_in p (by omega), hq, IntWalk.i64_in q (by omega), IntWalk.i64_in (f - q) (by omega)]), bel_trans B.out H3.out⟩
end Go.Proofs.Ytjfmkcppampokaa.Wt
