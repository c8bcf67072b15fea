/- The laws of BreakerOk and MayDial walked. -/
import Derived.Test.YtmmoelijpemlfaaBc4
import Derived.Deep.RegionHeld3
namespace Go.Proofs.Ytmmoelijpemlfaa.Bk
open Go.RowKit Go.Deep Base Rw Tick

/-- At the laws' last comparison: the box of the kept copy and that of the argument. -/
def Pair (x a : Nat) (x0 x1 x2 a0 a1 a2 : Value) (V : World) : Prop := PB V x x0 x1 x2 ∧ LB V a a0 a1 a2

set_option maxRecDepth 100000 in
set_option maxHeartbeats 1000000 in
theorem lawBreakerOk (A : Option Addr) (n cap : Nat) (s u : Int) (zs : List Int) (w : World) (hn : zs.length = n) (hm : n ≤ maxLen) (h : Ints w A zs) :
    Calls Try.prog 4 #[.agg #[.int .i64 s, .slice A n cap, .int .i64 u]] w fun e w' => e = .returned (.bool true) ∧ Below w.heap.size w w' := by
  unfold maxLen at hm
  have Hn := Lib.hid hn
  have HA := Lib.hid h
  clear h hn
  go_enter Try.func4, Try.ntmps4
  go_wp2_with fail
  refine (szBreaker_any A n cap s u 1048576 _ (by omega) (by omega) (by omega)).mono ?_
  rintro e w1 ⟨rfl, b1⟩
  have K1 : Hid (LB w1 w.heap.size (.int .i64 s) (.slice A n cap) (.int .i64 u)) := LB.below (heap_alloc_new w _) b1 (by simp)
  have B1 := Lib.hid (bel_trans (bel_alloc w _) b1)
  have z1 : w.heap.size < w1.heap.size := K1.out.lt
  clear b1
  by_cases hl : (1048576 : Int) < n
  · rw [if_pos hl]
    clear hl
    go_wp2
    go_ret
    exact ⟨rfl, B1.out⟩
  rw [if_neg hl]
  have hl0 : 0 ≤ (1048576 : Int) - n := by omega
  have hl1 : ¬ (1048576 : Int) - n < 0 := by omega
  have hm' : n ≤ 1048576 := by omega
  clear hl
  obtain ⟨a0, a1, a2⟩ := K1.out.cells
  go_wp2_with fail
  refine (toBreaker_any A n cap zs s u w1 Hn.out hm' (HA.out.below B1.out)).mono ?_
  rintro e w2 ⟨A2, c2, rfl, v2, b2⟩
  have s12 := b2.size
  have K2 := Lib.hid (K1.out.below b2 (by omega))
  have B2 := Lib.hid (bel_trans B1.out b2)
  have V2 := Lib.hid v2
  clear b2 v2 a0 a1 a2
  obtain ⟨a0, a1, a2⟩ := K2.out.cells
  rw [Hn.out]
  go_wp2_with fail
  refine (specBreakerOk_any A2 n c2 s u zs w2 Hn.out hm' V2.out.ints).mono ?_
  rintro e w3 ⟨rfl, b3⟩
  have s23 := b3.size
  have K3 := Lib.hid (K2.out.below b3 (by omega))
  have B3 := Lib.hid (bel_trans B2.out b3)
  clear b3 a0 a1 a2
  obtain ⟨ok, hok⟩ : ∃ ok, okB ⟨s, zs, u⟩ = ok := ⟨_, rfl⟩
  rw [hok]
  have Hok := Lib.hid hok
  clear hok
  obtain ⟨a0, a1, a2⟩ := K3.out.cells
  go_wp2_with fail
  refine (toBreaker_any A n cap zs s u w3 Hn.out hm' (HA.out.below B3.out)).mono ?_
  rintro e w4 ⟨A4, c4, rfl, v4, b4⟩
  have s34 := b4.size
  have K4 := Lib.hid (K3.out.below b4 (by omega))
  have B4 := Lib.hid (bel_trans B3.out b4)
  have V4 := Lib.hid v4
  clear b4 v4 a0 a1 a2
  obtain ⟨a0, a1, a2⟩ := K4.out.cells
  rw [Hn.out]
  go_wp2_with fail
  refine (implBreakerOk_any A4 n c4 s u zs _ Hn.out hm' (V4.out.below (bel_alloc w4 _) (Nat.le_refl _)).ints).mono ?_
  rintro e w5 ⟨rfl, b5⟩
  have s45 : w4.heap.size < w5.heap.size := by have := b5.size; simp at this; omega
  have K5 := Lib.hid ((K4.out.below (bel_alloc w4 _) (by omega)).below b5 (by simp; omega))
  have X5 : Hid (PB w5 w4.heap.size (.int .i64 s) (.slice A4 n c4) (.int .i64 u)) := PB.below (heap_alloc_new w4 _) b5 (by simp)
  have B5 := Lib.hid (bel_trans (bel_trans B4.out (bel_alloc w4 _)) b5)
  have V5 := Lib.hid ((V4.out.below (bel_alloc w4 _) (Nat.le_refl _)).below b5 (by simp))
  clear b5 a0 a1 a2 V4 V2
  rw [Hok.out]
  go_wp2_with fail
  have HT : Hid (Pair w4.heap.size w.heap.size (.int .i64 s) (.slice A4 n c4) (.int .i64 u) (.int .i64 s) (.slice A n cap) (.int .i64 u) w5.drew) := ⟨X5.out, K5.out⟩
  refine wp_region_held_drew (S := Pair w4.heap.size w.heap.size (.int .i64 s) (.slice A4 n c4) (.int .i64 u) (.int .i64 s) (.slice A n cap) (.int .i64 u)) (by kernel_rfl) HT.out (fun _ => ?_)
  refine wpAnyH_take (i := 0) (v := .agg #[.int .i64 s, .slice A4 n c4, .int .i64 u]) rfl (by kernel_rfl) (by kernel_rfl) (by kernel_rfl) (fun _ _ _ h => h) (.inl ⟨rfl, fun V hS => ?y0⟩) HT.out ?_
  case y0 =>
    obtain ⟨s0, s1, s2, s5⟩ := hS.1.cells
    clear hS s5
    go_simp
  go_simp
  refine wpAnyH_take (i := 1) (v := .agg #[.int .i64 s, .slice A n cap, .int .i64 u]) rfl (by kernel_rfl) (by kernel_rfl) (by kernel_rfl) (fun _ _ _ h => h) (.inl ⟨rfl, fun V hS => ?y1⟩) HT.out ?_
  case y1 =>
    obtain ⟨s0, s1, s2⟩ := hS.2.cells
    clear hS
    go_simp
  go_simp
  refine wpAnyH_ready (rs := [2]) (by kernel_rfl) (by simp) (AllReadyH.cons rfl (fun K hK => ?_) AllReadyH.nil)
  go_simp
  refine (toBreaker_any A n cap zs s u w5.drew Hn.out hm' (HA.out.below B5.out.drew)).mono ?_
  rintro e w6 ⟨A6, c6, rfl, v6, b6⟩
  have s56 := b6.size
  have V6 := Lib.hid v6
  have V5' := Lib.hid (IV.below (w := w5.drew) V5.out b6 (show w4.heap.size ≤ w5.heap.size by omega))
  have B6 := Lib.hid (bel_trans B5.out (bel_of_drew b6))
  have HT6 : Hid (Pair w4.heap.size w.heap.size (.int .i64 s) (.slice A4 n c4) (.int .i64 u) (.int .i64 s) (.slice A n cap) (.int .i64 u) w6) := ⟨HT.out.1.below b6 HT.out.1.lt, HT.out.2.below b6 HT.out.2.lt⟩
  clear b6 v6 s56
  rw [Hn.out]
  refine hK.out _ _ HT6.out (fun _ => ?_)
  go_simp
  refine wpAnyH_ready (rs := [3]) (by kernel_rfl) (by simp) (AllReadyH.cons rfl (fun K hK => ?_) AllReadyH.nil)
  go_simp
  refine (eqBreaker_same A4 A6 n c4 c6 zs s u w6 Hn.out hm' V5'.out.ints V6.out.ints).mono ?_
  rintro e w7 ⟨rfl, b7⟩
  have B7 := Lib.hid (bel_trans B6.out b7)
  have HT7 : Hid (Pair w4.heap.size w.heap.size (.int .i64 s) (.slice A4 n c4) (.int .i64 u) (.int .i64 s) (.slice A n cap) (.int .i64 u) w7) := ⟨HT6.out.1.below b7 HT6.out.1.lt, HT6.out.2.below b7 HT6.out.2.lt⟩
  clear b7
  refine hK.out _ _ HT7.out (fun _ => ?_)
  go_simp
  refine wpAnyH_ready (rs := [4]) (by kernel_rfl) (by simp) (AllReadyH.cons rfl (fun K hK => ?_) AllReadyH.nil)
  go_simp
  refine hK.out _ _ HT7.out (fun _ => ?_)
  refine wpAnyH_done (by kernel_rfl) ?_ _
  go_wp2
  go_ret
  exact ⟨rfl, B7.out⟩

set_option maxRecDepth 100000 in
set_option maxHeartbeats 1000000 in
theorem lawMayDial (A : Option Addr) (n cap : Nat) (s u now : Int) (zs : List Int) (w : World) (hn : zs.length = n) (hm : n ≤ maxLen) (h : Ints w A zs) :
    Calls Try.prog 5 #[.agg #[.int .i64 s, .slice A n cap, .int .i64 u], .int .i64 now] w fun e w' => e = .returned (.bool true) ∧ Below w.heap.size w w' := by
  unfold maxLen at hm
  have Hn := Lib.hid hn
  have HA := Lib.hid h
  clear h hn
  go_enter Try.func5, Try.ntmps5
  go_wp2_with fail
  refine (szBreaker_any A n cap s u 1048576 _ (by omega) (by omega) (by omega)).mono ?_
  rintro e w1 ⟨rfl, b1⟩
  have K1 : Hid (LB w1 w.heap.size (.int .i64 s) (.slice A n cap) (.int .i64 u)) := LB.below (heap_alloc_new w _) b1 (by simp)
  have B1 := Lib.hid (bel_trans (bel_alloc w _) b1)
  have z1 : w.heap.size < w1.heap.size := K1.out.lt
  clear b1
  by_cases hl : (1048576 : Int) < n
  · rw [if_pos hl]
    clear hl
    go_wp2
    go_ret
    exact ⟨rfl, B1.out⟩
  rw [if_neg hl]
  have hl0 : 0 ≤ (1048576 : Int) - n := by omega
  have hl1 : ¬ (1048576 : Int) - n < 0 := by omega
  have hm' : n ≤ 1048576 := by omega
  clear hl
  obtain ⟨a0, a1, a2⟩ := K1.out.cells
  go_wp2_with fail
  refine (toBreaker_any A n cap zs s u w1 Hn.out hm' (HA.out.below B1.out)).mono ?_
  rintro e w2 ⟨A2, c2, rfl, v2, b2⟩
  have s12 := b2.size
  have K2 := Lib.hid (K1.out.below b2 (by omega))
  have B2 := Lib.hid (bel_trans B1.out b2)
  have V2 := Lib.hid v2
  clear b2 v2 a0 a1 a2
  obtain ⟨a0, a1, a2⟩ := K2.out.cells
  rw [Hn.out]
  go_wp2_with fail
  refine (specMayDial_any A2 n c2 s u now zs w2 Hn.out hm' V2.out.ints).mono ?_
  rintro e w3 ⟨rfl, b3⟩
  have s23 := b3.size
  have K3 := Lib.hid (K2.out.below b3 (by omega))
  have B3 := Lib.hid (bel_trans B2.out b3)
  clear b3 a0 a1 a2
  obtain ⟨ok, hok⟩ : ∃ ok, mayD ⟨s, zs, u⟩ now = ok := ⟨_, rfl⟩
  rw [hok]
  have Hok := Lib.hid hok
  clear hok
  obtain ⟨a0, a1, a2⟩ := K3.out.cells
  go_wp2_with fail
  refine (toBreaker_any A n cap zs s u w3 Hn.out hm' (HA.out.below B3.out)).mono ?_
  rintro e w4 ⟨A4, c4, rfl, v4, b4⟩
  have s34 := b4.size
  have K4 := Lib.hid (K3.out.below b4 (by omega))
  have B4 := Lib.hid (bel_trans B3.out b4)
  have V4 := Lib.hid v4
  clear b4 v4 a0 a1 a2
  obtain ⟨a0, a1, a2⟩ := K4.out.cells
  rw [Hn.out]
  go_wp2_with fail
  refine (implMayDial_any A4 n c4 s u now zs _ Hn.out hm' (V4.out.below (bel_alloc w4 _) (Nat.le_refl _)).ints).mono ?_
  rintro e w5 ⟨rfl, b5⟩
  have s45 : w4.heap.size < w5.heap.size := by have := b5.size; simp at this; omega
  have K5 := Lib.hid ((K4.out.below (bel_alloc w4 _) (by omega)).below b5 (by simp; omega))
  have X5 : Hid (PB w5 w4.heap.size (.int .i64 s) (.slice A4 n c4) (.int .i64 u)) := PB.below (heap_alloc_new w4 _) b5 (by simp)
  have B5 := Lib.hid (bel_trans (bel_trans B4.out (bel_alloc w4 _)) b5)
  have V5 := Lib.hid ((V4.out.below (bel_alloc w4 _) (Nat.le_refl _)).below b5 (by simp))
  clear b5 a0 a1 a2 V4 V2
  rw [Hok.out]
  go_wp2_with fail
  have HT : Hid (Pair w4.heap.size w.heap.size (.int .i64 s) (.slice A4 n c4) (.int .i64 u) (.int .i64 s) (.slice A n cap) (.int .i64 u) w5.drew) := ⟨X5.out, K5.out⟩
  refine wp_region_held_drew (S := Pair w4.heap.size w.heap.size (.int .i64 s) (.slice A4 n c4) (.int .i64 u) (.int .i64 s) (.slice A n cap) (.int .i64 u)) (by kernel_rfl) HT.out (fun _ => ?_)
  refine wpAnyH_take (i := 0) (v := .agg #[.int .i64 s, .slice A4 n c4, .int .i64 u]) rfl (by kernel_rfl) (by kernel_rfl) (by kernel_rfl) (fun _ _ _ h => h) (.inl ⟨rfl, fun V hS => ?y0⟩) HT.out ?_
  case y0 =>
    obtain ⟨s0, s1, s2, s5⟩ := hS.1.cells
    clear hS s5
    go_simp
  go_simp
  refine wpAnyH_take (i := 1) (v := .agg #[.int .i64 s, .slice A n cap, .int .i64 u]) rfl (by kernel_rfl) (by kernel_rfl) (by kernel_rfl) (fun _ _ _ h => h) (.inl ⟨rfl, fun V hS => ?y1⟩) HT.out ?_
  case y1 =>
    obtain ⟨s0, s1, s2⟩ := hS.2.cells
    clear hS
    go_simp
  go_simp
  refine wpAnyH_ready (rs := [2]) (by kernel_rfl) (by simp) (AllReadyH.cons rfl (fun K hK => ?_) AllReadyH.nil)
  go_simp
  refine (toBreaker_any A n cap zs s u w5.drew Hn.out hm' (HA.out.below B5.out.drew)).mono ?_
  rintro e w6 ⟨A6, c6, rfl, v6, b6⟩
  have s56 := b6.size
  have V6 := Lib.hid v6
  have V5' := Lib.hid (IV.below (w := w5.drew) V5.out b6 (show w4.heap.size ≤ w5.heap.size by omega))
  have B6 := Lib.hid (bel_trans B5.out (bel_of_drew b6))
  have HT6 : Hid (Pair w4.heap.size w.heap.size (.int .i64 s) (.slice A4 n c4) (.int .i64 u) (.int .i64 s) (.slice A n cap) (.int .i64 u) w6) := ⟨HT.out.1.below b6 HT.out.1.lt, HT.out.2.below b6 HT.out.2.lt⟩
  clear b6 v6 s56
  rw [Hn.out]
  refine hK.out _ _ HT6.out (fun _ => ?_)
  go_simp
  refine wpAnyH_ready (rs := [3]) (by kernel_rfl) (by simp) (AllReadyH.cons rfl (fun K hK => ?_) AllReadyH.nil)
  go_simp
  refine (eqBreaker_same A4 A6 n c4 c6 zs s u w6 Hn.out hm' V5'.out.ints V6.out.ints).mono ?_
  rintro e w7 ⟨rfl, b7⟩
  have B7 := Lib.hid (bel_trans B6.out b7)
  have HT7 : Hid (Pair w4.heap.size w.heap.size (.int .i64 s) (.slice A4 n c4) (.int .i64 u) (.int .i64 s) (.slice A n cap) (.int .i64 u) w7) := ⟨HT6.out.1.below b7 HT6.out.1.lt, HT6.out.2.below b7 HT6.out.2.lt⟩
  clear b7
  refine hK.out _ _ HT7.out (fun _ => ?_)
  go_simp
  refine wpAnyH_ready (rs := [4]) (by kernel_rfl) (by simp) (AllReadyH.cons rfl (fun K hK => ?_) AllReadyH.nil)
  go_simp
  refine hK.out _ _ HT7.out (fun _ => ?_)
  refine wpAnyH_done (by kernel_rfl) ?_ _
  go_wp2
  go_ret
  exact ⟨rfl, B7.out⟩
end Go.Proofs.Ytmmoelijpemlfaa.Bk
