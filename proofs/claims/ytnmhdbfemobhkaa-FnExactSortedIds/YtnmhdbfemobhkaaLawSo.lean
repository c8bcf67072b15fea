/- The law of SortedIds walked. -/
import Derived.Test.YtnmhdbfemobhkaaSo1
import Derived.Test.YtnmhdbfemobhkaaHpM
namespace Go.Proofs.Ytnmhdbfemobhkaa.Hp
open Go.RowKit Go.Deep Base

set_option maxRecDepth 100000 in
set_option maxHeartbeats 2000000 in
theorem lawSortedIds (A : Option Addr) (n cap : Nat) (ds : List Du) (q : Int) (w : World) (hn : ds.length = n) (hm : n ≤ 9223372036854775807) (h : LD w A ds) :
    Calls Try.prog 10 #[.agg #[.slice A n cap, .int .i64 q]] w fun e w' => e = .returned (.bool true) ∧ Below w.heap.size w w' := by
  have Hn := Lib.hid hn
  have HA := Lib.hid h
  clear h hn
  obtain ⟨zs, hzs⟩ : ∃ zs, srtL ds q = zs := ⟨_, rfl⟩
  have hfew : zs.length ≤ 100 := by rw [← hzs]; exact srtL_few _ _
  have Hzs := Lib.hid hzs
  clear hzs
  go_enter Try.func10, Try.ntmps10
  go_wp2_with fail
  refine (szHeap_any A n cap q 1048576 _ hm (by omega) (by omega)).mono ?_
  rintro e w1 ⟨rfl, b1⟩
  have K : Hid (LBk w1 w.heap.size _ _) := LBk.below (heap_alloc_new w _) b1
  have B := Lib.hid (bel_trans (bel_alloc w _) b1)
  have z1 : w.heap.size < w1.heap.size := K.out.lt
  clear b1
  by_cases hl : (1048576 : Int) < n
  · rw [if_pos hl]
    clear hl
    go_wp2
    go_ret
    exact ⟨rfl, B.out⟩
  rw [if_neg hl]
  have hl0 : 0 ≤ (1048576 : Int) - n := by omega
  have hl1 : ¬ (1048576 : Int) - n < 0 := by omega
  have hm' : n ≤ 1048576 := by omega
  clear hl
  obtain ⟨a0, a1⟩ := K.out.cells
  go_wp2_with fail
  refine (toHeap_any A n cap ds q w1 Hn.out hm' (HA.out.below B.out)).mono ?_
  rintro e w2 ⟨A2, c2, rfl, v2, b2⟩
  have s12 := b2.size
  replace K := Lib.hid (K.out.below b2)
  replace B := Lib.hid (bel_trans B.out b2)
  have V2 := Lib.hid v2
  clear b2 v2 a0 a1
  go_wp2_with fail
  refine (specSorted_any A2 n c2 _ _ ds q w2 Hn.out hm' V2.out (Nat.le_refl _)).mono ?_
  intro e w3 hend
  rw [Hzs.out] at hend
  obtain ⟨A3, c3, rfl, v3, b3⟩ := hend
  have s23 := b3.size
  replace K := Lib.hid (K.out.below b3)
  replace B := Lib.hid (bel_trans B.out b3)
  have VW := Lib.hid v3
  clear b3 v3 V2
  obtain ⟨a0, a1⟩ := K.out.cells
  go_wp2_with fail
  refine (toHeap_any A n cap ds q _ Hn.out hm' (HA.out.below B.out)).mono ?_
  rintro e w4 ⟨A4, c4, rfl, v4, b4⟩
  have s34 : w3.heap.size ≤ w4.heap.size := b4.size
  have b4' := bel_trans b4 (bel_alloc w4 (.cells #[.slice A4 n c4, .int .i64 q] 28))
  replace K := Lib.hid (K.out.below b4')
  have KX : Hid (Blk2 (w4.alloc _) w4.heap.size (.slice A4 n c4) (.int .i64 q)) := heap_alloc_new w4 _
  replace B := Lib.hid (bel_trans B.out b4')
  replace VW := Lib.hid (VW.out.below b4' (by omega))
  have VX := Lib.hid (v4.below (bel_alloc w4 (.cells #[.slice A4 n c4, .int .i64 q] 28)) (Nat.le_refl _))
  clear b4 b4' v4 a0 a1
  go_wp2_with fail
  refine (implSorted_any A4 n c4 _ _ ds q _ Hn.out hm' VX.out (by rw [World.size_alloc]; omega)).mono ?_
  intro e w5 hend
  rw [Hzs.out] at hend
  obtain ⟨A5, c5, rfl, v5, b5⟩ := hend
  have s45 : w4.heap.size < w5.heap.size := by have := b5.size; rw [World.size_alloc] at this; omega
  replace K := Lib.hid (K.out.below b5)
  replace KX := Lib.hid (KX.out.below b5)
  replace B := Lib.hid (bel_trans B.out b5)
  replace VW := Lib.hid (VW.out.below b5 (by rw [World.size_alloc]; omega))
  replace VX := Lib.hid (VX.out.below b5 (by rw [World.size_alloc]; omega))
  have VG := Lib.hid v5
  rw [World.size_alloc] at VG
  clear b5 v5
  go_wp2_with fail
  refine (eqInts_same A5 A3 _ c5 c3 zs _ rfl (by omega) VG.out.ints VW.out.ints).mono ?_
  rintro e w6 ⟨rfl, b6⟩
  have s56 : w5.heap.size ≤ w6.heap.size := b6.size
  replace K := Lib.hid (K.out.below b6)
  replace KX := Lib.hid (KX.out.below b6)
  replace B := Lib.hid (bel_trans B.out b6)
  replace VW := Lib.hid (VW.out.below b6 (by omega))
  replace VX := Lib.hid (VX.out.below b6 (by omega))
  replace VG := Lib.hid (VG.out.below b6 (by omega))
  clear b6
  go_wp2_with fail
  have HT : Hid (Pair w4.heap.size w.heap.size (.slice A4 n c4) (.int .i64 q) (.slice A n cap) (.int .i64 q) w6.drew) := ⟨KX.out, K.out⟩
  refine wp_region_held_drew (S := Pair w4.heap.size w.heap.size (.slice A4 n c4) (.int .i64 q) (.slice A n cap) (.int .i64 q)) (by kernel_rfl) HT.out (fun _ => ?_)
  refine wpAnyH_take (i := 0) (v := .agg #[.slice A4 n c4, .int .i64 q]) rfl (by kernel_rfl) (by kernel_rfl) (by kernel_rfl) (fun _ _ _ h => h) (.inl ⟨rfl, fun V hS => ?y0⟩) HT.out ?_
  case y0 =>
    obtain ⟨s0, s1, s5⟩ := hS.1.cells
    clear hS s5
    go_simp
  go_simp
  refine wpAnyH_take (i := 1) (v := .agg #[.slice A n cap, .int .i64 q]) rfl (by kernel_rfl) (by kernel_rfl) (by kernel_rfl) (fun _ _ _ h => h) (.inl ⟨rfl, fun V hS => ?y1⟩) HT.out ?_
  case y1 =>
    obtain ⟨s0, s1⟩ := hS.2.cells
    clear hS
    go_simp
  go_simp
  refine wpAnyH_ready (rs := [2]) (by kernel_rfl) (by simp) (AllReadyH.cons rfl (fun J hJ => ?_) AllReadyH.nil)
  go_simp
  refine (toHeap_any A n cap ds q w6.drew Hn.out hm' (HA.out.below B.out.drew)).mono ?_
  rintro e w7 ⟨A7, c7, rfl, v7, b7⟩
  have V7 := Lib.hid v7
  have b67 := bel_of_drew b7
  have HT7 : Hid (Pair w4.heap.size w.heap.size (.slice A4 n c4) (.int .i64 q) (.slice A n cap) (.int .i64 q) w7) := ⟨HT.out.1.below b7, HT.out.2.below b7⟩
  have s67 : w6.heap.size ≤ w7.heap.size := b67.size
  replace K := Lib.hid (K.out.below b67)
  replace KX := Lib.hid (KX.out.below b67)
  replace B := Lib.hid (bel_trans B.out b67)
  replace VW := Lib.hid (VW.out.below b67 (by omega))
  replace VX := Lib.hid (VX.out.below b67 (by omega))
  replace VG := Lib.hid (VG.out.below b67 (by omega))
  clear b7 b67 v7
  refine hJ.out _ _ HT7.out (fun _ => ?_)
  go_simp
  refine wpAnyH_ready (rs := [3]) (by kernel_rfl) (by simp) (AllReadyH.cons rfl (fun J hJ => ?_) AllReadyH.nil)
  go_simp
  refine (eqHeap_same A4 A7 n c4 c7 _ _ _ _ ds q w7 Hn.out hm' VX.out V7.out (by omega) (Nat.le_refl _)).mono ?_
  rintro e w8 ⟨rfl, b8⟩
  have HT8 : Hid (Pair w4.heap.size w.heap.size (.slice A4 n c4) (.int .i64 q) (.slice A n cap) (.int .i64 q) w8) := ⟨HT7.out.1.below b8, HT7.out.2.below b8⟩
  have s78 : w7.heap.size ≤ w8.heap.size := b8.size
  replace K := Lib.hid (K.out.below b8)
  replace KX := Lib.hid (KX.out.below b8)
  replace B := Lib.hid (bel_trans B.out b8)
  replace VW := Lib.hid (VW.out.below b8 (by omega))
  replace VX := Lib.hid (VX.out.below b8 (by omega))
  replace VG := Lib.hid (VG.out.below b8 (by omega))
  clear b8 HT HT7 V7
  refine hJ.out _ _ HT8.out (fun _ => ?_)
  go_simp
  refine wpAnyH_ready (rs := [4]) (by kernel_rfl) (by simp) (AllReadyH.cons rfl (fun J hJ => ?_) AllReadyH.nil)
  go_simp
  refine hJ.out _ _ HT8.out (fun _ => ?_)
  refine wpAnyH_done (by kernel_rfl) ?_ _
  clear HT8
  obtain ⟨d0, d1, df⟩ := KX.out.cells
  go_wp2_with fail
  refine (markHeap_any A4 n c4 _ _ 1 _ ds w8 Hn.out (by omega) (by omega) (by omega) VX.out (by omega)).mono ?_
  rintro e w9 ⟨rfl, v9, t9⟩
  have s89 : w8.heap.size ≤ w9.heap.size := t9.size
  replace K := Lib.hid (K.out.of_block (t9.block _ (by omega) (by omega)))
  replace B := Lib.hid (B.out.trans (t9.toTurns.below (by omega) (by omega)))
  replace VW := Lib.hid (VW.out.turns t9 (by omega) (by omega))
  replace VG := Lib.hid (VG.out.turns t9 (by omega) (by omega))
  clear v9 t9 VX KX d0 d1 df
  have hk : ¬ 1 + 3 * (n : Int) < 0 := by omega
  go_wp2_with fail
  refine (eqInts_same A5 A3 _ c5 c3 zs _ rfl (by omega) VG.out.ints VW.out.ints).mono ?_
  rintro e w10 ⟨rfl, b10⟩
  have s910 : w9.heap.size ≤ w10.heap.size := b10.size
  replace K := Lib.hid (K.out.below b10)
  replace B := Lib.hid (bel_trans B.out b10)
  replace VW := Lib.hid (VW.out.below b10 (by omega))
  replace VG := Lib.hid (VG.out.below b10 (by omega))
  clear b10
  go_wp2_with fail
  refine (markInts_any A5 _ c5 _ _ 1 zs w10 rfl (by omega) (by omega) (by omega) VG.out).mono ?_
  rintro e w11 ⟨rfl, v11, t11⟩
  have s1011 : w10.heap.size ≤ w11.heap.size := t11.size
  replace K := Lib.hid (K.out.of_block (t11.block _ (by omega) (by omega)))
  replace B := Lib.hid (B.out.trans (t11.toTurns.below (by omega) (by omega)))
  replace VW := Lib.hid (VW.out.turns t11 (by omega) (by omega))
  replace VG := Lib.hid v11
  clear v11 t11
  go_wp2_with fail
  refine (heldInts_any A5 _ c5 _ _ 1 w11 (by omega) (by omega) (by omega) VG.out).mono ?_
  rintro e w' ⟨rfl, rfl⟩
  obtain ⟨a0, a1⟩ := K.out.cells
  have hk2 : ¬ 1 + (zs.length : Int) < 0 := by omega
  go_wp2_with fail
  refine (toHeap_any A n cap ds q w11 Hn.out hm' (HA.out.below B.out)).mono ?_
  rintro e w13 ⟨A13, c13, rfl, v13, b13⟩
  have s1213 : w11.heap.size ≤ w13.heap.size := b13.size
  replace B := Lib.hid (bel_trans B.out b13)
  replace VW := Lib.hid (VW.out.below b13 (by omega))
  replace VG := Lib.hid (VG.out.below b13 (by omega))
  have V13 := Lib.hid v13
  clear b13 v13 K a0 a1
  go_wp2_with fail
  refine (implSorted_any A13 n c13 _ _ ds q _ Hn.out hm' V13.out (Nat.le_refl _)).mono ?_
  intro e w14 hend
  rw [Hzs.out] at hend
  obtain ⟨A14, c14, rfl, v14, b14⟩ := hend
  have s1314 : w13.heap.size ≤ w14.heap.size := b14.size
  replace B := Lib.hid (bel_trans B.out b14)
  replace VW := Lib.hid (VW.out.below b14 (by omega))
  replace VG := Lib.hid (VG.out.below b14 (by omega))
  have V14 := Lib.hid v14
  clear b14 v14 V13
  go_wp2_with fail
  refine (eqInts_same A14 A3 _ c14 c3 zs _ rfl (by omega) V14.out.ints VW.out.ints).mono ?_
  rintro e w15 ⟨rfl, b15⟩
  have s1415 : w14.heap.size ≤ w15.heap.size := b15.size
  replace B := Lib.hid (bel_trans B.out b15)
  replace VG := Lib.hid (VG.out.below b15 (by omega))
  clear b15 V14 VW
  go_wp2_with fail
  refine (heldInts_any A5 _ c5 _ _ 1 w15 (by omega) (by omega) (by omega) VG.out).mono ?_
  rintro e w' ⟨rfl, rfl⟩
  go_wp2
  go_ret
  exact ⟨rfl, B.out⟩
end Go.Proofs.Ytnmhdbfemobhkaa.Hp
