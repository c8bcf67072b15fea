/- The law of PopDue walked. -/
import Derived.Test.YtnmhdbfemobhkaaPp3
import Derived.Test.YtnmhdbfemobhkaaHpM
namespace Go.Proofs.Ytnmhdbfemobhkaa.Hp
open Go.RowKit Go.Deep Base

set_option maxRecDepth 100000 in
set_option maxHeartbeats 2000000 in
theorem lawPopDue (A : Option Addr) (n cap : Nat) (ds : List Du) (q : Int) (now : Int) (w : World) (hn : ds.length = n) (hm : n ≤ 9223372036854775807) (h : LD w A ds) :
    Calls Try.prog 8 #[.agg #[.slice A n cap, .int .i64 q], .int .i64 now] w fun e w' => e = .returned (.bool true) ∧ Below w.heap.size w w' := by
  have HF : Hid (n ≤ 1048576 → (popD ds q now).length ≤ 1048576) := fun hm' => by
    have : (popD ds q now).length ≤ ds.length := by
      unfold popD
      split
      · exact popR_len _ _ _
      · exact Nat.le_refl _
    omega
  have HFI : Hid (n ≤ 1048576 → (popL ds q now).length ≤ 1048576) := fun hm' => by
    have h1 : (popL ds q now).length ≤ ds.length := by
      unfold popL
      split
      · exact popI_len _ _ _
      · simp
    omega
  have HS : Hid (∀ B2 c2 lo hi W, n ≤ 1048576 → DV W lo hi B2 ds → hi ≤ W.heap.size → Calls Try.prog 35 #[.agg #[.slice B2 n c2, .int .i64 q], .int .i64 now] W (HeapIntsR W (popD ds q now) q (popL ds q now))) := fun B2 c2 lo hi W hm' hd hs => specPop_any B2 n c2 lo hi ds q now W hn hm' hd hs
  have HG : Hid (∀ B2 c2 lo hi W, n ≤ 1048576 → DV W lo hi B2 ds → hi ≤ W.heap.size → Calls Try.prog 21 #[.agg #[.slice B2 n c2, .int .i64 q], .int .i64 now] W (HeapInts W (popD ds q now) q (popL ds q now))) := fun B2 c2 lo hi W hm' hd hs => implPop_any B2 n c2 lo hi ds q now W hn hm' hd hs
  generalize (popD ds q now) = ds' at HF HS HG
  generalize (popL ds q now) = ids at HFI HS HG
  obtain ⟨q', HS, HG⟩ : ∃ q', Hid (∀ B2 c2 lo hi W, n ≤ 1048576 → DV W lo hi B2 ds → hi ≤ W.heap.size → Calls Try.prog 35 #[.agg #[.slice B2 n c2, .int .i64 q], .int .i64 now] W (HeapIntsR W ds' q' ids)) ∧ Hid (∀ B2 c2 lo hi W, n ≤ 1048576 → DV W lo hi B2 ds → hi ≤ W.heap.size → Calls Try.prog 21 #[.agg #[.slice B2 n c2, .int .i64 q], .int .i64 now] W (HeapInts W ds' q' ids)) := ⟨q, HS, HG⟩
  obtain ⟨k', hk'⟩ : ∃ k', ids.length = k' := ⟨_, rfl⟩
  rw [hk'] at HFI
  have Hk' := Lib.hid hk'
  clear hk'
  obtain ⟨n', hn'⟩ : ∃ n', ds'.length = n' := ⟨_, rfl⟩
  rw [hn'] at HF
  have Hn := Lib.hid hn
  have Hn' := Lib.hid hn'
  have HA := Lib.hid h
  clear h hn hn'
  go_enter Try.func8, Try.ntmps8
  go_wp2_with fail
  refine (szHeap_any A n cap q 1048576 _ hm (by omega) (by omega)).mono ?_
  rintro e w1 ⟨rfl, b1⟩
  have K : Hid (LBk w1 w.heap.size _ _) := LBk.below (heap_alloc_new w _) b1
  have B := Lib.hid (bel_trans (bel_alloc w _) b1)
  have z1 : w.heap.size < w1.heap.size := K.out.lt
  clear b1
  by_cases hl : (1048576 : Int) < n
  · rw [if_pos hl]
    clear hl
    go_wp2
    go_ret
    exact ⟨rfl, B.out⟩
  rw [if_neg hl]
  have hl0 : 0 ≤ (1048576 : Int) - n := by omega
  have hl1 : ¬ (1048576 : Int) - n < 0 := by omega
  have hm' : n ≤ 1048576 := by omega
  have hm2 : n' ≤ 1048576 := HF.out hm'
  have hm3 : k' ≤ 1048576 := HFI.out hm'
  clear hl
  obtain ⟨a0, a1⟩ := K.out.cells
  go_wp2_with fail
  refine (toHeap_any A n cap ds q w1 Hn.out hm' (HA.out.below B.out)).mono ?_
  rintro e w2 ⟨A2, c2, rfl, v2, b2⟩
  have s12 := b2.size
  replace K := Lib.hid (K.out.below b2)
  replace B := Lib.hid (bel_trans B.out b2)
  have V2 := Lib.hid v2
  clear b2 v2 a0 a1
  go_wp2_with fail
  refine (HS.out A2 c2 _ _ w2 hm' V2.out (Nat.le_refl _)).mono ?_
  rintro e w3 ⟨A3, c3, I3, j3, rfl, v3, i3, b3⟩
  rw [Hn'.out, Hk'.out]
  clear V2
  have s23 := b3.size
  replace K := Lib.hid ((K.out.below b3).alloc (.cells #[.slice A3 n' c3, .int .i64 q'] 28))
  have KW : Hid (Blk2 (w3.alloc _) w3.heap.size (.slice A3 n' c3) (.int .i64 q')) := heap_alloc_new w3 _
  replace B := Lib.hid (bel_trans (bel_trans B.out b3) (bel_alloc w3 (.cells #[.slice A3 n' c3, .int .i64 q'] 28)))
  have VW := Lib.hid (v3.below (bel_alloc w3 (.cells #[.slice A3 n' c3, .int .i64 q'] 28)) (Nat.le_refl _))
  have IW := Lib.hid (i3.below (bel_alloc w3 (.cells #[.slice A3 n' c3, .int .i64 q'] 28)) (Nat.le_refl _))
  clear b3 v3 i3
  obtain ⟨a0, a1⟩ := K.out.cells
  go_wp2_with fail
  refine (toHeap_any A n cap ds q _ Hn.out hm' (HA.out.below B.out)).mono ?_
  rintro e w4 ⟨A4, c4, rfl, v4, b4⟩
  have s34 : w3.heap.size < w4.heap.size := by have := b4.size; rw [World.size_alloc] at this; omega
  have b4' := bel_trans b4 (bel_alloc w4 (.cells #[.slice A4 n c4, .int .i64 q] 28))
  replace K := Lib.hid (K.out.below b4')
  replace KW := Lib.hid (KW.out.below b4')
  have KX : Hid (Blk2 (w4.alloc _) w4.heap.size (.slice A4 n c4) (.int .i64 q)) := heap_alloc_new w4 _
  replace B := Lib.hid (bel_trans B.out b4')
  replace VW := Lib.hid (VW.out.below b4' (by rw [World.size_alloc]; omega))
  replace IW := Lib.hid (IW.out.below b4' (by rw [World.size_alloc]; omega))
  have VX := Lib.hid (v4.below (bel_alloc w4 (.cells #[.slice A4 n c4, .int .i64 q] 28)) (Nat.le_refl _))
  rw [World.size_alloc] at VX
  clear b4 b4' v4 a0 a1
  go_wp2_with fail
  refine (HG.out A4 c4 _ _ _ hm' VX.out (by rw [World.size_alloc]; omega)).mono ?_
  rintro e w5 ⟨A5, c5, I5, j5, mid, rfl, hmid1, hmid2, v5, i5, b5⟩
  rw [Hn'.out, Hk'.out]
  rw [World.size_alloc] at hmid1
  have s45 : w4.heap.size < w5.heap.size := by have := b5.size; rw [World.size_alloc] at this; omega
  have b5' := bel_trans b5 (bel_alloc w5 (.cells #[.slice A5 n' c5, .int .i64 q'] 28))
  replace K := Lib.hid (K.out.below b5')
  replace KW := Lib.hid (KW.out.below b5')
  replace KX := Lib.hid (KX.out.below b5')
  have KG : Hid (Blk2 (w5.alloc _) w5.heap.size (.slice A5 n' c5) (.int .i64 q')) := heap_alloc_new w5 _
  replace B := Lib.hid (bel_trans B.out b5')
  replace VW := Lib.hid (VW.out.below b5' (by rw [World.size_alloc]; omega))
  replace VX := Lib.hid (VX.out.below b5' (by rw [World.size_alloc]; omega))
  replace IW := Lib.hid (IW.out.below b5' (by rw [World.size_alloc]; omega))
  have VG := Lib.hid (v5.below (bel_alloc w5 (.cells #[.slice A5 n' c5, .int .i64 q'] 28)) hmid2)
  rw [World.size_alloc] at VG
  have IG := Lib.hid (i5.below (bel_alloc w5 (.cells #[.slice A5 n' c5, .int .i64 q'] 28)) (Nat.le_refl _))
  clear b5 b5' v5 i5
  obtain ⟨d0, d1, df⟩ := KW.out.cells
  go_wp2_with fail
  refine (eqHeap_same A5 A3 n' c5 c3 _ _ _ _ ds' q' _ Hn'.out hm2 VG.out VW.out (by rw [World.size_alloc]; omega) (by rw [World.size_alloc]; omega)).mono ?_
  rintro e w6 ⟨rfl, b6⟩
  clear d0 d1 df
  replace K := Lib.hid (K.out.below b6)
  replace KW := Lib.hid (KW.out.below b6)
  replace KX := Lib.hid (KX.out.below b6)
  replace KG := Lib.hid (KG.out.below b6)
  replace B := Lib.hid (bel_trans B.out b6)
  have sz := (b6).size
  rw [World.size_alloc] at sz
  replace VW := Lib.hid (VW.out.below b6 (by rw [World.size_alloc]; omega))
  replace VX := Lib.hid (VX.out.below b6 (by rw [World.size_alloc]; omega))
  replace VG := Lib.hid (VG.out.below b6 (by rw [World.size_alloc]; omega))
  replace IW := Lib.hid (IW.out.below b6 (by rw [World.size_alloc]; omega))
  replace IG := Lib.hid (IG.out.below b6 (by rw [World.size_alloc]; omega))
  clear b6
  go_wp2_with fail
  refine (eqInts_same I5 I3 k' j5 j3 ids w6 Hk'.out hm3 IG.out.ints IW.out.ints).mono ?_
  rintro e w6b ⟨rfl, b6⟩
  have s6b := b6.size
  replace K := Lib.hid (K.out.below b6)
  replace KW := Lib.hid (KW.out.below b6)
  replace KX := Lib.hid (KX.out.below b6)
  replace KG := Lib.hid (KG.out.below b6)
  replace B := Lib.hid (bel_trans B.out b6)
  replace VW := Lib.hid (VW.out.below b6 (by omega))
  replace VX := Lib.hid (VX.out.below b6 (by omega))
  replace VG := Lib.hid (VG.out.below b6 (by omega))
  replace IW := Lib.hid (IW.out.below b6 (by omega))
  replace IG := Lib.hid (IG.out.below b6 (by omega))
  clear b6
  go_wp2_with fail
  have HT : Hid (Pair w4.heap.size w.heap.size (.slice A4 n c4) (.int .i64 q) (.slice A n cap) (.int .i64 q) w6b.drew) := ⟨KX.out, K.out⟩
  refine wp_region_held_drew (S := Pair w4.heap.size w.heap.size (.slice A4 n c4) (.int .i64 q) (.slice A n cap) (.int .i64 q)) (by kernel_rfl) HT.out (fun _ => ?_)
  refine wpAnyH_take (i := 0) (v := .agg #[.slice A4 n c4, .int .i64 q]) rfl (by kernel_rfl) (by kernel_rfl) (by kernel_rfl) (fun _ _ _ h => h) (.inl ⟨rfl, fun V hS => ?y0⟩) HT.out ?_
  case y0 =>
    obtain ⟨s0, s1, s5⟩ := hS.1.cells
    clear hS s5
    go_simp
  go_simp
  refine wpAnyH_take (i := 1) (v := .agg #[.slice A n cap, .int .i64 q]) rfl (by kernel_rfl) (by kernel_rfl) (by kernel_rfl) (fun _ _ _ h => h) (.inl ⟨rfl, fun V hS => ?y1⟩) HT.out ?_
  case y1 =>
    obtain ⟨s0, s1⟩ := hS.2.cells
    clear hS
    go_simp
  go_simp
  refine wpAnyH_ready (rs := [2]) (by kernel_rfl) (by simp) (AllReadyH.cons rfl (fun J hJ => ?_) AllReadyH.nil)
  go_simp
  refine (toHeap_any A n cap ds q w6b.drew Hn.out hm' (HA.out.below B.out.drew)).mono ?_
  rintro e w7 ⟨A7, c7, rfl, v7, b7⟩
  have V7 := Lib.hid v7
  have b67 := bel_of_drew b7
  have HT7 : Hid (Pair w4.heap.size w.heap.size (.slice A4 n c4) (.int .i64 q) (.slice A n cap) (.int .i64 q) w7) := ⟨HT.out.1.below b7, HT.out.2.below b7⟩
  have s67 : w6b.heap.size ≤ w7.heap.size := b67.size
  replace K := Lib.hid (K.out.below b67)
  replace KW := Lib.hid (KW.out.below b67)
  replace KX := Lib.hid (KX.out.below b67)
  replace KG := Lib.hid (KG.out.below b67)
  replace B := Lib.hid (bel_trans B.out b67)
  have sz := (b67).size
  replace VW := Lib.hid (VW.out.below b67 (by omega))
  replace VX := Lib.hid (VX.out.below b67 (by omega))
  replace VG := Lib.hid (VG.out.below b67 (by omega))
  replace IW := Lib.hid (IW.out.below b67 (by omega))
  replace IG := Lib.hid (IG.out.below b67 (by omega))
  clear b7 b67 v7
  refine hJ.out _ _ HT7.out (fun _ => ?_)
  go_simp
  refine wpAnyH_ready (rs := [3]) (by kernel_rfl) (by simp) (AllReadyH.cons rfl (fun J hJ => ?_) AllReadyH.nil)
  go_simp
  refine (eqHeap_same A4 A7 n c4 c7 _ _ _ _ ds q w7 Hn.out hm' VX.out V7.out (by omega) (Nat.le_refl _)).mono ?_
  rintro e w8 ⟨rfl, b8⟩
  have HT8 : Hid (Pair w4.heap.size w.heap.size (.slice A4 n c4) (.int .i64 q) (.slice A n cap) (.int .i64 q) w8) := ⟨HT7.out.1.below b8, HT7.out.2.below b8⟩
  have s78 : w7.heap.size ≤ w8.heap.size := b8.size
  replace K := Lib.hid (K.out.below b8)
  replace KW := Lib.hid (KW.out.below b8)
  replace KX := Lib.hid (KX.out.below b8)
  replace KG := Lib.hid (KG.out.below b8)
  replace B := Lib.hid (bel_trans B.out b8)
  have sz := (b8).size
  replace VW := Lib.hid (VW.out.below b8 (by omega))
  replace VX := Lib.hid (VX.out.below b8 (by omega))
  replace VG := Lib.hid (VG.out.below b8 (by omega))
  replace IW := Lib.hid (IW.out.below b8 (by omega))
  replace IG := Lib.hid (IG.out.below b8 (by omega))
  clear b8 HT HT7 V7
  refine hJ.out _ _ HT8.out (fun _ => ?_)
  go_simp
  refine wpAnyH_ready (rs := [4]) (by kernel_rfl) (by simp) (AllReadyH.cons rfl (fun J hJ => ?_) AllReadyH.nil)
  go_simp
  refine hJ.out _ _ HT8.out (fun _ => ?_)
  refine wpAnyH_done (by kernel_rfl) ?_ _
  clear HT8
  obtain ⟨d0, d1, df⟩ := KX.out.cells
  go_wp2_with fail
  refine (markHeap_any A4 n c4 _ _ 1 _ ds w8 Hn.out (by omega) (by omega) (by omega) VX.out (by omega)).mono ?_
  rintro e w9 ⟨rfl, v9, t9⟩
  have s89 : w8.heap.size ≤ w9.heap.size := t9.size
  replace K := Lib.hid (K.out.of_block (t9.block _ (by omega) (by omega)))
  replace KW := Lib.hid (KW.out.of_block (t9.block _ (by omega) (by omega)))
  replace KG := Lib.hid (KG.out.of_block (t9.block _ (by omega) (by omega)))
  replace B := Lib.hid (B.out.trans (t9.toTurns.below (by omega) (by omega)))
  replace VW := Lib.hid (VW.out.turns t9.toTurns (by omega) (by omega))
  replace VG := Lib.hid (VG.out.turns t9.toTurns (by omega) (by omega))
  replace IW := Lib.hid (IW.out.of_block fun g h1 h2 => t9.block g (by omega) (by omega))
  replace IG := Lib.hid (IG.out.of_block fun g h1 h2 => t9.block g (by omega) (by omega))
  clear v9 t9 VX KX d0 d1 df
  obtain ⟨d0, d1, df⟩ := KG.out.cells
  obtain ⟨x0, x1, xf⟩ := KW.out.cells
  have hk : ¬ 1 + 3 * (n : Int) < 0 := by omega
  go_wp2_with fail
  refine (eqHeap_same A5 A3 n' c5 c3 _ _ _ _ ds' q' w9 Hn'.out hm2 VG.out VW.out (by omega) (by omega)).mono ?_
  rintro e w10 ⟨rfl, b10⟩
  have s910 : w9.heap.size ≤ w10.heap.size := b10.size
  replace K := Lib.hid (K.out.below b10)
  replace KW := Lib.hid (KW.out.below b10)
  replace KG := Lib.hid (KG.out.below b10)
  replace B := Lib.hid (bel_trans B.out b10)
  replace VW := Lib.hid (VW.out.below b10 (by omega))
  replace VG := Lib.hid (VG.out.below b10 (by omega))
  replace IW := Lib.hid (IW.out.below b10 (by omega))
  replace IG := Lib.hid (IG.out.below b10 (by omega))
  clear b10 d0 d1 df x0 x1 xf
  go_wp2_with fail
  refine (eqInts_same I5 I3 k' j5 j3 ids w10 Hk'.out hm3 IG.out.ints IW.out.ints).mono ?_
  rintro e w10b ⟨rfl, b10⟩
  have s10b := b10.size
  replace K := Lib.hid (K.out.below b10)
  replace KW := Lib.hid (KW.out.below b10)
  replace KG := Lib.hid (KG.out.below b10)
  replace B := Lib.hid (bel_trans B.out b10)
  replace VW := Lib.hid (VW.out.below b10 (by omega))
  replace VG := Lib.hid (VG.out.below b10 (by omega))
  replace IW := Lib.hid (IW.out.below b10 (by omega))
  replace IG := Lib.hid (IG.out.below b10 (by omega))
  clear b10
  obtain ⟨d0, d1, df⟩ := KG.out.cells
  go_wp2_with fail
  refine (markHeap_any A5 n' c5 _ _ 1 _ ds' w10b Hn'.out (by omega) (by omega) (by omega) VG.out (by omega)).mono ?_
  rintro e w11 ⟨rfl, v11, t11⟩
  have s1011 : w10b.heap.size ≤ w11.heap.size := t11.size
  replace K := Lib.hid (K.out.of_block (t11.block _ (by omega) (by omega)))
  replace KW := Lib.hid (KW.out.of_block (t11.block _ (by omega) (by omega)))
  replace KG := Lib.hid (KG.out.of_block (t11.block _ (by omega) (by omega)))
  replace B := Lib.hid (B.out.trans (t11.toTurns.below (by omega) (by omega)))
  replace VW := Lib.hid (VW.out.turns t11.toTurns (by omega) (by omega))
  replace VG := Lib.hid v11
  replace IW := Lib.hid (IW.out.of_block fun g h1 h2 => t11.block g (by omega) (by omega))
  replace IG := Lib.hid (IG.out.of_block fun g h1 h2 => t11.block g (by omega) (by omega))
  clear v11 t11 d0 d1 df
  go_wp2_with fail
  refine (markInts_any I5 k' j5 _ _ (1 + 3 * (n' : Int)) ids w11 Hk'.out hm3 (by omega) (by omega) IG.out).mono ?_
  rintro e w11b ⟨rfl, i11, t11⟩
  have s11b : w11.heap.size ≤ w11b.heap.size := t11.size
  replace K := Lib.hid (K.out.of_block (t11.block _ (by omega) (by omega)))
  replace KW := Lib.hid (KW.out.of_block (t11.block _ (by omega) (by omega)))
  replace KG := Lib.hid (KG.out.of_block (t11.block _ (by omega) (by omega)))
  replace B := Lib.hid (B.out.trans (t11.toTurns.below (by omega) (by omega)))
  replace VW := Lib.hid (VW.out.turns t11.toTurns (by omega) (by omega))
  replace VG := Lib.hid (VG.out.turns t11.toTurns (by omega) (by omega))
  replace IW := Lib.hid (IW.out.of_block fun g h1 h2 => t11.block g (by omega) (by omega))
  replace IG := Lib.hid i11
  clear i11 t11
  obtain ⟨d0, d1, df⟩ := KG.out.cells
  go_wp2_with fail
  refine (heldHeap_any A5 n' c5 _ _ 1 _ w11b (by omega) (by omega) (by omega) VG.out (by omega)).mono ?_
  rintro e w12 ⟨rfl, b12⟩
  have s1112 : w11b.heap.size ≤ w12.heap.size := b12.size
  replace K := Lib.hid (K.out.below b12)
  replace KW := Lib.hid (KW.out.below b12)
  replace KG := Lib.hid (KG.out.below b12)
  replace B := Lib.hid (bel_trans B.out b12)
  replace VW := Lib.hid (VW.out.below b12 (by omega))
  replace VG := Lib.hid (VG.out.below b12 (by omega))
  replace IW := Lib.hid (IW.out.below b12 (by omega))
  replace IG := Lib.hid (IG.out.below b12 (by omega))
  clear b12 d0 d1 df
  have hk2 : ¬ 1 + 3 * (n' : Int) < 0 := by omega
  have hk3 : ¬ 1 + 3 * (n' : Int) + (k' : Int) < 0 := by omega
  go_wp2_with fail
  refine (heldInts_any I5 k' j5 _ _ (1 + 3 * (n' : Int)) w12 hm3 (by omega) (by omega) IG.out).mono ?_
  rintro e w' ⟨rfl, rfl⟩
  obtain ⟨a0, a1⟩ := K.out.cells
  go_wp2_with fail
  refine (toHeap_any A n cap ds q w12 Hn.out hm' (HA.out.below B.out)).mono ?_
  rintro e w13 ⟨A13, c13, rfl, v13, b13⟩
  have s1213 : w12.heap.size ≤ w13.heap.size := b13.size
  replace KW := Lib.hid (KW.out.below b13)
  replace KG := Lib.hid (KG.out.below b13)
  replace B := Lib.hid (bel_trans B.out b13)
  replace VW := Lib.hid (VW.out.below b13 (by omega))
  replace VG := Lib.hid (VG.out.below b13 (by omega))
  replace IW := Lib.hid (IW.out.below b13 (by omega))
  replace IG := Lib.hid (IG.out.below b13 (by omega))
  have V13 := Lib.hid v13
  clear b13 v13 K a0 a1
  go_wp2_with fail
  refine (HG.out A13 c13 _ _ _ hm' V13.out (Nat.le_refl _)).mono ?_
  rintro e w14 ⟨A14, c14, I14, j14, mid2, rfl, hq1, hq2, v14, i14, b14⟩
  rw [Hn'.out, Hk'.out]
  clear V13
  have s1314 : w13.heap.size ≤ w14.heap.size := b14.size
  have b14' := bel_trans b14 (bel_alloc w14 (.cells #[.slice A14 n' c14, .int .i64 q'] 28))
  replace KW := Lib.hid (KW.out.below b14')
  replace KG := Lib.hid (KG.out.below b14')
  replace B := Lib.hid (bel_trans B.out b14')
  replace VW := Lib.hid (VW.out.below b14' (by omega))
  replace VG := Lib.hid (VG.out.below b14' (by omega))
  replace IW := Lib.hid (IW.out.below b14' (by omega))
  replace IG := Lib.hid (IG.out.below b14' (by omega))
  have V14 := Lib.hid (v14.below (bel_alloc w14 (.cells #[.slice A14 n' c14, .int .i64 q'] 28)) hq2)
  have I14' := Lib.hid (i14.below (bel_alloc w14 (.cells #[.slice A14 n' c14, .int .i64 q'] 28)) (Nat.le_refl _))
  clear b14 b14' v14 i14
  obtain ⟨x0, x1, xf⟩ := KW.out.cells
  go_wp2_with fail
  refine (eqHeap_same A14 A3 n' c14 c3 _ _ _ _ ds' q' _ Hn'.out hm2 V14.out VW.out (by rw [World.size_alloc]; omega) (by rw [World.size_alloc]; omega)).mono ?_
  rintro e w15 ⟨rfl, b15⟩
  have s1415 : w14.heap.size < w15.heap.size := by have := b15.size; rw [World.size_alloc] at this; omega
  replace KG := Lib.hid (KG.out.below b15)
  replace B := Lib.hid (bel_trans B.out b15)
  replace VG := Lib.hid (VG.out.below b15 (by rw [World.size_alloc]; omega))
  replace IW := Lib.hid (IW.out.below b15 (by rw [World.size_alloc]; omega))
  replace IG := Lib.hid (IG.out.below b15 (by rw [World.size_alloc]; omega))
  replace I14' := Lib.hid (I14'.out.below b15 (by rw [World.size_alloc]; omega))
  clear b15 x0 x1 xf V14 VW KW
  go_wp2_with fail
  refine (eqInts_same I14 I3 k' j14 j3 ids w15 Hk'.out hm3 I14'.out.ints IW.out.ints).mono ?_
  rintro e w15b ⟨rfl, b15⟩
  have s15b := b15.size
  replace KG := Lib.hid (KG.out.below b15)
  replace B := Lib.hid (bel_trans B.out b15)
  replace VG := Lib.hid (VG.out.below b15 (by omega))
  replace IG := Lib.hid (IG.out.below b15 (by omega))
  clear b15
  obtain ⟨d0, d1, df⟩ := KG.out.cells
  go_wp2_with fail
  refine (heldHeap_any A5 n' c5 _ _ 1 _ w15b (by omega) (by omega) (by omega) VG.out (by omega)).mono ?_
  rintro e w16 ⟨rfl, b16⟩
  replace B := Lib.hid (bel_trans B.out b16)
  replace IG := Lib.hid (IG.out.below b16 (by omega))
  clear b16
  go_wp2_with fail
  refine (heldInts_any I5 k' j5 _ _ (1 + 3 * (n' : Int)) w16 hm3 (by omega) (by omega) IG.out).mono ?_
  rintro e w' ⟨rfl, rfl⟩
  go_wp2
  go_ret
  exact ⟨rfl, B.out⟩
end Go.Proofs.Ytnmhdbfemobhkaa.Hp
