/- The law of Redials walked. -/
import Derived.Test.YtjfmkcppampokaaRd2
import Derived.Test.YtjfmkcppampokaaCfg3
namespace Go.Proofs.Ytjfmkcppampokaa.Wt
open Go.RowKit Go.Deep Base Flt Cf Tick Rw

set_option maxRecDepth 100000 in
set_option maxHeartbeats 4000000 in
theorem lawRedials (c : Nat → Int) (A : Option Addr) (n cap : Nat) (ds : List Int) (w : World) (hn : ds.length = n) (hm : n ≤ maxLen) (h : Ints w A ds) :
    Calls Try.prog 9 #[.agg #[.int .i64 (c 0), .int .i64 (c 1), .int .i64 (c 2), .int .i64 (c 3), .int .i64 (c 4), .int .i64 (c 5), .int .i64 (c 6), .int .i64 (c 7), .int .i64 (c 8), .int .i64 (c 9), .int .i64 (c 10), .int .i64 (c 11), .int .i64 (c 12), .int .i64 (c 13)], .slice A n cap] w fun e w' => e = .returned (.bool true) ∧ Below w.heap.size w w' := by
  unfold maxLen at hm
  have Hn := Lib.hid hn
  have HA := Lib.hid h
  clear h hn
  obtain ⟨zs, hzs⟩ : ∃ zs, red c ds = zs := ⟨_, rfl⟩
  have hfew : zs.length ≤ 301 := by rw [← hzs]; exact red_few _ _
  have Hzs := Lib.hid hzs
  clear hzs
  go_enter Try.func9, Try.ntmps9
  by_cases hl : (1048576 : Int) < n
  · go_wp2
    go_ret
    exact ⟨rfl, bel_alloc _ _⟩
  have hm' : n ≤ 1048576 := by omega
  go_wp2_with fail
  obtain ⟨W0, hW0⟩ : ∃ W0, w.alloc (.cells #[.int .i64 (c 0), .int .i64 (c 1), .int .i64 (c 2), .int .i64 (c 3), .int .i64 (c 4), .int .i64 (c 5), .int .i64 (c 6), .int .i64 (c 7), .int .i64 (c 8), .int .i64 (c 9), .int .i64 (c 10), .int .i64 (c 11), .int .i64 (c 12), .int .i64 (c 13)] 36) = W0 := ⟨_, rfl⟩
  have B : Hid (Below w.heap.size w W0) := by rw [← hW0]; exact bel_alloc _ _
  have K : Hid (W0.heap[w.heap.size]? = some (.cells #[.int .i64 (c 0), .int .i64 (c 1), .int .i64 (c 2), .int .i64 (c 3), .int .i64 (c 4), .int .i64 (c 5), .int .i64 (c 6), .int .i64 (c 7), .int .i64 (c 8), .int .i64 (c 9), .int .i64 (c 10), .int .i64 (c 11), .int .i64 (c 12), .int .i64 (c 13)] 36 (0, 0))) := by rw [← hW0]; exact heap_alloc_new w _
  have z0 : w.heap.size < W0.heap.size := by rw [← hW0]; simp
  rw [hW0]
  clear hW0
  refine (toConfig_any c _).mono ?_
  rintro e w1 ⟨rfl, b1⟩
  have s1 : W0.heap.size ≤ w1.heap.size := b1.size
  replace B := Lib.hid (bel_trans B.out b1)
  replace K := Lib.hid ((b1.block _ (by omega)).trans K.out)
  clear b1
  go_wp2_with fail
  refine (toIntS_iv A n cap ds _ Hn.out hm' (HA.out.below B.out)).mono ?_
  rintro e w2 ⟨rfl, v2, b2⟩
  have s2 : w1.heap.size ≤ w2.heap.size := b2.size
  replace B := Lib.hid (bel_trans B.out b2)
  replace K := Lib.hid ((b2.block _ (by omega)).trans K.out)
  clear b2
  have V2 := Lib.hid v2
  clear v2
  go_wp2_with fail
  refine (specRed_any c _ n _ ds _ Hn.out hm' V2.out.ints).mono ?_
  intro e w3 hend
  rw [Hzs.out] at hend
  obtain ⟨A3, c3, rfl, v3, b3⟩ := hend
  clear V2
  have s3 : w2.heap.size ≤ w3.heap.size := b3.size
  replace B := Lib.hid (bel_trans B.out b3)
  replace K := Lib.hid ((b3.block _ (by omega)).trans K.out)
  clear b3
  have VW := Lib.hid v3
  clear v3
  go_wp2_with fail
  refine (toIntS_iv A n cap ds _ Hn.out hm' (HA.out.below B.out)).mono ?_
  rintro e w4 ⟨rfl, v4, b4⟩
  have s4 : w3.heap.size ≤ w4.heap.size := b4.size
  replace B := Lib.hid (bel_trans B.out b4)
  replace K := Lib.hid ((b4.block _ (by omega)).trans K.out)
  replace VW := Lib.hid (VW.out.below b4 (by omega))
  clear b4
  have VX := Lib.hid v4
  clear v4
  have x0 : w4.cell? ⟨w.heap.size, 0, none⟩ = some (.int .i64 (c 0)) := cell_of_row _ _ 0 _ _ (0, 0) K.out
  have x1 : w4.cell? ⟨w.heap.size, 1, none⟩ = some (.int .i64 (c 1)) := cell_of_row _ _ 1 _ _ (0, 0) K.out
  have x2 : w4.cell? ⟨w.heap.size, 2, none⟩ = some (.int .i64 (c 2)) := cell_of_row _ _ 2 _ _ (0, 0) K.out
  have x3 : w4.cell? ⟨w.heap.size, 3, none⟩ = some (.int .i64 (c 3)) := cell_of_row _ _ 3 _ _ (0, 0) K.out
  have x4 : w4.cell? ⟨w.heap.size, 4, none⟩ = some (.int .i64 (c 4)) := cell_of_row _ _ 4 _ _ (0, 0) K.out
  have x5 : w4.cell? ⟨w.heap.size, 5, none⟩ = some (.int .i64 (c 5)) := cell_of_row _ _ 5 _ _ (0, 0) K.out
  have x6 : w4.cell? ⟨w.heap.size, 6, none⟩ = some (.int .i64 (c 6)) := cell_of_row _ _ 6 _ _ (0, 0) K.out
  have x7 : w4.cell? ⟨w.heap.size, 7, none⟩ = some (.int .i64 (c 7)) := cell_of_row _ _ 7 _ _ (0, 0) K.out
  have x8 : w4.cell? ⟨w.heap.size, 8, none⟩ = some (.int .i64 (c 8)) := cell_of_row _ _ 8 _ _ (0, 0) K.out
  have x9 : w4.cell? ⟨w.heap.size, 9, none⟩ = some (.int .i64 (c 9)) := cell_of_row _ _ 9 _ _ (0, 0) K.out
  have x10 : w4.cell? ⟨w.heap.size, 10, none⟩ = some (.int .i64 (c 10)) := cell_of_row _ _ 10 _ _ (0, 0) K.out
  have x11 : w4.cell? ⟨w.heap.size, 11, none⟩ = some (.int .i64 (c 11)) := cell_of_row _ _ 11 _ _ (0, 0) K.out
  have x12 : w4.cell? ⟨w.heap.size, 12, none⟩ = some (.int .i64 (c 12)) := cell_of_row _ _ 12 _ _ (0, 0) K.out
  have x13 : w4.cell? ⟨w.heap.size, 13, none⟩ = some (.int .i64 (c 13)) := cell_of_row _ _ 13 _ _ (0, 0) K.out
  go_wp2_with fail
  refine (toConfig_any c _).mono ?_
  rintro e w5 ⟨rfl, b5⟩
  clear x0 x1 x2 x3 x4 x5 x6 x7 x8 x9 x10 x11 x12 x13
  have s5 : w4.heap.size ≤ w5.heap.size := b5.size
  replace B := Lib.hid (bel_trans B.out b5)
  replace K := Lib.hid ((b5.block _ (by omega)).trans K.out)
  replace VW := Lib.hid (VW.out.below b5 (by omega))
  replace VX := Lib.hid (VX.out.below b5 (by omega))
  clear b5
  go_wp2_with fail
  refine (implRed_any c _ n _ ds _ Hn.out hm' VX.out.ints).mono ?_
  intro e w6 hend
  rw [Hzs.out] at hend
  obtain ⟨A6, c6, rfl, v6, b6⟩ := hend
  have s6 : w5.heap.size ≤ w6.heap.size := b6.size
  replace B := Lib.hid (bel_trans B.out b6)
  replace K := Lib.hid ((b6.block _ (by omega)).trans K.out)
  replace VW := Lib.hid (VW.out.below b6 (by omega))
  replace VX := Lib.hid (VX.out.below b6 (by omega))
  clear b6
  have VG := Lib.hid v6
  clear v6
  go_wp2_with fail
  refine (eqInts_same A6 A3 _ _ _ zs _ rfl (by omega) VG.out.ints VW.out.ints).mono ?_
  rintro e w7 ⟨rfl, b7⟩
  have s7 : w6.heap.size ≤ w7.heap.size := b7.size
  replace B := Lib.hid (bel_trans B.out b7)
  replace K := Lib.hid ((b7.block _ (by omega)).trans K.out)
  replace VW := Lib.hid (VW.out.below b7 (by omega))
  replace VX := Lib.hid (VX.out.below b7 (by omega))
  replace VG := Lib.hid (VG.out.below b7 (by omega))
  clear b7
  go_wp2_with fail
  refine (toIntS_iv A n cap ds _ Hn.out hm' (HA.out.below B.out)).mono ?_
  rintro e w8 ⟨rfl, v8, b8⟩
  have s8 : w7.heap.size ≤ w8.heap.size := b8.size
  replace B := Lib.hid (bel_trans B.out b8)
  replace K := Lib.hid ((b8.block _ (by omega)).trans K.out)
  replace VW := Lib.hid (VW.out.below b8 (by omega))
  replace VX := Lib.hid (VX.out.below b8 (by omega))
  replace VG := Lib.hid (VG.out.below b8 (by omega))
  clear b8
  have V8 := Lib.hid v8
  clear v8
  go_wp2_with fail
  refine (eqInts_same _ _ n _ _ ds _ Hn.out hm' VX.out.ints V8.out.ints).mono ?_
  rintro e w9 ⟨rfl, b9⟩
  have s9 : w8.heap.size ≤ w9.heap.size := b9.size
  replace B := Lib.hid (bel_trans B.out b9)
  replace K := Lib.hid ((b9.block _ (by omega)).trans K.out)
  replace VW := Lib.hid (VW.out.below b9 (by omega))
  replace VX := Lib.hid (VX.out.below b9 (by omega))
  replace VG := Lib.hid (VG.out.below b9 (by omega))
  replace V8 := Lib.hid (V8.out.below b9 (by omega))
  clear b9
  clear V8
  go_wp2_with fail
  refine (markInts_any _ n _ _ _ 1 ds w9 Hn.out hm' (by omega) (by omega) VX.out).mono ?_
  rintro e w10 ⟨rfl, _, t10⟩
  clear VX
  have s10 : w9.heap.size ≤ w10.heap.size := t10.size
  replace B := Lib.hid (B.out.trans (t10.below (by omega) (by omega)))
  replace K := Lib.hid ((t10.block _ (by omega) (by omega)).trans K.out)
  replace VW := Lib.hid (VW.out.turns t10 (by omega) (by omega))
  replace VG := Lib.hid (VG.out.turns t10 (by omega) (by omega))
  clear t10
  have hk : ¬ 1 + (n : Int) < 0 := by omega
  go_wp2_with fail
  refine (eqInts_same A6 A3 _ _ _ zs _ rfl (by omega) VG.out.ints VW.out.ints).mono ?_
  rintro e w11 ⟨rfl, b11⟩
  have s11 : w10.heap.size ≤ w11.heap.size := b11.size
  replace B := Lib.hid (bel_trans B.out b11)
  replace K := Lib.hid ((b11.block _ (by omega)).trans K.out)
  replace VW := Lib.hid (VW.out.below b11 (by omega))
  replace VG := Lib.hid (VG.out.below b11 (by omega))
  clear b11
  go_wp2_with fail
  refine (markInts_any A6 _ c6 _ _ 1 zs w11 rfl (by omega) (by omega) (by omega) VG.out).mono ?_
  rintro e w12 ⟨rfl, v12, t12⟩
  have s12 : w11.heap.size ≤ w12.heap.size := t12.size
  replace B := Lib.hid (B.out.trans (t12.below (by omega) (by omega)))
  replace K := Lib.hid ((t12.block _ (by omega) (by omega)).trans K.out)
  replace VW := Lib.hid (VW.out.turns t12 (by omega) (by omega))
  clear t12
  replace VG := Lib.hid v12
  clear v12
  go_wp2_with fail
  refine (heldInts_any A6 _ c6 _ _ 1 w12 (by omega) (by omega) (by omega) VG.out).mono ?_
  rintro e w' ⟨rfl, rfl⟩
  have hk2 : ¬ 1 + (zs.length : Int) < 0 := by omega
  have x0 : w12.cell? ⟨w.heap.size, 0, none⟩ = some (.int .i64 (c 0)) := cell_of_row _ _ 0 _ _ (0, 0) K.out
  have x1 : w12.cell? ⟨w.heap.size, 1, none⟩ = some (.int .i64 (c 1)) := cell_of_row _ _ 1 _ _ (0, 0) K.out
  have x2 : w12.cell? ⟨w.heap.size, 2, none⟩ = some (.int .i64 (c 2)) := cell_of_row _ _ 2 _ _ (0, 0) K.out
  have x3 : w12.cell? ⟨w.heap.size, 3, none⟩ = some (.int .i64 (c 3)) := cell_of_row _ _ 3 _ _ (0, 0) K.out
  have x4 : w12.cell? ⟨w.heap.size, 4, none⟩ = some (.int .i64 (c 4)) := cell_of_row _ _ 4 _ _ (0, 0) K.out
  have x5 : w12.cell? ⟨w.heap.size, 5, none⟩ = some (.int .i64 (c 5)) := cell_of_row _ _ 5 _ _ (0, 0) K.out
  have x6 : w12.cell? ⟨w.heap.size, 6, none⟩ = some (.int .i64 (c 6)) := cell_of_row _ _ 6 _ _ (0, 0) K.out
  have x7 : w12.cell? ⟨w.heap.size, 7, none⟩ = some (.int .i64 (c 7)) := cell_of_row _ _ 7 _ _ (0, 0) K.out
  have x8 : w12.cell? ⟨w.heap.size, 8, none⟩ = some (.int .i64 (c 8)) := cell_of_row _ _ 8 _ _ (0, 0) K.out
  have x9 : w12.cell? ⟨w.heap.size, 9, none⟩ = some (.int .i64 (c 9)) := cell_of_row _ _ 9 _ _ (0, 0) K.out
  have x10 : w12.cell? ⟨w.heap.size, 10, none⟩ = some (.int .i64 (c 10)) := cell_of_row _ _ 10 _ _ (0, 0) K.out
  have x11 : w12.cell? ⟨w.heap.size, 11, none⟩ = some (.int .i64 (c 11)) := cell_of_row _ _ 11 _ _ (0, 0) K.out
  have x12 : w12.cell? ⟨w.heap.size, 12, none⟩ = some (.int .i64 (c 12)) := cell_of_row _ _ 12 _ _ (0, 0) K.out
  have x13 : w12.cell? ⟨w.heap.size, 13, none⟩ = some (.int .i64 (c 13)) := cell_of_row _ _ 13 _ _ (0, 0) K.out
  go_wp2_with fail
  refine (toConfig_any c _).mono ?_
  rintro e w13 ⟨rfl, b13⟩
  clear x0 x1 x2 x3 x4 x5 x6 x7 x8 x9 x10 x11 x12 x13
  have s13 : w12.heap.size ≤ w13.heap.size := b13.size
  replace B := Lib.hid (bel_trans B.out b13)
  replace K := Lib.hid ((b13.block _ (by omega)).trans K.out)
  replace VW := Lib.hid (VW.out.below b13 (by omega))
  replace VG := Lib.hid (VG.out.below b13 (by omega))
  clear b13
  go_wp2_with fail
  refine (toIntS_iv A n cap ds _ Hn.out hm' (HA.out.below B.out)).mono ?_
  rintro e w14 ⟨rfl, v14, b14⟩
  have s14 : w13.heap.size ≤ w14.heap.size := b14.size
  replace B := Lib.hid (bel_trans B.out b14)
  replace K := Lib.hid ((b14.block _ (by omega)).trans K.out)
  replace VW := Lib.hid (VW.out.below b14 (by omega))
  replace VG := Lib.hid (VG.out.below b14 (by omega))
  clear b14
  have V14 := Lib.hid v14
  clear v14
  go_wp2_with fail
  refine (implRed_any c _ n _ ds _ Hn.out hm' V14.out.ints).mono ?_
  intro e w15 hend
  rw [Hzs.out] at hend
  obtain ⟨A15, c15, rfl, v15, b15⟩ := hend
  clear V14
  have s15 : w14.heap.size ≤ w15.heap.size := b15.size
  replace B := Lib.hid (bel_trans B.out b15)
  replace K := Lib.hid ((b15.block _ (by omega)).trans K.out)
  replace VW := Lib.hid (VW.out.below b15 (by omega))
  replace VG := Lib.hid (VG.out.below b15 (by omega))
  clear b15
  have V15 := Lib.hid v15
  clear v15
  go_wp2_with fail
  refine (eqInts_same A15 A3 _ _ _ zs _ rfl (by omega) V15.out.ints VW.out.ints).mono ?_
  rintro e w16 ⟨rfl, b16⟩
  have s16 : w15.heap.size ≤ w16.heap.size := b16.size
  replace B := Lib.hid (bel_trans B.out b16)
  replace K := Lib.hid ((b16.block _ (by omega)).trans K.out)
  replace VW := Lib.hid (VW.out.below b16 (by omega))
  replace VG := Lib.hid (VG.out.below b16 (by omega))
  replace V15 := Lib.hid (V15.out.below b16 (by omega))
  clear b16
  go_wp2_with fail
  refine (heldInts_any A6 _ c6 _ _ 1 w16 (by omega) (by omega) (by omega) VG.out).mono ?_
  rintro e w' ⟨rfl, rfl⟩
  go_wp2
  go_ret
  exact ⟨rfl, B.out⟩
end Go.Proofs.Ytjfmkcppampokaa.Wt
