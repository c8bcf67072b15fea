/- The walk of the law of NewQueue. -/
import Derived.Test.YtjbfmagedkmngaaQue9
namespace Go.Proofs.Ytjbfmagedkmngaa.Que
open Go.RowKit Go.Deep Base

theorem size_undrew (w : World) : w.drew.heap.size = w.heap.size := rfl

set_option maxRecDepth 100000 in
set_option maxHeartbeats 1000000 in
theorem lawNewQueue (w : World) : Calls Try.prog 5 #[] w fun e w' => e = .returned (.bool true) ∧ Below w.heap.size w w' := by
  go_enter Try.func5, Try.ntmps5
  go_wp2_with fail
  refine (specNew_any _).mono ?_
  rintro e w1 ⟨A1, c1, rfl, v1, b1⟩
  have V1 := Lib.hid v1
  have B1 := Lib.hid b1
  clear v1 b1
  go_wp2_with fail
  refine (implNew_any _).mono ?_
  rintro e w2 ⟨A2, c2, rfl, v2, b2⟩
  rw [World.size_alloc] at v2 b2
  have K1 : Hid (Blk5 w2 w1.heap.size _ _ _ _ _) := Blk5.of_block (heap_alloc_new w1 _) (b2.block _ (by omega))
  have s2 : w1.heap.size < w2.heap.size := by have := b2.size; rw [World.size_alloc] at this; omega
  have t2 : w.heap.size ≤ w1.heap.size := B1.out.size
  have V1' : Hid (SlV w2 w.heap.size w1.heap.size A1 newS) := (V1.out.below (bel_alloc w1 _) (Nat.le_refl _)).below b2 (by omega)
  have V2 := Lib.hid v2
  have B2 : Hid (Below w.heap.size w w2) := (B1.out.alloc B1.out.size _).trans (b2.mono (by have := B1.out.size; omega))
  clear v2 b2 V1 B1
  obtain ⟨z0, z1, z2, z3, z4, zf⟩ := K1.out.cells
  go_wp2_with fail
  refine (eqQueue_same A2 A1 60 c2 c1 _ _ _ _ newS _ _ _ _ _ newS_len (by omega) (V2.out.below (bel_alloc w2 _) (Nat.le_refl _)) (V1'.out.below (bel_alloc w2 _) (by omega)) (by rw [World.size_alloc]; omega) (by rw [World.size_alloc]; omega)).mono ?_
  rintro e w3 ⟨rfl, b3⟩
  rw [World.size_alloc] at b3
  have s3 : w2.heap.size < w3.heap.size := by have := b3.size; rw [World.size_alloc] at this; omega
  have K1' : Hid (Blk5 w3 w1.heap.size _ _ _ _ _) := (K1.out.alloc _).of_block (b3.block _ (by omega))
  have K2 : Hid (Blk5 w3 w2.heap.size _ _ _ _ _) := Blk5.of_block (heap_alloc_new w2 _) (b3.block _ (by omega))
  have V1'' : Hid (SlV w3 w.heap.size w1.heap.size A1 newS) := (V1'.out.below (bel_alloc w2 _) (by omega)).below b3 (by omega)
  have V2' : Hid (SlV w3 (w1.heap.size + 1) w2.heap.size A2 newS) := (V2.out.below (bel_alloc w2 _) (by omega)).below b3 (by omega)
  have B3 : Hid (Below w.heap.size w w3) := (B2.out.alloc B2.out.size _).trans (b3.mono (by omega))
  clear b3 V1' V2 B2 K1 z0 z1 z2 z3 z4 zf
  obtain ⟨z0, z1, z2, z3, z4, zf⟩ := K2.out.cells
  go_wp2_with fail
  refine (markQueue_any A2 60 c2 (w1.heap.size + 1) w2.heap.size 1 _ _ _ _ newS _ newS_len (by omega) (by omega) (by omega) V2'.out (by omega)).mono ?_
  rintro e w4 ⟨rfl, v4, t4⟩
  have s4 : w2.heap.size < w4.heap.size := by have := t4.size; omega
  have K1'' : Hid (Blk5 w4 w1.heap.size _ _ _ _ _) := K1'.out.of_block (t4.block _ (by omega) (by omega))
  have K2' : Hid (Blk5 w4 w2.heap.size _ _ _ _ _) := K2.out.of_block (t4.block _ (by omega) (by omega))
  have V1 : Hid (SlV w4 w.heap.size w1.heap.size A1 newS) := V1''.out.turns t4 (by omega) (by omega)
  have V4 := Lib.hid v4
  have B4 : Hid (Below w.heap.size w w4) := B3.out.trans (t4.below (by omega) (by omega))
  clear v4 t4 V1'' V2' B3 K1' K2 z0 z1 z2 z3 z4 zf
  obtain ⟨z0, z1, z2, z3, z4, zf⟩ := K2'.out.cells
  go_wp2_with fail
  refine (heldQueue_any A2 60 c2 (w1.heap.size + 1) w2.heap.size 1 _ _ _ _ _ (by omega) (by omega) (by omega) V4.out (by omega)).mono ?_
  rintro e w5 ⟨rfl, b5⟩
  go_wp2_with fail
  refine (implNew_any _).mono ?_
  rintro e w6 ⟨A6, c6, rfl, v6, b6⟩
  have b46 := bel_trans b5 b6
  have s6 : w2.heap.size < w6.heap.size := by have := b46.size; omega
  have s5 := b5.size
  have K1 : Hid (Blk5 w6 w1.heap.size _ _ _ _ _) := K1''.out.of_block (b46.block _ (by omega))
  have K2 : Hid (Blk5 w6 w2.heap.size _ _ _ _ _) := K2'.out.of_block (b46.block _ (by omega))
  have V1' : Hid (SlV w6 w.heap.size w1.heap.size A1 newS) := V1.out.below b46 (by omega)
  have V6 := Lib.hid v6
  have V4' : Hid (SlV w6 (w1.heap.size + 1) w2.heap.size A2 (mkL 1 60)) := V4.out.below b46 (by omega)
  have B6 : Hid (Below w.heap.size w w6) := B4.out.trans (b46.mono B4.out.size)
  clear v6 b5 b6 b46 V1 V4 B4 K1'' K2' z0 z1 z2 z3 z4 zf
  obtain ⟨z0, z1, z2, z3, z4, zf⟩ := K1.out.cells
  have s16 : w1.heap.size < w6.heap.size := by omega
  go_wp2_with fail
  refine (eqQueue_same A6 A1 60 c6 c1 _ _ _ _ newS _ _ _ _ _ newS_len (by omega) (V6.out.below (bel_alloc w6 _) (Nat.le_refl _)) (V1'.out.below (bel_alloc w6 _) (by omega)) (by rw [World.size_alloc]; omega) (by rw [World.size_alloc]; omega)).mono ?_
  rintro e w7 ⟨rfl, b7⟩
  have b67 := bel_trans (bel_alloc w6 _) b7
  have K2' : Hid (Blk5 w7 w2.heap.size _ _ _ _ _) := K2.out.of_block (b67.block _ (by omega))
  have V4 : Hid (SlV w7 (w1.heap.size + 1) w2.heap.size A2 (mkL 1 60)) := V4'.out.below b67 (by omega)
  have B7 : Hid (Below w.heap.size w w7) := B6.out.trans (b67.mono B6.out.size)
  have s7 : w2.heap.size < w7.heap.size := by have := b67.size; omega
  clear b7 b67 V1' V4' V6 B6 K1 K2 z0 z1 z2 z3 z4 zf
  obtain ⟨z0, z1, z2, z3, z4, zf⟩ := K2'.out.cells
  go_wp2_with fail
  refine (heldQueue_any A2 60 c2 (w1.heap.size + 1) w2.heap.size 1 _ _ _ _ _ (by omega) (by omega) (by omega) V4.out (by omega)).mono ?_
  rintro e w8 ⟨rfl, b8⟩
  have B8 : Hid (Below w.heap.size w w8) := B7.out.trans (b8.mono B7.out.size)
  clear b8
  go_wp2
  go_ret
  exact ⟨rfl, B8.out⟩
end Go.Proofs.Ytjbfmagedkmngaa.Que
