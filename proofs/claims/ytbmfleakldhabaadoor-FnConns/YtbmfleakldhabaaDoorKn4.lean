/- NewConn, the reference's and the program's. -/
import Derived.Test.YtbmfleakldhabaaDoorKn2
import Derived.Test.YtbmfleakldhabaaDoorKn3
namespace Go.Proofs.YtbmfleakldhabaaDoor.Kn
open Go.RowKit Go.Deep Base

theorem new_no {id now : Int} (h : newB id now = false) (i : Nat) : newN id now i = 0 := by
  unfold newB at h
  unfold newN
  rw [h]
  rfl
theorem new_yes {id now : Int} (h : newB id now = true) : newN id now 0 = id ∧ newN id now 1 = 0 ∧ newN id now 2 = 0 ∧ newN id now 3 = now ∧ newN id now 4 = 0 := by
  unfold newB at h
  unfold newN
  rw [h]
  exact ⟨rfl, rfl, rfl, rfl, rfl⟩

theorem newEnd_no {id now : Int} {w w' : World} (h : newB id now = false) (hb : Below w.heap.size w w') : NewEnd id now w (.returned (.tuple #[.agg #[.int .i64 0, .int .i64 0, .int .i64 0, .int .i64 0, .int .i64 0, .bool false], .bool false])) w' := by
  refine ⟨?_, hb⟩
  rw [new_no h, new_no h, new_no h, new_no h, new_no h, h]
theorem newEnd_yes {id now : Int} {w w' : World} (h : newB id now = true) (hb : Below w.heap.size w w') : NewEnd id now w (.returned (.tuple #[.agg #[.int .i64 id, .int .i64 0, .int .i64 0, .int .i64 now, .int .i64 0, .bool false], .bool true])) w' := by
  obtain ⟨h0, h1, h2, h3, h4⟩ := new_yes h
  refine ⟨?_, hb⟩
  rw [h0, h1, h2, h3, h4, h]

set_option maxRecDepth 100000 in
set_option maxHeartbeats 2000000 in
theorem specNewConn_any (id now : Int) (w : World) : Calls Tryd.prog 35 #[.int .i64 id, .int .i64 now] w (NewEnd id now w) := by
  have HO := Lib.hid (ok_new id now)
  have HC : Hid (∀ W, Calls Tryd.prog 12 #[.agg #[.int .i64 id, .int .i64 0, .int .i64 0, .int .i64 now, .int .i64 0, .bool false]] W fun e w' => e = .returned (.bool (okN (fun i => [id, 0, 0, now, 0].getD i 0) false)) ∧ Below W.heap.size W w') := fun W => specConnOk_any (fun i => [id, 0, 0, now, 0].getD i 0) false W
  rw [HO.out] at HC
  go_enter Tryd.func35, Tryd.ntmps35
  go_wp2_with fail
  refine (HC.out _).mono ?_
  rintro e w1 ⟨rfl, b1⟩
  have B := Lib.hid (bel_trans (bel_trans (bel_alloc w _) (bel_alloc _ _)) b1)
  have R0 : w1.heap[w.heap.size]? = some (.cells #[.int .i64 0, .int .i64 0, .int .i64 0, .int .i64 0, .int .i64 0, .bool false] 28 (0, 0)) := (b1.block _ (by simp; omega)).trans (((bel_alloc _ _).block _ (by simp)).trans (heap_alloc_new w _))
  have R1 : w1.heap[w.heap.size + 1]? = some (.cells #[.int .i64 id, .int .i64 0, .int .i64 0, .int .i64 now, .int .i64 0, .bool false] 28 (0, 0)) := (b1.block _ (by simp)).trans (by have := heap_alloc_new (w.alloc (.cells #[.int .i64 0, .int .i64 0, .int .i64 0, .int .i64 0, .int .i64 0, .bool false] 28)) (.cells #[.int .i64 id, .int .i64 0, .int .i64 0, .int .i64 now, .int .i64 0, .bool false] 28); rw [World.size_alloc] at this; exact this)
  clear b1
  have z0 : w1.cell? ⟨w.heap.size, 0, none⟩ = some (.int .i64 0) := cell_of_row _ _ 0 _ _ (0, 0) R0
  have z1 : w1.cell? ⟨w.heap.size, 1, none⟩ = some (.int .i64 0) := cell_of_row _ _ 1 _ _ (0, 0) R0
  have z2 : w1.cell? ⟨w.heap.size, 2, none⟩ = some (.int .i64 0) := cell_of_row _ _ 2 _ _ (0, 0) R0
  have z3 : w1.cell? ⟨w.heap.size, 3, none⟩ = some (.int .i64 0) := cell_of_row _ _ 3 _ _ (0, 0) R0
  have z4 : w1.cell? ⟨w.heap.size, 4, none⟩ = some (.int .i64 0) := cell_of_row _ _ 4 _ _ (0, 0) R0
  have z5 : w1.cell? ⟨w.heap.size, 5, none⟩ = some (.bool false) := cell_of_row _ _ 5 _ _ (0, 0) R0
  have zf : ∀ j, w1.frozen? ⟨w.heap.size, j, none⟩ = false := fun j => frozen_of_row _ _ j _ _ R0
  have y0 : w1.cell? ⟨w.heap.size + 1, 0, none⟩ = some (.int .i64 id) := cell_of_row _ _ 0 _ _ (0, 0) R1
  have y1 : w1.cell? ⟨w.heap.size + 1, 1, none⟩ = some (.int .i64 0) := cell_of_row _ _ 1 _ _ (0, 0) R1
  have y2 : w1.cell? ⟨w.heap.size + 1, 2, none⟩ = some (.int .i64 0) := cell_of_row _ _ 2 _ _ (0, 0) R1
  have y3 : w1.cell? ⟨w.heap.size + 1, 3, none⟩ = some (.int .i64 now) := cell_of_row _ _ 3 _ _ (0, 0) R1
  have y4 : w1.cell? ⟨w.heap.size + 1, 4, none⟩ = some (.int .i64 0) := cell_of_row _ _ 4 _ _ (0, 0) R1
  have y5 : w1.cell? ⟨w.heap.size + 1, 5, none⟩ = some (.bool false) := cell_of_row _ _ 5 _ _ (0, 0) R1
  clear R0 R1
  cases hb : newB id now
  · have Hb := Lib.hid hb
    clear hb
    go_wp2
    refine bodyPost_ret (v := .tuple #[.agg #[.int .i64 0, .int .i64 0, .int .i64 0, .int .i64 0, .int .i64 0, .bool false], .bool false]) (by simp [results, go_sem, z0, z1, z2, z3, z4, z5]) rfl (newEnd_no Hb.out (B.out.trans ?_))
    iterate 6 refine Below.setCell ?_ (by show w.heap.size ≤ w.heap.size; exact Nat.le_refl _) _
    exact Below.refl _ _
  · have Hb := Lib.hid hb
    clear hb
    go_wp2
    refine bodyPost_ret (v := .tuple #[.agg #[.int .i64 id, .int .i64 0, .int .i64 0, .int .i64 now, .int .i64 0, .bool false], .bool true]) (by simp [results, go_sem, z0, z1, z2, z3, z4, z5]) rfl (newEnd_yes Hb.out (B.out.trans ?_))
    iterate 6 refine Below.setCell ?_ (by show w.heap.size ≤ w.heap.size; exact Nat.le_refl _) _
    exact Below.refl _ _

set_option maxRecDepth 100000 in
set_option maxHeartbeats 2000000 in
theorem implNewConn_any (id now : Int) (w : World) : Calls Tryd.prog 36 #[.int .i64 id, .int .i64 now] w (NewEnd id now w) := by
  have HO := Lib.hid (ok_new id now)
  have HC : Hid (∀ W, Calls Tryd.prog 48 #[.agg #[.int .i64 id, .int .i64 0, .int .i64 0, .int .i64 now, .int .i64 0, .bool false]] W fun e w' => e = .returned (.bool (okN (fun i => [id, 0, 0, now, 0].getD i 0) false)) ∧ Below W.heap.size W w') := fun W => implConnOk_any (fun i => [id, 0, 0, now, 0].getD i 0) false W
  rw [HO.out] at HC
  go_enter Tryd.func36, Tryd.ntmps36
  go_wp2_with fail
  refine (HC.out _).mono ?_
  rintro e w1 ⟨rfl, b1⟩
  have B := Lib.hid (bel_trans (bel_trans (bel_alloc w _) (bel_alloc _ _)) b1)
  have R0 : w1.heap[w.heap.size]? = some (.cells #[.int .i64 0, .int .i64 0, .int .i64 0, .int .i64 0, .int .i64 0, .bool false] 28 (0, 0)) := (b1.block _ (by simp; omega)).trans (((bel_alloc _ _).block _ (by simp)).trans (heap_alloc_new w _))
  have R1 : w1.heap[w.heap.size + 1]? = some (.cells #[.int .i64 id, .int .i64 0, .int .i64 0, .int .i64 now, .int .i64 0, .bool false] 28 (0, 0)) := (b1.block _ (by simp)).trans (by have := heap_alloc_new (w.alloc (.cells #[.int .i64 0, .int .i64 0, .int .i64 0, .int .i64 0, .int .i64 0, .bool false] 28)) (.cells #[.int .i64 id, .int .i64 0, .int .i64 0, .int .i64 now, .int .i64 0, .bool false] 28); rw [World.size_alloc] at this; exact this)
  clear b1
  have z0 : w1.cell? ⟨w.heap.size, 0, none⟩ = some (.int .i64 0) := cell_of_row _ _ 0 _ _ (0, 0) R0
  have z1 : w1.cell? ⟨w.heap.size, 1, none⟩ = some (.int .i64 0) := cell_of_row _ _ 1 _ _ (0, 0) R0
  have z2 : w1.cell? ⟨w.heap.size, 2, none⟩ = some (.int .i64 0) := cell_of_row _ _ 2 _ _ (0, 0) R0
  have z3 : w1.cell? ⟨w.heap.size, 3, none⟩ = some (.int .i64 0) := cell_of_row _ _ 3 _ _ (0, 0) R0
  have z4 : w1.cell? ⟨w.heap.size, 4, none⟩ = some (.int .i64 0) := cell_of_row _ _ 4 _ _ (0, 0) R0
  have z5 : w1.cell? ⟨w.heap.size, 5, none⟩ = some (.bool false) := cell_of_row _ _ 5 _ _ (0, 0) R0
  have zf : ∀ j, w1.frozen? ⟨w.heap.size, j, none⟩ = false := fun j => frozen_of_row _ _ j _ _ R0
  have y0 : w1.cell? ⟨w.heap.size + 1, 0, none⟩ = some (.int .i64 id) := cell_of_row _ _ 0 _ _ (0, 0) R1
  have y1 : w1.cell? ⟨w.heap.size + 1, 1, none⟩ = some (.int .i64 0) := cell_of_row _ _ 1 _ _ (0, 0) R1
  have y2 : w1.cell? ⟨w.heap.size + 1, 2, none⟩ = some (.int .i64 0) := cell_of_row _ _ 2 _ _ (0, 0) R1
  have y3 : w1.cell? ⟨w.heap.size + 1, 3, none⟩ = some (.int .i64 now) := cell_of_row _ _ 3 _ _ (0, 0) R1
  have y4 : w1.cell? ⟨w.heap.size + 1, 4, none⟩ = some (.int .i64 0) := cell_of_row _ _ 4 _ _ (0, 0) R1
  have y5 : w1.cell? ⟨w.heap.size + 1, 5, none⟩ = some (.bool false) := cell_of_row _ _ 5 _ _ (0, 0) R1
  clear R0 R1
  cases hb : newB id now
  · have Hb := Lib.hid hb
    clear hb
    go_wp2
    refine bodyPost_ret (v := .tuple #[.agg #[.int .i64 0, .int .i64 0, .int .i64 0, .int .i64 0, .int .i64 0, .bool false], .bool false]) (by simp [results, go_sem, z0, z1, z2, z3, z4, z5]) rfl (newEnd_no Hb.out (B.out.trans ?_))
    iterate 6 refine Below.setCell ?_ (by show w.heap.size ≤ w.heap.size; exact Nat.le_refl _) _
    exact Below.refl _ _
  · have Hb := Lib.hid hb
    clear hb
    go_wp2
    refine bodyPost_ret (v := .tuple #[.agg #[.int .i64 id, .int .i64 0, .int .i64 0, .int .i64 now, .int .i64 0, .bool false], .bool true]) (by simp [results, go_sem, z0, z1, z2, z3, z4, z5]) rfl (newEnd_yes Hb.out (B.out.trans ?_))
    iterate 6 refine Below.setCell ?_ (by show w.heap.size ≤ w.heap.size; exact Nat.le_refl _) _
    exact Below.refl _ _
end Go.Proofs.YtbmfleakldhabaaDoor.Kn
