/- The law of QueueOk walked. -/
import Derived.Test.YtjbfmagedkmngaaImp8
import Derived.Test.YtjbfmagedkmngaaQueO
namespace Go.Proofs.Ytjbfmagedkmngaa.Que
open Go.RowKit Go.Deep Base

/-- The law's own argument in a box. -/
def LBk (w : World) (g : Nat) (v0 v1 v2 v3 v4 : Value) : Prop := w.heap[g]? = some (.cells #[v0, v1, v2, v3, v4] 42 (0, 0))
theorem LBk.cells {w : World} {g : Nat} {v0 v1 v2 v3 v4 : Value} (h : LBk w g v0 v1 v2 v3 v4) :
    w.cell? ⟨g, 0, none⟩ = some v0 ∧ w.cell? ⟨g, 1, none⟩ = some v1 ∧ w.cell? ⟨g, 2, none⟩ = some v2 ∧ w.cell? ⟨g, 3, none⟩ = some v3 ∧ w.cell? ⟨g, 4, none⟩ = some v4 := by
  have hc : ∀ o, w.cell? ⟨g, o, none⟩ = #[v0, v1, v2, v3, v4][o]? := fun o => cell_of_row _ _ o _ _ (0, 0) h
  refine ⟨?_, ?_, ?_, ?_, ?_⟩ <;> (rw [hc]; rfl)
theorem LBk.lt {w : World} {g : Nat} {v0 v1 v2 v3 v4 : Value} (h : LBk w g v0 v1 v2 v3 v4) : g < w.heap.size := (Array.getElem?_eq_some_iff.1 h).1
theorem LBk.of_block {w w' : World} {g : Nat} {v0 v1 v2 v3 v4 : Value} (h : LBk w g v0 v1 v2 v3 v4) (e : w'.heap[g]? = w.heap[g]?) : LBk w' g v0 v1 v2 v3 v4 := e.trans h
theorem LBk.below {w w' : World} {g : Nat} {v0 v1 v2 v3 v4 : Value} (h : LBk w g v0 v1 v2 v3 v4) (hb : Below w.heap.size w w') : LBk w' g v0 v1 v2 v3 v4 := h.of_block (hb.block g h.lt)
theorem LBk.alloc {w : World} {g : Nat} {v0 v1 v2 v3 v4 : Value} (h : LBk w g v0 v1 v2 v3 v4) (o : Obj) : LBk (w.alloc o) g v0 v1 v2 v3 v4 := h.below (bel_alloc w o)
theorem Blk5.below {w w' : World} {g : Nat} {v0 v1 v2 v3 v4 : Value} (h : Blk5 w g v0 v1 v2 v3 v4) (hb : Below w.heap.size w w') : Blk5 w' g v0 v1 v2 v3 v4 := h.of_block (hb.block g h.lt)

/-- At the laws' last comparison: the box of the kept copy and that of the argument. -/
def Two (x a : Nat) (x0 x1 x2 x3 x4 a0 a1 a2 a3 a4 : Value) (V : World) : Prop := Blk5 V x x0 x1 x2 x3 x4 ∧ LBk V a a0 a1 a2 a3 a4

set_option maxRecDepth 100000 in
set_option maxHeartbeats 1000000 in
theorem lawQueueOk (A : Option Addr) (n cap : Nat) (ss : List Sl) (f l r c : Int) (w : World) (hn : ss.length = n) (hm : n ≤ 9223372036854775807) (h : LSl w A ss) :
    Calls Try.prog 4 #[.agg #[.slice A n cap, .int .i64 f, .int .i64 l, .int .i64 r, .int .i64 c]] w fun e w' => e = .returned (.bool true) ∧ Below w.heap.size w w' := by
  have Hn := Lib.hid hn
  have HA := Lib.hid h
  clear h hn
  go_enter Try.func4, Try.ntmps4
  go_wp2_with fail
  refine (szQueue_any A n cap f l r c 1048576 _ hm (by omega) (by omega)).mono ?_
  rintro e w1 ⟨rfl, b1⟩
  have K1 : Hid (LBk w1 w.heap.size _ _ _ _ _) := LBk.below (heap_alloc_new w _) b1
  have B1 := Lib.hid (bel_trans (bel_alloc w _) b1)
  have z1 : w.heap.size < w1.heap.size := K1.out.lt
  clear b1
  by_cases hl : (1048576 : Int) < n
  · rw [if_pos hl]
    clear hl
    go_wp2
    go_ret
    exact ⟨rfl, B1.out⟩
  rw [if_neg hl]
  have hl0 : 0 ≤ (1048576 : Int) - n := by omega
  have hl1 : ¬ (1048576 : Int) - n < 0 := by omega
  have hm' : n ≤ 1048576 := by omega
  clear hl
  obtain ⟨a0, a1, a2, a3, a4⟩ := K1.out.cells
  go_wp2_with fail
  refine (toQueue_any A n cap ss f l r c w1 Hn.out hm' (HA.out.below B1.out)).mono ?_
  rintro e w2 ⟨A2, c2, rfl, v2, b2⟩
  have s12 := b2.size
  have K2 := Lib.hid (K1.out.below b2)
  have B2 := Lib.hid (bel_trans B1.out b2)
  have V2 := Lib.hid v2
  clear b2 v2 a0 a1 a2 a3 a4
  obtain ⟨a0, a1, a2, a3, a4⟩ := K2.out.cells
  go_wp2_with fail
  refine (specQueueOk_any A2 n c2 w1.heap.size w2.heap.size f l r c ss w2 Hn.out hm' V2.out (Nat.le_refl _)).mono ?_
  rintro e w3 ⟨rfl, b3⟩
  have s23 := b3.size
  have K3 := Lib.hid (K2.out.below b3)
  have B3 := Lib.hid (bel_trans B2.out b3)
  clear b3 a0 a1 a2 a3 a4
  obtain ⟨ok, hok⟩ : ∃ ok, okQ ss f l r c = ok := ⟨_, rfl⟩
  rw [hok]
  have Hok := Lib.hid hok
  clear hok
  obtain ⟨a0, a1, a2, a3, a4⟩ := K3.out.cells
  go_wp2_with fail
  refine (toQueue_any A n cap ss f l r c w3 Hn.out hm' (HA.out.below B3.out)).mono ?_
  rintro e w4 ⟨A4, c4, rfl, v4, b4⟩
  have s34 := b4.size
  have K4 := Lib.hid (K3.out.below b4)
  have B4 := Lib.hid (bel_trans B3.out b4)
  have V4 := Lib.hid v4
  clear b4 v4 a0 a1 a2 a3 a4
  obtain ⟨a0, a1, a2, a3, a4⟩ := K4.out.cells
  go_wp2_with fail
  refine (queueOk_any A4 n c4 ss f l r c w3.heap.size w4.heap.size _ Hn.out (V4.out.below (bel_alloc w4 _) (Nat.le_refl _)) (by simp)).mono ?_
  rintro e w5 ⟨rfl, b5⟩
  have s45 : w4.heap.size < w5.heap.size := by have := b5.size; simp at this; omega
  have K5 := Lib.hid ((K4.out.alloc _).below b5)
  have X5 : Hid (Blk5 w5 w4.heap.size _ _ _ _ _) := Blk5.below (heap_alloc_new w4 _) b5
  have B5 := Lib.hid (bel_trans (bel_trans B4.out (bel_alloc w4 _)) b5)
  have V5 := Lib.hid ((V4.out.below (bel_alloc w4 _) (Nat.le_refl _)).below b5 (by simp))
  clear b5 a0 a1 a2 a3 a4 V4 V2
  rw [Hok.out]
  go_wp2_with fail
  have HT : Hid (Two w4.heap.size w.heap.size (.slice A4 n c4) (.int .i64 f) (.int .i64 l) (.int .i64 r) (.int .i64 c) (.slice A n cap) (.int .i64 f) (.int .i64 l) (.int .i64 r) (.int .i64 c) w5.drew) := ⟨X5.out, K5.out⟩
  refine wp_region_held_drew (S := Two w4.heap.size w.heap.size (.slice A4 n c4) (.int .i64 f) (.int .i64 l) (.int .i64 r) (.int .i64 c) (.slice A n cap) (.int .i64 f) (.int .i64 l) (.int .i64 r) (.int .i64 c)) (by kernel_rfl) HT.out (fun _ => ?_)
  refine wpAnyH_take (i := 0) (v := .agg #[.slice A4 n c4, .int .i64 f, .int .i64 l, .int .i64 r, .int .i64 c]) rfl (by kernel_rfl) (by kernel_rfl) (by kernel_rfl) (fun _ _ _ h => h) (.inl ⟨rfl, fun V hS => ?y0⟩) HT.out ?_
  case y0 =>
    obtain ⟨s0, s1, s2, s3, s4, s5⟩ := hS.1.cells
    clear hS s5
    go_simp
  go_simp
  refine wpAnyH_take (i := 1) (v := .agg #[.slice A n cap, .int .i64 f, .int .i64 l, .int .i64 r, .int .i64 c]) rfl (by kernel_rfl) (by kernel_rfl) (by kernel_rfl) (fun _ _ _ h => h) (.inl ⟨rfl, fun V hS => ?y1⟩) HT.out ?_
  case y1 =>
    obtain ⟨s0, s1, s2, s3, s4⟩ := hS.2.cells
    clear hS
    go_simp
  go_simp
  refine wpAnyH_ready (rs := [2]) (by kernel_rfl) (by simp) (AllReadyH.cons rfl (fun K hK => ?_) AllReadyH.nil)
  go_simp
  refine (toQueue_any A n cap ss f l r c w5.drew Hn.out hm' (HA.out.below B5.out.drew)).mono ?_
  rintro e w6 ⟨A6, c6, rfl, v6, b6⟩
  have s56 := b6.size
  have V6 := Lib.hid v6
  have V5' := Lib.hid (SlV.below (w := w5.drew) V5.out b6 (show w4.heap.size ≤ w5.heap.size by omega))
  have B6 := Lib.hid (bel_trans B5.out (bel_of_drew b6))
  have HT6 : Hid (Two w4.heap.size w.heap.size (.slice A4 n c4) (.int .i64 f) (.int .i64 l) (.int .i64 r) (.int .i64 c) (.slice A n cap) (.int .i64 f) (.int .i64 l) (.int .i64 r) (.int .i64 c) w6) := ⟨HT.out.1.below b6, HT.out.2.below b6⟩
  have s56' : w5.heap.size ≤ w6.heap.size := s56
  clear b6 v6 s56
  refine hK.out _ _ HT6.out (fun _ => ?_)
  go_simp
  refine wpAnyH_ready (rs := [3]) (by kernel_rfl) (by simp) (AllReadyH.cons rfl (fun K hK => ?_) AllReadyH.nil)
  go_simp
  refine (eqQueue_same A4 A6 n c4 c6 _ _ _ _ ss f l r c w6 Hn.out hm' V5'.out V6.out (by omega) (Nat.le_refl _)).mono ?_
  rintro e w7 ⟨rfl, b7⟩
  have B7 := Lib.hid (bel_trans B6.out b7)
  have HT7 : Hid (Two w4.heap.size w.heap.size (.slice A4 n c4) (.int .i64 f) (.int .i64 l) (.int .i64 r) (.int .i64 c) (.slice A n cap) (.int .i64 f) (.int .i64 l) (.int .i64 r) (.int .i64 c) w7) := ⟨HT6.out.1.below b7, HT6.out.2.below b7⟩
  clear b7
  refine hK.out _ _ HT7.out (fun _ => ?_)
  go_simp
  refine wpAnyH_ready (rs := [4]) (by kernel_rfl) (by simp) (AllReadyH.cons rfl (fun K hK => ?_) AllReadyH.nil)
  go_simp
  refine hK.out _ _ HT7.out (fun _ => ?_)
  refine wpAnyH_done (by kernel_rfl) ?_ _
  go_wp2
  go_ret
  exact ⟨rfl, B7.out⟩
end Go.Proofs.Ytjbfmagedkmngaa.Que
