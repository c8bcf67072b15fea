/- What the program's HeapOk answers; the law of HeapOk walked. -/
import Derived.Test.YtnmhdbfemobhkaaHp8
import Derived.Test.YtnmhdbfemobhkaaHpO
namespace Go.Proofs.Ytnmhdbfemobhkaa.Hp
open Go.RowKit Go.Deep Base

set_option maxRecDepth 100000 in
set_option maxHeartbeats 1000000 in
theorem implHeapOk_any (A : Option Addr) (n cap lo hi : Nat) (ds : List Du) (q : Int) (w : World) (hn : ds.length = n) (hm : n ≤ 1048576) (h : DV w lo hi A ds) (hs : hi ≤ w.heap.size) :
    Calls Try.prog 25 #[.agg #[.slice A n cap, .int .i64 q]] w fun e w' => e = .returned (.bool (okH ds q)) ∧ Below w.heap.size w w' := by
  have Hn := Lib.hid hn
  have HI := Lib.hid h
  clear hn h
  go_enter Try.func25, Try.ntmps25
  go_wp2_with fail
  refine (treeOf_any A n cap lo hi ds q _ Hn.out hm (HI.out.below (bel_alloc w _) hs) (by simp; omega)).mono ?_
  rintro e w1 ⟨A1, c1, rfl, _, b1⟩
  have B1 := Lib.hid (bel_trans (bel_alloc w _) b1)
  clear b1
  go_wp2
  go_ret
  exact ⟨rfl, bel_trans B1.out (bel_alloc _ _)⟩

/-- The law's own argument in a box. -/
def LBk (w : World) (g : Nat) (v0 v1 : Value) : Prop := w.heap[g]? = some (.cells #[v0, v1] 44 (0, 0))
theorem LBk.cells {w : World} {g : Nat} {v0 v1 : Value} (h : LBk w g v0 v1) : w.cell? ⟨g, 0, none⟩ = some v0 ∧ w.cell? ⟨g, 1, none⟩ = some v1 := by
  have hc : ∀ o, w.cell? ⟨g, o, none⟩ = #[v0, v1][o]? := fun o => cell_of_row _ _ o _ _ (0, 0) h
  refine ⟨?_, ?_⟩ <;> (rw [hc]; rfl)
theorem LBk.lt {w : World} {g : Nat} {v0 v1 : Value} (h : LBk w g v0 v1) : g < w.heap.size := (Array.getElem?_eq_some_iff.1 h).1
theorem LBk.of_block {w w' : World} {g : Nat} {v0 v1 : Value} (h : LBk w g v0 v1) (e : w'.heap[g]? = w.heap[g]?) : LBk w' g v0 v1 := e.trans h
theorem LBk.below {w w' : World} {g : Nat} {v0 v1 : Value} (h : LBk w g v0 v1) (hb : Below w.heap.size w w') : LBk w' g v0 v1 := h.of_block (hb.block g h.lt)
theorem LBk.alloc {w : World} {g : Nat} {v0 v1 : Value} (h : LBk w g v0 v1) (o : Obj) : LBk (w.alloc o) g v0 v1 := h.below (bel_alloc w o)

/-- At the laws' last comparison: the box of the kept copy and that of the argument. -/
def Pair (x a : Nat) (x0 x1 a0 a1 : Value) (V : World) : Prop := Blk2 V x x0 x1 ∧ LBk V a a0 a1

set_option maxRecDepth 100000 in
set_option maxHeartbeats 1000000 in
theorem lawHeapOk (A : Option Addr) (n cap : Nat) (ds : List Du) (q : Int) (w : World) (hn : ds.length = n) (hm : n ≤ 9223372036854775807) (h : LD w A ds) :
    Calls Try.prog 4 #[.agg #[.slice A n cap, .int .i64 q]] w fun e w' => e = .returned (.bool true) ∧ Below w.heap.size w w' := by
  have Hn := Lib.hid hn
  have HA := Lib.hid h
  clear h hn
  go_enter Try.func4, Try.ntmps4
  go_wp2_with fail
  refine (szHeap_any A n cap q 1048576 _ hm (by omega) (by omega)).mono ?_
  rintro e w1 ⟨rfl, b1⟩
  have K1 : Hid (LBk w1 w.heap.size _ _) := LBk.below (heap_alloc_new w _) b1
  have B1 := Lib.hid (bel_trans (bel_alloc w _) b1)
  have z1 : w.heap.size < w1.heap.size := K1.out.lt
  clear b1
  by_cases hl : (1048576 : Int) < n
  · rw [if_pos hl]
    clear hl
    go_wp2
    go_ret
    exact ⟨rfl, B1.out⟩
  rw [if_neg hl]
  have hl0 : 0 ≤ (1048576 : Int) - n := by omega
  have hl1 : ¬ (1048576 : Int) - n < 0 := by omega
  have hm' : n ≤ 1048576 := by omega
  clear hl
  obtain ⟨a0, a1⟩ := K1.out.cells
  go_wp2_with fail
  refine (toHeap_any A n cap ds q w1 Hn.out hm' (HA.out.below B1.out)).mono ?_
  rintro e w2 ⟨A2, c2, rfl, v2, b2⟩
  have s12 := b2.size
  have K2 := Lib.hid (K1.out.below b2)
  have B2 := Lib.hid (bel_trans B1.out b2)
  have V2 := Lib.hid v2
  clear b2 v2 a0 a1
  obtain ⟨a0, a1⟩ := K2.out.cells
  go_wp2_with fail
  refine (specHeapOk_any A2 n c2 w1.heap.size w2.heap.size ds q w2 Hn.out hm' V2.out (Nat.le_refl _)).mono ?_
  rintro e w3 ⟨rfl, b3⟩
  have s23 := b3.size
  have K3 := Lib.hid (K2.out.below b3)
  have B3 := Lib.hid (bel_trans B2.out b3)
  clear b3 a0 a1
  obtain ⟨ok, hok⟩ : ∃ ok, okH ds q = ok := ⟨_, rfl⟩
  rw [hok]
  have Hok := Lib.hid hok
  clear hok
  obtain ⟨a0, a1⟩ := K3.out.cells
  go_wp2_with fail
  refine (toHeap_any A n cap ds q w3 Hn.out hm' (HA.out.below B3.out)).mono ?_
  rintro e w4 ⟨A4, c4, rfl, v4, b4⟩
  have s34 := b4.size
  have K4 := Lib.hid (K3.out.below b4)
  have B4 := Lib.hid (bel_trans B3.out b4)
  have V4 := Lib.hid v4
  clear b4 v4 a0 a1
  obtain ⟨a0, a1⟩ := K4.out.cells
  go_wp2_with fail
  refine (implHeapOk_any A4 n c4 w3.heap.size w4.heap.size ds q _ Hn.out hm' (V4.out.below (bel_alloc w4 _) (Nat.le_refl _)) (by simp)).mono ?_
  rintro e w5 ⟨rfl, b5⟩
  have s45 : w4.heap.size < w5.heap.size := by have := b5.size; simp at this; omega
  have K5 := Lib.hid ((K4.out.alloc _).below b5)
  have X5 : Hid (Blk2 w5 w4.heap.size _ _) := Blk2.below (heap_alloc_new w4 _) b5
  have B5 := Lib.hid (bel_trans (bel_trans B4.out (bel_alloc w4 _)) b5)
  have V5 := Lib.hid ((V4.out.below (bel_alloc w4 _) (Nat.le_refl _)).below b5 (by simp))
  clear b5 a0 a1 V4 V2
  rw [Hok.out]
  go_wp2_with fail
  have HT : Hid (Pair w4.heap.size w.heap.size (.slice A4 n c4) (.int .i64 q) (.slice A n cap) (.int .i64 q) w5.drew) := ⟨X5.out, K5.out⟩
  refine wp_region_held_drew (S := Pair w4.heap.size w.heap.size (.slice A4 n c4) (.int .i64 q) (.slice A n cap) (.int .i64 q)) (by kernel_rfl) HT.out (fun _ => ?_)
  refine wpAnyH_take (i := 0) (v := .agg #[.slice A4 n c4, .int .i64 q]) rfl (by kernel_rfl) (by kernel_rfl) (by kernel_rfl) (fun _ _ _ h => h) (.inl ⟨rfl, fun V hS => ?y0⟩) HT.out ?_
  case y0 =>
    obtain ⟨s0, s1, s5⟩ := hS.1.cells
    clear hS s5
    go_simp
  go_simp
  refine wpAnyH_take (i := 1) (v := .agg #[.slice A n cap, .int .i64 q]) rfl (by kernel_rfl) (by kernel_rfl) (by kernel_rfl) (fun _ _ _ h => h) (.inl ⟨rfl, fun V hS => ?y1⟩) HT.out ?_
  case y1 =>
    obtain ⟨s0, s1⟩ := hS.2.cells
    clear hS
    go_simp
  go_simp
  refine wpAnyH_ready (rs := [2]) (by kernel_rfl) (by simp) (AllReadyH.cons rfl (fun K hK => ?_) AllReadyH.nil)
  go_simp
  refine (toHeap_any A n cap ds q w5.drew Hn.out hm' (HA.out.below B5.out.drew)).mono ?_
  rintro e w6 ⟨A6, c6, rfl, v6, b6⟩
  have s56 := b6.size
  have V6 := Lib.hid v6
  have V5' := Lib.hid (DV.below (w := w5.drew) V5.out b6 (show w4.heap.size ≤ w5.heap.size by omega))
  have B6 := Lib.hid (bel_trans B5.out (bel_of_drew b6))
  have HT6 : Hid (Pair w4.heap.size w.heap.size (.slice A4 n c4) (.int .i64 q) (.slice A n cap) (.int .i64 q) w6) := ⟨HT.out.1.below b6, HT.out.2.below b6⟩
  have s56' : w5.heap.size ≤ w6.heap.size := s56
  clear b6 v6 s56
  refine hK.out _ _ HT6.out (fun _ => ?_)
  go_simp
  refine wpAnyH_ready (rs := [3]) (by kernel_rfl) (by simp) (AllReadyH.cons rfl (fun K hK => ?_) AllReadyH.nil)
  go_simp
  refine (eqHeap_same A4 A6 n c4 c6 _ _ _ _ ds q w6 Hn.out hm' V5'.out V6.out (by omega) (Nat.le_refl _)).mono ?_
  rintro e w7 ⟨rfl, b7⟩
  have B7 := Lib.hid (bel_trans B6.out b7)
  have HT7 : Hid (Pair w4.heap.size w.heap.size (.slice A4 n c4) (.int .i64 q) (.slice A n cap) (.int .i64 q) w7) := ⟨HT6.out.1.below b7, HT6.out.2.below b7⟩
  clear b7
  refine hK.out _ _ HT7.out (fun _ => ?_)
  go_simp
  refine wpAnyH_ready (rs := [4]) (by kernel_rfl) (by simp) (AllReadyH.cons rfl (fun K hK => ?_) AllReadyH.nil)
  go_simp
  refine hK.out _ _ HT7.out (fun _ => ?_)
  refine wpAnyH_done (by kernel_rfl) ?_ _
  go_wp2
  go_ret
  exact ⟨rfl, B7.out⟩
end Go.Proofs.Ytnmhdbfemobhkaa.Hp
