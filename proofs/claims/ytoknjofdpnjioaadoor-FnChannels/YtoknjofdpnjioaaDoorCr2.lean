/- The states that can be reached; CanReach, the program's. -/
import Derived.Test.YtoknjofdpnjioaaDoorCr1
import Derived.Test.YtoknjofdpnjioaaDoorCr0
namespace Go.Proofs.YtoknjofdpnjioaaDoor.Cn
open Go.RowKit Go.Deep Base Rw

/-- Between two passes: the set in block s, the result's block r, the chart. -/
structure ReSt (b r s : Nat) (W w' : World) (l : List Bool) : Prop where
  set : BS w' s l
  res : BS w' r [false, false, false, false, false]
  old : Turns b (b + 1) W w'
  ch : Cht w' b

theorem ReSt.keep {b r s : Nat} {W w' w2 : World} {l : List Bool} (h : ReSt b r s W w' l) (hr : r ≠ b) (hs : s ≠ b) (ht : Turns b (b + 1) w' w2) (hc : Cht w2 b) : ReSt b r s W w2 l :=
  ⟨h.set.of_block (ht.block s h.set.lt (by omega)), h.res.of_block (ht.block r h.res.lt (by omega)), h.old.trans ht, hc⟩
theorem ReSt.alloc {b r s : Nat} {W w' : World} {l : List Bool} (h : ReSt b r s W w' l) (o : Obj) : ReSt b r s W (w'.alloc o) l :=
  ⟨h.set.of_block ((bel_alloc _ _).block _ h.set.lt), h.res.of_block ((bel_alloc _ _).block _ h.res.lt), h.old.trans (Turns.of_below (bel_alloc _ _)), h.ch.below (bel_alloc _ _)⟩

/-- How many are in the set. -/
def bitN : Option Value → Nat
  | some (.bool true) => 1
  | _ => 0
def sizeN (w : World) (s : Nat) : Nat := bitN (w.cell? ⟨s, 0, none⟩) + bitN (w.cell? ⟨s, 1, none⟩) + bitN (w.cell? ⟨s, 2, none⟩) + bitN (w.cell? ⟨s, 3, none⟩) + bitN (w.cell? ⟨s, 4, none⟩)

theorem start_any (b f : Nat) (hf : f < 5) (w : World) (hc : Cht w b) : ReSt b w.heap.size (w.heap.size + 1) w ((w.alloc (.cells #[.bool false, .bool false, .bool false, .bool false, .bool false] 63)).alloc (.cells ([.bool false, .bool false, .bool false, .bool false, .bool false].set f (.bool true)).toArray 63)) (widN (one f) 0) := by
  have hl := hc.lt
  refine ⟨?_, ?_, Turns.of_below (bel_trans (bel_alloc _ _) (bel_alloc _ _)), hc.below (bel_trans (bel_alloc _ _) (bel_alloc _ _))⟩
  · have e := heap_alloc_new (w.alloc (.cells #[.bool false, .bool false, .bool false, .bool false, .bool false] 63)) (.cells ([.bool false, .bool false, .bool false, .bool false, .bool false].set f (.bool true)).toArray 63)
    rw [World.size_alloc] at e
    refine ⟨by simp [widN, one], fun i hi => ?_, fun j => ?_⟩
    · rw [cell_of_row _ _ i _ _ (0, 0) e]
      simp only [widN, one]
      match f, hf, i, hi with
      | 0, _, 0, _ | 0, _, 1, _ | 0, _, 2, _ | 0, _, 3, _ | 0, _, 4, _ | 1, _, 0, _ | 1, _, 1, _ | 1, _, 2, _ | 1, _, 3, _ | 1, _, 4, _ | 2, _, 0, _ | 2, _, 1, _ | 2, _, 2, _ | 2, _, 3, _ | 2, _, 4, _ | 3, _, 0, _ | 3, _, 1, _ | 3, _, 2, _ | 3, _, 3, _ | 3, _, 4, _ | 4, _, 0, _ | 4, _, 1, _ | 4, _, 2, _ | 4, _, 3, _ | 4, _, 4, _ => rfl
    · exact frozen_of_row _ _ j _ _ e
  · exact (BS.new (w := w) (t := 63) false false false false false).of_block ((bel_alloc _ _).block _ (by simp))

theorem ReSt.next {b r s : Nat} {W w' : World} {l : List Bool} (h : ReSt b r s W w' l) (hrs : r ≠ s) (hbs : b ≠ s) (hs : W.heap.size ≤ s) (y0 y1 y2 y3 y4 : Bool) (o : Obj) :
    ReSt b r s W ((((((w'.setCell ⟨s, 0, none⟩ (.bool y0)).setCell ⟨s, 1, none⟩ (.bool y1)).setCell ⟨s, 2, none⟩ (.bool y2)).setCell ⟨s, 3, none⟩ (.bool y3)).setCell ⟨s, 4, none⟩ (.bool y4)).alloc o) [y0, y1, y2, y3, y4] := by
  refine ReSt.alloc ⟨h.set.put5 y0 y1 y2 y3 y4, h.res.of_block ?_, turnsPut5 h.old hs y0 y1 y2 y3 y4, h.ch.put5 hbs y0 y1 y2 y3 y4⟩ o
  exact (heap_setCell_other _ _ _ _ hrs).trans ((heap_setCell_other _ _ _ _ hrs).trans ((heap_setCell_other _ _ _ _ hrs).trans ((heap_setCell_other _ _ _ _ hrs).trans (heap_setCell_other _ _ _ _ hrs))))

def cnt : List Bool → Nat
  | [] => 0
  | x :: r => (if x then 1 else 0) + cnt r
theorem bitN_bool (x : Bool) : bitN (some (.bool x)) = if x then 1 else 0 := by cases x <;> rfl
theorem BS.sizeN {w : World} {s : Nat} {l : List Bool} (h : BS w s l) : Cn.sizeN w s = cnt l := by
  obtain ⟨x0, x1, x2, x3, x4, rfl, c0, c1, c2, c3, c4⟩ := h.cells
  simp only [Cn.sizeN, c0, c1, c2, c3, c4, bitN_bool, cnt]
  omega
theorem reach_more : ∀ f, f < 5 → ∀ i, i < 3 → (cnt (widN (one f) (i + 1)) ≤ 5 ∧ (wid (widN (one f) i) ≠ widN (one f) i → cnt (widN (one f) i) < cnt (widN (one f) (i + 1)))) := by decide

set_option maxRecDepth 100000 in
set_option maxHeartbeats 1600000 in
theorem reachable_any (b f : Nat) (hf : f < 5) (w : World) (hc : Cht w b) (hm : Mvs w) (hb1 : b ≠ 1) :
    Calls Tryd.prog 34 #[.pointer (some ⟨b, 0, none⟩), .int .i64 (f : Int)] w
      fun e w' => (∃ y0 y1 y2 y3 y4, e = .returned (.agg #[.bool y0, .bool y1, .bool y2, .bool y3, .bool y4]) ∧ reach f = [y0, y1, y2, y3, y4]) ∧ Cht w' b ∧ Turns b (b + 1) w w' := by
  have HM := Lib.hid hm
  have HC := Lib.hid hc
  have hbl : b < w.heap.size := hc.lt
  clear hm hc
  go_enter Tryd.func34, Tryd.ntmps34
  go_wp2
  refine wp_scope_jumps 0 (fun a' w' => ∃ (i : Nat) (u6 u7 u8 u9 u10 u11 u12 u13 u14 u15 u16 : Value), a' = { tmps := #[.pointer (some ⟨b, 0, none⟩), .int .i64 (f : Int), undef, undef, .pointer (some ⟨w.heap.size, 0, none⟩), .pointer (some ⟨w.heap.size + 1, 0, none⟩), u6, u7, u8, u9, u10, u11, u12, u13, u14, u15, u16], defers := [] } ∧ i < 4 ∧ ReSt b w.heap.size (w.heap.size + 1) w w' (widN (one f) i)) (fun _ w' => 5 - sizeN w' (w.heap.size + 1)) rfl ?_ ?_
  · go_wp2
    have hS0 : ReSt b w.heap.size (w.heap.size + 1) w ((w.alloc (.cells #[.bool false, .bool false, .bool false, .bool false, .bool false] 63)).alloc (.cells ([.bool false, .bool false, .bool false, .bool false, .bool false].set f (.bool true)).toArray 63)) (widN (one f) 0) := start_any b f hf w HC.out
    generalize (w.alloc (.cells #[.bool false, .bool false, .bool false, .bool false, .bool false] 63)).alloc (.cells ([.bool false, .bool false, .bool false, .bool false, .bool false].set f (.bool true)).toArray 63) = wr at hS0 ⊢
    obtain ⟨i, hi, hS⟩ : ∃ i, i < 4 ∧ ReSt b w.heap.size (w.heap.size + 1) w wr (widN (one f) i) := ⟨0, by omega, hS0⟩
    have HS := Lib.hid hS
    clear hS0 hS
    have Hm0 : Hid True := Lib.hid trivial
    go_step3
    obtain ⟨x0, x1, x2, x3, x4, hx, c0, c1, c2, c3, c4⟩ := HS.out.set.cells
    have Hx := Lib.hid hx
    clear hx
    go_wp2_with fail
    refine (wider_any b x0 x1 x2 x3 x4 _ HS.out.ch (HM.out.turn HS.out.old (by omega)) hb1).mono ?_
    rintro e w2 ⟨⟨y0, y1, y2, y3, y4, rfl, hy⟩, hc2, ht2⟩
    have Hy := Lib.hid hy
    replace HS := Lib.hid (HS.out.keep (by omega) (by omega) ht2 hc2)
    have z2 : w.heap.size + 1 < w2.heap.size := HS.out.set.lt
    clear hy hc2 ht2 c0 c1 c2 c3 c4
    obtain ⟨_, _, _, _, _, hx', c0, c1, c2, c3, c4⟩ := HS.out.set.cells
    rw [Hx.out] at hx'
    injection hx' with q0 hx'
    injection hx' with q1 hx'
    injection hx' with q2 hx'
    injection hx' with q3 hx'
    injection hx' with q4 _
    subst q0 q1 q2 q3 q4
    have heq := fun V => eq5_any y0 y1 y2 y3 y4 x0 x1 x2 x3 x4 V
    have f0 := HS.out.set.free 0
    have f1 := HS.out.set.free 1
    have f2 := HS.out.set.free 2
    have f3 := HS.out.set.free 3
    have f4 := HS.out.set.free 4
    by_cases hyx : [y0, y1, y2, y3, y4] = [x0, x1, x2, x3, x4]
    · have Hend : Hid (reach f = [x0, x1, x2, x3, x4]) := Lib.hid (by
        rcases reach_next f hf i hi with h | ⟨_, h⟩
        · rw [← h]; exact Hx.out
        · exact absurd (by rw [Hx.out, Hy.out, hyx]) h)
      rw [decide_eq_true hyx] at heq
      obtain ⟨r0, r1, r2, r3, r4, _, d0, d1, d2, d3, d4⟩ := HS.out.res.cells
      have g0 := HS.out.res.free 0
      have g1 := HS.out.res.free 1
      have g2 := HS.out.res.free 2
      have g3 := HS.out.res.free 3
      have g4 := HS.out.res.free 4
      have zz : w.heap.size < w2.heap.size := by omega
      go_wp2_with fail
      obtain ⟨_, _, _, _, _, ee, e0, e1, e2, e3, e4⟩ := ((HS.out.res.put5 x0 x1 x2 x3 x4).of_block ((bel_alloc _ (.cells #[.bool y0, .bool y1, .bool y2, .bool y3, .bool y4] 63)).block _ (HS.out.res.put5 x0 x1 x2 x3 x4).lt)).cells
      injection ee with q0 ee
      injection ee with q1 ee
      injection ee with q2 ee
      injection ee with q3 ee
      injection ee with q4 _
      subst q0 q1 q2 q3 q4
      have hT := (turnsPut5 HS.out.old (Nat.le_refl _) x0 x1 x2 x3 x4).trans (Turns.of_below (bel_alloc _ (.cells #[.bool y0, .bool y1, .bool y2, .bool y3, .bool y4] 63)))
      have hC := (HS.out.ch.put5 (m := w.heap.size) (by omega) x0 x1 x2 x3 x4).below (bel_alloc _ (.cells #[.bool y0, .bool y1, .bool y2, .bool y3, .bool y4] 63))
      generalize (((((w2.setCell ⟨w.heap.size, 0, none⟩ (.bool x0)).setCell ⟨w.heap.size, 1, none⟩ (.bool x1)).setCell ⟨w.heap.size, 2, none⟩ (.bool x2)).setCell ⟨w.heap.size, 3, none⟩ (.bool x3)).setCell ⟨w.heap.size, 4, none⟩ (.bool x4)).alloc (.cells #[.bool y0, .bool y1, .bool y2, .bool y3, .bool y4] 63) = wf at e0 e1 e2 e3 e4 hT hC ⊢
      simp only [Exit.jump]
      exact bodyPost_ret (v := .agg #[.bool x0, .bool x1, .bool x2, .bool x3, .bool x4]) (by simp [results, Tryd.results34, go_sem, e0, e1, e2, e3, e4]) rfl ⟨⟨x0, x1, x2, x3, x4, rfl, Hend.out⟩, hC, hT⟩
    · have Hnx : Hid (i < 3 ∧ widN (one f) (i + 1) = [y0, y1, y2, y3, y4]) := Lib.hid (by
        have e1 : wid (widN (one f) i) = [y0, y1, y2, y3, y4] := by rw [Hx.out, Hy.out]
        refine ⟨?_, e1⟩
        rcases reach_next f hf i hi with h | ⟨h, _⟩
        · exact absurd (by rw [← e1, ← Hx.out, h]; exact reach_stop f hf) hyx
        · exact h)
      rw [decide_eq_false hyx] at heq
      have HN : Hid (ReSt b w.heap.size (w.heap.size + 1) w ((((((w2.setCell ⟨w.heap.size + 1, 0, none⟩ (.bool y0)).setCell ⟨w.heap.size + 1, 1, none⟩ (.bool y1)).setCell ⟨w.heap.size + 1, 2, none⟩ (.bool y2)).setCell ⟨w.heap.size + 1, 3, none⟩ (.bool y3)).setCell ⟨w.heap.size + 1, 4, none⟩ (.bool y4)).alloc (.cells #[.bool y0, .bool y1, .bool y2, .bool y3, .bool y4] 63)) (widN (one f) (i + 1))) := Lib.hid (by
        rw [Hnx.out.2]
        exact HS.out.next (by omega) (by omega) (by omega) y0 y1 y2 y3 y4 _)
      go_wp2_with fail
      go_step3
      have hm1 := HN.out.set.sizeN
      have hm2 := (reach_more f hf i Hnx.out.1).1
      have hm3 := (reach_more f hf i Hnx.out.1).2 (fun h => hyx (by rw [← Hy.out, ← Hx.out]; exact h))
      first
      | exact ⟨rfl, i + 1, _, _, _, _, _, _, _, _, _, _, _, rfl, by have := Hnx.out.1; omega, HN.out⟩
      | exact ⟨rfl, ⟨i + 1, _, _, _, _, _, _, _, _, _, _, _, rfl, by have := Hnx.out.1; omega, HN.out⟩, by rw [hm1, Hm0.out]; omega⟩
    skip
  · rintro a' wr ⟨i, u6, u7, u8, u9, u10, u11, u12, u13, u14, u15, u16, rfl, hi, hS⟩
    have HS := Lib.hid hS
    have Hm0 := Lib.hid hS.set.sizeN
    clear hS
    obtain ⟨x0, x1, x2, x3, x4, hx, c0, c1, c2, c3, c4⟩ := HS.out.set.cells
    have Hx := Lib.hid hx
    clear hx
    go_wp2_with fail
    refine (wider_any b x0 x1 x2 x3 x4 _ HS.out.ch (HM.out.turn HS.out.old (by omega)) hb1).mono ?_
    rintro e w2 ⟨⟨y0, y1, y2, y3, y4, rfl, hy⟩, hc2, ht2⟩
    have Hy := Lib.hid hy
    replace HS := Lib.hid (HS.out.keep (by omega) (by omega) ht2 hc2)
    have z2 : w.heap.size + 1 < w2.heap.size := HS.out.set.lt
    clear hy hc2 ht2 c0 c1 c2 c3 c4
    obtain ⟨_, _, _, _, _, hx', c0, c1, c2, c3, c4⟩ := HS.out.set.cells
    rw [Hx.out] at hx'
    injection hx' with q0 hx'
    injection hx' with q1 hx'
    injection hx' with q2 hx'
    injection hx' with q3 hx'
    injection hx' with q4 _
    subst q0 q1 q2 q3 q4
    have heq := fun V => eq5_any y0 y1 y2 y3 y4 x0 x1 x2 x3 x4 V
    have f0 := HS.out.set.free 0
    have f1 := HS.out.set.free 1
    have f2 := HS.out.set.free 2
    have f3 := HS.out.set.free 3
    have f4 := HS.out.set.free 4
    by_cases hyx : [y0, y1, y2, y3, y4] = [x0, x1, x2, x3, x4]
    · have Hend : Hid (reach f = [x0, x1, x2, x3, x4]) := Lib.hid (by
        rcases reach_next f hf i hi with h | ⟨_, h⟩
        · rw [← h]; exact Hx.out
        · exact absurd (by rw [Hx.out, Hy.out, hyx]) h)
      rw [decide_eq_true hyx] at heq
      obtain ⟨r0, r1, r2, r3, r4, _, d0, d1, d2, d3, d4⟩ := HS.out.res.cells
      have g0 := HS.out.res.free 0
      have g1 := HS.out.res.free 1
      have g2 := HS.out.res.free 2
      have g3 := HS.out.res.free 3
      have g4 := HS.out.res.free 4
      have zz : w.heap.size < w2.heap.size := by omega
      go_wp2_with fail
      obtain ⟨_, _, _, _, _, ee, e0, e1, e2, e3, e4⟩ := ((HS.out.res.put5 x0 x1 x2 x3 x4).of_block ((bel_alloc _ (.cells #[.bool y0, .bool y1, .bool y2, .bool y3, .bool y4] 63)).block _ (HS.out.res.put5 x0 x1 x2 x3 x4).lt)).cells
      injection ee with q0 ee
      injection ee with q1 ee
      injection ee with q2 ee
      injection ee with q3 ee
      injection ee with q4 _
      subst q0 q1 q2 q3 q4
      have hT := (turnsPut5 HS.out.old (Nat.le_refl _) x0 x1 x2 x3 x4).trans (Turns.of_below (bel_alloc _ (.cells #[.bool y0, .bool y1, .bool y2, .bool y3, .bool y4] 63)))
      have hC := (HS.out.ch.put5 (m := w.heap.size) (by omega) x0 x1 x2 x3 x4).below (bel_alloc _ (.cells #[.bool y0, .bool y1, .bool y2, .bool y3, .bool y4] 63))
      generalize (((((w2.setCell ⟨w.heap.size, 0, none⟩ (.bool x0)).setCell ⟨w.heap.size, 1, none⟩ (.bool x1)).setCell ⟨w.heap.size, 2, none⟩ (.bool x2)).setCell ⟨w.heap.size, 3, none⟩ (.bool x3)).setCell ⟨w.heap.size, 4, none⟩ (.bool x4)).alloc (.cells #[.bool y0, .bool y1, .bool y2, .bool y3, .bool y4] 63) = wf at e0 e1 e2 e3 e4 hT hC ⊢
      simp only [Exit.jump]
      exact bodyPost_ret (v := .agg #[.bool x0, .bool x1, .bool x2, .bool x3, .bool x4]) (by simp [results, Tryd.results34, go_sem, e0, e1, e2, e3, e4]) rfl ⟨⟨x0, x1, x2, x3, x4, rfl, Hend.out⟩, hC, hT⟩
    · have Hnx : Hid (i < 3 ∧ widN (one f) (i + 1) = [y0, y1, y2, y3, y4]) := Lib.hid (by
        have e1 : wid (widN (one f) i) = [y0, y1, y2, y3, y4] := by rw [Hx.out, Hy.out]
        refine ⟨?_, e1⟩
        rcases reach_next f hf i hi with h | ⟨h, _⟩
        · exact absurd (by rw [← e1, ← Hx.out, h]; exact reach_stop f hf) hyx
        · exact h)
      rw [decide_eq_false hyx] at heq
      have HN : Hid (ReSt b w.heap.size (w.heap.size + 1) w ((((((w2.setCell ⟨w.heap.size + 1, 0, none⟩ (.bool y0)).setCell ⟨w.heap.size + 1, 1, none⟩ (.bool y1)).setCell ⟨w.heap.size + 1, 2, none⟩ (.bool y2)).setCell ⟨w.heap.size + 1, 3, none⟩ (.bool y3)).setCell ⟨w.heap.size + 1, 4, none⟩ (.bool y4)).alloc (.cells #[.bool y0, .bool y1, .bool y2, .bool y3, .bool y4] 63)) (widN (one f) (i + 1))) := Lib.hid (by
        rw [Hnx.out.2]
        exact HS.out.next (by omega) (by omega) (by omega) y0 y1 y2 y3 y4 _)
      go_wp2_with fail
      go_step3
      have hm1 := HN.out.set.sizeN
      have hm2 := (reach_more f hf i Hnx.out.1).1
      have hm3 := (reach_more f hf i Hnx.out.1).2 (fun h => hyx (by rw [← Hy.out, ← Hx.out]; exact h))
      first
      | exact ⟨rfl, i + 1, _, _, _, _, _, _, _, _, _, _, _, rfl, by have := Hnx.out.1; omega, HN.out⟩
      | exact ⟨rfl, ⟨i + 1, _, _, _, _, _, _, _, _, _, _, _, rfl, by have := Hnx.out.1; omega, HN.out⟩, by rw [hm1, Hm0.out]; omega⟩
    skip
end Go.Proofs.YtoknjofdpnjioaaDoor.Cn
