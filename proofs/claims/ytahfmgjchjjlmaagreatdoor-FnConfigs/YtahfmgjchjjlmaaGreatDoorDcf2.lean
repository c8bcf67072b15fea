/- A configuration with one field bent; the whole draw of a configuration. -/
import Derived.Test.YtahfmgjchjjlmaaGreatDoorDcf1
import Derived.StillTailTactics
namespace Go.Proofs.YtahfmgjchjjlmaaGreatDoor.Draw
open Go.RowKit Base

set_option maxRecDepth 100000 in
set_option maxHeartbeats 2000000 in
theorem values_any (c : Nat → Int) (w : World) :
    Calls Tryz.prog 17 #[.agg #[.int .i64 (c 0), .int .i64 (c 1), .int .i64 (c 2), .int .i64 (c 3), .int .i64 (c 4), .int .i64 (c 5), .int .i64 (c 6), .int .i64 (c 7), .int .i64 (c 8), .int .i64 (c 9), .int .i64 (c 10), .int .i64 (c 11), .int .i64 (c 12), .int .i64 (c 13)]] w fun e w' => ∃ b, e = .returned (.slice (some ⟨b, 0, none⟩) 14 14) ∧ w'.heap[b]? = some (.cells #[.int .i64 (c 0), .int .i64 (c 1), .int .i64 (c 2), .int .i64 (c 3), .int .i64 (c 4), .int .i64 (c 5), .int .i64 (c 6), .int .i64 (c 7), .int .i64 (c 8), .int .i64 (c 9), .int .i64 (c 10), .int .i64 (c 11), .int .i64 (c 12), .int .i64 (c 13)] 3 (0, 0)) ∧ w.heap.size ≤ b ∧ Below w.heap.size w w' := by
  go_enter Tryz.func17, Tryz.ntmps17
  go_wp2
  go_ret
  exact ⟨w.heap.size + 1, rfl, by have h := heap_alloc_new (w.alloc (.cells #[.int .i64 (c 0), .int .i64 (c 1), .int .i64 (c 2), .int .i64 (c 3), .int .i64 (c 4), .int .i64 (c 5), .int .i64 (c 6), .int .i64 (c 7), .int .i64 (c 8), .int .i64 (c 9), .int .i64 (c 10), .int .i64 (c 11), .int .i64 (c 12), .int .i64 (c 13)] 25)) (.cells #[.int .i64 (c 0), .int .i64 (c 1), .int .i64 (c 2), .int .i64 (c 3), .int .i64 (c 4), .int .i64 (c 5), .int .i64 (c 6), .int .i64 (c 7), .int .i64 (c 8), .int .i64 (c 9), .int .i64 (c 10), .int .i64 (c 11), .int .i64 (c 12), .int .i64 (c 13)] 3); rwa [World.size_alloc] at h, by omega, bel_trans (bel_alloc _ _) (bel_alloc _ _)⟩

set_option maxRecDepth 100000 in
set_option maxHeartbeats 2000000 in
theorem of_any (c : Nat → Int) (b : Nat) (w : World) (h : w.heap[b]? = some (.cells #[.int .i64 (c 0), .int .i64 (c 1), .int .i64 (c 2), .int .i64 (c 3), .int .i64 (c 4), .int .i64 (c 5), .int .i64 (c 6), .int .i64 (c 7), .int .i64 (c 8), .int .i64 (c 9), .int .i64 (c 10), .int .i64 (c 11), .int .i64 (c 12), .int .i64 (c 13)] 3 (0, 0))) :
    Calls Tryz.prog 40 #[.slice (some ⟨b, 0, none⟩) 14 14] w fun e w' => e = .returned (.agg #[.int .i64 (c 0), .int .i64 (c 1), .int .i64 (c 2), .int .i64 (c 3), .int .i64 (c 4), .int .i64 (c 5), .int .i64 (c 6), .int .i64 (c 7), .int .i64 (c 8), .int .i64 (c 9), .int .i64 (c 10), .int .i64 (c 11), .int .i64 (c 12), .int .i64 (c 13)]) ∧ Below w.heap.size w w' := by
  have hlt : b < w.heap.size := by
    rcases Nat.lt_or_ge b w.heap.size with h' | h'
    · exact h'
    · rw [Array.getElem?_eq_none h'] at h
      cases h
  have h1 : (w.alloc (.cells #[.int .i64 0, .int .i64 0, .int .i64 0, .int .i64 0, .int .i64 0, .int .i64 0, .int .i64 0, .int .i64 0, .int .i64 0, .int .i64 0, .int .i64 0, .int .i64 0, .int .i64 0, .int .i64 0] 25)).heap[b]? = some (.cells #[.int .i64 (c 0), .int .i64 (c 1), .int .i64 (c 2), .int .i64 (c 3), .int .i64 (c 4), .int .i64 (c 5), .int .i64 (c 6), .int .i64 (c 7), .int .i64 (c 8), .int .i64 (c 9), .int .i64 (c 10), .int .i64 (c 11), .int .i64 (c 12), .int .i64 (c 13)] 3 (0, 0)) := ((bel_alloc w _).block _ hlt).trans h
  have h2 : (w.alloc (.cells #[.int .i64 0, .int .i64 0, .int .i64 0, .int .i64 0, .int .i64 0, .int .i64 0, .int .i64 0, .int .i64 0, .int .i64 0, .int .i64 0, .int .i64 0, .int .i64 0, .int .i64 0, .int .i64 0] 25)).heap[w.heap.size]? = some (.cells #[.int .i64 0, .int .i64 0, .int .i64 0, .int .i64 0, .int .i64 0, .int .i64 0, .int .i64 0, .int .i64 0, .int .i64 0, .int .i64 0, .int .i64 0, .int .i64 0, .int .i64 0, .int .i64 0] 25 (0, 0)) := heap_alloc_new w _
  have hB := bel_alloc w (.cells #[.int .i64 0, .int .i64 0, .int .i64 0, .int .i64 0, .int .i64 0, .int .i64 0, .int .i64 0, .int .i64 0, .int .i64 0, .int .i64 0, .int .i64 0, .int .i64 0, .int .i64 0, .int .i64 0] 25)
  clear h
  go_enter Tryz.func40, Tryz.ntmps40
  go_wp2
  obtain ⟨W, hW⟩ : ∃ W, w.alloc (.cells #[.int .i64 0, .int .i64 0, .int .i64 0, .int .i64 0, .int .i64 0, .int .i64 0, .int .i64 0, .int .i64 0, .int .i64 0, .int .i64 0, .int .i64 0, .int .i64 0, .int .i64 0, .int .i64 0] 25) = W := ⟨_, rfl⟩
  rw [hW] at h1 h2 hB ⊢
  clear hW
  have x0 : W.cell? ⟨b, 0, none⟩ = some (.int .i64 (c 0)) := cell_of_row _ _ 0 _ _ (0, 0) h1
  have x1 : W.cell? ⟨b, 1, none⟩ = some (.int .i64 (c 1)) := cell_of_row _ _ 1 _ _ (0, 0) h1
  have x2 : W.cell? ⟨b, 2, none⟩ = some (.int .i64 (c 2)) := cell_of_row _ _ 2 _ _ (0, 0) h1
  have x3 : W.cell? ⟨b, 3, none⟩ = some (.int .i64 (c 3)) := cell_of_row _ _ 3 _ _ (0, 0) h1
  have x4 : W.cell? ⟨b, 4, none⟩ = some (.int .i64 (c 4)) := cell_of_row _ _ 4 _ _ (0, 0) h1
  have x5 : W.cell? ⟨b, 5, none⟩ = some (.int .i64 (c 5)) := cell_of_row _ _ 5 _ _ (0, 0) h1
  have x6 : W.cell? ⟨b, 6, none⟩ = some (.int .i64 (c 6)) := cell_of_row _ _ 6 _ _ (0, 0) h1
  have x7 : W.cell? ⟨b, 7, none⟩ = some (.int .i64 (c 7)) := cell_of_row _ _ 7 _ _ (0, 0) h1
  have x8 : W.cell? ⟨b, 8, none⟩ = some (.int .i64 (c 8)) := cell_of_row _ _ 8 _ _ (0, 0) h1
  have x9 : W.cell? ⟨b, 9, none⟩ = some (.int .i64 (c 9)) := cell_of_row _ _ 9 _ _ (0, 0) h1
  have x10 : W.cell? ⟨b, 10, none⟩ = some (.int .i64 (c 10)) := cell_of_row _ _ 10 _ _ (0, 0) h1
  have x11 : W.cell? ⟨b, 11, none⟩ = some (.int .i64 (c 11)) := cell_of_row _ _ 11 _ _ (0, 0) h1
  have x12 : W.cell? ⟨b, 12, none⟩ = some (.int .i64 (c 12)) := cell_of_row _ _ 12 _ _ (0, 0) h1
  have x13 : W.cell? ⟨b, 13, none⟩ = some (.int .i64 (c 13)) := cell_of_row _ _ 13 _ _ (0, 0) h1
  have HB := Lib.hid hB
  have H2 := Lib.hid h2
  clear h1 h2 hB
  go_still_tail 42, (by kernel_rfl)
  change wpList _ _ _ _ _ W.drew
  clear x0 x1 x2 x3 x4 x5 x6 x7 x8 x9 x10 x11 x12 x13
  replace HB : Hid (Below w.heap.size w W.drew) := HB.out.drew
  replace H2 : Hid (W.drew.heap[w.heap.size]? = _) := H2.out
  obtain ⟨V, hV⟩ : ∃ V, W.drew = V := ⟨_, rfl⟩
  rw [hV] at HB H2 ⊢
  clear hV
  have hcy : ∀ o, V.cell? ⟨w.heap.size, o, none⟩ = (#[.int .i64 0, .int .i64 0, .int .i64 0, .int .i64 0, .int .i64 0, .int .i64 0, .int .i64 0, .int .i64 0, .int .i64 0, .int .i64 0, .int .i64 0, .int .i64 0, .int .i64 0, .int .i64 0] : Array Value)[o]? := fun o => cell_of_row _ _ o _ _ (0, 0) H2.out
  have yf : ∀ j, V.frozen? ⟨w.heap.size, j, none⟩ = false := fun j => frozen_of_row _ _ j _ _ H2.out
  have y0 : V.cell? ⟨w.heap.size, 0, none⟩ = some (.int .i64 0) := hcy 0
  have y1 : V.cell? ⟨w.heap.size, 1, none⟩ = some (.int .i64 0) := hcy 1
  have y2 : V.cell? ⟨w.heap.size, 2, none⟩ = some (.int .i64 0) := hcy 2
  have y3 : V.cell? ⟨w.heap.size, 3, none⟩ = some (.int .i64 0) := hcy 3
  have y4 : V.cell? ⟨w.heap.size, 4, none⟩ = some (.int .i64 0) := hcy 4
  have y5 : V.cell? ⟨w.heap.size, 5, none⟩ = some (.int .i64 0) := hcy 5
  have y6 : V.cell? ⟨w.heap.size, 6, none⟩ = some (.int .i64 0) := hcy 6
  have y7 : V.cell? ⟨w.heap.size, 7, none⟩ = some (.int .i64 0) := hcy 7
  have y8 : V.cell? ⟨w.heap.size, 8, none⟩ = some (.int .i64 0) := hcy 8
  have y9 : V.cell? ⟨w.heap.size, 9, none⟩ = some (.int .i64 0) := hcy 9
  have y10 : V.cell? ⟨w.heap.size, 10, none⟩ = some (.int .i64 0) := hcy 10
  have y11 : V.cell? ⟨w.heap.size, 11, none⟩ = some (.int .i64 0) := hcy 11
  have y12 : V.cell? ⟨w.heap.size, 12, none⟩ = some (.int .i64 0) := hcy 12
  have y13 : V.cell? ⟨w.heap.size, 13, none⟩ = some (.int .i64 0) := hcy 13
  clear hcy
  go_wp2
  refine bodyPost_ret (v := .agg #[.int .i64 (c 0), .int .i64 (c 1), .int .i64 (c 2), .int .i64 (c 3), .int .i64 (c 4), .int .i64 (c 5), .int .i64 (c 6), .int .i64 (c 7), .int .i64 (c 8), .int .i64 (c 9), .int .i64 (c 10), .int .i64 (c 11), .int .i64 (c 12), .int .i64 (c 13)]) (by simp [results, Tryz.results40, go_sem, y0, y1, y2, y3, y4, y5, y6, y7, y8, y9, y10, y11, y12, y13]) rfl ⟨rfl, ?_⟩
  iterate 14 refine Below.setCell ?_ (by show w.heap.size ≤ w.heap.size; omega) _
  exact HB.out

theorem upd_row (c : Nat → Int) (i : Nat) (hi : i < 14) (v : Int) : (#[.int .i64 (c 0), .int .i64 (c 1), .int .i64 (c 2), .int .i64 (c 3), .int .i64 (c 4), .int .i64 (c 5), .int .i64 (c 6), .int .i64 (c 7), .int .i64 (c 8), .int .i64 (c 9), .int .i64 (c 10), .int .i64 (c 11), .int .i64 (c 12), .int .i64 (c 13)] : Array Value).setIfInBounds i (.int .i64 v) = (let d := upd c i v; #[.int .i64 (d 0), .int .i64 (d 1), .int .i64 (d 2), .int .i64 (d 3), .int .i64 (d 4), .int .i64 (d 5), .int .i64 (d 6), .int .i64 (d 7), .int .i64 (d 8), .int .i64 (d 9), .int .i64 (d 10), .int .i64 (d 11), .int .i64 (d 12), .int .i64 (d 13)]) := by
  match i, hi with
  | 0, _ | 1, _ | 2, _ | 3, _ | 4, _ | 5, _ | 6, _ | 7, _ | 8, _ | 9, _ | 10, _ | 11, _ | 12, _ | 13, _ => rfl

theorem row_at {W : World} {b : Nat} {c : Nat → Int} {t : TypeId} (h : W.heap[b]? = some (.cells #[.int .i64 (c 0), .int .i64 (c 1), .int .i64 (c 2), .int .i64 (c 3), .int .i64 (c 4), .int .i64 (c 5), .int .i64 (c 6), .int .i64 (c 7), .int .i64 (c 8), .int .i64 (c 9), .int .i64 (c 10), .int .i64 (c 11), .int .i64 (c 12), .int .i64 (c 13)] t (0, 0))) (i : Nat) (hi : i < 14) : W.cell? ⟨b, i, none⟩ = some (.int .i64 (c i)) := by
  rw [cell_of_row _ _ i _ _ (0, 0) h]
  match i, hi with
  | 0, _ | 1, _ | 2, _ | 3, _ | 4, _ | 5, _ | 6, _ | 7, _ | 8, _ | 9, _ | 10, _ | 11, _ | 12, _ | 13, _ => rfl

theorem row_lt {W : World} {b : Nat} {o : Obj} (h : W.heap[b]? = some o) : b < W.heap.size := by
  rcases Nat.lt_or_ge b W.heap.size with h' | h'
  · exact h'
  · rw [Array.getElem?_eq_none h'] at h
    cases h

set_option maxRecDepth 100000 in
set_option maxHeartbeats 4000000 in
theorem bend_any (g : Nat) (A : Option Addr) (n cap : Nat) (zs : List Int) (c : Nat → Int) (w : World) (hc : Cur w g A n cap zs) :
    Calls Tryz.prog 24 #[.pointer (some ⟨g, 0, none⟩), .agg #[.int .i64 (c 0), .int .i64 (c 1), .int .i64 (c 2), .int .i64 (c 3), .int .i64 (c 4), .int .i64 (c 5), .int .i64 (c 6), .int .i64 (c 7), .int .i64 (c 8), .int .i64 (c 9), .int .i64 (c 10), .int .i64 (c 11), .int .i64 (c 12), .int .i64 (c 13)]] w fun e w' => ∃ c : Nat → Int, e = .returned (.agg #[.int .i64 (c 0), .int .i64 (c 1), .int .i64 (c 2), .int .i64 (c 3), .int .i64 (c 4), .int .i64 (c 5), .int .i64 (c 6), .int .i64 (c 7), .int .i64 (c 8), .int .i64 (c 9), .int .i64 (c 10), .int .i64 (c 11), .int .i64 (c 12), .int .i64 (c 13)]) ∧ Cur w' g A n cap zs ∧ w.grownBy w' (some g) := by
  have HC := Lib.hid hc
  have hg := hc.lt
  clear hc
  go_enter Tryz.func24, Tryz.ntmps24
  go_wp2_with fail
  have hR0 : ((w.alloc (.cells #[.int .i64 (c 0), .int .i64 (c 1), .int .i64 (c 2), .int .i64 (c 3), .int .i64 (c 4), .int .i64 (c 5), .int .i64 (c 6), .int .i64 (c 7), .int .i64 (c 8), .int .i64 (c 9), .int .i64 (c 10), .int .i64 (c 11), .int .i64 (c 12), .int .i64 (c 13)] 25)).alloc (.cells #[.int .i64 0, .int .i64 0, .int .i64 0, .int .i64 0, .int .i64 0, .int .i64 0, .int .i64 0, .int .i64 0, .int .i64 0, .int .i64 0, .int .i64 0, .int .i64 0, .int .i64 0, .int .i64 0] 25)).heap[w.heap.size + 1]? = some (.cells #[.int .i64 0, .int .i64 0, .int .i64 0, .int .i64 0, .int .i64 0, .int .i64 0, .int .i64 0, .int .i64 0, .int .i64 0, .int .i64 0, .int .i64 0, .int .i64 0, .int .i64 0, .int .i64 0] 25 (0, 0)) := by have h := heap_alloc_new (w.alloc (.cells #[.int .i64 (c 0), .int .i64 (c 1), .int .i64 (c 2), .int .i64 (c 3), .int .i64 (c 4), .int .i64 (c 5), .int .i64 (c 6), .int .i64 (c 7), .int .i64 (c 8), .int .i64 (c 9), .int .i64 (c 10), .int .i64 (c 11), .int .i64 (c 12), .int .i64 (c 13)] 25)) (.cells #[.int .i64 0, .int .i64 0, .int .i64 0, .int .i64 0, .int .i64 0, .int .i64 0, .int .i64 0, .int .i64 0, .int .i64 0, .int .i64 0, .int .i64 0, .int .i64 0, .int .i64 0, .int .i64 0] 25); rwa [World.size_alloc] at h
  have hB0 : Below w.heap.size w ((w.alloc (.cells #[.int .i64 (c 0), .int .i64 (c 1), .int .i64 (c 2), .int .i64 (c 3), .int .i64 (c 4), .int .i64 (c 5), .int .i64 (c 6), .int .i64 (c 7), .int .i64 (c 8), .int .i64 (c 9), .int .i64 (c 10), .int .i64 (c 11), .int .i64 (c 12), .int .i64 (c 13)] 25)).alloc (.cells #[.int .i64 0, .int .i64 0, .int .i64 0, .int .i64 0, .int .i64 0, .int .i64 0, .int .i64 0, .int .i64 0, .int .i64 0, .int .i64 0, .int .i64 0, .int .i64 0, .int .i64 0, .int .i64 0] 25)) := bel_trans (bel_alloc _ _) (bel_alloc _ _)
  have hz0 : ((w.alloc (.cells #[.int .i64 (c 0), .int .i64 (c 1), .int .i64 (c 2), .int .i64 (c 3), .int .i64 (c 4), .int .i64 (c 5), .int .i64 (c 6), .int .i64 (c 7), .int .i64 (c 8), .int .i64 (c 9), .int .i64 (c 10), .int .i64 (c 11), .int .i64 (c 12), .int .i64 (c 13)] 25)).alloc (.cells #[.int .i64 0, .int .i64 0, .int .i64 0, .int .i64 0, .int .i64 0, .int .i64 0, .int .i64 0, .int .i64 0, .int .i64 0, .int .i64 0, .int .i64 0, .int .i64 0, .int .i64 0, .int .i64 0] 25)).heap.size = w.heap.size + 2 := by simp
  refine (values_any c _).mono ?_
  rintro e w1 ⟨b, rfl, hb, hbb, b1⟩
  rw [hz0] at hbb
  have R := Lib.hid ((b1.block _ (by rw [hz0]; omega)).trans hR0)
  have B := Lib.hid (bel_trans hB0 b1)
  have C1 := Lib.hid (HC.out.keep (B.out.mono hg))
  have Hb := Lib.hid hb
  have G : Hid (w.grownBy w1 (some g)) := ⟨B.out.os, B.out.tape, B.out.output, B.out.size, fun k hk _ => B.out.block k hk⟩
  have hzw : w.heap.size + 2 ≤ w1.heap.size := by have := b1.size; rw [hz0] at this; exact this
  clear b1 hb hR0 hB0 hz0
  go_wp2_with fail
  refine (below_any g A n cap zs 14 _ C1.out).mono ?_
  rintro e w2 ⟨x, rfl, hx, hc2, hg2⟩
  obtain ⟨x0, x1⟩ := hx.2 (by omega)
  obtain ⟨i, rfl⟩ := Int.eq_ofNat_of_zero_le x0
  have hi : i < 14 := by omega
  replace R := Lib.hid ((hg2.block _ (by omega) (fun e => by injection e with e; omega)).trans R.out)
  replace Hb := Lib.hid ((hg2.block _ (row_lt Hb.out) (fun e => by injection e with e; omega)).trans Hb.out)
  replace G := Lib.hid (grown_then G.out hg2)
  replace C1 := Lib.hid hc2
  have hzw2 : w.heap.size + 2 ≤ w2.heap.size := Nat.le_trans hzw hg2.size
  clear hx hc2 hg2 hzw
  go_wp2_with fail
  refine (pick_any g A n cap zs w2.heap.size 13 13 [-1, 0, 1, 12, 13, 20, 21, 100, 101, 1000000, 1000001, 1000000000, 1000000001] _ (C1.out.alloc _) (by omega) rfl (by omega) (by omega) (fun i hi => new_cells w2 [-1, 0, 1, 12, 13, 20, 21, 100, 101, 1000000, 1000001, 1000000000, 1000000001] _ i hi)).mono ?_
  rintro e w3 ⟨v, rfl, _, hc3, hg3⟩
  have hg3' := grown_then (grown_alloc w2 (.cells (([-1, 0, 1, 12, 13, 20, 21, 100, 101, 1000000, 1000001, 1000000000, 1000000001].map (Value.int .i64)).toArray) 3) (some g)) hg3
  replace R := Lib.hid ((hg3'.block _ (by omega) (fun e => by injection e with e; omega)).trans R.out)
  replace Hb := Lib.hid ((hg3'.block _ (row_lt Hb.out) (fun e => by injection e with e; omega)).trans Hb.out)
  replace G := Lib.hid (grown_then G.out hg3')
  replace C1 := Lib.hid hc3
  have hzw3 : w.heap.size + 2 ≤ w3.heap.size := Nat.le_trans hzw2 hg3'.size
  clear hc3 hg3 hg3'
  have y0 := row_at Hb.out i hi
  have yf : ∀ j, w3.frozen? ⟨b, j, none⟩ = false := fun j => frozen_of_row _ _ j _ _ Hb.out
  go_wp2_with fail
  have hbel : Below b w3 (w3.setCell ⟨b, i, none⟩ (.int .i64 v)) := (Below.refl b w3).setCell (p := ⟨b, i, none⟩) (Nat.le_refl b) _
  replace R := Lib.hid ((hbel.block _ (by omega)).trans R.out)
  replace Hb := Lib.hid ((heap_set Hb.out i (.int .i64 v)).trans (by rw [upd_row c i hi v]))
  replace G := Lib.hid (grown_bel G.out (hbel.mono (by omega)))
  replace C1 := Lib.hid (C1.out.keep (hbel.mono (by omega)))
  have hzw4 : w.heap.size + 2 ≤ (w3.setCell ⟨b, i, none⟩ (.int .i64 v)).heap.size := Nat.le_trans hzw3 hbel.size
  obtain ⟨W, hW⟩ : ∃ W, w3.setCell ⟨b, i, none⟩ (.int .i64 v) = W := ⟨_, rfl⟩
  rw [hW] at R Hb G C1 hzw4 ⊢
  clear hW hbel y0 yf hzw2 hzw3
  dsimp only at Hb
  generalize upd c i v = d at Hb
  refine (of_any d b _ Hb.out).mono ?_
  rintro e w4 ⟨rfl, b4⟩
  replace R := Lib.hid ((b4.block _ (by omega)).trans R.out)
  replace G := Lib.hid (grown_bel G.out (b4.mono (by omega)))
  replace C1 := Lib.hid (C1.out.keep (b4.mono (by omega)))
  clear b4 Hb
  have hcl : ∀ j, w4.frozen? ⟨w.heap.size + 1, j, none⟩ = false := fun j => frozen_of_row _ _ j _ _ R.out
  have hcz : ∀ j, w4.cell? ⟨w.heap.size + 1, j, none⟩ = (#[.int .i64 0, .int .i64 0, .int .i64 0, .int .i64 0, .int .i64 0, .int .i64 0, .int .i64 0, .int .i64 0, .int .i64 0, .int .i64 0, .int .i64 0, .int .i64 0, .int .i64 0, .int .i64 0] : Array Value)[j]? := fun j => cell_of_row _ _ j _ _ (0, 0) R.out
  have z0 : w4.cell? ⟨w.heap.size + 1, 0, none⟩ = some (.int .i64 0) := hcz 0
  have z1 : w4.cell? ⟨w.heap.size + 1, 1, none⟩ = some (.int .i64 0) := hcz 1
  have z2 : w4.cell? ⟨w.heap.size + 1, 2, none⟩ = some (.int .i64 0) := hcz 2
  have z3 : w4.cell? ⟨w.heap.size + 1, 3, none⟩ = some (.int .i64 0) := hcz 3
  have z4 : w4.cell? ⟨w.heap.size + 1, 4, none⟩ = some (.int .i64 0) := hcz 4
  have z5 : w4.cell? ⟨w.heap.size + 1, 5, none⟩ = some (.int .i64 0) := hcz 5
  have z6 : w4.cell? ⟨w.heap.size + 1, 6, none⟩ = some (.int .i64 0) := hcz 6
  have z7 : w4.cell? ⟨w.heap.size + 1, 7, none⟩ = some (.int .i64 0) := hcz 7
  have z8 : w4.cell? ⟨w.heap.size + 1, 8, none⟩ = some (.int .i64 0) := hcz 8
  have z9 : w4.cell? ⟨w.heap.size + 1, 9, none⟩ = some (.int .i64 0) := hcz 9
  have z10 : w4.cell? ⟨w.heap.size + 1, 10, none⟩ = some (.int .i64 0) := hcz 10
  have z11 : w4.cell? ⟨w.heap.size + 1, 11, none⟩ = some (.int .i64 0) := hcz 11
  have z12 : w4.cell? ⟨w.heap.size + 1, 12, none⟩ = some (.int .i64 0) := hcz 12
  have z13 : w4.cell? ⟨w.heap.size + 1, 13, none⟩ = some (.int .i64 0) := hcz 13
  clear hcz R
  go_wp2
  refine bodyPost_ret (v := .agg #[.int .i64 (d 0), .int .i64 (d 1), .int .i64 (d 2), .int .i64 (d 3), .int .i64 (d 4), .int .i64 (d 5), .int .i64 (d 6), .int .i64 (d 7), .int .i64 (d 8), .int .i64 (d 9), .int .i64 (d 10), .int .i64 (d 11), .int .i64 (d 12), .int .i64 (d 13)]) (by simp [results, Tryz.results24, go_sem, z0, z1, z2, z3, z4, z5, z6, z7, z8, z9, z10, z11, z12, z13]) rfl ⟨d, rfl, ?_, ?_⟩
  · refine C1.out.keep (Below.mono (B := w.heap.size + 1) ?_ (by omega))
    iterate 14 refine Below.setCell ?_ (by show w.heap.size + 1 ≤ w.heap.size + 1; omega) _
    exact Below.refl _ _
  · refine grown_bel G.out (Below.mono (B := w.heap.size + 1) ?_ (by omega))
    iterate 14 refine Below.setCell ?_ (by show w.heap.size + 1 ≤ w.heap.size + 1; omega) _
    exact Below.refl _ _
end Go.Proofs.YtahfmgjchjjlmaaGreatDoor.Draw
