/- Drawing a configuration: whatever comes out is fourteen integers. -/
import Derived.Test.YtahfmgjchjjlmaaGreatDoorDraw2
import Derived.Test.YtahfmgjchjjlmaaGreatDoorCfg4
import Derived.Outline
import Derived.Deep.RegionWith
import Derived.Deep.RegionHeld3
import Derived.IntWalk
namespace Go.Proofs.YtahfmgjchjjlmaaGreatDoor.Draw
open Go.RowKit Base

theorem cur_drew {W : World} {g : Nat} {A : Option Addr} {n cap : Nat} {zs : List Int} (h : Cur W g A n cap zs) : Cur W.drew g A n cap zs := by
  obtain ⟨i, h, C⟩ := h
  exact ⟨i, h, C.blk, C.bytes, C.len, C.small, C.pos, C.le⟩
theorem grown_bel {w W W' : World} {r : Option Nat} (h : w.grownBy W r) (hb : Below w.heap.size W W') : w.grownBy W' r :=
  ⟨hb.os.trans h.os, hb.tape.trans h.tape, hb.output.trans h.output, Nat.le_trans h.size hb.size, fun i hi hne => (hb.block i hi).trans (h.block i hi hne)⟩
theorem grown_of_drew {W W' : World} {r : Option Nat} (h : W.drew.grownBy W' r) : W.grownBy W' r := ⟨h.os, h.tape, h.output, h.size, h.block⟩

/-- The field i of a configuration set anew. -/
def upd (c : Nat → Int) (i : Nat) (v : Int) : Nat → Int := fun j => if j = i then v else c j

/-- While a configuration is drawn: the cursor in block g, the configuration in block b. -/
structure CfgSt (w W : World) (g : Nat) (A : Option Addr) (n cap : Nat) (zs : List Int) (b : Nat) (c : Nat → Int) : Prop where
  cur : Cur W g A n cap zs
  blk : W.heap[b]? = some (.cells #[.int .i64 (c 0), .int .i64 (c 1), .int .i64 (c 2), .int .i64 (c 3), .int .i64 (c 4), .int .i64 (c 5), .int .i64 (c 6), .int .i64 (c 7), .int .i64 (c 8), .int .i64 (c 9), .int .i64 (c 10), .int .i64 (c 11), .int .i64 (c 12), .int .i64 (c 13)] 25 (0, 0))
  res : W.heap[w.heap.size]? = some (.cells #[.int .i64 0, .int .i64 0, .int .i64 0, .int .i64 0, .int .i64 0, .int .i64 0, .int .i64 0, .int .i64 0, .int .i64 0, .int .i64 0, .int .i64 0, .int .i64 0, .int .i64 0, .int .i64 0] 25 (0, 0))
  lt : w.heap.size < W.heap.size
  glt : g < w.heap.size
  old : w.grownBy W (some g)

theorem CfgSt.draw {w W W' : World} {g : Nat} {A : Option Addr} {n cap : Nat} {zs : List Int} {b : Nat} {c : Nat → Int} (h : CfgSt w W g A n cap zs b c) (hb : b ≠ g) (hc : Cur W' g A n cap zs) (hg : W.grownBy W' (some g)) : CfgSt w W' g A n cap zs b c := by
  have hlt : b < W.heap.size := by
    rcases Nat.lt_or_ge b W.heap.size with h' | h'
    · exact h'
    · have := h.blk
      rw [Array.getElem?_eq_none h'] at this
      cases this
  exact ⟨hc, (hg.block b hlt (fun e => hb (by injection e))).trans h.blk, (hg.block _ h.lt (fun e => by have := h.glt; injection e with e; omega)).trans h.res, Nat.lt_of_lt_of_le h.lt hg.size, h.glt, grown_then h.old hg⟩

theorem CfgSt.alloc {w W : World} {g : Nat} {A : Option Addr} {n cap : Nat} {zs : List Int} {b : Nat} {c : Nat → Int} (h : CfgSt w W g A n cap zs b c) (hb : b ≠ g) (o : Obj) : CfgSt w (W.alloc o) g A n cap zs b c := h.draw hb (h.cur.alloc o) (grown_alloc _ _ _)

theorem CfgSt.store {w W : World} {g : Nat} {A : Option Addr} {n cap : Nat} {zs : List Int} {b : Nat} {c c' : Nat → Int} (h : CfgSt w W g A n cap zs b c) (hb : g < b) (hw : w.heap.size < b) (i : Nat) (v : Int) (e : (#[.int .i64 (c 0), .int .i64 (c 1), .int .i64 (c 2), .int .i64 (c 3), .int .i64 (c 4), .int .i64 (c 5), .int .i64 (c 6), .int .i64 (c 7), .int .i64 (c 8), .int .i64 (c 9), .int .i64 (c 10), .int .i64 (c 11), .int .i64 (c 12), .int .i64 (c 13)] : Array Value).setIfInBounds i (.int .i64 v) = #[.int .i64 (c' 0), .int .i64 (c' 1), .int .i64 (c' 2), .int .i64 (c' 3), .int .i64 (c' 4), .int .i64 (c' 5), .int .i64 (c' 6), .int .i64 (c' 7), .int .i64 (c' 8), .int .i64 (c' 9), .int .i64 (c' 10), .int .i64 (c' 11), .int .i64 (c' 12), .int .i64 (c' 13)]) : CfgSt w (W.setCell ⟨b, i, none⟩ (.int .i64 v)) g A n cap zs b c' := by
  have hbel : Below b W (W.setCell ⟨b, i, none⟩ (.int .i64 v)) := (Below.refl b W).setCell (p := ⟨b, i, none⟩) (Nat.le_refl b) _
  refine ⟨h.cur.keep (hbel.mono hb), ?_, (Below.heap_setCell W _ _ _ (by show w.heap.size ≠ b; omega)).trans h.res, by simpa [World.setCell] using h.lt, h.glt, ?_⟩
  · rw [heap_set h.blk, e]
  · exact ⟨h.old.os, h.old.tape, h.old.output, by simpa [World.setCell] using h.old.size, fun k hk hne => (Below.heap_setCell W _ _ k (by show k ≠ b; omega)).trans (h.old.block k hk hne)⟩

theorem CfgSt.at {w W : World} {g : Nat} {A : Option Addr} {n cap : Nat} {zs : List Int} {b : Nat} {c : Nat → Int} (h : CfgSt w W g A n cap zs b c) (i : Nat) (hi : i < 14) : W.cell? ⟨b, i, none⟩ = some (.int .i64 (c i)) ∧ W.frozen? ⟨b, i, none⟩ = false := by
  refine ⟨?_, frozen_of_row _ _ i _ _ h.blk⟩
  rw [cell_of_row _ _ i _ _ (0, 0) h.blk]
  match i, hi with
  | 0, _ | 1, _ | 2, _ | 3, _ | 4, _ | 5, _ | 6, _ | 7, _ | 8, _ | 9, _ | 10, _ | 11, _ | 12, _ | 13, _ => rfl

set_option maxRecDepth 100000 in
set_option maxHeartbeats 8000000 in
theorem drawConfig_any (g : Nat) (A : Option Addr) (n cap : Nat) (zs : List Int) (w : World) (hc : Cur w g A n cap zs) :
    Calls Tryz.prog 22 #[.pointer (some ⟨g, 0, none⟩)] w fun e w' => ∃ c : Nat → Int, e = .returned (.agg #[.int .i64 (c 0), .int .i64 (c 1), .int .i64 (c 2), .int .i64 (c 3), .int .i64 (c 4), .int .i64 (c 5), .int .i64 (c 6), .int .i64 (c 7), .int .i64 (c 8), .int .i64 (c 9), .int .i64 (c 10), .int .i64 (c 11), .int .i64 (c 12), .int .i64 (c 13)]) ∧ Cur w' g A n cap zs ∧ w.grownBy w' (some g) := by
  have HC := Lib.hid hc
  clear hc
  go_enter Tryz.func22, Tryz.ntmps22
  go_wp2_with fail
  refine (Cf.specDefault_any _).mono ?_
  rintro e w1 ⟨rfl, b1⟩
  have hg := HC.out.lt
  have hs1 : w.heap.size < w1.heap.size := by have := b1.size; simp at this; omega
  have S : Hid (CfgSt w (w1.alloc (.cells #[.int .i64 (Cf.dflt 0), .int .i64 (Cf.dflt 1), .int .i64 (Cf.dflt 2), .int .i64 (Cf.dflt 3), .int .i64 (Cf.dflt 4), .int .i64 (Cf.dflt 5), .int .i64 (Cf.dflt 6), .int .i64 (Cf.dflt 7), .int .i64 (Cf.dflt 8), .int .i64 (Cf.dflt 9), .int .i64 (Cf.dflt 10), .int .i64 (Cf.dflt 11), .int .i64 (Cf.dflt 12), .int .i64 (Cf.dflt 13)] 25)) g A n cap zs w1.heap.size Cf.dflt) := by
    have hb := bel_trans (bel_trans (bel_alloc w _) b1) (bel_alloc w1 (.cells #[.int .i64 (Cf.dflt 0), .int .i64 (Cf.dflt 1), .int .i64 (Cf.dflt 2), .int .i64 (Cf.dflt 3), .int .i64 (Cf.dflt 4), .int .i64 (Cf.dflt 5), .int .i64 (Cf.dflt 6), .int .i64 (Cf.dflt 7), .int .i64 (Cf.dflt 8), .int .i64 (Cf.dflt 9), .int .i64 (Cf.dflt 10), .int .i64 (Cf.dflt 11), .int .i64 (Cf.dflt 12), .int .i64 (Cf.dflt 13)] 25))
    have hr : (w.alloc (.cells #[.int .i64 0, .int .i64 0, .int .i64 0, .int .i64 0, .int .i64 0, .int .i64 0, .int .i64 0, .int .i64 0, .int .i64 0, .int .i64 0, .int .i64 0, .int .i64 0, .int .i64 0, .int .i64 0] 25)).heap[w.heap.size]? = some (.cells #[.int .i64 0, .int .i64 0, .int .i64 0, .int .i64 0, .int .i64 0, .int .i64 0, .int .i64 0, .int .i64 0, .int .i64 0, .int .i64 0, .int .i64 0, .int .i64 0, .int .i64 0, .int .i64 0] 25 (0, 0)) := heap_alloc_new w _
    exact ⟨HC.out.keep (hb.mono hg), heap_alloc_new _ _, ((bel_alloc w1 _).block _ hs1).trans ((b1.block _ (by simp)).trans hr), by simp; omega, hg, ⟨hb.os, hb.tape, hb.output, hb.size, fun k hk _ => hb.block k hk⟩⟩
  clear b1
  go_wp2_with fail
  obtain ⟨W, hW⟩ : ∃ W, w1.alloc (.cells #[.int .i64 (Cf.dflt 0), .int .i64 (Cf.dflt 1), .int .i64 (Cf.dflt 2), .int .i64 (Cf.dflt 3), .int .i64 (Cf.dflt 4), .int .i64 (Cf.dflt 5), .int .i64 (Cf.dflt 6), .int .i64 (Cf.dflt 7), .int .i64 (Cf.dflt 8), .int .i64 (Cf.dflt 9), .int .i64 (Cf.dflt 10), .int .i64 (Cf.dflt 11), .int .i64 (Cf.dflt 12), .int .i64 (Cf.dflt 13)] 25) = W := ⟨_, rfl⟩
  rw [hW] at S
  change Calls _ _ _ (w1.alloc (.cells #[.int .i64 (Cf.dflt 0), .int .i64 (Cf.dflt 1), .int .i64 (Cf.dflt 2), .int .i64 (Cf.dflt 3), .int .i64 (Cf.dflt 4), .int .i64 (Cf.dflt 5), .int .i64 (Cf.dflt 6), .int .i64 (Cf.dflt 7), .int .i64 (Cf.dflt 8), .int .i64 (Cf.dflt 9), .int .i64 (Cf.dflt 10), .int .i64 (Cf.dflt 11), .int .i64 (Cf.dflt 12), .int .i64 (Cf.dflt 13)] 25)) _
  rw [hW]
  clear hW
  generalize Cf.dflt = c at S
  generalize w1.heap.size = b at S hs1 ⊢
  refine (below_any g A n cap zs 5 _ S.out.cur).mono ?_
  rintro e w2 ⟨x1, rfl, hx, hc, hg'⟩
  obtain ⟨l1, u1⟩ := hx.2 (by omega)
  replace S := Lib.hid (S.out.draw (by omega) hc hg')
  clear hx
  clear hc hg'
  obtain ⟨y0, y1⟩ := S.out.at 1 (by omega)
  go_wp2_with fail
  replace S := Lib.hid (S.out.store (c' := upd c 1 (1 + x1)) (by omega) (by omega) 1 (1 + x1) rfl)
  obtain ⟨W, hW⟩ : ∃ W, World.setCell w2 ⟨b, 1, none⟩ (.int .i64 (1 + x1)) = W := ⟨_, rfl⟩
  rw [hW] at S ⊢
  clear hW y0 y1
  generalize upd c 1 (1 + x1) = c at S
  refine (below_any g A n cap zs (1 + x1 + 1) _ S.out.cur).mono ?_
  rintro e w3 ⟨x2, rfl, hx, hc, hg'⟩
  obtain ⟨l2, u2⟩ := hx.2 (by omega)
  replace S := Lib.hid (S.out.draw (by omega) hc hg')
  clear hx
  clear hc hg'
  obtain ⟨y0, y1⟩ := S.out.at 0 (by omega)
  go_wp2_with fail
  replace S := Lib.hid (S.out.store (c' := upd c 0 (x2)) (by omega) (by omega) 0 (x2) rfl)
  obtain ⟨W, hW⟩ : ∃ W, World.setCell w3 ⟨b, 0, none⟩ (.int .i64 (x2)) = W := ⟨_, rfl⟩
  rw [hW] at S ⊢
  have hsz : w3.heap.size = W.heap.size := by rw [← hW]; simp [World.setCell]
  rw [hsz]
  clear hsz
  clear hW y0 y1
  generalize upd c 0 (x2) = c at S
  refine (pick_any g A n cap zs W.heap.size 3 3 [5, 10, 30] _ (S.out.cur.alloc _) (by have := S.out.cur.lt; omega) rfl (by omega) (by omega) (fun i hi => new_cells W [5, 10, 30] _ i hi)).mono ?_
  rintro e w4 ⟨x3, rfl, _, hc, hg'⟩
  replace S := Lib.hid ((S.out.alloc (by omega) _).draw (by omega) hc hg')
  clear hc hg'
  obtain ⟨y0, y1⟩ := S.out.at 2 (by omega)
  go_wp2_with fail
  replace S := Lib.hid (S.out.store (c' := upd c 2 (x3)) (by omega) (by omega) 2 (x3) rfl)
  obtain ⟨W, hW⟩ : ∃ W, World.setCell w4 ⟨b, 2, none⟩ (.int .i64 (x3)) = W := ⟨_, rfl⟩
  rw [hW] at S ⊢
  have hsz : w4.heap.size = W.heap.size := by rw [← hW]; simp [World.setCell]
  rw [hsz]
  clear hsz
  clear hW y0 y1
  generalize upd c 2 (x3) = c at S
  refine (pick_any g A n cap zs W.heap.size 3 3 [0, 40, 200] _ (S.out.cur.alloc _) (by have := S.out.cur.lt; omega) rfl (by omega) (by omega) (fun i hi => new_cells W [0, 40, 200] _ i hi)).mono ?_
  rintro e w5 ⟨x4, rfl, _, hc, hg'⟩
  replace S := Lib.hid ((S.out.alloc (by omega) _).draw (by omega) hc hg')
  clear hc hg'
  obtain ⟨y0, y1⟩ := S.out.at 3 (by omega)
  go_wp2_with fail
  replace S := Lib.hid (S.out.store (c' := upd c 3 (x4)) (by omega) (by omega) 3 (x4) rfl)
  obtain ⟨W, hW⟩ : ∃ W, World.setCell w5 ⟨b, 3, none⟩ (.int .i64 (x4)) = W := ⟨_, rfl⟩
  rw [hW] at S ⊢
  have hsz : w5.heap.size = W.heap.size := by rw [← hW]; simp [World.setCell]
  rw [hsz]
  clear hsz
  clear hW y0 y1
  generalize upd c 3 (x4) = c at S
  refine (pick_any g A n cap zs W.heap.size 3 3 [0, 10, 50] _ (S.out.cur.alloc _) (by have := S.out.cur.lt; omega) rfl (by omega) (by omega) (fun i hi => new_cells W [0, 10, 50] _ i hi)).mono ?_
  rintro e w6 ⟨x5, rfl, _, hc, hg'⟩
  replace S := Lib.hid ((S.out.alloc (by omega) _).draw (by omega) hc hg')
  clear hc hg'
  obtain ⟨y0, y1⟩ := S.out.at 4 (by omega)
  go_wp2_with fail
  replace S := Lib.hid (S.out.store (c' := upd c 4 (x5)) (by omega) (by omega) 4 (x5) rfl)
  obtain ⟨W, hW⟩ : ∃ W, World.setCell w6 ⟨b, 4, none⟩ (.int .i64 (x5)) = W := ⟨_, rfl⟩
  rw [hW] at S ⊢
  have hsz : w6.heap.size = W.heap.size := by rw [← hW]; simp [World.setCell]
  rw [hsz]
  clear hsz
  clear hW y0 y1
  generalize upd c 4 (x5) = c at S
  refine (pick_any g A n cap zs W.heap.size 3 3 [0, 7, 20] _ (S.out.cur.alloc _) (by have := S.out.cur.lt; omega) rfl (by omega) (by omega) (fun i hi => new_cells W [0, 7, 20] _ i hi)).mono ?_
  rintro e w7 ⟨x6, rfl, _, hc, hg'⟩
  replace S := Lib.hid ((S.out.alloc (by omega) _).draw (by omega) hc hg')
  clear hc hg'
  obtain ⟨y0, y1⟩ := S.out.at 5 (by omega)
  go_wp2_with fail
  replace S := Lib.hid (S.out.store (c' := upd c 5 (x6)) (by omega) (by omega) 5 (x6) rfl)
  obtain ⟨W, hW⟩ : ∃ W, World.setCell w7 ⟨b, 5, none⟩ (.int .i64 (x6)) = W := ⟨_, rfl⟩
  rw [hW] at S ⊢
  have hsz : w7.heap.size = W.heap.size := by rw [← hW]; simp [World.setCell]
  rw [hsz]
  clear hsz
  clear hW y0 y1
  generalize upd c 5 (x6) = c at S
  refine (pick_any g A n cap zs W.heap.size 3 3 [0, 15, 60] _ (S.out.cur.alloc _) (by have := S.out.cur.lt; omega) rfl (by omega) (by omega) (fun i hi => new_cells W [0, 15, 60] _ i hi)).mono ?_
  rintro e w8 ⟨x7, rfl, _, hc, hg'⟩
  replace S := Lib.hid ((S.out.alloc (by omega) _).draw (by omega) hc hg')
  clear hc hg'
  obtain ⟨y0, y1⟩ := S.out.at 6 (by omega)
  go_wp2_with fail
  replace S := Lib.hid (S.out.store (c' := upd c 6 (x7)) (by omega) (by omega) 6 (x7) rfl)
  obtain ⟨W, hW⟩ : ∃ W, World.setCell w8 ⟨b, 6, none⟩ (.int .i64 (x7)) = W := ⟨_, rfl⟩
  rw [hW] at S ⊢
  clear hW y0 y1
  generalize upd c 6 (x7) = c at S
  refine (below_any g A n cap zs 3 _ S.out.cur).mono ?_
  rintro e w9 ⟨x8, rfl, hx, hc, hg'⟩
  obtain ⟨l8, u8⟩ := hx.2 (by omega)
  replace S := Lib.hid (S.out.draw (by omega) hc hg')
  clear hx
  clear hc hg'
  obtain ⟨y0, y1⟩ := S.out.at 7 (by omega)
  go_wp2_with fail
  replace S := Lib.hid (S.out.store (c' := upd c 7 (1 + x8)) (by omega) (by omega) 7 (1 + x8) rfl)
  obtain ⟨W, hW⟩ : ∃ W, World.setCell w9 ⟨b, 7, none⟩ (.int .i64 (1 + x8)) = W := ⟨_, rfl⟩
  rw [hW] at S ⊢
  clear hW y0 y1
  have hc7 : Hid (upd c 7 (1 + x8) 7 = 1 + x8) := rfl
  generalize upd c 7 (1 + x8) = c at S hc7
  have y7 : W.cell? ⟨b, 7, none⟩ = some (.int .i64 (1 + x8)) := by rw [(S.out.at 7 (by omega)).1, hc7.out]
  have HB : Hid (Calls Tryz.prog 38 #[.pointer (some ⟨g, 0, none⟩), .int .i64 9] W.drew fun e w' => ∃ x, e = .returned (.int .i64 x) ∧ 0 ≤ x ∧ x < 9 ∧ CfgSt w w' g A n cap zs b c) := by
    refine (below_any g A n cap zs 9 _ (cur_drew S.out.cur)).mono ?_
    rintro e w' ⟨x, rfl, hx, hc, hg'⟩
    obtain ⟨l, u⟩ := hx.2 (by omega)
    exact ⟨x, rfl, l, u, S.out.draw (by omega) hc (grown_of_drew hg')⟩
  have HZ : Hid (∀ w', CfgSt w w' g A n cap zs b c → w'.cell? ⟨b, 7, none⟩ = some (.int .i64 (1 + x8))) := fun w' h => by rw [(h.at 7 (by omega)).1, hc7.out]
  go_region_with (go_at_call 38; refine HB.out.mono ?_; rintro e w10 ⟨x9, rfl, l9, u9, hS⟩; have z7 := HZ.out _ hS; obtain ⟨y0, y1⟩ := hS.at 8 (by omega); have S9 := Lib.hid hS; clear hS)
  all_goals
    have S := S9
    clear S9 HB HZ z7 y7 hc7
    go_wp2_with fail
    replace S := Lib.hid (S.out.store (c' := upd c 8 (wrap64 ((1 + x8) * (1 + x9)))) (by omega) (by omega) 8 (wrap64 ((1 + x8) * (1 + x9))) rfl)
    obtain ⟨W, hW⟩ : ∃ W, World.setCell w10 ⟨b, 8, none⟩ (.int .i64 (wrap64 ((1 + x8) * (1 + x9)))) = W := ⟨_, rfl⟩
    rw [hW] at S ⊢
    have hsz : w10.heap.size = W.heap.size := by rw [← hW]; simp [World.setCell]
    rw [hsz]
    clear hsz
    clear hW y0 y1
    generalize upd c 8 (wrap64 ((1 + x8) * (1 + x9))) = c at S
    refine (pick_any g A n cap zs W.heap.size 4 4 [0, 20, 50, 100] _ (S.out.cur.alloc _) (by have := S.out.cur.lt; omega) rfl (by omega) (by omega) (fun i hi => new_cells W [0, 20, 50, 100] _ i hi)).mono ?_
    rintro e w11 ⟨x10, rfl, _, hc, hg'⟩
    replace S := Lib.hid ((S.out.alloc (by omega) _).draw (by omega) hc hg')
    clear hc hg'
    obtain ⟨y0, y1⟩ := S.out.at 9 (by omega)
    go_wp2_with fail
    replace S := Lib.hid (S.out.store (c' := upd c 9 (x10)) (by omega) (by omega) 9 (x10) rfl)
    obtain ⟨W, hW⟩ : ∃ W, World.setCell w11 ⟨b, 9, none⟩ (.int .i64 (x10)) = W := ⟨_, rfl⟩
    rw [hW] at S ⊢
    clear hW y0 y1
    generalize upd c 9 (x10) = c at S
    refine (below_any g A n cap zs 40 _ S.out.cur).mono ?_
    rintro e w12 ⟨x11, rfl, hx, hc, hg'⟩
    obtain ⟨l11, u11⟩ := hx.2 (by omega)
    replace S := Lib.hid (S.out.draw (by omega) hc hg')
    clear hx
    clear hc hg'
    obtain ⟨y0, y1⟩ := S.out.at 10 (by omega)
    go_wp2_with fail
    replace S := Lib.hid (S.out.store (c' := upd c 10 (10 + x11)) (by omega) (by omega) 10 (10 + x11) rfl)
    obtain ⟨W, hW⟩ : ∃ W, World.setCell w12 ⟨b, 10, none⟩ (.int .i64 (10 + x11)) = W := ⟨_, rfl⟩
    rw [hW] at S ⊢
    clear hW y0 y1
    generalize upd c 10 (10 + x11) = c at S
    refine (below_any g A n cap zs 4 _ S.out.cur).mono ?_
    rintro e w13 ⟨x12, rfl, hx, hc, hg'⟩
    obtain ⟨l12, u12⟩ := hx.2 (by omega)
    replace S := Lib.hid (S.out.draw (by omega) hc hg')
    clear hx
    clear hc hg'
    obtain ⟨y0, y1⟩ := S.out.at 11 (by omega)
    go_wp2_with fail
    replace S := Lib.hid (S.out.store (c' := upd c 11 (1 + x12)) (by omega) (by omega) 11 (1 + x12) rfl)
    obtain ⟨W, hW⟩ : ∃ W, World.setCell w13 ⟨b, 11, none⟩ (.int .i64 (1 + x12)) = W := ⟨_, rfl⟩
    rw [hW] at S ⊢
    clear hW y0 y1
    generalize upd c 11 (1 + x12) = c at S
    refine (below_any g A n cap zs 15 _ S.out.cur).mono ?_
    rintro e w14 ⟨x13, rfl, hx, hc, hg'⟩
    obtain ⟨l13, u13⟩ := hx.2 (by omega)
    replace S := Lib.hid (S.out.draw (by omega) hc hg')
    clear hx
    clear hc hg'
    obtain ⟨y0, y1⟩ := S.out.at 12 (by omega)
    go_wp2_with fail
    replace S := Lib.hid (S.out.store (c' := upd c 12 (1 + x13)) (by omega) (by omega) 12 (1 + x13) rfl)
    obtain ⟨W, hW⟩ : ∃ W, World.setCell w14 ⟨b, 12, none⟩ (.int .i64 (1 + x13)) = W := ⟨_, rfl⟩
    rw [hW] at S ⊢
    clear hW y0 y1
    generalize upd c 12 (1 + x13) = c at S
    refine (below_any g A n cap zs 20 _ S.out.cur).mono ?_
    rintro e w15 ⟨x14, rfl, hx, hc, hg'⟩
    obtain ⟨l14, u14⟩ := hx.2 (by omega)
    replace S := Lib.hid (S.out.draw (by omega) hc hg')
    clear hx
    clear hc hg'
    obtain ⟨y0, y1⟩ := S.out.at 13 (by omega)
    have S' := Lib.hid (S.out.store (c' := upd c 13 (1 + x14)) (by omega) (by omega) 13 (1 + x14) rfl)
    obtain ⟨c9, hc9⟩ : ∃ c9, upd c 13 (1 + x14) = c9 := ⟨_, rfl⟩
    rw [hc9] at S'
    have hz : w.heap.size < w15.heap.size := S.out.lt
    have Z' := Lib.hid S'.out.res
    have hcl : ∀ j, World.frozen? w15 ⟨w.heap.size, j, none⟩ = false := fun j => frozen_of_row _ _ j _ _ S.out.res
    have hcz : ∀ j, w15.cell? ⟨w.heap.size, j, none⟩ = (#[.int .i64 0, .int .i64 0, .int .i64 0, .int .i64 0, .int .i64 0, .int .i64 0, .int .i64 0, .int .i64 0, .int .i64 0, .int .i64 0, .int .i64 0, .int .i64 0, .int .i64 0, .int .i64 0] : Array Value)[j]? := fun j => cell_of_row _ _ j _ _ (0, 0) S.out.res
    have z0 : w15.cell? ⟨w.heap.size, 0, none⟩ = some (.int .i64 0) := hcz 0
    have z1 : w15.cell? ⟨w.heap.size, 1, none⟩ = some (.int .i64 0) := hcz 1
    have z2 : w15.cell? ⟨w.heap.size, 2, none⟩ = some (.int .i64 0) := hcz 2
    have z3 : w15.cell? ⟨w.heap.size, 3, none⟩ = some (.int .i64 0) := hcz 3
    have z4 : w15.cell? ⟨w.heap.size, 4, none⟩ = some (.int .i64 0) := hcz 4
    have z5 : w15.cell? ⟨w.heap.size, 5, none⟩ = some (.int .i64 0) := hcz 5
    have z6 : w15.cell? ⟨w.heap.size, 6, none⟩ = some (.int .i64 0) := hcz 6
    have z7 : w15.cell? ⟨w.heap.size, 7, none⟩ = some (.int .i64 0) := hcz 7
    have z8 : w15.cell? ⟨w.heap.size, 8, none⟩ = some (.int .i64 0) := hcz 8
    have z9 : w15.cell? ⟨w.heap.size, 9, none⟩ = some (.int .i64 0) := hcz 9
    have z10 : w15.cell? ⟨w.heap.size, 10, none⟩ = some (.int .i64 0) := hcz 10
    have z11 : w15.cell? ⟨w.heap.size, 11, none⟩ = some (.int .i64 0) := hcz 11
    have z12 : w15.cell? ⟨w.heap.size, 12, none⟩ = some (.int .i64 0) := hcz 12
    have z13 : w15.cell? ⟨w.heap.size, 13, none⟩ = some (.int .i64 0) := hcz 13
    clear hcz
    have hne : w.heap.size ≠ b := by omega
    have hne2 : b ≠ w.heap.size := by omega
    have s0 : w15.cell? ⟨b, 0, none⟩ = some (.int .i64 (c 0)) := cell_of_row _ _ 0 _ _ (0, 0) S.out.blk
    have s1 : w15.cell? ⟨b, 1, none⟩ = some (.int .i64 (c 1)) := cell_of_row _ _ 1 _ _ (0, 0) S.out.blk
    have s2 : w15.cell? ⟨b, 2, none⟩ = some (.int .i64 (c 2)) := cell_of_row _ _ 2 _ _ (0, 0) S.out.blk
    have s3 : w15.cell? ⟨b, 3, none⟩ = some (.int .i64 (c 3)) := cell_of_row _ _ 3 _ _ (0, 0) S.out.blk
    have s4 : w15.cell? ⟨b, 4, none⟩ = some (.int .i64 (c 4)) := cell_of_row _ _ 4 _ _ (0, 0) S.out.blk
    have s5 : w15.cell? ⟨b, 5, none⟩ = some (.int .i64 (c 5)) := cell_of_row _ _ 5 _ _ (0, 0) S.out.blk
    have s6 : w15.cell? ⟨b, 6, none⟩ = some (.int .i64 (c 6)) := cell_of_row _ _ 6 _ _ (0, 0) S.out.blk
    have s7 : w15.cell? ⟨b, 7, none⟩ = some (.int .i64 (c 7)) := cell_of_row _ _ 7 _ _ (0, 0) S.out.blk
    have s8 : w15.cell? ⟨b, 8, none⟩ = some (.int .i64 (c 8)) := cell_of_row _ _ 8 _ _ (0, 0) S.out.blk
    have s9 : w15.cell? ⟨b, 9, none⟩ = some (.int .i64 (c 9)) := cell_of_row _ _ 9 _ _ (0, 0) S.out.blk
    have s10 : w15.cell? ⟨b, 10, none⟩ = some (.int .i64 (c 10)) := cell_of_row _ _ 10 _ _ (0, 0) S.out.blk
    have s11 : w15.cell? ⟨b, 11, none⟩ = some (.int .i64 (c 11)) := cell_of_row _ _ 11 _ _ (0, 0) S.out.blk
    have s12 : w15.cell? ⟨b, 12, none⟩ = some (.int .i64 (c 12)) := cell_of_row _ _ 12 _ _ (0, 0) S.out.blk
    have s13 : w15.cell? ⟨b, 13, none⟩ = some (.int .i64 (c 13)) := cell_of_row _ _ 13 _ _ (0, 0) S.out.blk
    have HS := S'
    clear S S'
    go_wp2
    refine bodyPost_ret (v := .agg #[.int .i64 (c 0), .int .i64 (c 1), .int .i64 (c 2), .int .i64 (c 3), .int .i64 (c 4), .int .i64 (c 5), .int .i64 (c 6), .int .i64 (c 7), .int .i64 (c 8), .int .i64 (c 9), .int .i64 (c 10), .int .i64 (c 11), .int .i64 (c 12), .int .i64 (1 + x14)]) (by simp [results, Tryz.results22, go_sem, z0, z1, z2, z3, z4, z5, z6, z7, z8, z9, z10, z11, z12, z13]) rfl ⟨upd c 13 (1 + x14), rfl, ?_, ?_⟩
    · rw [hc9] at *
      refine HS.out.cur.keep (Below.mono ?_ hg)
      iterate 14 refine Below.setCell ?_ (by show w.heap.size ≤ w.heap.size; omega) _
      exact Below.refl _ _
    · refine grown_bel HS.out.old ?_
      iterate 14 refine Below.setCell ?_ (by show w.heap.size ≤ w.heap.size; omega) _
      exact Below.refl _ _
end Go.Proofs.YtahfmgjchjjlmaaGreatDoor.Draw
