/- The whole draw of a configuration. -/
import Derived.Test.YtahfmgjchjjlmaaGreatDoorDcf2
namespace Go.Proofs.YtahfmgjchjjlmaaGreatDoor.Draw
open Go.RowKit Base

/-- What a draw of a configuration hands back: a new cursor over the bytes and a configuration. -/
def DrewCfg (w : World) (A : Option Addr) (n cap : Nat) (zs : List Int) (e : Ending) (w' : World) : Prop :=
  ∃ (g : Nat) (c : Nat → Int), e = .returned (.tuple #[.pointer (some ⟨g, 0, none⟩), .agg #[.int .i64 (c 0), .int .i64 (c 1), .int .i64 (c 2), .int .i64 (c 3), .int .i64 (c 4), .int .i64 (c 5), .int .i64 (c 6), .int .i64 (c 7), .int .i64 (c 8), .int .i64 (c 9), .int .i64 (c 10), .int .i64 (c 11), .int .i64 (c 12), .int .i64 (c 13)]]) ∧ w.heap.size ≤ g ∧ Cur w' g A n cap zs ∧ Below w.heap.size w w'

theorem set_to {W : World} {kb : Nat} {cs : Array Value} {t : TypeId} (h : W.heap[kb]? = some (.cells cs t (0, 0))) (o : Nat) (v : Value) (cs' : Array Value) (e : cs.setIfInBounds o v = cs') : (W.setCell ⟨kb, o, none⟩ v).heap[kb]? = some (.cells cs' t (0, 0)) := by
  rw [heap_set h, e]

theorem store14 {W : World} {kb : Nat} {c : Nat → Int} {t : TypeId} (h : W.heap[kb]? = some (.cells #[.int .i64 (c 0), .int .i64 (c 1), .int .i64 (c 2), .int .i64 (c 3), .int .i64 (c 4), .int .i64 (c 5), .int .i64 (c 6), .int .i64 (c 7), .int .i64 (c 8), .int .i64 (c 9), .int .i64 (c 10), .int .i64 (c 11), .int .i64 (c 12), .int .i64 (c 13)] t (0, 0))) (d : Nat → Int) : ((((((((((((((W.setCell ⟨kb, 0, none⟩ (.int .i64 (d 0))).setCell ⟨kb, 1, none⟩ (.int .i64 (d 1))).setCell ⟨kb, 2, none⟩ (.int .i64 (d 2))).setCell ⟨kb, 3, none⟩ (.int .i64 (d 3))).setCell ⟨kb, 4, none⟩ (.int .i64 (d 4))).setCell ⟨kb, 5, none⟩ (.int .i64 (d 5))).setCell ⟨kb, 6, none⟩ (.int .i64 (d 6))).setCell ⟨kb, 7, none⟩ (.int .i64 (d 7))).setCell ⟨kb, 8, none⟩ (.int .i64 (d 8))).setCell ⟨kb, 9, none⟩ (.int .i64 (d 9))).setCell ⟨kb, 10, none⟩ (.int .i64 (d 10))).setCell ⟨kb, 11, none⟩ (.int .i64 (d 11))).setCell ⟨kb, 12, none⟩ (.int .i64 (d 12))).setCell ⟨kb, 13, none⟩ (.int .i64 (d 13))).heap[kb]? = some (.cells #[.int .i64 (d 0), .int .i64 (d 1), .int .i64 (d 2), .int .i64 (d 3), .int .i64 (d 4), .int .i64 (d 5), .int .i64 (d 6), .int .i64 (d 7), .int .i64 (d 8), .int .i64 (d 9), .int .i64 (d 10), .int .i64 (d 11), .int .i64 (d 12), .int .i64 (d 13)] t (0, 0)) := by
  have h0 := set_to h 0 (.int .i64 (d 0)) #[.int .i64 (d 0), .int .i64 (c 1), .int .i64 (c 2), .int .i64 (c 3), .int .i64 (c 4), .int .i64 (c 5), .int .i64 (c 6), .int .i64 (c 7), .int .i64 (c 8), .int .i64 (c 9), .int .i64 (c 10), .int .i64 (c 11), .int .i64 (c 12), .int .i64 (c 13)] rfl
  have h1 := set_to h0 1 (.int .i64 (d 1)) #[.int .i64 (d 0), .int .i64 (d 1), .int .i64 (c 2), .int .i64 (c 3), .int .i64 (c 4), .int .i64 (c 5), .int .i64 (c 6), .int .i64 (c 7), .int .i64 (c 8), .int .i64 (c 9), .int .i64 (c 10), .int .i64 (c 11), .int .i64 (c 12), .int .i64 (c 13)] rfl
  have h2 := set_to h1 2 (.int .i64 (d 2)) #[.int .i64 (d 0), .int .i64 (d 1), .int .i64 (d 2), .int .i64 (c 3), .int .i64 (c 4), .int .i64 (c 5), .int .i64 (c 6), .int .i64 (c 7), .int .i64 (c 8), .int .i64 (c 9), .int .i64 (c 10), .int .i64 (c 11), .int .i64 (c 12), .int .i64 (c 13)] rfl
  have h3 := set_to h2 3 (.int .i64 (d 3)) #[.int .i64 (d 0), .int .i64 (d 1), .int .i64 (d 2), .int .i64 (d 3), .int .i64 (c 4), .int .i64 (c 5), .int .i64 (c 6), .int .i64 (c 7), .int .i64 (c 8), .int .i64 (c 9), .int .i64 (c 10), .int .i64 (c 11), .int .i64 (c 12), .int .i64 (c 13)] rfl
  have h4 := set_to h3 4 (.int .i64 (d 4)) #[.int .i64 (d 0), .int .i64 (d 1), .int .i64 (d 2), .int .i64 (d 3), .int .i64 (d 4), .int .i64 (c 5), .int .i64 (c 6), .int .i64 (c 7), .int .i64 (c 8), .int .i64 (c 9), .int .i64 (c 10), .int .i64 (c 11), .int .i64 (c 12), .int .i64 (c 13)] rfl
  have h5 := set_to h4 5 (.int .i64 (d 5)) #[.int .i64 (d 0), .int .i64 (d 1), .int .i64 (d 2), .int .i64 (d 3), .int .i64 (d 4), .int .i64 (d 5), .int .i64 (c 6), .int .i64 (c 7), .int .i64 (c 8), .int .i64 (c 9), .int .i64 (c 10), .int .i64 (c 11), .int .i64 (c 12), .int .i64 (c 13)] rfl
  have h6 := set_to h5 6 (.int .i64 (d 6)) #[.int .i64 (d 0), .int .i64 (d 1), .int .i64 (d 2), .int .i64 (d 3), .int .i64 (d 4), .int .i64 (d 5), .int .i64 (d 6), .int .i64 (c 7), .int .i64 (c 8), .int .i64 (c 9), .int .i64 (c 10), .int .i64 (c 11), .int .i64 (c 12), .int .i64 (c 13)] rfl
  have h7 := set_to h6 7 (.int .i64 (d 7)) #[.int .i64 (d 0), .int .i64 (d 1), .int .i64 (d 2), .int .i64 (d 3), .int .i64 (d 4), .int .i64 (d 5), .int .i64 (d 6), .int .i64 (d 7), .int .i64 (c 8), .int .i64 (c 9), .int .i64 (c 10), .int .i64 (c 11), .int .i64 (c 12), .int .i64 (c 13)] rfl
  have h8 := set_to h7 8 (.int .i64 (d 8)) #[.int .i64 (d 0), .int .i64 (d 1), .int .i64 (d 2), .int .i64 (d 3), .int .i64 (d 4), .int .i64 (d 5), .int .i64 (d 6), .int .i64 (d 7), .int .i64 (d 8), .int .i64 (c 9), .int .i64 (c 10), .int .i64 (c 11), .int .i64 (c 12), .int .i64 (c 13)] rfl
  have h9 := set_to h8 9 (.int .i64 (d 9)) #[.int .i64 (d 0), .int .i64 (d 1), .int .i64 (d 2), .int .i64 (d 3), .int .i64 (d 4), .int .i64 (d 5), .int .i64 (d 6), .int .i64 (d 7), .int .i64 (d 8), .int .i64 (d 9), .int .i64 (c 10), .int .i64 (c 11), .int .i64 (c 12), .int .i64 (c 13)] rfl
  have h10 := set_to h9 10 (.int .i64 (d 10)) #[.int .i64 (d 0), .int .i64 (d 1), .int .i64 (d 2), .int .i64 (d 3), .int .i64 (d 4), .int .i64 (d 5), .int .i64 (d 6), .int .i64 (d 7), .int .i64 (d 8), .int .i64 (d 9), .int .i64 (d 10), .int .i64 (c 11), .int .i64 (c 12), .int .i64 (c 13)] rfl
  have h11 := set_to h10 11 (.int .i64 (d 11)) #[.int .i64 (d 0), .int .i64 (d 1), .int .i64 (d 2), .int .i64 (d 3), .int .i64 (d 4), .int .i64 (d 5), .int .i64 (d 6), .int .i64 (d 7), .int .i64 (d 8), .int .i64 (d 9), .int .i64 (d 10), .int .i64 (d 11), .int .i64 (c 12), .int .i64 (c 13)] rfl
  have h12 := set_to h11 12 (.int .i64 (d 12)) #[.int .i64 (d 0), .int .i64 (d 1), .int .i64 (d 2), .int .i64 (d 3), .int .i64 (d 4), .int .i64 (d 5), .int .i64 (d 6), .int .i64 (d 7), .int .i64 (d 8), .int .i64 (d 9), .int .i64 (d 10), .int .i64 (d 11), .int .i64 (d 12), .int .i64 (c 13)] rfl
  have h13 := set_to h12 13 (.int .i64 (d 13)) #[.int .i64 (d 0), .int .i64 (d 1), .int .i64 (d 2), .int .i64 (d 3), .int .i64 (d 4), .int .i64 (d 5), .int .i64 (d 6), .int .i64 (d 7), .int .i64 (d 8), .int .i64 (d 9), .int .i64 (d 10), .int .i64 (d 11), .int .i64 (d 12), .int .i64 (d 13)] rfl
  exact h13

theorem drewCfg_drew {w W' : World} {A : Option Addr} {n cap : Nat} {zs : List Int} {e : Ending} (h : DrewCfg w A n cap zs e W') : DrewCfg w A n cap zs e W'.drew := by
  obtain ⟨g, c, rfl, h1, h2, h3⟩ := h
  exact ⟨g, c, rfl, h1, cur_drew h2, h3.drew⟩

theorem drewCfg_end {w w4 W' : World} {g : Nat} {A : Option Addr} {n cap : Nat} {zs : List Int} {c : Nat → Int} (C : Cur w4 g A n cap zs) (HB : Bytes w w.heap.size A zs) (hg : w.heap.size + 1 = g) (hb : Below w.heap.size w W') (e : W'.heap[g]? = w4.heap[g]?) :
    DrewCfg w A n cap zs (.returned (.tuple #[.pointer (some ⟨g, 0, none⟩), .agg #[.int .i64 (c 0), .int .i64 (c 1), .int .i64 (c 2), .int .i64 (c 3), .int .i64 (c 4), .int .i64 (c 5), .int .i64 (c 6), .int .i64 (c 7), .int .i64 (c 8), .int .i64 (c 9), .int .i64 (c 10), .int .i64 (c 11), .int .i64 (c 12), .int .i64 (c 13)]])) W' := by
  obtain ⟨i, h, K⟩ := C
  refine ⟨g, c, rfl, by omega, ⟨i, h, e.trans K.blk, ⟨HB.1, fun hp => ?_⟩, K.len, K.small, K.pos, K.le⟩, hb⟩
  obtain ⟨b, off, ea, hlt, hc⟩ := HB.2 hp
  exact ⟨b, off, ea, by omega, fun i hi => (hb.cell (p := ⟨b, off + i, none⟩) hlt).trans (hc i hi)⟩

set_option maxRecDepth 100000 in
set_option maxHeartbeats 4000000 in
theorem draw04_any (A : Option Addr) (n cap : Nat) (zs : List Int) (w : World) (hn : zs.length = n) (hs : n ≤ 1048576) (hb : Bytes w w.heap.size A zs) :
    Calls Tryz.prog 11 #[.slice A n cap] w (DrewCfg w A n cap zs) := by
  have Hn := Lib.hid hn
  have HB := Lib.hid hb
  clear hn hb
  go_enter Tryz.func11, Tryz.ntmps11
  go_wp2_with fail
  have hb0 := bel_alloc w (.cells #[.int .i64 0, .int .i64 0, .int .i64 0, .int .i64 0, .int .i64 0, .int .i64 0, .int .i64 0, .int .i64 0, .int .i64 0, .int .i64 0, .int .i64 0, .int .i64 0, .int .i64 0, .int .i64 0] 25)
  have hr0 := heap_alloc_new w (.cells #[.int .i64 0, .int .i64 0, .int .i64 0, .int .i64 0, .int .i64 0, .int .i64 0, .int .i64 0, .int .i64 0, .int .i64 0, .int .i64 0, .int .i64 0, .int .i64 0, .int .i64 0, .int .i64 0] 25)
  have hz0 : (w.alloc (.cells #[.int .i64 0, .int .i64 0, .int .i64 0, .int .i64 0, .int .i64 0, .int .i64 0, .int .i64 0, .int .i64 0, .int .i64 0, .int .i64 0, .int .i64 0, .int .i64 0, .int .i64 0, .int .i64 0] 25)).heap.size = w.heap.size + 1 := by simp
  refine (new_any A n cap zs _ Hn.out hs ?hby).mono ?_
  case hby => exact ⟨HB.out.1, fun hp => by
    obtain ⟨b, off, e, hb, hc⟩ := HB.out.2 hp
    exact ⟨b, off, e, by omega, fun i hi => (hb0.cell (p := ⟨b, off + i, none⟩) hb).trans (hc i hi)⟩⟩
  rintro e w1 ⟨rfl, hc1, b1⟩
  rw [hz0] at hc1
  have R := Lib.hid ((b1.block _ (by rw [hz0]; omega)).trans hr0)
  have B := Lib.hid (bel_trans hb0 b1)
  have C := Lib.hid hc1
  have hzw : w.heap.size + 1 < w1.heap.size := hc1.lt
  rw [hz0]
  clear hb0 hr0 hz0 b1 hc1
  obtain ⟨r, hr⟩ : ∃ r, w.heap.size = r := ⟨_, rfl⟩
  obtain ⟨g, hg⟩ : ∃ g, w.heap.size + 1 = g := ⟨_, rfl⟩
  have hrg : r < g := by omega
  have Hr := Lib.hid hr
  have Hg := Lib.hid hg
  rw [hg] at C ⊢
  rw [hr] at R ⊢
  clear hr hg
  go_wp2_with fail
  refine (drawConfig_any g A n cap zs _ C.out).mono ?_
  rintro e w2 ⟨c, rfl, hc2, hg2⟩
  have hrl := row_lt R.out
  replace R := Lib.hid ((hg2.block _ hrl (fun e => by injection e with e; omega)).trans R.out)
  replace B := Lib.hid (B.out.trans (grown_below hg2 (by omega) (by have := Hg.out; omega)))
  have hr2 := row_lt R.out
  have C2 := Lib.hid hc2
  clear hc2 hg2 C hrl
  go_wp2_with fail
  have ha := bel_alloc w2 (.cells #[.int .i64 (c 0), .int .i64 (c 1), .int .i64 (c 2), .int .i64 (c 3), .int .i64 (c 4), .int .i64 (c 5), .int .i64 (c 6), .int .i64 (c 7), .int .i64 (c 8), .int .i64 (c 9), .int .i64 (c 10), .int .i64 (c 11), .int .i64 (c 12), .int .i64 (c 13)] 25)
  have hk := heap_alloc_new w2 (.cells #[.int .i64 (c 0), .int .i64 (c 1), .int .i64 (c 2), .int .i64 (c 3), .int .i64 (c 4), .int .i64 (c 5), .int .i64 (c 6), .int .i64 (c 7), .int .i64 (c 8), .int .i64 (c 9), .int .i64 (c 10), .int .i64 (c 11), .int .i64 (c 12), .int .i64 (c 13)] 25)
  obtain ⟨kb, hkb⟩ : ∃ kb, w2.heap.size = kb := ⟨_, rfl⟩
  have hrk : r < kb := by omega
  have hgk : g < kb := by have := C2.out.lt; omega
  replace R := Lib.hid ((ha.block _ hr2).trans R.out)
  replace B := Lib.hid (B.out.trans (ha.mono (by have := Hr.out; omega)))
  replace C2 := Lib.hid (C2.out.alloc (.cells #[.int .i64 (c 0), .int .i64 (c 1), .int .i64 (c 2), .int .i64 (c 3), .int .i64 (c 4), .int .i64 (c 5), .int .i64 (c 6), .int .i64 (c 7), .int .i64 (c 8), .int .i64 (c 9), .int .i64 (c 10), .int .i64 (c 11), .int .i64 (c 12), .int .i64 (c 13)] 25))
  rw [hkb] at hk ⊢
  have Kk := Lib.hid hk
  obtain ⟨w3, hw3⟩ : ∃ w3, w2.alloc (.cells #[.int .i64 (c 0), .int .i64 (c 1), .int .i64 (c 2), .int .i64 (c 3), .int .i64 (c 4), .int .i64 (c 5), .int .i64 (c 6), .int .i64 (c 7), .int .i64 (c 8), .int .i64 (c 9), .int .i64 (c 10), .int .i64 (c 11), .int .i64 (c 12), .int .i64 (c 13)] 25) = w3 := ⟨_, rfl⟩
  rw [hw3] at R B C2 Kk ⊢
  clear ha hk hw3 hkb hr2
  refine (once_any g A n cap zs 8 _ C2.out).mono ?_
  rintro e w4 ⟨x, rfl, hc4, hg4⟩
  have hk3 := row_lt Kk.out
  replace R := Lib.hid ((hg4.block _ (by omega) (fun e => by injection e with e; omega)).trans R.out)
  replace Kk := Lib.hid ((hg4.block _ hk3 (fun e => by injection e with e; omega)).trans Kk.out)
  replace B := Lib.hid (B.out.trans (grown_below hg4 (by have := Hr.out; omega) (by have := Hg.out; omega)))
  have C := Lib.hid hc4
  clear hc4 hg4 C2 hk3
  cases x
  · go_wp2_with fail
    have s0 : w4.cell? ⟨kb, 0, none⟩ = some (.int .i64 (c 0)) := cell_of_row _ _ 0 _ _ (0, 0) Kk.out
    have s1 : w4.cell? ⟨kb, 1, none⟩ = some (.int .i64 (c 1)) := cell_of_row _ _ 1 _ _ (0, 0) Kk.out
    have s2 : w4.cell? ⟨kb, 2, none⟩ = some (.int .i64 (c 2)) := cell_of_row _ _ 2 _ _ (0, 0) Kk.out
    have s3 : w4.cell? ⟨kb, 3, none⟩ = some (.int .i64 (c 3)) := cell_of_row _ _ 3 _ _ (0, 0) Kk.out
    have s4 : w4.cell? ⟨kb, 4, none⟩ = some (.int .i64 (c 4)) := cell_of_row _ _ 4 _ _ (0, 0) Kk.out
    have s5 : w4.cell? ⟨kb, 5, none⟩ = some (.int .i64 (c 5)) := cell_of_row _ _ 5 _ _ (0, 0) Kk.out
    have s6 : w4.cell? ⟨kb, 6, none⟩ = some (.int .i64 (c 6)) := cell_of_row _ _ 6 _ _ (0, 0) Kk.out
    have s7 : w4.cell? ⟨kb, 7, none⟩ = some (.int .i64 (c 7)) := cell_of_row _ _ 7 _ _ (0, 0) Kk.out
    have s8 : w4.cell? ⟨kb, 8, none⟩ = some (.int .i64 (c 8)) := cell_of_row _ _ 8 _ _ (0, 0) Kk.out
    have s9 : w4.cell? ⟨kb, 9, none⟩ = some (.int .i64 (c 9)) := cell_of_row _ _ 9 _ _ (0, 0) Kk.out
    have s10 : w4.cell? ⟨kb, 10, none⟩ = some (.int .i64 (c 10)) := cell_of_row _ _ 10 _ _ (0, 0) Kk.out
    have s11 : w4.cell? ⟨kb, 11, none⟩ = some (.int .i64 (c 11)) := cell_of_row _ _ 11 _ _ (0, 0) Kk.out
    have s12 : w4.cell? ⟨kb, 12, none⟩ = some (.int .i64 (c 12)) := cell_of_row _ _ 12 _ _ (0, 0) Kk.out
    have s13 : w4.cell? ⟨kb, 13, none⟩ = some (.int .i64 (c 13)) := cell_of_row _ _ 13 _ _ (0, 0) Kk.out
    have hcl : ∀ j, w4.frozen? ⟨r, j, none⟩ = false := fun j => frozen_of_row _ _ j _ _ R.out
    have hcz : ∀ j, w4.cell? ⟨r, j, none⟩ = (#[.int .i64 0, .int .i64 0, .int .i64 0, .int .i64 0, .int .i64 0, .int .i64 0, .int .i64 0, .int .i64 0, .int .i64 0, .int .i64 0, .int .i64 0, .int .i64 0, .int .i64 0, .int .i64 0] : Array Value)[j]? := fun j => cell_of_row _ _ j _ _ (0, 0) R.out
    have z0 : w4.cell? ⟨r, 0, none⟩ = some (.int .i64 0) := hcz 0
    have z1 : w4.cell? ⟨r, 1, none⟩ = some (.int .i64 0) := hcz 1
    have z2 : w4.cell? ⟨r, 2, none⟩ = some (.int .i64 0) := hcz 2
    have z3 : w4.cell? ⟨r, 3, none⟩ = some (.int .i64 0) := hcz 3
    have z4 : w4.cell? ⟨r, 4, none⟩ = some (.int .i64 0) := hcz 4
    have z5 : w4.cell? ⟨r, 5, none⟩ = some (.int .i64 0) := hcz 5
    have z6 : w4.cell? ⟨r, 6, none⟩ = some (.int .i64 0) := hcz 6
    have z7 : w4.cell? ⟨r, 7, none⟩ = some (.int .i64 0) := hcz 7
    have z8 : w4.cell? ⟨r, 8, none⟩ = some (.int .i64 0) := hcz 8
    have z9 : w4.cell? ⟨r, 9, none⟩ = some (.int .i64 0) := hcz 9
    have z10 : w4.cell? ⟨r, 10, none⟩ = some (.int .i64 0) := hcz 10
    have z11 : w4.cell? ⟨r, 11, none⟩ = some (.int .i64 0) := hcz 11
    have z12 : w4.cell? ⟨r, 12, none⟩ = some (.int .i64 0) := hcz 12
    have z13 : w4.cell? ⟨r, 13, none⟩ = some (.int .i64 0) := hcz 13
    clear hcz R Kk
    go_region
    all_goals
      go_wp2
      refine bodyPost_ret (v := .tuple #[.pointer (some ⟨g, 0, none⟩), .agg #[.int .i64 (c 0), .int .i64 (c 1), .int .i64 (c 2), .int .i64 (c 3), .int .i64 (c 4), .int .i64 (c 5), .int .i64 (c 6), .int .i64 (c 7), .int .i64 (c 8), .int .i64 (c 9), .int .i64 (c 10), .int .i64 (c 11), .int .i64 (c 12), .int .i64 (c 13)]]) (by simp [results, Tryz.results11, go_sem, z0, z1, z2, z3, z4, z5, z6, z7, z8, z9, z10, z11, z12, z13]) rfl ?_
      refine drewCfg_drew (drewCfg_end C.out HB.out Hg.out ?_ ?_)
      · refine B.out.trans ?_
        iterate 14 refine Below.setCell ?_ (by have := Hr.out; show w.heap.size ≤ r; omega) _
        exact Below.refl _ _
      · iterate 14 refine (Below.heap_setCell _ _ _ _ (by show g ≠ r; omega)).trans ?_
        rfl
  · have hkk := Kk.out
    have s0 : w4.cell? ⟨kb, 0, none⟩ = some (.int .i64 (c 0)) := cell_of_row _ _ 0 _ _ (0, 0) hkk
    have s1 : w4.cell? ⟨kb, 1, none⟩ = some (.int .i64 (c 1)) := cell_of_row _ _ 1 _ _ (0, 0) hkk
    have s2 : w4.cell? ⟨kb, 2, none⟩ = some (.int .i64 (c 2)) := cell_of_row _ _ 2 _ _ (0, 0) hkk
    have s3 : w4.cell? ⟨kb, 3, none⟩ = some (.int .i64 (c 3)) := cell_of_row _ _ 3 _ _ (0, 0) hkk
    have s4 : w4.cell? ⟨kb, 4, none⟩ = some (.int .i64 (c 4)) := cell_of_row _ _ 4 _ _ (0, 0) hkk
    have s5 : w4.cell? ⟨kb, 5, none⟩ = some (.int .i64 (c 5)) := cell_of_row _ _ 5 _ _ (0, 0) hkk
    have s6 : w4.cell? ⟨kb, 6, none⟩ = some (.int .i64 (c 6)) := cell_of_row _ _ 6 _ _ (0, 0) hkk
    have s7 : w4.cell? ⟨kb, 7, none⟩ = some (.int .i64 (c 7)) := cell_of_row _ _ 7 _ _ (0, 0) hkk
    have s8 : w4.cell? ⟨kb, 8, none⟩ = some (.int .i64 (c 8)) := cell_of_row _ _ 8 _ _ (0, 0) hkk
    have s9 : w4.cell? ⟨kb, 9, none⟩ = some (.int .i64 (c 9)) := cell_of_row _ _ 9 _ _ (0, 0) hkk
    have s10 : w4.cell? ⟨kb, 10, none⟩ = some (.int .i64 (c 10)) := cell_of_row _ _ 10 _ _ (0, 0) hkk
    have s11 : w4.cell? ⟨kb, 11, none⟩ = some (.int .i64 (c 11)) := cell_of_row _ _ 11 _ _ (0, 0) hkk
    have s12 : w4.cell? ⟨kb, 12, none⟩ = some (.int .i64 (c 12)) := cell_of_row _ _ 12 _ _ (0, 0) hkk
    have s13 : w4.cell? ⟨kb, 13, none⟩ = some (.int .i64 (c 13)) := cell_of_row _ _ 13 _ _ (0, 0) hkk
    clear hkk
    go_wp2_with fail
    refine (bend_any g A n cap zs c _ C.out).mono ?_
    rintro e w5 ⟨d, rfl, hc5, hg5⟩
    have hk3 := row_lt Kk.out
    replace R := Lib.hid ((hg5.block _ (by omega) (fun e => by injection e with e; omega)).trans R.out)
    replace Kk := Lib.hid ((hg5.block _ hk3 (fun e => by injection e with e; omega)).trans Kk.out)
    replace B := Lib.hid (B.out.trans (grown_below hg5 (by have := Hr.out; omega) (by have := Hg.out; omega)))
    replace C := Lib.hid hc5
    clear hc5 hg5 hk3 s0 s1 s2 s3 s4 s5 s6 s7 s8 s9 s10 s11 s12 s13
    have hkk := Kk.out
    have s0 : w5.cell? ⟨kb, 0, none⟩ = some (.int .i64 (c 0)) := cell_of_row _ _ 0 _ _ (0, 0) hkk
    have s1 : w5.cell? ⟨kb, 1, none⟩ = some (.int .i64 (c 1)) := cell_of_row _ _ 1 _ _ (0, 0) hkk
    have s2 : w5.cell? ⟨kb, 2, none⟩ = some (.int .i64 (c 2)) := cell_of_row _ _ 2 _ _ (0, 0) hkk
    have s3 : w5.cell? ⟨kb, 3, none⟩ = some (.int .i64 (c 3)) := cell_of_row _ _ 3 _ _ (0, 0) hkk
    have s4 : w5.cell? ⟨kb, 4, none⟩ = some (.int .i64 (c 4)) := cell_of_row _ _ 4 _ _ (0, 0) hkk
    have s5 : w5.cell? ⟨kb, 5, none⟩ = some (.int .i64 (c 5)) := cell_of_row _ _ 5 _ _ (0, 0) hkk
    have s6 : w5.cell? ⟨kb, 6, none⟩ = some (.int .i64 (c 6)) := cell_of_row _ _ 6 _ _ (0, 0) hkk
    have s7 : w5.cell? ⟨kb, 7, none⟩ = some (.int .i64 (c 7)) := cell_of_row _ _ 7 _ _ (0, 0) hkk
    have s8 : w5.cell? ⟨kb, 8, none⟩ = some (.int .i64 (c 8)) := cell_of_row _ _ 8 _ _ (0, 0) hkk
    have s9 : w5.cell? ⟨kb, 9, none⟩ = some (.int .i64 (c 9)) := cell_of_row _ _ 9 _ _ (0, 0) hkk
    have s10 : w5.cell? ⟨kb, 10, none⟩ = some (.int .i64 (c 10)) := cell_of_row _ _ 10 _ _ (0, 0) hkk
    have s11 : w5.cell? ⟨kb, 11, none⟩ = some (.int .i64 (c 11)) := cell_of_row _ _ 11 _ _ (0, 0) hkk
    have s12 : w5.cell? ⟨kb, 12, none⟩ = some (.int .i64 (c 12)) := cell_of_row _ _ 12 _ _ (0, 0) hkk
    have s13 : w5.cell? ⟨kb, 13, none⟩ = some (.int .i64 (c 13)) := cell_of_row _ _ 13 _ _ (0, 0) hkk
    clear hkk
    have hkf : ∀ j, w5.frozen? ⟨kb, j, none⟩ = false := fun j => frozen_of_row _ _ j _ _ Kk.out
    go_wp2_with fail
    have hst : Below kb w5 ((((((((((((((w5.setCell ⟨kb, 0, none⟩ (.int .i64 (d 0))).setCell ⟨kb, 1, none⟩ (.int .i64 (d 1))).setCell ⟨kb, 2, none⟩ (.int .i64 (d 2))).setCell ⟨kb, 3, none⟩ (.int .i64 (d 3))).setCell ⟨kb, 4, none⟩ (.int .i64 (d 4))).setCell ⟨kb, 5, none⟩ (.int .i64 (d 5))).setCell ⟨kb, 6, none⟩ (.int .i64 (d 6))).setCell ⟨kb, 7, none⟩ (.int .i64 (d 7))).setCell ⟨kb, 8, none⟩ (.int .i64 (d 8))).setCell ⟨kb, 9, none⟩ (.int .i64 (d 9))).setCell ⟨kb, 10, none⟩ (.int .i64 (d 10))).setCell ⟨kb, 11, none⟩ (.int .i64 (d 11))).setCell ⟨kb, 12, none⟩ (.int .i64 (d 12))).setCell ⟨kb, 13, none⟩ (.int .i64 (d 13))) := by
      iterate 14 refine Below.setCell ?_ (by show kb ≤ kb; omega) _
      exact Below.refl _ _
    replace Kk := Lib.hid (store14 Kk.out d)
    replace R := Lib.hid ((hst.block _ hrk).trans R.out)
    replace B := Lib.hid (B.out.trans (hst.mono (by have := Hr.out; omega)))
    replace C := Lib.hid (C.out.keep (hst.mono hgk))
    obtain ⟨w6, hw6⟩ : ∃ w6, ((((((((((((((w5.setCell ⟨kb, 0, none⟩ (.int .i64 (d 0))).setCell ⟨kb, 1, none⟩ (.int .i64 (d 1))).setCell ⟨kb, 2, none⟩ (.int .i64 (d 2))).setCell ⟨kb, 3, none⟩ (.int .i64 (d 3))).setCell ⟨kb, 4, none⟩ (.int .i64 (d 4))).setCell ⟨kb, 5, none⟩ (.int .i64 (d 5))).setCell ⟨kb, 6, none⟩ (.int .i64 (d 6))).setCell ⟨kb, 7, none⟩ (.int .i64 (d 7))).setCell ⟨kb, 8, none⟩ (.int .i64 (d 8))).setCell ⟨kb, 9, none⟩ (.int .i64 (d 9))).setCell ⟨kb, 10, none⟩ (.int .i64 (d 10))).setCell ⟨kb, 11, none⟩ (.int .i64 (d 11))).setCell ⟨kb, 12, none⟩ (.int .i64 (d 12))).setCell ⟨kb, 13, none⟩ (.int .i64 (d 13))) = w6 := ⟨_, rfl⟩
    rw [hw6] at Kk R B C ⊢
    clear hst hw6 s0 s1 s2 s3 s4 s5 s6 s7 s8 s9 s10 s11 s12 s13 hkf
    have s0 : w6.cell? ⟨kb, 0, none⟩ = some (.int .i64 (d 0)) := cell_of_row _ _ 0 _ _ (0, 0) Kk.out
    have s1 : w6.cell? ⟨kb, 1, none⟩ = some (.int .i64 (d 1)) := cell_of_row _ _ 1 _ _ (0, 0) Kk.out
    have s2 : w6.cell? ⟨kb, 2, none⟩ = some (.int .i64 (d 2)) := cell_of_row _ _ 2 _ _ (0, 0) Kk.out
    have s3 : w6.cell? ⟨kb, 3, none⟩ = some (.int .i64 (d 3)) := cell_of_row _ _ 3 _ _ (0, 0) Kk.out
    have s4 : w6.cell? ⟨kb, 4, none⟩ = some (.int .i64 (d 4)) := cell_of_row _ _ 4 _ _ (0, 0) Kk.out
    have s5 : w6.cell? ⟨kb, 5, none⟩ = some (.int .i64 (d 5)) := cell_of_row _ _ 5 _ _ (0, 0) Kk.out
    have s6 : w6.cell? ⟨kb, 6, none⟩ = some (.int .i64 (d 6)) := cell_of_row _ _ 6 _ _ (0, 0) Kk.out
    have s7 : w6.cell? ⟨kb, 7, none⟩ = some (.int .i64 (d 7)) := cell_of_row _ _ 7 _ _ (0, 0) Kk.out
    have s8 : w6.cell? ⟨kb, 8, none⟩ = some (.int .i64 (d 8)) := cell_of_row _ _ 8 _ _ (0, 0) Kk.out
    have s9 : w6.cell? ⟨kb, 9, none⟩ = some (.int .i64 (d 9)) := cell_of_row _ _ 9 _ _ (0, 0) Kk.out
    have s10 : w6.cell? ⟨kb, 10, none⟩ = some (.int .i64 (d 10)) := cell_of_row _ _ 10 _ _ (0, 0) Kk.out
    have s11 : w6.cell? ⟨kb, 11, none⟩ = some (.int .i64 (d 11)) := cell_of_row _ _ 11 _ _ (0, 0) Kk.out
    have s12 : w6.cell? ⟨kb, 12, none⟩ = some (.int .i64 (d 12)) := cell_of_row _ _ 12 _ _ (0, 0) Kk.out
    have s13 : w6.cell? ⟨kb, 13, none⟩ = some (.int .i64 (d 13)) := cell_of_row _ _ 13 _ _ (0, 0) Kk.out
    have hcl : ∀ j, w6.frozen? ⟨r, j, none⟩ = false := fun j => frozen_of_row _ _ j _ _ R.out
    have hcz : ∀ j, w6.cell? ⟨r, j, none⟩ = (#[.int .i64 0, .int .i64 0, .int .i64 0, .int .i64 0, .int .i64 0, .int .i64 0, .int .i64 0, .int .i64 0, .int .i64 0, .int .i64 0, .int .i64 0, .int .i64 0, .int .i64 0, .int .i64 0] : Array Value)[j]? := fun j => cell_of_row _ _ j _ _ (0, 0) R.out
    have z0 : w6.cell? ⟨r, 0, none⟩ = some (.int .i64 0) := hcz 0
    have z1 : w6.cell? ⟨r, 1, none⟩ = some (.int .i64 0) := hcz 1
    have z2 : w6.cell? ⟨r, 2, none⟩ = some (.int .i64 0) := hcz 2
    have z3 : w6.cell? ⟨r, 3, none⟩ = some (.int .i64 0) := hcz 3
    have z4 : w6.cell? ⟨r, 4, none⟩ = some (.int .i64 0) := hcz 4
    have z5 : w6.cell? ⟨r, 5, none⟩ = some (.int .i64 0) := hcz 5
    have z6 : w6.cell? ⟨r, 6, none⟩ = some (.int .i64 0) := hcz 6
    have z7 : w6.cell? ⟨r, 7, none⟩ = some (.int .i64 0) := hcz 7
    have z8 : w6.cell? ⟨r, 8, none⟩ = some (.int .i64 0) := hcz 8
    have z9 : w6.cell? ⟨r, 9, none⟩ = some (.int .i64 0) := hcz 9
    have z10 : w6.cell? ⟨r, 10, none⟩ = some (.int .i64 0) := hcz 10
    have z11 : w6.cell? ⟨r, 11, none⟩ = some (.int .i64 0) := hcz 11
    have z12 : w6.cell? ⟨r, 12, none⟩ = some (.int .i64 0) := hcz 12
    have z13 : w6.cell? ⟨r, 13, none⟩ = some (.int .i64 0) := hcz 13
    clear hcz R Kk
    go_region
    all_goals
      go_wp2
      refine bodyPost_ret (v := .tuple #[.pointer (some ⟨g, 0, none⟩), .agg #[.int .i64 (d 0), .int .i64 (d 1), .int .i64 (d 2), .int .i64 (d 3), .int .i64 (d 4), .int .i64 (d 5), .int .i64 (d 6), .int .i64 (d 7), .int .i64 (d 8), .int .i64 (d 9), .int .i64 (d 10), .int .i64 (d 11), .int .i64 (d 12), .int .i64 (d 13)]]) (by simp [results, Tryz.results11, go_sem, z0, z1, z2, z3, z4, z5, z6, z7, z8, z9, z10, z11, z12, z13]) rfl ?_
      refine drewCfg_drew (drewCfg_end C.out HB.out Hg.out ?_ ?_)
      · refine B.out.trans ?_
        iterate 14 refine Below.setCell ?_ (by have := Hr.out; show w.heap.size ≤ r; omega) _
        exact Below.refl _ _
      · iterate 14 refine (Below.heap_setCell _ _ _ _ (by show g ≠ r; omega)).trans ?_
        rfl
end Go.Proofs.YtahfmgjchjjlmaaGreatDoor.Draw
