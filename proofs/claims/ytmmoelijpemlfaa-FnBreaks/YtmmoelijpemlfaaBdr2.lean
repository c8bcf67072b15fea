/- The draw of PlayBreaker: some configuration and some list of events, at most 301. -/
import Derived.Test.YtmmoelijpemlfaaBdr1
import Derived.Test.YtmmoelijpemlfaaDrd1
import Derived.Deep.RegionHeld3
import Derived.Deep.DeepCutAuto
namespace Go.Proofs.Ytmmoelijpemlfaa.Draw
open Go.RowKit Go.Deep Base Rw Bk

theorem size40_any (A : Option Addr) (n cap : Nat) (w : World) (hn : n ≤ 1048576) :
    Calls Try.prog 44 #[.slice A n cap, .int .i64 40] w fun e w' => (∃ x, e = .returned (.int .i64 x) ∧ 2 ≤ x ∧ x ≤ 40) ∧ w = w' := by
  obtain ⟨p, hp⟩ : ∃ p : Nat, n / 16 = p := ⟨_, rfl⟩
  have hd : ((n : Int)).tdiv 16 = (p : Int) := by
    rw [Int.tdiv_eq_ediv_of_nonneg (by omega)]; omega
  have hp1 : p ≤ 1048576 := by omega
  clear hp
  have h1 : 0 ≤ (2 : Int) + (p : Int) ∧ (2 : Int) + (p : Int) ≤ 1048578 := by omega
  have hw : IntKind.i64.wrap (p : Int) = (p : Int) := IntWalk.i64_in _ (by omega)
  have hw2 : IntKind.i64.wrap (2 + (p : Int)) = 2 + (p : Int) := IntWalk.i64_in _ (by omega)
  by_cases h60 : (40 : Int) < 2 + (p : Int)
  · go_enter Try.func44, Try.ntmps44
    go_wp2
    go_ret
    exact ⟨⟨40, rfl, by omega, by omega⟩, rfl⟩
  · go_enter Try.func44, Try.ntmps44
    go_wp2
    go_ret
    exact ⟨⟨_, rfl, by omega, by omega⟩, rfl⟩

/-- What the draw of PlayBreaker hands back. -/
def DrewPlay (w : World) (e : Ending) (w' : World) : Prop :=
  ∃ (c : Nat → Int) (A' : Option Addr) (cap' : Nat) (es : List (Int × Int)), e = .returned (.tuple #[.agg #[.int .i64 (c 0), .int .i64 (c 1), .int .i64 (c 2), .int .i64 (c 3), .int .i64 (c 4), .int .i64 (c 5), .int .i64 (c 6), .int .i64 (c 7), .int .i64 (c 8), .int .i64 (c 9), .int .i64 (c 10), .int .i64 (c 11), .int .i64 (c 12), .int .i64 (c 13)], .slice A' es.length cap']) ∧ EvI w' A' es ∧ es.length ≤ 301 ∧ Below w.heap.size w w'

def ZR : Array Value := #[.int .i64 0, .int .i64 0, .int .i64 0, .int .i64 0, .int .i64 0, .int .i64 0, .int .i64 0, .int .i64 0, .int .i64 0, .int .i64 0, .int .i64 0, .int .i64 0, .int .i64 0, .int .i64 0]

set_option maxRecDepth 100000 in
set_option maxHeartbeats 4000000 in
theorem drawPlay_any (A : Option Addr) (n cap : Nat) (zs : List Int) (w : World) (hn : zs.length = n) (hs : n ≤ 1048576) (hb : Bytes w w.heap.size A zs) :
    Calls Try.prog 12 #[.slice A n cap] w (DrewPlay w) := by
  have Hn := Lib.hid hn
  have HB := Lib.hid hb
  clear hn hb
  go_enter Try.func12, Try.ntmps12
  go_wp2_with fail
  have hb0 := bel_alloc w (.cells #[.int .i64 0, .int .i64 0, .int .i64 0, .int .i64 0, .int .i64 0, .int .i64 0, .int .i64 0, .int .i64 0, .int .i64 0, .int .i64 0, .int .i64 0, .int .i64 0, .int .i64 0, .int .i64 0] 25)
  have hr0 := heap_alloc_new w (.cells #[.int .i64 0, .int .i64 0, .int .i64 0, .int .i64 0, .int .i64 0, .int .i64 0, .int .i64 0, .int .i64 0, .int .i64 0, .int .i64 0, .int .i64 0, .int .i64 0, .int .i64 0, .int .i64 0] 25)
  have hz0 : (w.alloc (.cells #[.int .i64 0, .int .i64 0, .int .i64 0, .int .i64 0, .int .i64 0, .int .i64 0, .int .i64 0, .int .i64 0, .int .i64 0, .int .i64 0, .int .i64 0, .int .i64 0, .int .i64 0, .int .i64 0] 25)).heap.size = w.heap.size + 1 := by simp
  refine (draw04_any A n cap zs _ Hn.out hs ?hby).mono ?_
  case hby => exact ⟨HB.out.1, fun hp => by
    obtain ⟨b, off, e, hb, hc⟩ := HB.out.2 hp
    exact ⟨b, off, e, by omega, fun i hi => (hb0.cell (p := ⟨b, off + i, none⟩) hb).trans (hc i hi)⟩⟩
  rintro e w1 ⟨g, c, rfl, hg, hc1, b1⟩
  rw [hz0] at hg
  have hgl := hc1.lt
  go_wp2_with fail
  have S : Hid (RdSt w (w1.alloc (.cells #[.int .i64 (c 0), .int .i64 (c 1), .int .i64 (c 2), .int .i64 (c 3), .int .i64 (c 4), .int .i64 (c 5), .int .i64 (c 6), .int .i64 (c 7), .int .i64 (c 8), .int .i64 (c 9), .int .i64 (c 10), .int .i64 (c 11), .int .i64 (c 12), .int .i64 (c 13)] 25)) g A n cap zs w1.heap.size c (.slice none 0 0) []) := by
    have ba := bel_alloc w1 (.cells #[.int .i64 (c 0), .int .i64 (c 1), .int .i64 (c 2), .int .i64 (c 3), .int .i64 (c 4), .int .i64 (c 5), .int .i64 (c 6), .int .i64 (c 7), .int .i64 (c 8), .int .i64 (c 9), .int .i64 (c 10), .int .i64 (c 11), .int .i64 (c 12), .int .i64 (c 13)] 25)
    exact ⟨hc1.alloc _, heap_alloc_new w1 _, (ba.block _ (by omega)).trans ((b1.block _ (by rw [hz0]; omega)).trans hr0), bel_trans (bel_trans hb0 b1) ba, World.ownsRow_nil _ _ _ _, by omega, hgl⟩
  clear hb0 hr0 hz0 b1 hc1
  obtain ⟨W, hW⟩ : ∃ W, w1.alloc (.cells #[.int .i64 (c 0), .int .i64 (c 1), .int .i64 (c 2), .int .i64 (c 3), .int .i64 (c 4), .int .i64 (c 5), .int .i64 (c 6), .int .i64 (c 7), .int .i64 (c 8), .int .i64 (c 9), .int .i64 (c 10), .int .i64 (c 11), .int .i64 (c 12), .int .i64 (c 13)] 25) = W := ⟨_, rfl⟩
  rw [hW] at S ⊢
  clear hW
  generalize w1.heap.size = kb at S hgl ⊢
  refine (size40_any A n cap _ hs).mono ?_
  rintro e w' ⟨⟨q, rfl, q0, q1⟩, rfl⟩
  go_wp2_with fail
  refine (below_any g A n cap zs q _ S.out.cur).mono ?_
  rintro e w2 ⟨m, rfl, hx, hc, hg'⟩
  obtain ⟨m0, m1⟩ := hx.2 (by omega)
  replace S := Lib.hid (S.out.draw hc hg')
  clear hx hc hg'
  go_wp2_with fail
  refine (once_any g A n cap zs 40 _ S.out.cur).mono ?_
  rintro e W3 ⟨x, rfl, hc, hg'⟩
  replace S := Lib.hid (S.out.draw hc hg')
  clear hc hg'
  have hm : 0 ≤ m ∧ m ≤ 301 := by omega
  clear m0 m1 q0 q1
  cases x
  · skip
    obtain ⟨p, rfl⟩ := Int.eq_ofNat_of_zero_le hm.1
    go_wp2_with fail
    obtain ⟨V0, hV0⟩ : ∃ V0, W3.drew = V0 := ⟨_, rfl⟩
    have S0 : Hid (RdSt w V0 g A n cap zs kb c (.slice none 0 0) []) := by rw [← hV0]; exact ⟨cur_drew S.out.cur, S.out.kblk, S.out.res, S.out.bel.drew, World.ownsRow_nil _ _ _ _, S.out.lt1, S.out.lt2⟩
    have HS : Hid (V0.heap[kb]? = some (.cells #[.int .i64 (c 0), .int .i64 (c 1), .int .i64 (c 2), .int .i64 (c 3), .int .i64 (c 4), .int .i64 (c 5), .int .i64 (c 6), .int .i64 (c 7), .int .i64 (c 8), .int .i64 (c 9), .int .i64 (c 10), .int .i64 (c 11), .int .i64 (c 12), .int .i64 (c 13)] 25 (0, 0))) := S0.out.kblk
    refine wp_region_held_drew (S := fun V => V.heap[kb]? = some (.cells #[.int .i64 (c 0), .int .i64 (c 1), .int .i64 (c 2), .int .i64 (c 3), .int .i64 (c 4), .int .i64 (c 5), .int .i64 (c 6), .int .i64 (c 7), .int .i64 (c 8), .int .i64 (c 9), .int .i64 (c 10), .int .i64 (c 11), .int .i64 (c 12), .int .i64 (c 13)] 25 (0, 0))) (by kernel_rfl) S.out.kblk (fun _ => ?_)
    rw [hV0]
    clear hV0 S
    refine wpAnyH_take (i := 0) (v := .agg #[.int .i64 (c 0), .int .i64 (c 1), .int .i64 (c 2), .int .i64 (c 3), .int .i64 (c 4), .int .i64 (c 5), .int .i64 (c 6), .int .i64 (c 7), .int .i64 (c 8), .int .i64 (c 9), .int .i64 (c 10), .int .i64 (c 11), .int .i64 (c 12), .int .i64 (c 13)]) rfl (by kernel_rfl) (by kernel_rfl) (by kernel_rfl) (fun _ _ _ h => h) (.inl ⟨rfl, fun V hS => ?y0⟩) HS.out ?_
    case y0 =>
      have q0 : V.cell? ⟨kb, 0, none⟩ = some (.int .i64 (c 0)) := cell_of_row _ _ 0 _ _ (0, 0) hS
      have q1 : V.cell? ⟨kb, 1, none⟩ = some (.int .i64 (c 1)) := cell_of_row _ _ 1 _ _ (0, 0) hS
      have q2 : V.cell? ⟨kb, 2, none⟩ = some (.int .i64 (c 2)) := cell_of_row _ _ 2 _ _ (0, 0) hS
      have q3 : V.cell? ⟨kb, 3, none⟩ = some (.int .i64 (c 3)) := cell_of_row _ _ 3 _ _ (0, 0) hS
      have q4 : V.cell? ⟨kb, 4, none⟩ = some (.int .i64 (c 4)) := cell_of_row _ _ 4 _ _ (0, 0) hS
      have q5 : V.cell? ⟨kb, 5, none⟩ = some (.int .i64 (c 5)) := cell_of_row _ _ 5 _ _ (0, 0) hS
      have q6 : V.cell? ⟨kb, 6, none⟩ = some (.int .i64 (c 6)) := cell_of_row _ _ 6 _ _ (0, 0) hS
      have q7 : V.cell? ⟨kb, 7, none⟩ = some (.int .i64 (c 7)) := cell_of_row _ _ 7 _ _ (0, 0) hS
      have q8 : V.cell? ⟨kb, 8, none⟩ = some (.int .i64 (c 8)) := cell_of_row _ _ 8 _ _ (0, 0) hS
      have q9 : V.cell? ⟨kb, 9, none⟩ = some (.int .i64 (c 9)) := cell_of_row _ _ 9 _ _ (0, 0) hS
      have q10 : V.cell? ⟨kb, 10, none⟩ = some (.int .i64 (c 10)) := cell_of_row _ _ 10 _ _ (0, 0) hS
      have q11 : V.cell? ⟨kb, 11, none⟩ = some (.int .i64 (c 11)) := cell_of_row _ _ 11 _ _ (0, 0) hS
      have q12 : V.cell? ⟨kb, 12, none⟩ = some (.int .i64 (c 12)) := cell_of_row _ _ 12 _ _ (0, 0) hS
      have q13 : V.cell? ⟨kb, 13, none⟩ = some (.int .i64 (c 13)) := cell_of_row _ _ 13 _ _ (0, 0) hS
      clear hS
      go_simp
    go_simp
    refine wpAnyH_take (i := 1) (v := .pointer (some ⟨g, 0, none⟩)) rfl (by kernel_rfl) (by kernel_rfl) (by kernel_rfl) (fun _ _ _ h => h) (.inl ⟨rfl, fun V hS => ?y1⟩) HS.out ?_
    case y1 =>
      clear hS
      go_simp
    go_simp
    refine wpAnyH_take (i := 2) (v := .int .i64 p) rfl (by kernel_rfl) (by kernel_rfl) (by kernel_rfl) (fun _ _ _ h => h) (.inl ⟨rfl, fun V hS => ?y2⟩) HS.out ?_
    case y2 =>
      clear hS
      go_simp
    go_simp
    refine wpAnyH_ready (rs := [3]) (by kernel_rfl) (by simp) (AllReadyH.cons rfl (fun J hJ => ?_) AllReadyH.nil)
    go_simp
    refine (drawEvents_any g A n cap zs p V0 (by omega) S0.out.cur).mono ?_
    rintro e V1 ⟨A', cap', es, rfl, hel, hev, hgr, hnw⟩
    have hl1 := S0.out.lt1
    have hl2 := S0.out.lt2
    have hkl := S0.out.klt
    have HS1 : Hid (V1.heap[kb]? = some (.cells #[.int .i64 (c 0), .int .i64 (c 1), .int .i64 (c 2), .int .i64 (c 3), .int .i64 (c 4), .int .i64 (c 5), .int .i64 (c 6), .int .i64 (c 7), .int .i64 (c 8), .int .i64 (c 9), .int .i64 (c 10), .int .i64 (c 11), .int .i64 (c 12), .int .i64 (c 13)] 25 (0, 0))) := (hgr.block kb hkl (fun e => by injection e with e; omega)).trans S0.out.kblk
    have R1 : Hid (V1.heap[w.heap.size]? = some (.cells #[.int .i64 0, .int .i64 0, .int .i64 0, .int .i64 0, .int .i64 0, .int .i64 0, .int .i64 0, .int .i64 0, .int .i64 0, .int .i64 0, .int .i64 0, .int .i64 0, .int .i64 0, .int .i64 0] 25 (0, 0))) := (hgr.block w.heap.size (by omega) (fun e => by injection e with e; omega)).trans S0.out.res
    have B1 : Hid (Below w.heap.size w V1) := S0.out.bel.trans (Draw.grown_below hgr (by omega) (by omega))
    have hnew : ∀ b off, A' = some ⟨b, off, none⟩ → 0 < es.length → b ≠ w.heap.size := fun b off e hp => by have := hnw b off e hp; omega
    have HevB : Hid (EvI V1 A' es ∧ ∀ b off, A' = some ⟨b, off, none⟩ → 0 < es.length → b ≠ w.heap.size) := ⟨hev, hnew⟩
    have Hel := Lib.hid hel
    clear hev hgr hel hnew hnw
    refine hJ.out _ _ HS1.out (fun _ => ?_)
    clear hJ J
    go_simp
    refine wpAnyH_ready (rs := [4]) (by kernel_rfl) (by simp) (AllReadyH.cons rfl (fun J hJ => ?_) AllReadyH.nil)
    have r0 : V1.cell? ⟨w.heap.size, 0, none⟩ = some (.int .i64 0) := cell_of_row _ _ 0 _ _ (0, 0) R1.out
    have r1 : V1.cell? ⟨w.heap.size, 1, none⟩ = some (.int .i64 0) := cell_of_row _ _ 1 _ _ (0, 0) R1.out
    have r2 : V1.cell? ⟨w.heap.size, 2, none⟩ = some (.int .i64 0) := cell_of_row _ _ 2 _ _ (0, 0) R1.out
    have r3 : V1.cell? ⟨w.heap.size, 3, none⟩ = some (.int .i64 0) := cell_of_row _ _ 3 _ _ (0, 0) R1.out
    have r4 : V1.cell? ⟨w.heap.size, 4, none⟩ = some (.int .i64 0) := cell_of_row _ _ 4 _ _ (0, 0) R1.out
    have r5 : V1.cell? ⟨w.heap.size, 5, none⟩ = some (.int .i64 0) := cell_of_row _ _ 5 _ _ (0, 0) R1.out
    have r6 : V1.cell? ⟨w.heap.size, 6, none⟩ = some (.int .i64 0) := cell_of_row _ _ 6 _ _ (0, 0) R1.out
    have r7 : V1.cell? ⟨w.heap.size, 7, none⟩ = some (.int .i64 0) := cell_of_row _ _ 7 _ _ (0, 0) R1.out
    have r8 : V1.cell? ⟨w.heap.size, 8, none⟩ = some (.int .i64 0) := cell_of_row _ _ 8 _ _ (0, 0) R1.out
    have r9 : V1.cell? ⟨w.heap.size, 9, none⟩ = some (.int .i64 0) := cell_of_row _ _ 9 _ _ (0, 0) R1.out
    have r10 : V1.cell? ⟨w.heap.size, 10, none⟩ = some (.int .i64 0) := cell_of_row _ _ 10 _ _ (0, 0) R1.out
    have r11 : V1.cell? ⟨w.heap.size, 11, none⟩ = some (.int .i64 0) := cell_of_row _ _ 11 _ _ (0, 0) R1.out
    have r12 : V1.cell? ⟨w.heap.size, 12, none⟩ = some (.int .i64 0) := cell_of_row _ _ 12 _ _ (0, 0) R1.out
    have r13 : V1.cell? ⟨w.heap.size, 13, none⟩ = some (.int .i64 0) := cell_of_row _ _ 13 _ _ (0, 0) R1.out
    have rf : ∀ j, V1.frozen? ⟨w.heap.size, j, none⟩ = false := fun j => frozen_of_row _ _ j _ _ R1.out
    go_simp
    clear r0 r1 r2 r3 r4 r5 r6 r7 r8 r9 r10 r11 r12 r13 rf
    obtain ⟨V2, hV2⟩ : ∃ V2, ((((((((((((((V1.setCell ⟨w.heap.size, 0, none⟩ (.int .i64 (c 0))).setCell ⟨w.heap.size, 1, none⟩ (.int .i64 (c 1))).setCell ⟨w.heap.size, 2, none⟩ (.int .i64 (c 2))).setCell ⟨w.heap.size, 3, none⟩ (.int .i64 (c 3))).setCell ⟨w.heap.size, 4, none⟩ (.int .i64 (c 4))).setCell ⟨w.heap.size, 5, none⟩ (.int .i64 (c 5))).setCell ⟨w.heap.size, 6, none⟩ (.int .i64 (c 6))).setCell ⟨w.heap.size, 7, none⟩ (.int .i64 (c 7))).setCell ⟨w.heap.size, 8, none⟩ (.int .i64 (c 8))).setCell ⟨w.heap.size, 9, none⟩ (.int .i64 (c 9))).setCell ⟨w.heap.size, 10, none⟩ (.int .i64 (c 10))).setCell ⟨w.heap.size, 11, none⟩ (.int .i64 (c 11))).setCell ⟨w.heap.size, 12, none⟩ (.int .i64 (c 12))).setCell ⟨w.heap.size, 13, none⟩ (.int .i64 (c 13))) = V2 := ⟨_, rfl⟩
    have R2 : Hid (V2.heap[w.heap.size]? = some (.cells #[.int .i64 (c 0), .int .i64 (c 1), .int .i64 (c 2), .int .i64 (c 3), .int .i64 (c 4), .int .i64 (c 5), .int .i64 (c 6), .int .i64 (c 7), .int .i64 (c 8), .int .i64 (c 9), .int .i64 (c 10), .int .i64 (c 11), .int .i64 (c 12), .int .i64 (c 13)] 25 (0, 0))) := by rw [← hV2]; exact store14 (c := fun _ => 0) R1.out c
    have T2 : Turns w.heap.size (w.heap.size + 1) V1 V2 := by
      rw [← hV2]
      iterate 14 refine Turns.setCell ?_ (by show w.heap.size ≤ w.heap.size; omega) (by show w.heap.size < w.heap.size + 1; omega) _
      exact Turns.of_below (Below.refl _ _)
    rw [hV2]
    clear hV2
    have HS2 : Hid (V2.heap[kb]? = some (.cells #[.int .i64 (c 0), .int .i64 (c 1), .int .i64 (c 2), .int .i64 (c 3), .int .i64 (c 4), .int .i64 (c 5), .int .i64 (c 6), .int .i64 (c 7), .int .i64 (c 8), .int .i64 (c 9), .int .i64 (c 10), .int .i64 (c 11), .int .i64 (c 12), .int .i64 (c 13)] 25 (0, 0))) := (T2.block kb (row_lt HS1.out) (by omega)).trans HS1.out
    have B2 : Hid (Below w.heap.size w V2) := B1.out.trans (T2.below (Nat.le_refl _) B1.out.size)
    have Hev2 : Hid (EvI V2 A' es) := fun hp => by
      obtain ⟨b, off, e1, hc⟩ := HevB.out.1 hp
      have hne := HevB.out.2 b off e1 hp
      have hlt := World.block_lt_of_cell? _ _ (hc 0 hp).1
      have hbb := T2.block b hlt (by omega)
      exact ⟨b, off, e1, fun i hi => ⟨(World.cell?_of_block hbb).trans (hc i hi).1, (World.cell?_of_block hbb).trans (hc i hi).2⟩⟩
    clear T2 R1 HS1
    refine hJ.out _ _ HS2.out (fun _ => ?_)
    clear hJ J
    go_simp
    refine wpAnyH_take (i := 5) (v := .slice A' es.length cap') rfl (by kernel_rfl) (by kernel_rfl) (by kernel_rfl) (fun _ _ _ h => h) (.inl ⟨rfl, fun V hS => ?y3⟩) HS2.out ?_
    case y3 =>
      clear hS
      go_simp
    go_simp
    refine wpAnyH_done (by kernel_rfl) ?_ _
    have r0 : V2.cell? ⟨w.heap.size, 0, none⟩ = some (.int .i64 (c 0)) := cell_of_row _ _ 0 _ _ (0, 0) R2.out
    have r1 : V2.cell? ⟨w.heap.size, 1, none⟩ = some (.int .i64 (c 1)) := cell_of_row _ _ 1 _ _ (0, 0) R2.out
    have r2 : V2.cell? ⟨w.heap.size, 2, none⟩ = some (.int .i64 (c 2)) := cell_of_row _ _ 2 _ _ (0, 0) R2.out
    have r3 : V2.cell? ⟨w.heap.size, 3, none⟩ = some (.int .i64 (c 3)) := cell_of_row _ _ 3 _ _ (0, 0) R2.out
    have r4 : V2.cell? ⟨w.heap.size, 4, none⟩ = some (.int .i64 (c 4)) := cell_of_row _ _ 4 _ _ (0, 0) R2.out
    have r5 : V2.cell? ⟨w.heap.size, 5, none⟩ = some (.int .i64 (c 5)) := cell_of_row _ _ 5 _ _ (0, 0) R2.out
    have r6 : V2.cell? ⟨w.heap.size, 6, none⟩ = some (.int .i64 (c 6)) := cell_of_row _ _ 6 _ _ (0, 0) R2.out
    have r7 : V2.cell? ⟨w.heap.size, 7, none⟩ = some (.int .i64 (c 7)) := cell_of_row _ _ 7 _ _ (0, 0) R2.out
    have r8 : V2.cell? ⟨w.heap.size, 8, none⟩ = some (.int .i64 (c 8)) := cell_of_row _ _ 8 _ _ (0, 0) R2.out
    have r9 : V2.cell? ⟨w.heap.size, 9, none⟩ = some (.int .i64 (c 9)) := cell_of_row _ _ 9 _ _ (0, 0) R2.out
    have r10 : V2.cell? ⟨w.heap.size, 10, none⟩ = some (.int .i64 (c 10)) := cell_of_row _ _ 10 _ _ (0, 0) R2.out
    have r11 : V2.cell? ⟨w.heap.size, 11, none⟩ = some (.int .i64 (c 11)) := cell_of_row _ _ 11 _ _ (0, 0) R2.out
    have r12 : V2.cell? ⟨w.heap.size, 12, none⟩ = some (.int .i64 (c 12)) := cell_of_row _ _ 12 _ _ (0, 0) R2.out
    have r13 : V2.cell? ⟨w.heap.size, 13, none⟩ = some (.int .i64 (c 13)) := cell_of_row _ _ 13 _ _ (0, 0) R2.out
    go_wp2
    exact bodyPost_ret (v := .tuple #[.agg #[.int .i64 (c 0), .int .i64 (c 1), .int .i64 (c 2), .int .i64 (c 3), .int .i64 (c 4), .int .i64 (c 5), .int .i64 (c 6), .int .i64 (c 7), .int .i64 (c 8), .int .i64 (c 9), .int .i64 (c 10), .int .i64 (c 11), .int .i64 (c 12), .int .i64 (c 13)], .slice A' es.length cap']) (by simp [results, Try.results12, go_sem, r0, r1, r2, r3, r4, r5, r6, r7, r8, r9, r10, r11, r12, r13]) rfl ⟨c, A', cap', es, rfl, Hev2.out, by have := Hel.out; omega, B2.out⟩
  · go_wp2_with fail
    refine (below_any g A n cap zs 2 _ S.out.cur).mono ?_
    rintro e w4 ⟨y, rfl, hx, hc, hg'⟩
    obtain ⟨y0, y1⟩ := hx.2 (by omega)
    replace S := Lib.hid (S.out.draw hc hg')
    clear hx hc hg' hm
    have hw3 : IntKind.i64.wrap (300 + y) = 300 + y := IntWalk.i64_in _ (by omega)
    have hm : 0 ≤ 300 + y ∧ 300 + y ≤ 301 := by omega
    go_upto_region 5 with fail
    clear hw3
    generalize 300 + y = m at hm ⊢
    clear y0 y1
    clear W3
    obtain ⟨W3, hW3⟩ : ∃ W3, W3 = w4 := ⟨_, rfl⟩
    subst hW3
    obtain ⟨p, rfl⟩ := Int.eq_ofNat_of_zero_le hm.1
    go_wp2_with fail
    obtain ⟨V0, hV0⟩ : ∃ V0, W3.drew = V0 := ⟨_, rfl⟩
    have S0 : Hid (RdSt w V0 g A n cap zs kb c (.slice none 0 0) []) := by rw [← hV0]; exact ⟨cur_drew S.out.cur, S.out.kblk, S.out.res, S.out.bel.drew, World.ownsRow_nil _ _ _ _, S.out.lt1, S.out.lt2⟩
    have HS : Hid (V0.heap[kb]? = some (.cells #[.int .i64 (c 0), .int .i64 (c 1), .int .i64 (c 2), .int .i64 (c 3), .int .i64 (c 4), .int .i64 (c 5), .int .i64 (c 6), .int .i64 (c 7), .int .i64 (c 8), .int .i64 (c 9), .int .i64 (c 10), .int .i64 (c 11), .int .i64 (c 12), .int .i64 (c 13)] 25 (0, 0))) := S0.out.kblk
    refine wp_region_held_drew (S := fun V => V.heap[kb]? = some (.cells #[.int .i64 (c 0), .int .i64 (c 1), .int .i64 (c 2), .int .i64 (c 3), .int .i64 (c 4), .int .i64 (c 5), .int .i64 (c 6), .int .i64 (c 7), .int .i64 (c 8), .int .i64 (c 9), .int .i64 (c 10), .int .i64 (c 11), .int .i64 (c 12), .int .i64 (c 13)] 25 (0, 0))) (by kernel_rfl) S.out.kblk (fun _ => ?_)
    rw [hV0]
    clear hV0 S
    refine wpAnyH_take (i := 0) (v := .agg #[.int .i64 (c 0), .int .i64 (c 1), .int .i64 (c 2), .int .i64 (c 3), .int .i64 (c 4), .int .i64 (c 5), .int .i64 (c 6), .int .i64 (c 7), .int .i64 (c 8), .int .i64 (c 9), .int .i64 (c 10), .int .i64 (c 11), .int .i64 (c 12), .int .i64 (c 13)]) rfl (by kernel_rfl) (by kernel_rfl) (by kernel_rfl) (fun _ _ _ h => h) (.inl ⟨rfl, fun V hS => ?y0⟩) HS.out ?_
    case y0 =>
      have q0 : V.cell? ⟨kb, 0, none⟩ = some (.int .i64 (c 0)) := cell_of_row _ _ 0 _ _ (0, 0) hS
      have q1 : V.cell? ⟨kb, 1, none⟩ = some (.int .i64 (c 1)) := cell_of_row _ _ 1 _ _ (0, 0) hS
      have q2 : V.cell? ⟨kb, 2, none⟩ = some (.int .i64 (c 2)) := cell_of_row _ _ 2 _ _ (0, 0) hS
      have q3 : V.cell? ⟨kb, 3, none⟩ = some (.int .i64 (c 3)) := cell_of_row _ _ 3 _ _ (0, 0) hS
      have q4 : V.cell? ⟨kb, 4, none⟩ = some (.int .i64 (c 4)) := cell_of_row _ _ 4 _ _ (0, 0) hS
      have q5 : V.cell? ⟨kb, 5, none⟩ = some (.int .i64 (c 5)) := cell_of_row _ _ 5 _ _ (0, 0) hS
      have q6 : V.cell? ⟨kb, 6, none⟩ = some (.int .i64 (c 6)) := cell_of_row _ _ 6 _ _ (0, 0) hS
      have q7 : V.cell? ⟨kb, 7, none⟩ = some (.int .i64 (c 7)) := cell_of_row _ _ 7 _ _ (0, 0) hS
      have q8 : V.cell? ⟨kb, 8, none⟩ = some (.int .i64 (c 8)) := cell_of_row _ _ 8 _ _ (0, 0) hS
      have q9 : V.cell? ⟨kb, 9, none⟩ = some (.int .i64 (c 9)) := cell_of_row _ _ 9 _ _ (0, 0) hS
      have q10 : V.cell? ⟨kb, 10, none⟩ = some (.int .i64 (c 10)) := cell_of_row _ _ 10 _ _ (0, 0) hS
      have q11 : V.cell? ⟨kb, 11, none⟩ = some (.int .i64 (c 11)) := cell_of_row _ _ 11 _ _ (0, 0) hS
      have q12 : V.cell? ⟨kb, 12, none⟩ = some (.int .i64 (c 12)) := cell_of_row _ _ 12 _ _ (0, 0) hS
      have q13 : V.cell? ⟨kb, 13, none⟩ = some (.int .i64 (c 13)) := cell_of_row _ _ 13 _ _ (0, 0) hS
      clear hS
      go_simp
    go_simp
    refine wpAnyH_take (i := 1) (v := .pointer (some ⟨g, 0, none⟩)) rfl (by kernel_rfl) (by kernel_rfl) (by kernel_rfl) (fun _ _ _ h => h) (.inl ⟨rfl, fun V hS => ?y1⟩) HS.out ?_
    case y1 =>
      clear hS
      go_simp
    go_simp
    refine wpAnyH_take (i := 2) (v := .int .i64 p) rfl (by kernel_rfl) (by kernel_rfl) (by kernel_rfl) (fun _ _ _ h => h) (.inl ⟨rfl, fun V hS => ?y2⟩) HS.out ?_
    case y2 =>
      clear hS
      go_simp
    go_simp
    refine wpAnyH_ready (rs := [3]) (by kernel_rfl) (by simp) (AllReadyH.cons rfl (fun J hJ => ?_) AllReadyH.nil)
    go_simp
    refine (drawEvents_any g A n cap zs p V0 (by omega) S0.out.cur).mono ?_
    rintro e V1 ⟨A', cap', es, rfl, hel, hev, hgr, hnw⟩
    have hl1 := S0.out.lt1
    have hl2 := S0.out.lt2
    have hkl := S0.out.klt
    have HS1 : Hid (V1.heap[kb]? = some (.cells #[.int .i64 (c 0), .int .i64 (c 1), .int .i64 (c 2), .int .i64 (c 3), .int .i64 (c 4), .int .i64 (c 5), .int .i64 (c 6), .int .i64 (c 7), .int .i64 (c 8), .int .i64 (c 9), .int .i64 (c 10), .int .i64 (c 11), .int .i64 (c 12), .int .i64 (c 13)] 25 (0, 0))) := (hgr.block kb hkl (fun e => by injection e with e; omega)).trans S0.out.kblk
    have R1 : Hid (V1.heap[w.heap.size]? = some (.cells #[.int .i64 0, .int .i64 0, .int .i64 0, .int .i64 0, .int .i64 0, .int .i64 0, .int .i64 0, .int .i64 0, .int .i64 0, .int .i64 0, .int .i64 0, .int .i64 0, .int .i64 0, .int .i64 0] 25 (0, 0))) := (hgr.block w.heap.size (by omega) (fun e => by injection e with e; omega)).trans S0.out.res
    have B1 : Hid (Below w.heap.size w V1) := S0.out.bel.trans (Draw.grown_below hgr (by omega) (by omega))
    have hnew : ∀ b off, A' = some ⟨b, off, none⟩ → 0 < es.length → b ≠ w.heap.size := fun b off e hp => by have := hnw b off e hp; omega
    have HevB : Hid (EvI V1 A' es ∧ ∀ b off, A' = some ⟨b, off, none⟩ → 0 < es.length → b ≠ w.heap.size) := ⟨hev, hnew⟩
    have Hel := Lib.hid hel
    clear hev hgr hel hnew hnw
    refine hJ.out _ _ HS1.out (fun _ => ?_)
    clear hJ J
    go_simp
    refine wpAnyH_ready (rs := [4]) (by kernel_rfl) (by simp) (AllReadyH.cons rfl (fun J hJ => ?_) AllReadyH.nil)
    have r0 : V1.cell? ⟨w.heap.size, 0, none⟩ = some (.int .i64 0) := cell_of_row _ _ 0 _ _ (0, 0) R1.out
    have r1 : V1.cell? ⟨w.heap.size, 1, none⟩ = some (.int .i64 0) := cell_of_row _ _ 1 _ _ (0, 0) R1.out
    have r2 : V1.cell? ⟨w.heap.size, 2, none⟩ = some (.int .i64 0) := cell_of_row _ _ 2 _ _ (0, 0) R1.out
    have r3 : V1.cell? ⟨w.heap.size, 3, none⟩ = some (.int .i64 0) := cell_of_row _ _ 3 _ _ (0, 0) R1.out
    have r4 : V1.cell? ⟨w.heap.size, 4, none⟩ = some (.int .i64 0) := cell_of_row _ _ 4 _ _ (0, 0) R1.out
    have r5 : V1.cell? ⟨w.heap.size, 5, none⟩ = some (.int .i64 0) := cell_of_row _ _ 5 _ _ (0, 0) R1.out
    have r6 : V1.cell? ⟨w.heap.size, 6, none⟩ = some (.int .i64 0) := cell_of_row _ _ 6 _ _ (0, 0) R1.out
    have r7 : V1.cell? ⟨w.heap.size, 7, none⟩ = some (.int .i64 0) := cell_of_row _ _ 7 _ _ (0, 0) R1.out
    have r8 : V1.cell? ⟨w.heap.size, 8, none⟩ = some (.int .i64 0) := cell_of_row _ _ 8 _ _ (0, 0) R1.out
    have r9 : V1.cell? ⟨w.heap.size, 9, none⟩ = some (.int .i64 0) := cell_of_row _ _ 9 _ _ (0, 0) R1.out
    have r10 : V1.cell? ⟨w.heap.size, 10, none⟩ = some (.int .i64 0) := cell_of_row _ _ 10 _ _ (0, 0) R1.out
    have r11 : V1.cell? ⟨w.heap.size, 11, none⟩ = some (.int .i64 0) := cell_of_row _ _ 11 _ _ (0, 0) R1.out
    have r12 : V1.cell? ⟨w.heap.size, 12, none⟩ = some (.int .i64 0) := cell_of_row _ _ 12 _ _ (0, 0) R1.out
    have r13 : V1.cell? ⟨w.heap.size, 13, none⟩ = some (.int .i64 0) := cell_of_row _ _ 13 _ _ (0, 0) R1.out
    have rf : ∀ j, V1.frozen? ⟨w.heap.size, j, none⟩ = false := fun j => frozen_of_row _ _ j _ _ R1.out
    go_simp
    clear r0 r1 r2 r3 r4 r5 r6 r7 r8 r9 r10 r11 r12 r13 rf
    obtain ⟨V2, hV2⟩ : ∃ V2, ((((((((((((((V1.setCell ⟨w.heap.size, 0, none⟩ (.int .i64 (c 0))).setCell ⟨w.heap.size, 1, none⟩ (.int .i64 (c 1))).setCell ⟨w.heap.size, 2, none⟩ (.int .i64 (c 2))).setCell ⟨w.heap.size, 3, none⟩ (.int .i64 (c 3))).setCell ⟨w.heap.size, 4, none⟩ (.int .i64 (c 4))).setCell ⟨w.heap.size, 5, none⟩ (.int .i64 (c 5))).setCell ⟨w.heap.size, 6, none⟩ (.int .i64 (c 6))).setCell ⟨w.heap.size, 7, none⟩ (.int .i64 (c 7))).setCell ⟨w.heap.size, 8, none⟩ (.int .i64 (c 8))).setCell ⟨w.heap.size, 9, none⟩ (.int .i64 (c 9))).setCell ⟨w.heap.size, 10, none⟩ (.int .i64 (c 10))).setCell ⟨w.heap.size, 11, none⟩ (.int .i64 (c 11))).setCell ⟨w.heap.size, 12, none⟩ (.int .i64 (c 12))).setCell ⟨w.heap.size, 13, none⟩ (.int .i64 (c 13))) = V2 := ⟨_, rfl⟩
    have R2 : Hid (V2.heap[w.heap.size]? = some (.cells #[.int .i64 (c 0), .int .i64 (c 1), .int .i64 (c 2), .int .i64 (c 3), .int .i64 (c 4), .int .i64 (c 5), .int .i64 (c 6), .int .i64 (c 7), .int .i64 (c 8), .int .i64 (c 9), .int .i64 (c 10), .int .i64 (c 11), .int .i64 (c 12), .int .i64 (c 13)] 25 (0, 0))) := by rw [← hV2]; exact store14 (c := fun _ => 0) R1.out c
    have T2 : Turns w.heap.size (w.heap.size + 1) V1 V2 := by
      rw [← hV2]
      iterate 14 refine Turns.setCell ?_ (by show w.heap.size ≤ w.heap.size; omega) (by show w.heap.size < w.heap.size + 1; omega) _
      exact Turns.of_below (Below.refl _ _)
    rw [hV2]
    clear hV2
    have HS2 : Hid (V2.heap[kb]? = some (.cells #[.int .i64 (c 0), .int .i64 (c 1), .int .i64 (c 2), .int .i64 (c 3), .int .i64 (c 4), .int .i64 (c 5), .int .i64 (c 6), .int .i64 (c 7), .int .i64 (c 8), .int .i64 (c 9), .int .i64 (c 10), .int .i64 (c 11), .int .i64 (c 12), .int .i64 (c 13)] 25 (0, 0))) := (T2.block kb (row_lt HS1.out) (by omega)).trans HS1.out
    have B2 : Hid (Below w.heap.size w V2) := B1.out.trans (T2.below (Nat.le_refl _) B1.out.size)
    have Hev2 : Hid (EvI V2 A' es) := fun hp => by
      obtain ⟨b, off, e1, hc⟩ := HevB.out.1 hp
      have hne := HevB.out.2 b off e1 hp
      have hlt := World.block_lt_of_cell? _ _ (hc 0 hp).1
      have hbb := T2.block b hlt (by omega)
      exact ⟨b, off, e1, fun i hi => ⟨(World.cell?_of_block hbb).trans (hc i hi).1, (World.cell?_of_block hbb).trans (hc i hi).2⟩⟩
    clear T2 R1 HS1
    refine hJ.out _ _ HS2.out (fun _ => ?_)
    clear hJ J
    go_simp
    refine wpAnyH_take (i := 5) (v := .slice A' es.length cap') rfl (by kernel_rfl) (by kernel_rfl) (by kernel_rfl) (fun _ _ _ h => h) (.inl ⟨rfl, fun V hS => ?y3⟩) HS2.out ?_
    case y3 =>
      clear hS
      go_simp
    go_simp
    refine wpAnyH_done (by kernel_rfl) ?_ _
    have r0 : V2.cell? ⟨w.heap.size, 0, none⟩ = some (.int .i64 (c 0)) := cell_of_row _ _ 0 _ _ (0, 0) R2.out
    have r1 : V2.cell? ⟨w.heap.size, 1, none⟩ = some (.int .i64 (c 1)) := cell_of_row _ _ 1 _ _ (0, 0) R2.out
    have r2 : V2.cell? ⟨w.heap.size, 2, none⟩ = some (.int .i64 (c 2)) := cell_of_row _ _ 2 _ _ (0, 0) R2.out
    have r3 : V2.cell? ⟨w.heap.size, 3, none⟩ = some (.int .i64 (c 3)) := cell_of_row _ _ 3 _ _ (0, 0) R2.out
    have r4 : V2.cell? ⟨w.heap.size, 4, none⟩ = some (.int .i64 (c 4)) := cell_of_row _ _ 4 _ _ (0, 0) R2.out
    have r5 : V2.cell? ⟨w.heap.size, 5, none⟩ = some (.int .i64 (c 5)) := cell_of_row _ _ 5 _ _ (0, 0) R2.out
    have r6 : V2.cell? ⟨w.heap.size, 6, none⟩ = some (.int .i64 (c 6)) := cell_of_row _ _ 6 _ _ (0, 0) R2.out
    have r7 : V2.cell? ⟨w.heap.size, 7, none⟩ = some (.int .i64 (c 7)) := cell_of_row _ _ 7 _ _ (0, 0) R2.out
    have r8 : V2.cell? ⟨w.heap.size, 8, none⟩ = some (.int .i64 (c 8)) := cell_of_row _ _ 8 _ _ (0, 0) R2.out
    have r9 : V2.cell? ⟨w.heap.size, 9, none⟩ = some (.int .i64 (c 9)) := cell_of_row _ _ 9 _ _ (0, 0) R2.out
    have r10 : V2.cell? ⟨w.heap.size, 10, none⟩ = some (.int .i64 (c 10)) := cell_of_row _ _ 10 _ _ (0, 0) R2.out
    have r11 : V2.cell? ⟨w.heap.size, 11, none⟩ = some (.int .i64 (c 11)) := cell_of_row _ _ 11 _ _ (0, 0) R2.out
    have r12 : V2.cell? ⟨w.heap.size, 12, none⟩ = some (.int .i64 (c 12)) := cell_of_row _ _ 12 _ _ (0, 0) R2.out
    have r13 : V2.cell? ⟨w.heap.size, 13, none⟩ = some (.int .i64 (c 13)) := cell_of_row _ _ 13 _ _ (0, 0) R2.out
    go_wp2
    exact bodyPost_ret (v := .tuple #[.agg #[.int .i64 (c 0), .int .i64 (c 1), .int .i64 (c 2), .int .i64 (c 3), .int .i64 (c 4), .int .i64 (c 5), .int .i64 (c 6), .int .i64 (c 7), .int .i64 (c 8), .int .i64 (c 9), .int .i64 (c 10), .int .i64 (c 11), .int .i64 (c 12), .int .i64 (c 13)], .slice A' es.length cap']) (by simp [results, Try.results12, go_sem, r0, r1, r2, r3, r4, r5, r6, r7, r8, r9, r10, r11, r12, r13]) rfl ⟨c, A', cap', es, rfl, Hev2.out, by have := Hel.out; omega, B2.out⟩
end Go.Proofs.Ytmmoelijpemlfaa.Draw
