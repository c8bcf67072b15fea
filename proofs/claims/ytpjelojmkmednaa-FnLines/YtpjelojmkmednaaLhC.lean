/- The reference's Schedule. -/
import Derived.Test.YtpjelojmkmednaaLhB
namespace Go.Proofs.Ytpjelojmkmednaa.Hp
open Go.RowKit Go.Deep Base

set_option maxRecDepth 100000 in
set_option maxHeartbeats 2000000 in
theorem specSchedule_any (A : Option Addr) (n cap lo hi : Nat) (ds : List Du) (q id a : Int) (w : World) (hn : ds.length = n) (hm : n ≤ 1048576) (h : DV w lo hi A ds) (hs : hi ≤ w.heap.size) :
    Calls Try.prog 72 #[.agg #[.slice A n cap, .int .i64 q], .int .i64 id, .int .i64 a] w (HeapEnd w (schD ds q id a) (schQ ds q id a) (schB ds q id a)) := by
  have Hn := Lib.hid hn
  have HI := Lib.hid h
  clear hn h
  have HSame : Hid (∀ W, Below w.heap.size w W → Calls Try.prog 110 #[.agg #[.slice A n cap, .int .i64 q]] W (NewHS W n ds q)) := fun W hW =>
    copy_any A n cap lo hi q ds W Hn.out hm (HI.out.below hW hs) (by have := hW.size; omega)
  have HEnd : Hid (∀ W w5 A5 c5, Below w.heap.size w W → w.heap.size + 1 < W.heap.size → DV w5 W.heap.size w5.heap.size A5 ds → Below W.heap.size W w5 → schB ds q id a = false → HeapEnd w (schD ds q id a) (schQ ds q id a) (schB ds q id a) (.returned (.tuple #[.agg #[.slice A5 n c5, .int .i64 q], .bool false])) ((w5.setCell ⟨w.heap.size + 1, 0, none⟩ (.slice A5 n c5)).setCell ⟨w.heap.size + 1, 1, none⟩ (.int .i64 q))) := fun W w5 A5 c5 bW zW v5 b5 hno => by
    have := b5.size
    rw [(schD_no hno).1, (schD_no hno).2, hno]
    refine ⟨A5, c5, by rw [Hn.out], ?_, ?_⟩
    · refine DV.wide (lo := W.heap.size) (hi := w5.heap.size) ?_ (by omega) (by simp [World.setCell])
      iterate 2 refine DV.setCell ?_ (by show w.heap.size + 1 < W.heap.size; omega) _
      exact v5
    · iterate 2 refine Below.setCell ?_ (by show w.heap.size ≤ w.heap.size + 1; omega) _
      exact bel_trans bW b5
  go_enter Try.func72, Try.ntmps72
  go_wp2_with fail
  obtain ⟨W0, hW0⟩ : ∃ W0, (w.alloc (.cells #[.slice A n cap, .int .i64 q] 29)).alloc (.cells #[.slice none 0 0, .int .i64 0] 29) = W0 := ⟨_, rfl⟩
  have B0 : Hid (Below w.heap.size w W0) := by rw [← hW0]; exact ((Below.refl _ _).alloc (Nat.le_refl _) _).alloc (by simp) _
  have X0 : Hid (Blk2 W0 w.heap.size (.slice A n cap) (.int .i64 q)) := by rw [← hW0]; exact Blk2.alloc (heap_alloc_new w _) _
  have Y0 : Hid (Blk2 W0 (w.heap.size + 1) (.slice none 0 0) (.int .i64 0)) := by
    have h := heap_alloc_new (w.alloc (.cells #[.slice A n cap, .int .i64 q] 29)) (.cells #[.slice none 0 0, .int .i64 0] 29)
    rw [World.size_alloc, hW0] at h
    exact h
  rw [hW0]
  clear hW0
  refine (specHeapOk_any A n cap lo hi ds q W0 Hn.out hm (HI.out.below B0.out hs) (by have := B0.out.size; omega)).mono ?_
  rintro e w1 ⟨rfl, b1⟩
  have B1 := Lib.hid (bel_trans B0.out b1)
  have X1 := Lib.hid (X0.out.below b1)
  have Y1 := Lib.hid (Y0.out.below b1)
  have z1 : w.heap.size + 1 < w1.heap.size := Y1.out.lt
  clear b1 B0 X0 Y0
  obtain ⟨x0, x1, xf⟩ := X1.out.cells
  have hxl := X1.out.lt
  cases hok : okH ds q
  · have Hok := Lib.hid hok
    clear hok
    go_wp2_with fail
    have Hno : Hid (schB ds q id a = false) := (by show schB ds q id a = false; unfold schB; rw [Hok.out]; rfl)
    refine (HSame.out w1 (B1).out).mono ?_
    rintro e w9 ⟨A9, c9, rfl, v9, b9, _⟩
    have Y9 := Lib.hid ((Y1).out.below b9)
    have V9 := Lib.hid v9
    have B9 := Lib.hid b9
    clear b9 v9
    obtain ⟨y0, y1, yf⟩ := Y9.out.cells
    have hyl := Y9.out.lt
    have hyw := (Y1).out.lt
    go_wp2
    exact bodyPost_ret (v := .tuple #[.agg #[.slice A9 n c9, .int .i64 q], .bool false]) (by simp [results, Try.results72, go_sem, y0, y1]) rfl (HEnd.out w1 w9 A9 c9 (B1).out hyw V9.out B9.out Hno.out)
  have Hok := Lib.hid hok
  have hfew := (okH_val hok).few
  rw [Hn.out] at hfew
  have Hfew := Lib.hid hfew
  have Hq : Hid (0 ≤ q ∧ q ≤ 1000000000) := Tick.isT_iff.1 (okH_val hok).tick
  clear hok hfew
  go_wp2_with fail
  refine (Tick.specTickOk_any a _).mono ?_
  rintro e w' ⟨rfl, rfl⟩
  cases hat : Tick.isT a
  · have Hat := Lib.hid hat
    clear hat
    go_wp2_with fail
    have Hno : Hid (schB ds q id a = false) := (by show schB ds q id a = false; unfold schB; rw [Hat.out]; simp)
    refine (HSame.out w1 (B1).out).mono ?_
    rintro e w9 ⟨A9, c9, rfl, v9, b9, _⟩
    have Y9 := Lib.hid ((Y1).out.below b9)
    have V9 := Lib.hid v9
    have B9 := Lib.hid b9
    clear b9 v9
    obtain ⟨y0, y1, yf⟩ := Y9.out.cells
    have hyl := Y9.out.lt
    have hyw := (Y1).out.lt
    go_wp2
    exact bodyPost_ret (v := .tuple #[.agg #[.slice A9 n c9, .int .i64 q], .bool false]) (by simp [results, Try.results72, go_sem, y0, y1]) rfl (HEnd.out w1 w9 A9 c9 (B1).out hyw V9.out B9.out Hno.out)
  have Hat := Lib.hid hat
  clear hat
  go_wp2_with fail
  refine (Tick.in_any id 1 1000000000 _).mono ?_
  rintro e w' ⟨rfl, rfl⟩
  cases hid2 : Tick.inB id 1 1000000000
  · have Hid2 := Lib.hid hid2
    clear hid2
    go_wp2_with fail
    have Hno : Hid (schB ds q id a = false) := (by show schB ds q id a = false; unfold schB; rw [Hid2.out]; simp)
    refine (HSame.out w1 (B1).out).mono ?_
    rintro e w9 ⟨A9, c9, rfl, v9, b9, _⟩
    have Y9 := Lib.hid ((Y1).out.below b9)
    have V9 := Lib.hid v9
    have B9 := Lib.hid b9
    clear b9 v9
    obtain ⟨y0, y1, yf⟩ := Y9.out.cells
    have hyl := Y9.out.lt
    have hyw := (Y1).out.lt
    go_wp2
    exact bodyPost_ret (v := .tuple #[.agg #[.slice A9 n c9, .int .i64 q], .bool false]) (by simp [results, Try.results72, go_sem, y0, y1]) rfl (HEnd.out w1 w9 A9 c9 (B1).out hyw V9.out B9.out Hno.out)
  have Hid2 := Lib.hid hid2
  clear hid2
  go_wp2_with fail
  refine (specCancel_any A n cap lo hi ds q id w1 Hn.out hm (HI.out.below B1.out hs) (by have := B1.out.size; omega)).mono ?_
  rintro e w2 ⟨A2, c2, rfl, v2, b2, s2⟩
  obtain ⟨n2, hn2⟩ : ∃ n2, (canD ds q id).length = n2 := ⟨_, rfl⟩
  have hn2b : n2 ≤ 100 := by rw [← hn2]; have := canD_len ds q id; rw [Hn.out] at this; have := Hfew.out; omega
  rw [hn2] at s2 ⊢
  have Hn2 := Lib.hid hn2
  have O2 := Lib.hid (owns_of hn2 s2 v2)
  have B2 := Lib.hid (bel_trans B1.out b2)
  have X2 := Lib.hid (X1.out.below b2)
  have Y2 := Lib.hid (Y1.out.below b2)
  have z2 : w1.heap.size ≤ w2.heap.size := b2.size
  clear b2 v2 s2 hn2 x0 x1 xf hxl X1 Y1
  have hq0 := Hq.out.1
  have hq1 := Hq.out.2
  obtain ⟨i0, hi0, hz0, hz1, hz2⟩ := info_parts infoDue
  have Hi0 := Lib.hid hi0
  have Hz0 := Lib.hid hz0
  have Hz1 := Lib.hid hz1
  have Hz2 := Lib.hid hz2
  clear hi0 hz0 hz1 hz2
  go_wp2_with (at_builtin; refine wpList_append_own _ rfl _ _ 27 rfl w1.heap.size 80 i0 _ 3 24 Try.underlying27 Hi0.out Hz0.out Hz1.out Hz2.out rfl (by decide) (.slice A2 n2 c2) n2 (cellsL (canD ds q id)) rfl ?c0h ⟨w2.heap.size + 1, 0, none⟩ 1 1 [.int .i64 a, .int .i64 (q + 1), .int .i64 id] rfl ?c6h ?c1h ?c2h ?c3h ?c4h ?c5h ?_)
  case c0h => exact (O2.out.alloc _).alloc _
  case c6h => rfl
  case c1h =>
    have h := new_three_at (w := w2.alloc (.cells #[.slice A2 n2 c2, .int .i64 (q + 1)] 29)) (World.size_alloc _ _) (.int .i64 a) (.int .i64 (q + 1)) (.int .i64 id) 80
    exact h
  case c2h => simp [Value.oneCell']
  case c3h => unfold maxLen; omega
  case c4h => omega
  case c5h => simp; omega
  intro v3 w3 hown hgr _
  obtain ⟨A3, c3, rfl⟩ := owns_form hown
  obtain ⟨g, rfl, hlg, hgs, hr3⟩ : ∃ g, A3 = some ⟨g, 0, none⟩ ∧ w1.heap.size ≤ g ∧ g < w3.heap.size ∧ Rd w3 g (canD ds q id ++ [⟨a, q + 1, id⟩]) := by
    have hl : (canD ds q id ++ [(⟨a, q + 1, id⟩ : Du)]).length = n2 + 1 := by rw [List.length_append, Hn2.out]; rfl
    have h1 := hown
    rw [← cellsL_one ⟨a, q + 1, id⟩, ← cellsL_append] at h1
    exact dv_owns hl h1 (by rw [hl]; omega)
  have hbne : some w2.heap.size ≠ (Value.slice A2 n2 c2).ownBlock := fun e => by have := (O2.out.lt _ e.symm).2; omega
  have hb3 : w3.heap[w2.heap.size]? = some (.cells #[.slice A2 n2 c2, .int .i64 (q + 1)] 29 (0, 0)) :=
    (hgr.block _ (by simp; omega) hbne).trans ((Below.heap_alloc _ _ _ (by simp)).trans (heap_alloc_new w2 _))
  have hne : g ≠ w2.heap.size := by
    intro e
    rcases hown.2 with ⟨h0, _⟩ | ⟨g', _, cur, h0, _, hg', _⟩
    · cases h0
    · injection h0 with h0 _ _
      injection h0 with h0
      injection h0 with h0 _ _
      rw [← h0, e, hb3] at hg'
      injection hg' with hg'
      injection hg' with _ ht _
      exact absurd ht (by decide)
  have N3 : Hid (Blk2 w3 w2.heap.size (.slice A2 n2 c2) (.int .i64 (q + 1))) := hb3
  have b3 : Below w1.heap.size w2 w3 := (((Below.refl w1.heap.size w2).alloc (by omega) _).alloc (by simp; omega) _).grown hgr (by simp; omega) (fun j e => (O2.out.lt j e).1)
  have B3 := Lib.hid (B2.out.trans (b3.mono (by omega)))
  have X3 := Lib.hid (X2.out.of_block (b3.block _ (by omega)))
  have Y3 := Lib.hid (Y2.out.of_block (b3.block _ (by omega)))
  have z3 : w2.heap.size < w3.heap.size := N3.out.lt
  have R3 := Lib.hid hr3
  clear hown hgr hbne hb3 hr3 X2 Y2 B2 O2
  have T4 : Hid (Blk2 (w3.setCell ⟨w2.heap.size, 0, none⟩ (.slice (some ⟨g, 0, none⟩) (n2 + 1) c3)) w2.heap.size (.slice (some ⟨g, 0, none⟩) (n2 + 1) c3) (.int .i64 (q + 1))) := N3.out.set0 _
  have R4 : Hid (Rd (w3.setCell ⟨w2.heap.size, 0, none⟩ (.slice (some ⟨g, 0, none⟩) (n2 + 1) c3)) g (canD ds q id ++ [⟨a, q + 1, id⟩])) := R3.out.of_block (heap_setCell_other w3 _ _ _ (by show g ≠ w2.heap.size; omega))
  have b4 : Below w1.heap.size w3 (w3.setCell ⟨w2.heap.size, 0, none⟩ (.slice (some ⟨g, 0, none⟩) (n2 + 1) c3)) := (Below.refl _ _).setCell (show w1.heap.size ≤ w2.heap.size from z2) _
  have z4 : (w3.setCell ⟨w2.heap.size, 0, none⟩ (.slice (some ⟨g, 0, none⟩) (n2 + 1) c3)).heap.size = w3.heap.size := by simp [World.setCell]
  have Hl : Hid ((canD ds q id ++ [(⟨a, q + 1, id⟩ : Du)]).length = n2 + 1) := by show (canD ds q id ++ [(⟨a, q + 1, id⟩ : Du)]).length = n2 + 1; rw [List.length_append, Hn2.out]; rfl
  obtain ⟨p0, p1, pf⟩ := N3.out.cells
  go_wp2_with fail
  obtain ⟨W4, hW4⟩ : ∃ W4, w3.setCell ⟨w2.heap.size, 0, none⟩ (.slice (some ⟨g, 0, none⟩) (n2 + 1) c3) = W4 := ⟨_, rfl⟩
  rw [hW4] at T4 R4 b4 z4 ⊢
  clear hW4 p0 p1 pf
  have B4 := Lib.hid (B3.out.trans (b4.mono (by omega)))
  have X4 := Lib.hid (X3.out.of_block (b4.block _ (by omega)))
  have Y4 := Lib.hid (Y3.out.of_block (b4.block _ (by omega)))
  clear b4 X3 Y3 B3 N3 R3
  refine (specUp_any g (n2 + 1) c3 n2 (canD ds q id ++ [⟨a, q + 1, id⟩]) W4 Hl.out (by omega) (by omega) R4.out (by omega)).mono ?_
  rintro e w5 ⟨rfl, rd5, tn5⟩
  have R5 : Hid (Rd w5 g (schN ds q id a)) := by unfold schN addD; rw [Hn2.out]; exact rd5
  have T5 := Lib.hid (T4.out.of_block (tn5.block _ (by omega) (by omega)))
  have B5 := Lib.hid (B4.out.trans (tn5.toTurns.below (B := w.heap.size) (by omega) (by omega)))
  have X5 := Lib.hid (X4.out.of_block (tn5.block _ (by omega) (by omega)))
  have Y5 := Lib.hid (Y4.out.of_block (tn5.block _ (by omega) (by omega)))
  have z5 : W4.heap.size ≤ w5.heap.size := tn5.size
  clear rd5 tn5 X4 Y4 B4 T4 R4
  have hl5 : Hid ((schN ds q id a).length = n2 + 1) := by show (schN ds q id a).length = n2 + 1; unfold schN; rw [addD_len, Hn2.out]
  have V5 : Hid (DV w5 w1.heap.size w5.heap.size (some ⟨g, 0, none⟩) (schN ds q id a)) := fun _ => ⟨g, rfl, hlg, by omega, R5.out⟩
  obtain ⟨t0, t1, tf⟩ := T5.out.cells
  have htl := T5.out.lt
  go_wp2_with fail
  refine (specHeapOk_any (some ⟨g, 0, none⟩) (n2 + 1) c3 _ _ (schN ds q id a) (q + 1) w5 hl5.out (by omega) V5.out (Nat.le_refl _)).mono ?_
  rintro e w6 ⟨rfl, b6⟩
  have B6 := Lib.hid (bel_trans B5.out b6)
  have X6 := Lib.hid (X5.out.below b6)
  have Y6 := Lib.hid (Y5.out.below b6)
  have T6 := Lib.hid (T5.out.below b6)
  have V6 := Lib.hid (V5.out.below b6 (Nat.le_refl _))
  have z6 : w5.heap.size ≤ w6.heap.size := b6.size
  clear b6 t0 t1 tf
  cases hnx : okH (schN ds q id a) (q + 1)
  · have Hnx := Lib.hid hnx
    clear hnx
    obtain ⟨x0, x1, xf⟩ := X6.out.cells
    go_wp2_with fail
    have Hno : Hid (schB ds q id a = false) := (by show schB ds q id a = false; unfold schB; rw [Hnx.out]; simp)
    refine (HSame.out w6 (B6).out).mono ?_
    rintro e w9 ⟨A9, c9, rfl, v9, b9, _⟩
    have Y9 := Lib.hid ((Y6).out.below b9)
    have V9 := Lib.hid v9
    have B9 := Lib.hid b9
    clear b9 v9
    obtain ⟨y0, y1, yf⟩ := Y9.out.cells
    have hyl := Y9.out.lt
    have hyw := (Y6).out.lt
    go_wp2
    exact bodyPost_ret (v := .tuple #[.agg #[.slice A9 n c9, .int .i64 q], .bool false]) (by simp [results, Try.results72, go_sem, y0, y1]) rfl (HEnd.out w6 w9 A9 c9 (B6).out hyw V9.out B9.out Hno.out)
  · have Hb : Hid (schB ds q id a = true) := by show schB ds q id a = true; unfold schB; rw [Hok.out, Hat.out, Hid2.out, hnx]; rfl
    clear hnx
    obtain ⟨p0, p1, pf⟩ := T6.out.cells
    obtain ⟨y0, y1, yf⟩ := Y6.out.cells
    have hyl := Y6.out.lt
    have hpl := T6.out.lt
    have hne1 : w2.heap.size ≠ w.heap.size + 1 := by omega
    go_wp2
    refine bodyPost_ret (v := .tuple #[.agg #[.slice (some ⟨g, 0, none⟩) (n2 + 1) c3, .int .i64 (q + 1)], .bool true]) (by simp [results, Try.results72, go_sem, y0, y1]) rfl ?_
    rw [(schD_yes Hb.out).1, (schD_yes Hb.out).2, Hb.out]
    refine ⟨some ⟨g, 0, none⟩, c3, by rw [hl5.out], ?_, ?_⟩
    · refine DV.wide (lo := w1.heap.size) (hi := w5.heap.size) ?_ (by omega) (by simp [World.setCell]; omega)
      iterate 2 refine DV.setCell ?_ (by show w.heap.size + 1 < w1.heap.size; omega) _
      exact V6.out
    · iterate 2 refine Below.setCell ?_ (by show w.heap.size ≤ w.heap.size + 1; omega) _
      exact B6.out
end Go.Proofs.Ytpjelojmkmednaa.Hp
