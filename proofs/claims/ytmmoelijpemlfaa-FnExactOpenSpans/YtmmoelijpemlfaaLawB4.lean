/- The laws of OpenSpans and PlayBreaker walked. -/
import Derived.Test.YtmmoelijpemlfaaHi6
import Derived.Test.YtmmoelijpemlfaaCfg3
namespace Go.Proofs.Ytmmoelijpemlfaa.Bk
open Go.RowKit Go.Deep Base Rw Tick Cf

/-- The law's own configuration in a box. -/
def LC (w : World) (g : Nat) (c : Nat → Int) : Prop := w.heap[g]? = some (.cells #[.int .i64 (c 0), .int .i64 (c 1), .int .i64 (c 2), .int .i64 (c 3), .int .i64 (c 4), .int .i64 (c 5), .int .i64 (c 6), .int .i64 (c 7), .int .i64 (c 8), .int .i64 (c 9), .int .i64 (c 10), .int .i64 (c 11), .int .i64 (c 12), .int .i64 (c 13)] 50 (0, 0))
theorem LC.lt {w : World} {g : Nat} {c : Nat → Int} (h : LC w g c) : g < w.heap.size := (Array.getElem?_eq_some_iff.1 h).1
theorem LC.below {w w' : World} {g B : Nat} {c : Nat → Int} (h : LC w g c) (hb : Below B w w') (hB : g < B) : LC w' g c := (hb.block g hB).trans h
theorem LC.turns {w w' : World} {g lo hi : Nat} {c : Nat → Int} (h : LC w g c) (t : Turns lo hi w w') (h1 : g < w.heap.size) (h2 : g < lo ∨ hi ≤ g) : LC w' g c := (t.block g h1 h2).trans h
theorem PB.turns {w w' : World} {g lo hi : Nat} {v0 v1 v2 : Value} (h : PB w g v0 v1 v2) (t : Turns lo hi w w') (h1 : g < w.heap.size) (h2 : g < lo ∨ hi ≤ g) : PB w' g v0 v1 v2 := (t.block g h1 h2).trans h
theorem span_few (c : Nat → Int) (evs : List (Int × Int)) (h : evs.length ≤ 1048576) : (spanR c evs).length ≤ 1048576 := by
  unfold spanR
  split
  · exact Nat.le_trans (spL_few c evs _) h
  · exact Nat.zero_le _
theorem play_few (c : Nat → Int) (evs : List (Int × Int)) : (playR c evs).1.fails.length ≤ 20 ∧ (playR c evs).2.length ≤ 300 := by
  unfold playR
  split
  · next hc =>
    unfold canH at hc
    simp only [Bool.and_eq_true, decide_eq_true_eq] at hc
    refine ⟨(run_ok (c := c) (evs.take evs.length) zBr_ok).few, ?_⟩
    show (hT c evs evs.length).length ≤ 300
    rw [hT_len (Nat.le_refl _)]
    exact hc.2
  · exact ⟨Nat.zero_le _, Nat.zero_le _⟩

set_option maxRecDepth 100000 in
set_option maxHeartbeats 4000000 in
theorem lawOpenSpans (c : Nat → Int) (A : Option Addr) (n cap : Nat) (evs : List (Int × Int)) (w : World) (hn : evs.length = n) (hm : n ≤ maxLen) (h : EvI w A evs) :
    Calls Try.prog 10 #[.agg #[.int .i64 (c 0), .int .i64 (c 1), .int .i64 (c 2), .int .i64 (c 3), .int .i64 (c 4), .int .i64 (c 5), .int .i64 (c 6), .int .i64 (c 7), .int .i64 (c 8), .int .i64 (c 9), .int .i64 (c 10), .int .i64 (c 11), .int .i64 (c 12), .int .i64 (c 13)], .slice A n cap] w fun e w' => e = .returned (.bool true) ∧ Below w.heap.size w w' := by
  unfold maxLen at hm
  have Hn := Lib.hid hn
  have HA := Lib.hid h
  clear h hn
  go_enter Try.func10, Try.ntmps10
  go_wp2_with fail
  obtain ⟨w1, hw1⟩ : ∃ W', w.alloc (.cells #[.int .i64 (c 0), .int .i64 (c 1), .int .i64 (c 2), .int .i64 (c 3), .int .i64 (c 4), .int .i64 (c 5), .int .i64 (c 6), .int .i64 (c 7), .int .i64 (c 8), .int .i64 (c 9), .int .i64 (c 10), .int .i64 (c 11), .int .i64 (c 12), .int .i64 (c 13)] 50) = W' := ⟨_, rfl⟩
  have B : Hid (Below w.heap.size w w1) := by rw [← hw1]; exact bel_alloc _ _
  have KC : Hid (LC w1 w.heap.size c) := by rw [← hw1]; exact heap_alloc_new w _
  have z1 : w.heap.size < w1.heap.size := KC.out.lt
  rw [hw1]
  clear hw1
  refine (szEvents_any A n cap 1048576 _ (by omega) (by omega) (by omega)).mono ?_
  rintro e w' ⟨rfl, rfl⟩
  by_cases hl : (1048576 : Int) < n
  · rw [if_pos hl]
    clear hl
    go_wp2
    go_ret
    exact ⟨rfl, B.out⟩
  rw [if_neg hl]
  have hl0 : 0 ≤ (1048576 : Int) - n := by omega
  have hl1 : ¬ (1048576 : Int) - n < 0 := by omega
  have hm' : n ≤ 1048576 := by omega
  clear hl
  obtain ⟨zs, hzs⟩ : ∃ zs, spanR c evs = zs := ⟨_, rfl⟩
  have hfew : zs.length ≤ 1048576 := by rw [← hzs]; exact span_few c evs (by have := Hn.out; omega)
  have HSP := Lib.hid (fun A' c' W hI => specSpans_any c A' n c' evs W Hn.out hm' hI)
  have HIM := Lib.hid (fun A' c' W hI => implSpans_any c A' n c' evs W Hn.out hm' hI)
  rw [hzs] at HSP HIM
  clear hzs
  have x0 : w1.cell? ⟨w.heap.size, 0, none⟩ = some (.int .i64 (c 0)) := cell_of_row _ _ 0 _ _ (0, 0) KC.out
  have x1 : w1.cell? ⟨w.heap.size, 1, none⟩ = some (.int .i64 (c 1)) := cell_of_row _ _ 1 _ _ (0, 0) KC.out
  have x2 : w1.cell? ⟨w.heap.size, 2, none⟩ = some (.int .i64 (c 2)) := cell_of_row _ _ 2 _ _ (0, 0) KC.out
  have x3 : w1.cell? ⟨w.heap.size, 3, none⟩ = some (.int .i64 (c 3)) := cell_of_row _ _ 3 _ _ (0, 0) KC.out
  have x4 : w1.cell? ⟨w.heap.size, 4, none⟩ = some (.int .i64 (c 4)) := cell_of_row _ _ 4 _ _ (0, 0) KC.out
  have x5 : w1.cell? ⟨w.heap.size, 5, none⟩ = some (.int .i64 (c 5)) := cell_of_row _ _ 5 _ _ (0, 0) KC.out
  have x6 : w1.cell? ⟨w.heap.size, 6, none⟩ = some (.int .i64 (c 6)) := cell_of_row _ _ 6 _ _ (0, 0) KC.out
  have x7 : w1.cell? ⟨w.heap.size, 7, none⟩ = some (.int .i64 (c 7)) := cell_of_row _ _ 7 _ _ (0, 0) KC.out
  have x8 : w1.cell? ⟨w.heap.size, 8, none⟩ = some (.int .i64 (c 8)) := cell_of_row _ _ 8 _ _ (0, 0) KC.out
  have x9 : w1.cell? ⟨w.heap.size, 9, none⟩ = some (.int .i64 (c 9)) := cell_of_row _ _ 9 _ _ (0, 0) KC.out
  have x10 : w1.cell? ⟨w.heap.size, 10, none⟩ = some (.int .i64 (c 10)) := cell_of_row _ _ 10 _ _ (0, 0) KC.out
  have x11 : w1.cell? ⟨w.heap.size, 11, none⟩ = some (.int .i64 (c 11)) := cell_of_row _ _ 11 _ _ (0, 0) KC.out
  have x12 : w1.cell? ⟨w.heap.size, 12, none⟩ = some (.int .i64 (c 12)) := cell_of_row _ _ 12 _ _ (0, 0) KC.out
  have x13 : w1.cell? ⟨w.heap.size, 13, none⟩ = some (.int .i64 (c 13)) := cell_of_row _ _ 13 _ _ (0, 0) KC.out
  have xl := KC.out.lt
  go_wp2_with fail
  clear x0 x1 x2 x3 x4 x5 x6 x7 x8 x9 x10 x11 x12 x13 xl
  refine (toConfig_any c _).mono ?_
  rintro e w2 ⟨rfl, b2⟩
  have z2 : w1.heap.size ≤ w2.heap.size := b2.size
  replace B := Lib.hid (bel_trans B.out b2)
  replace KC := Lib.hid (KC.out.below b2 (by omega))
  clear b2
  go_wp2_with fail
  refine (toEvents_any A n cap evs _ Hn.out hm' (HA.out.below B.out)).mono ?_
  rintro e w3 ⟨rfl, v3, b3⟩
  have z3 : w2.heap.size ≤ w3.heap.size := b3.size
  replace B := Lib.hid (bel_trans B.out b3)
  replace KC := Lib.hid (KC.out.below b3 (by omega))
  clear b3
  have E0 := Lib.hid v3
  clear v3
  go_wp2_with fail
  refine (HSP.out _ _ _ E0.out.evI).mono ?_
  rintro e w4 ⟨Aw, cw, rfl, v4, b4⟩
  have z4 : w3.heap.size ≤ w4.heap.size := b4.size
  clear E0
  replace B := Lib.hid (bel_trans B.out b4)
  replace KC := Lib.hid (KC.out.below b4 (by omega))
  clear b4
  have VW := Lib.hid v4
  clear v4
  go_wp2_with fail
  refine (toEvents_any A n cap evs _ Hn.out hm' (HA.out.below B.out)).mono ?_
  rintro e w5 ⟨rfl, v5, b5⟩
  have z5 : w4.heap.size ≤ w5.heap.size := b5.size
  replace B := Lib.hid (bel_trans B.out b5)
  replace KC := Lib.hid (KC.out.below b5 (by omega))
  replace VW := Lib.hid (VW.out.below b5 (by omega))
  clear b5
  have EX := Lib.hid v5
  clear v5
  have x0 : w5.cell? ⟨w.heap.size, 0, none⟩ = some (.int .i64 (c 0)) := cell_of_row _ _ 0 _ _ (0, 0) KC.out
  have x1 : w5.cell? ⟨w.heap.size, 1, none⟩ = some (.int .i64 (c 1)) := cell_of_row _ _ 1 _ _ (0, 0) KC.out
  have x2 : w5.cell? ⟨w.heap.size, 2, none⟩ = some (.int .i64 (c 2)) := cell_of_row _ _ 2 _ _ (0, 0) KC.out
  have x3 : w5.cell? ⟨w.heap.size, 3, none⟩ = some (.int .i64 (c 3)) := cell_of_row _ _ 3 _ _ (0, 0) KC.out
  have x4 : w5.cell? ⟨w.heap.size, 4, none⟩ = some (.int .i64 (c 4)) := cell_of_row _ _ 4 _ _ (0, 0) KC.out
  have x5 : w5.cell? ⟨w.heap.size, 5, none⟩ = some (.int .i64 (c 5)) := cell_of_row _ _ 5 _ _ (0, 0) KC.out
  have x6 : w5.cell? ⟨w.heap.size, 6, none⟩ = some (.int .i64 (c 6)) := cell_of_row _ _ 6 _ _ (0, 0) KC.out
  have x7 : w5.cell? ⟨w.heap.size, 7, none⟩ = some (.int .i64 (c 7)) := cell_of_row _ _ 7 _ _ (0, 0) KC.out
  have x8 : w5.cell? ⟨w.heap.size, 8, none⟩ = some (.int .i64 (c 8)) := cell_of_row _ _ 8 _ _ (0, 0) KC.out
  have x9 : w5.cell? ⟨w.heap.size, 9, none⟩ = some (.int .i64 (c 9)) := cell_of_row _ _ 9 _ _ (0, 0) KC.out
  have x10 : w5.cell? ⟨w.heap.size, 10, none⟩ = some (.int .i64 (c 10)) := cell_of_row _ _ 10 _ _ (0, 0) KC.out
  have x11 : w5.cell? ⟨w.heap.size, 11, none⟩ = some (.int .i64 (c 11)) := cell_of_row _ _ 11 _ _ (0, 0) KC.out
  have x12 : w5.cell? ⟨w.heap.size, 12, none⟩ = some (.int .i64 (c 12)) := cell_of_row _ _ 12 _ _ (0, 0) KC.out
  have x13 : w5.cell? ⟨w.heap.size, 13, none⟩ = some (.int .i64 (c 13)) := cell_of_row _ _ 13 _ _ (0, 0) KC.out
  have xl := KC.out.lt
  go_wp2_with fail
  clear x0 x1 x2 x3 x4 x5 x6 x7 x8 x9 x10 x11 x12 x13 xl
  refine (toConfig_any c _).mono ?_
  rintro e w6 ⟨rfl, b6⟩
  have z6 : w5.heap.size ≤ w6.heap.size := b6.size
  replace B := Lib.hid (bel_trans B.out b6)
  replace KC := Lib.hid (KC.out.below b6 (by omega))
  replace VW := Lib.hid (VW.out.below b6 (by omega))
  replace EX := Lib.hid (EX.out.below b6 (by omega))
  clear b6
  go_wp2_with fail
  refine (HIM.out _ _ _ EX.out.evI).mono ?_
  rintro e w7 ⟨Ag, cg, rfl, v7, b7⟩
  have z7 : w6.heap.size ≤ w7.heap.size := b7.size
  replace B := Lib.hid (bel_trans B.out b7)
  replace KC := Lib.hid (KC.out.below b7 (by omega))
  replace VW := Lib.hid (VW.out.below b7 (by omega))
  replace EX := Lib.hid (EX.out.below b7 (by omega))
  clear b7
  have VG := Lib.hid v7
  clear v7
  go_wp2_with fail
  refine (eqInts_same Ag Aw _ cg cw zs _ rfl hfew VG.out.ints VW.out.ints).mono ?_
  rintro e w8 ⟨rfl, b8⟩
  have z8 : w7.heap.size ≤ w8.heap.size := b8.size
  replace B := Lib.hid (bel_trans B.out b8)
  replace KC := Lib.hid (KC.out.below b8 (by omega))
  replace VW := Lib.hid (VW.out.below b8 (by omega))
  replace EX := Lib.hid (EX.out.below b8 (by omega))
  replace VG := Lib.hid (VG.out.below b8 (by omega))
  clear b8
  go_wp2_with fail
  refine (toEvents_any A n cap evs _ Hn.out hm' (HA.out.below B.out)).mono ?_
  rintro e w9 ⟨rfl, v9, b9⟩
  have z9 : w8.heap.size ≤ w9.heap.size := b9.size
  replace B := Lib.hid (bel_trans B.out b9)
  replace KC := Lib.hid (KC.out.below b9 (by omega))
  replace VW := Lib.hid (VW.out.below b9 (by omega))
  replace EX := Lib.hid (EX.out.below b9 (by omega))
  replace VG := Lib.hid (VG.out.below b9 (by omega))
  clear b9
  have E0 := Lib.hid v9
  clear v9
  go_wp2_with fail
  refine (eqEvents_same _ _ n _ _ evs _ Hn.out hm' EX.out.evI E0.out.evI).mono ?_
  rintro e w10 ⟨rfl, b10⟩
  have z10 : w9.heap.size ≤ w10.heap.size := b10.size
  replace B := Lib.hid (bel_trans B.out b10)
  replace KC := Lib.hid (KC.out.below b10 (by omega))
  replace VW := Lib.hid (VW.out.below b10 (by omega))
  replace EX := Lib.hid (EX.out.below b10 (by omega))
  replace VG := Lib.hid (VG.out.below b10 (by omega))
  replace E0 := Lib.hid (E0.out.below b10 (by omega))
  clear b10
  clear E0
  go_wp2_with fail
  refine (markEvents_any _ n _ _ _ 1 evs _ Hn.out hm' (by omega) (by omega) EX.out).mono ?_
  rintro e w11 ⟨rfl, t11⟩
  have z11 : w10.heap.size ≤ w11.heap.size := t11.size
  clear EX
  replace B := Lib.hid (B.out.trans (t11.below (by omega) (by omega)))
  replace KC := Lib.hid (KC.out.turns t11 (by omega) (by omega))
  replace VW := Lib.hid (VW.out.turns t11 (by omega) (by omega))
  replace VG := Lib.hid (VG.out.turns t11 (by omega) (by omega))
  clear t11
  have hk : ¬ 1 + 2 * (n : Int) < 0 := by omega
  go_wp2_with fail
  refine (eqInts_same Ag Aw _ cg cw zs _ rfl hfew VG.out.ints VW.out.ints).mono ?_
  rintro e w12 ⟨rfl, b12⟩
  have z12 : w11.heap.size ≤ w12.heap.size := b12.size
  replace B := Lib.hid (bel_trans B.out b12)
  replace KC := Lib.hid (KC.out.below b12 (by omega))
  replace VW := Lib.hid (VW.out.below b12 (by omega))
  replace VG := Lib.hid (VG.out.below b12 (by omega))
  clear b12
  go_wp2_with fail
  refine (markInts_any Ag _ cg _ _ 1 zs _ rfl hfew (by omega) (by omega) VG.out).mono ?_
  rintro e w13 ⟨rfl, v13, t13⟩
  have z13 : w12.heap.size ≤ w13.heap.size := t13.size
  clear VG
  replace B := Lib.hid (B.out.trans (t13.below (by omega) (by omega)))
  replace KC := Lib.hid (KC.out.turns t13 (by omega) (by omega))
  replace VW := Lib.hid (VW.out.turns t13 (by omega) (by omega))
  clear t13
  have VM := Lib.hid v13
  clear v13
  go_wp2_with fail
  refine (heldInts_any Ag _ cg _ _ 1 _ hfew (by omega) (by omega) VM.out).mono ?_
  rintro e w' ⟨rfl, rfl⟩
  have hk2 : ¬ 1 + (zs.length : Int) < 0 := by omega
  have x0 : w13.cell? ⟨w.heap.size, 0, none⟩ = some (.int .i64 (c 0)) := cell_of_row _ _ 0 _ _ (0, 0) KC.out
  have x1 : w13.cell? ⟨w.heap.size, 1, none⟩ = some (.int .i64 (c 1)) := cell_of_row _ _ 1 _ _ (0, 0) KC.out
  have x2 : w13.cell? ⟨w.heap.size, 2, none⟩ = some (.int .i64 (c 2)) := cell_of_row _ _ 2 _ _ (0, 0) KC.out
  have x3 : w13.cell? ⟨w.heap.size, 3, none⟩ = some (.int .i64 (c 3)) := cell_of_row _ _ 3 _ _ (0, 0) KC.out
  have x4 : w13.cell? ⟨w.heap.size, 4, none⟩ = some (.int .i64 (c 4)) := cell_of_row _ _ 4 _ _ (0, 0) KC.out
  have x5 : w13.cell? ⟨w.heap.size, 5, none⟩ = some (.int .i64 (c 5)) := cell_of_row _ _ 5 _ _ (0, 0) KC.out
  have x6 : w13.cell? ⟨w.heap.size, 6, none⟩ = some (.int .i64 (c 6)) := cell_of_row _ _ 6 _ _ (0, 0) KC.out
  have x7 : w13.cell? ⟨w.heap.size, 7, none⟩ = some (.int .i64 (c 7)) := cell_of_row _ _ 7 _ _ (0, 0) KC.out
  have x8 : w13.cell? ⟨w.heap.size, 8, none⟩ = some (.int .i64 (c 8)) := cell_of_row _ _ 8 _ _ (0, 0) KC.out
  have x9 : w13.cell? ⟨w.heap.size, 9, none⟩ = some (.int .i64 (c 9)) := cell_of_row _ _ 9 _ _ (0, 0) KC.out
  have x10 : w13.cell? ⟨w.heap.size, 10, none⟩ = some (.int .i64 (c 10)) := cell_of_row _ _ 10 _ _ (0, 0) KC.out
  have x11 : w13.cell? ⟨w.heap.size, 11, none⟩ = some (.int .i64 (c 11)) := cell_of_row _ _ 11 _ _ (0, 0) KC.out
  have x12 : w13.cell? ⟨w.heap.size, 12, none⟩ = some (.int .i64 (c 12)) := cell_of_row _ _ 12 _ _ (0, 0) KC.out
  have x13 : w13.cell? ⟨w.heap.size, 13, none⟩ = some (.int .i64 (c 13)) := cell_of_row _ _ 13 _ _ (0, 0) KC.out
  have xl := KC.out.lt
  go_wp2_with fail
  clear x0 x1 x2 x3 x4 x5 x6 x7 x8 x9 x10 x11 x12 x13 xl
  refine (toConfig_any c _).mono ?_
  rintro e w14 ⟨rfl, b14⟩
  have z14 : w13.heap.size ≤ w14.heap.size := b14.size
  replace B := Lib.hid (bel_trans B.out b14)
  replace KC := Lib.hid (KC.out.below b14 (by omega))
  replace VW := Lib.hid (VW.out.below b14 (by omega))
  replace VM := Lib.hid (VM.out.below b14 (by omega))
  clear b14
  go_wp2_with fail
  refine (toEvents_any A n cap evs _ Hn.out hm' (HA.out.below B.out)).mono ?_
  rintro e w15 ⟨rfl, v15, b15⟩
  have z15 : w14.heap.size ≤ w15.heap.size := b15.size
  replace B := Lib.hid (bel_trans B.out b15)
  replace KC := Lib.hid (KC.out.below b15 (by omega))
  replace VW := Lib.hid (VW.out.below b15 (by omega))
  replace VM := Lib.hid (VM.out.below b15 (by omega))
  clear b15
  have E0 := Lib.hid v15
  clear v15
  go_wp2_with fail
  refine (HIM.out _ _ _ E0.out.evI).mono ?_
  rintro e w16 ⟨Ah, ch, rfl, v16, b16⟩
  have z16 : w15.heap.size ≤ w16.heap.size := b16.size
  clear E0
  replace B := Lib.hid (bel_trans B.out b16)
  replace KC := Lib.hid (KC.out.below b16 (by omega))
  replace VW := Lib.hid (VW.out.below b16 (by omega))
  replace VM := Lib.hid (VM.out.below b16 (by omega))
  clear b16
  have VH := Lib.hid v16
  clear v16
  go_wp2_with fail
  refine (eqInts_same Ah Aw _ ch cw zs _ rfl hfew VH.out.ints VW.out.ints).mono ?_
  rintro e w17 ⟨rfl, b17⟩
  have z17 : w16.heap.size ≤ w17.heap.size := b17.size
  replace B := Lib.hid (bel_trans B.out b17)
  replace KC := Lib.hid (KC.out.below b17 (by omega))
  replace VW := Lib.hid (VW.out.below b17 (by omega))
  replace VM := Lib.hid (VM.out.below b17 (by omega))
  replace VH := Lib.hid (VH.out.below b17 (by omega))
  clear b17
  go_wp2_with fail
  refine (heldInts_any Ag _ cg _ _ 1 _ hfew (by omega) (by omega) VM.out).mono ?_
  rintro e w' ⟨rfl, rfl⟩
  go_wp2
  go_ret
  exact ⟨rfl, B.out⟩

set_option maxRecDepth 100000 in
set_option maxHeartbeats 4000000 in
theorem lawPlayBreaker (c : Nat → Int) (A : Option Addr) (n cap : Nat) (evs : List (Int × Int)) (w : World) (hn : evs.length = n) (hm : n ≤ maxLen) (h : EvI w A evs) :
    Calls Try.prog 9 #[.agg #[.int .i64 (c 0), .int .i64 (c 1), .int .i64 (c 2), .int .i64 (c 3), .int .i64 (c 4), .int .i64 (c 5), .int .i64 (c 6), .int .i64 (c 7), .int .i64 (c 8), .int .i64 (c 9), .int .i64 (c 10), .int .i64 (c 11), .int .i64 (c 12), .int .i64 (c 13)], .slice A n cap] w fun e w' => e = .returned (.bool true) ∧ Below w.heap.size w w' := by
  unfold maxLen at hm
  have Hn := Lib.hid hn
  have HA := Lib.hid h
  clear h hn
  go_enter Try.func9, Try.ntmps9
  go_wp2_with fail
  obtain ⟨w1, hw1⟩ : ∃ W', w.alloc (.cells #[.int .i64 (c 0), .int .i64 (c 1), .int .i64 (c 2), .int .i64 (c 3), .int .i64 (c 4), .int .i64 (c 5), .int .i64 (c 6), .int .i64 (c 7), .int .i64 (c 8), .int .i64 (c 9), .int .i64 (c 10), .int .i64 (c 11), .int .i64 (c 12), .int .i64 (c 13)] 50) = W' := ⟨_, rfl⟩
  have B : Hid (Below w.heap.size w w1) := by rw [← hw1]; exact bel_alloc _ _
  have KC : Hid (LC w1 w.heap.size c) := by rw [← hw1]; exact heap_alloc_new w _
  have z1 : w.heap.size < w1.heap.size := KC.out.lt
  rw [hw1]
  clear hw1
  refine (szEvents_any A n cap 1048576 _ (by omega) (by omega) (by omega)).mono ?_
  rintro e w' ⟨rfl, rfl⟩
  by_cases hl : (1048576 : Int) < n
  · rw [if_pos hl]
    clear hl
    go_wp2
    go_ret
    exact ⟨rfl, B.out⟩
  rw [if_neg hl]
  have hl0 : 0 ≤ (1048576 : Int) - n := by omega
  have hl1 : ¬ (1048576 : Int) - n < 0 := by omega
  have hm' : n ≤ 1048576 := by omega
  clear hl
  obtain ⟨r, hr⟩ : ∃ r, playR c evs = r := ⟨_, rfl⟩
  have hfew : r.1.fails.length ≤ 20 ∧ r.2.length ≤ 300 := by rw [← hr]; exact play_few c evs
  have HSP := Lib.hid (fun A' c' W hI => specPlay_any c A' n c' evs W Hn.out hm' hI)
  have HIM := Lib.hid (fun A' c' W hI => implPlay_any c A' n c' evs W Hn.out hm' hI)
  rw [hr] at HSP HIM
  clear hr
  obtain ⟨⟨s', zs', u'⟩, ts⟩ := r
  dsimp only at hfew
  obtain ⟨hf1, hf2⟩ := hfew
  have hf3 : zs'.length ≤ 1048576 := by omega
  have hf4 : ts.length ≤ 1048576 := by omega
  have x0 : w1.cell? ⟨w.heap.size, 0, none⟩ = some (.int .i64 (c 0)) := cell_of_row _ _ 0 _ _ (0, 0) KC.out
  have x1 : w1.cell? ⟨w.heap.size, 1, none⟩ = some (.int .i64 (c 1)) := cell_of_row _ _ 1 _ _ (0, 0) KC.out
  have x2 : w1.cell? ⟨w.heap.size, 2, none⟩ = some (.int .i64 (c 2)) := cell_of_row _ _ 2 _ _ (0, 0) KC.out
  have x3 : w1.cell? ⟨w.heap.size, 3, none⟩ = some (.int .i64 (c 3)) := cell_of_row _ _ 3 _ _ (0, 0) KC.out
  have x4 : w1.cell? ⟨w.heap.size, 4, none⟩ = some (.int .i64 (c 4)) := cell_of_row _ _ 4 _ _ (0, 0) KC.out
  have x5 : w1.cell? ⟨w.heap.size, 5, none⟩ = some (.int .i64 (c 5)) := cell_of_row _ _ 5 _ _ (0, 0) KC.out
  have x6 : w1.cell? ⟨w.heap.size, 6, none⟩ = some (.int .i64 (c 6)) := cell_of_row _ _ 6 _ _ (0, 0) KC.out
  have x7 : w1.cell? ⟨w.heap.size, 7, none⟩ = some (.int .i64 (c 7)) := cell_of_row _ _ 7 _ _ (0, 0) KC.out
  have x8 : w1.cell? ⟨w.heap.size, 8, none⟩ = some (.int .i64 (c 8)) := cell_of_row _ _ 8 _ _ (0, 0) KC.out
  have x9 : w1.cell? ⟨w.heap.size, 9, none⟩ = some (.int .i64 (c 9)) := cell_of_row _ _ 9 _ _ (0, 0) KC.out
  have x10 : w1.cell? ⟨w.heap.size, 10, none⟩ = some (.int .i64 (c 10)) := cell_of_row _ _ 10 _ _ (0, 0) KC.out
  have x11 : w1.cell? ⟨w.heap.size, 11, none⟩ = some (.int .i64 (c 11)) := cell_of_row _ _ 11 _ _ (0, 0) KC.out
  have x12 : w1.cell? ⟨w.heap.size, 12, none⟩ = some (.int .i64 (c 12)) := cell_of_row _ _ 12 _ _ (0, 0) KC.out
  have x13 : w1.cell? ⟨w.heap.size, 13, none⟩ = some (.int .i64 (c 13)) := cell_of_row _ _ 13 _ _ (0, 0) KC.out
  have xl := KC.out.lt
  go_wp2_with fail
  clear x0 x1 x2 x3 x4 x5 x6 x7 x8 x9 x10 x11 x12 x13 xl
  refine (toConfig_any c _).mono ?_
  rintro e w2 ⟨rfl, b2⟩
  have z2 : w1.heap.size ≤ w2.heap.size := b2.size
  replace B := Lib.hid (bel_trans B.out b2)
  replace KC := Lib.hid (KC.out.below b2 (by omega))
  clear b2
  go_wp2_with fail
  refine (toEvents_any A n cap evs _ Hn.out hm' (HA.out.below B.out)).mono ?_
  rintro e w3 ⟨rfl, v3, b3⟩
  have z3 : w2.heap.size ≤ w3.heap.size := b3.size
  replace B := Lib.hid (bel_trans B.out b3)
  replace KC := Lib.hid (KC.out.below b3 (by omega))
  clear b3
  have E0 := Lib.hid v3
  clear v3
  go_wp2_with fail
  refine (HSP.out _ _ _ E0.out.evI).mono ?_
  rintro e w4 ⟨Aw, cw, Lw, lw, gw, hw, rfl, vw, tw, i1w, i2w, i3w, i4w, i5w, b4⟩
  have z4 : w3.heap.size ≤ w4.heap.size := b4.size
  clear E0
  replace B := Lib.hid (bel_trans B.out b4)
  replace KC := Lib.hid (KC.out.below b4 (by omega))
  clear b4
  have Vw := Lib.hid vw
  have Tw := Lib.hid tw
  clear vw tw
  dsimp only at Vw Tw ⊢
  go_wp2_with fail
  obtain ⟨w5, hw5⟩ : ∃ W', w4.alloc (.cells #[.int .i64 s', .slice Aw zs'.length cw, .int .i64 u'] 31) = W' := ⟨_, rfl⟩
  have b5 : Below w4.heap.size w4 w5 := by rw [← hw5]; exact bel_alloc _ _
  have PW : Hid (PB w5 w4.heap.size (.int .i64 s') (.slice Aw zs'.length cw) (.int .i64 u')) := by rw [← hw5]; exact heap_alloc_new w4 _
  have z5 : w4.heap.size < w5.heap.size := PW.out.lt
  rw [hw5]
  clear hw5
  replace B := Lib.hid (bel_trans B.out b5)
  replace KC := Lib.hid (KC.out.below b5 (by omega))
  replace Vw := Lib.hid (Vw.out.below b5 (by omega))
  replace Tw := Lib.hid (Tw.out.below b5 (by omega))
  clear b5
  refine (toEvents_any A n cap evs _ Hn.out hm' (HA.out.below B.out)).mono ?_
  rintro e w6 ⟨rfl, v6, b6⟩
  have z6 : w5.heap.size ≤ w6.heap.size := b6.size
  replace B := Lib.hid (bel_trans B.out b6)
  replace KC := Lib.hid (KC.out.below b6 (by omega))
  replace Vw := Lib.hid (Vw.out.below b6 (by omega))
  replace Tw := Lib.hid (Tw.out.below b6 (by omega))
  replace PW := Lib.hid (PW.out.below b6 (by omega))
  clear b6
  have EX := Lib.hid v6
  clear v6
  have x0 : w6.cell? ⟨w.heap.size, 0, none⟩ = some (.int .i64 (c 0)) := cell_of_row _ _ 0 _ _ (0, 0) KC.out
  have x1 : w6.cell? ⟨w.heap.size, 1, none⟩ = some (.int .i64 (c 1)) := cell_of_row _ _ 1 _ _ (0, 0) KC.out
  have x2 : w6.cell? ⟨w.heap.size, 2, none⟩ = some (.int .i64 (c 2)) := cell_of_row _ _ 2 _ _ (0, 0) KC.out
  have x3 : w6.cell? ⟨w.heap.size, 3, none⟩ = some (.int .i64 (c 3)) := cell_of_row _ _ 3 _ _ (0, 0) KC.out
  have x4 : w6.cell? ⟨w.heap.size, 4, none⟩ = some (.int .i64 (c 4)) := cell_of_row _ _ 4 _ _ (0, 0) KC.out
  have x5 : w6.cell? ⟨w.heap.size, 5, none⟩ = some (.int .i64 (c 5)) := cell_of_row _ _ 5 _ _ (0, 0) KC.out
  have x6 : w6.cell? ⟨w.heap.size, 6, none⟩ = some (.int .i64 (c 6)) := cell_of_row _ _ 6 _ _ (0, 0) KC.out
  have x7 : w6.cell? ⟨w.heap.size, 7, none⟩ = some (.int .i64 (c 7)) := cell_of_row _ _ 7 _ _ (0, 0) KC.out
  have x8 : w6.cell? ⟨w.heap.size, 8, none⟩ = some (.int .i64 (c 8)) := cell_of_row _ _ 8 _ _ (0, 0) KC.out
  have x9 : w6.cell? ⟨w.heap.size, 9, none⟩ = some (.int .i64 (c 9)) := cell_of_row _ _ 9 _ _ (0, 0) KC.out
  have x10 : w6.cell? ⟨w.heap.size, 10, none⟩ = some (.int .i64 (c 10)) := cell_of_row _ _ 10 _ _ (0, 0) KC.out
  have x11 : w6.cell? ⟨w.heap.size, 11, none⟩ = some (.int .i64 (c 11)) := cell_of_row _ _ 11 _ _ (0, 0) KC.out
  have x12 : w6.cell? ⟨w.heap.size, 12, none⟩ = some (.int .i64 (c 12)) := cell_of_row _ _ 12 _ _ (0, 0) KC.out
  have x13 : w6.cell? ⟨w.heap.size, 13, none⟩ = some (.int .i64 (c 13)) := cell_of_row _ _ 13 _ _ (0, 0) KC.out
  have xl := KC.out.lt
  go_wp2_with fail
  clear x0 x1 x2 x3 x4 x5 x6 x7 x8 x9 x10 x11 x12 x13 xl
  refine (toConfig_any c _).mono ?_
  rintro e w7 ⟨rfl, b7⟩
  have z7 : w6.heap.size ≤ w7.heap.size := b7.size
  replace B := Lib.hid (bel_trans B.out b7)
  replace KC := Lib.hid (KC.out.below b7 (by omega))
  replace Vw := Lib.hid (Vw.out.below b7 (by omega))
  replace Tw := Lib.hid (Tw.out.below b7 (by omega))
  replace PW := Lib.hid (PW.out.below b7 (by omega))
  replace EX := Lib.hid (EX.out.below b7 (by omega))
  clear b7
  go_wp2_with fail
  refine (HIM.out _ _ _ EX.out.evI).mono ?_
  rintro e w8 ⟨Ag, cg, Lg, lg, gg, hg, rfl, vg, tg, i1g, i2g, i3g, i4g, i5g, b8⟩
  have z8 : w7.heap.size ≤ w8.heap.size := b8.size
  replace B := Lib.hid (bel_trans B.out b8)
  replace KC := Lib.hid (KC.out.below b8 (by omega))
  replace Vw := Lib.hid (Vw.out.below b8 (by omega))
  replace Tw := Lib.hid (Tw.out.below b8 (by omega))
  replace PW := Lib.hid (PW.out.below b8 (by omega))
  replace EX := Lib.hid (EX.out.below b8 (by omega))
  clear b8
  have Vg := Lib.hid vg
  have Tg := Lib.hid tg
  clear vg tg
  dsimp only at Vg Tg ⊢
  obtain ⟨q00, q01, q02, q03⟩ := PW.out.cells
  have q04 := PW.out.lt
  go_wp2_with fail
  clear q00 q01 q02 q04 q03
  obtain ⟨w9, hw9⟩ : ∃ W', w8.alloc (.cells #[.int .i64 s', .slice Ag zs'.length cg, .int .i64 u'] 31) = W' := ⟨_, rfl⟩
  have b9 : Below w8.heap.size w8 w9 := by rw [← hw9]; exact bel_alloc _ _
  have PG : Hid (PB w9 w8.heap.size (.int .i64 s') (.slice Ag zs'.length cg) (.int .i64 u')) := by rw [← hw9]; exact heap_alloc_new w8 _
  have z9 : w8.heap.size < w9.heap.size := PG.out.lt
  rw [hw9]
  clear hw9
  replace B := Lib.hid (bel_trans B.out b9)
  replace KC := Lib.hid (KC.out.below b9 (by omega))
  replace Vw := Lib.hid (Vw.out.below b9 (by omega))
  replace Tw := Lib.hid (Tw.out.below b9 (by omega))
  replace PW := Lib.hid (PW.out.below b9 (by omega))
  replace EX := Lib.hid (EX.out.below b9 (by omega))
  replace Vg := Lib.hid (Vg.out.below b9 (by omega))
  replace Tg := Lib.hid (Tg.out.below b9 (by omega))
  clear b9
  refine (eqBreaker_same Ag Aw _ cg cw zs' s' u' _ rfl hf3 Vg.out.ints Vw.out.ints).mono ?_
  rintro e w10 ⟨rfl, b10⟩
  have z10 : w9.heap.size ≤ w10.heap.size := b10.size
  replace B := Lib.hid (bel_trans B.out b10)
  replace KC := Lib.hid (KC.out.below b10 (by omega))
  replace Vw := Lib.hid (Vw.out.below b10 (by omega))
  replace Tw := Lib.hid (Tw.out.below b10 (by omega))
  replace PW := Lib.hid (PW.out.below b10 (by omega))
  replace EX := Lib.hid (EX.out.below b10 (by omega))
  replace Vg := Lib.hid (Vg.out.below b10 (by omega))
  replace Tg := Lib.hid (Tg.out.below b10 (by omega))
  replace PG := Lib.hid (PG.out.below b10 (by omega))
  clear b10
  go_wp2_with fail
  refine (eqInts_same Lg Lw _ lg lw ts _ rfl hf4 Tg.out.ints Tw.out.ints).mono ?_
  rintro e w11 ⟨rfl, b11⟩
  have z11 : w10.heap.size ≤ w11.heap.size := b11.size
  replace B := Lib.hid (bel_trans B.out b11)
  replace KC := Lib.hid (KC.out.below b11 (by omega))
  replace Vw := Lib.hid (Vw.out.below b11 (by omega))
  replace Tw := Lib.hid (Tw.out.below b11 (by omega))
  replace PW := Lib.hid (PW.out.below b11 (by omega))
  replace EX := Lib.hid (EX.out.below b11 (by omega))
  replace Vg := Lib.hid (Vg.out.below b11 (by omega))
  replace Tg := Lib.hid (Tg.out.below b11 (by omega))
  replace PG := Lib.hid (PG.out.below b11 (by omega))
  clear b11
  go_wp2_with fail
  refine (toEvents_any A n cap evs _ Hn.out hm' (HA.out.below B.out)).mono ?_
  rintro e w12 ⟨rfl, v12, b12⟩
  have z12 : w11.heap.size ≤ w12.heap.size := b12.size
  replace B := Lib.hid (bel_trans B.out b12)
  replace KC := Lib.hid (KC.out.below b12 (by omega))
  replace Vw := Lib.hid (Vw.out.below b12 (by omega))
  replace Tw := Lib.hid (Tw.out.below b12 (by omega))
  replace PW := Lib.hid (PW.out.below b12 (by omega))
  replace EX := Lib.hid (EX.out.below b12 (by omega))
  replace Vg := Lib.hid (Vg.out.below b12 (by omega))
  replace Tg := Lib.hid (Tg.out.below b12 (by omega))
  replace PG := Lib.hid (PG.out.below b12 (by omega))
  clear b12
  have E0 := Lib.hid v12
  clear v12
  go_wp2_with fail
  refine (eqEvents_same _ _ n _ _ evs _ Hn.out hm' EX.out.evI E0.out.evI).mono ?_
  rintro e w13 ⟨rfl, b13⟩
  have z13 : w12.heap.size ≤ w13.heap.size := b13.size
  replace B := Lib.hid (bel_trans B.out b13)
  replace KC := Lib.hid (KC.out.below b13 (by omega))
  replace Vw := Lib.hid (Vw.out.below b13 (by omega))
  replace Tw := Lib.hid (Tw.out.below b13 (by omega))
  replace PW := Lib.hid (PW.out.below b13 (by omega))
  replace EX := Lib.hid (EX.out.below b13 (by omega))
  replace Vg := Lib.hid (Vg.out.below b13 (by omega))
  replace Tg := Lib.hid (Tg.out.below b13 (by omega))
  replace PG := Lib.hid (PG.out.below b13 (by omega))
  replace E0 := Lib.hid (E0.out.below b13 (by omega))
  clear b13
  clear E0
  go_wp2_with fail
  refine (markEvents_any _ n _ _ _ 1 evs _ Hn.out hm' (by omega) (by omega) EX.out).mono ?_
  rintro e w14 ⟨rfl, t14⟩
  have z14 : w13.heap.size ≤ w14.heap.size := t14.size
  clear EX
  replace B := Lib.hid (B.out.trans (t14.below (by omega) (by omega)))
  replace KC := Lib.hid (KC.out.turns t14 (by omega) (by omega))
  replace Vw := Lib.hid (Vw.out.turns t14 (by omega) (by omega))
  replace Tw := Lib.hid (Tw.out.turns t14 (by omega) (by omega))
  replace PW := Lib.hid (PW.out.turns t14 (by omega) (by omega))
  replace Vg := Lib.hid (Vg.out.turns t14 (by omega) (by omega))
  replace Tg := Lib.hid (Tg.out.turns t14 (by omega) (by omega))
  replace PG := Lib.hid (PG.out.turns t14 (by omega) (by omega))
  clear t14
  have hk : ¬ 1 + 2 * (n : Int) < 0 := by omega
  obtain ⟨q00, q01, q02, q03⟩ := PG.out.cells
  have q04 := PG.out.lt
  obtain ⟨q10, q11, q12, q13⟩ := PW.out.cells
  have q14 := PW.out.lt
  go_wp2_with fail
  clear q00 q01 q02 q04 q03 q10 q11 q12 q14 q13
  refine (eqBreaker_same Ag Aw _ cg cw zs' s' u' _ rfl hf3 Vg.out.ints Vw.out.ints).mono ?_
  rintro e w15 ⟨rfl, b15⟩
  have z15 : w14.heap.size ≤ w15.heap.size := b15.size
  replace B := Lib.hid (bel_trans B.out b15)
  replace KC := Lib.hid (KC.out.below b15 (by omega))
  replace Vw := Lib.hid (Vw.out.below b15 (by omega))
  replace Tw := Lib.hid (Tw.out.below b15 (by omega))
  replace PW := Lib.hid (PW.out.below b15 (by omega))
  replace Vg := Lib.hid (Vg.out.below b15 (by omega))
  replace Tg := Lib.hid (Tg.out.below b15 (by omega))
  replace PG := Lib.hid (PG.out.below b15 (by omega))
  clear b15
  go_wp2_with fail
  refine (eqInts_same Lg Lw _ lg lw ts _ rfl hf4 Tg.out.ints Tw.out.ints).mono ?_
  rintro e w16 ⟨rfl, b16⟩
  have z16 : w15.heap.size ≤ w16.heap.size := b16.size
  replace B := Lib.hid (bel_trans B.out b16)
  replace KC := Lib.hid (KC.out.below b16 (by omega))
  replace Vw := Lib.hid (Vw.out.below b16 (by omega))
  replace Tw := Lib.hid (Tw.out.below b16 (by omega))
  replace PW := Lib.hid (PW.out.below b16 (by omega))
  replace Vg := Lib.hid (Vg.out.below b16 (by omega))
  replace Tg := Lib.hid (Tg.out.below b16 (by omega))
  replace PG := Lib.hid (PG.out.below b16 (by omega))
  clear b16
  obtain ⟨q00, q01, q02, q03⟩ := PG.out.cells
  have q04 := PG.out.lt
  go_wp2_with fail
  clear q00 q01 q02 q04 q03
  refine (markBreaker_any Ag _ cg _ _ 1 s' u' zs' _ rfl hf3 (by omega) (by omega) Vg.out (by omega)).mono ?_
  rintro e w17 ⟨rfl, v17, t17⟩
  have z17 : w16.heap.size ≤ w17.heap.size := t17.size
  clear Vg
  replace B := Lib.hid (B.out.trans (t17.below (by omega) (by omega)))
  replace KC := Lib.hid (KC.out.turns t17 (by omega) (by omega))
  replace Vw := Lib.hid (Vw.out.turns t17 (by omega) (by omega))
  replace Tw := Lib.hid (Tw.out.turns t17 (by omega) (by omega))
  replace PW := Lib.hid (PW.out.turns t17 (by omega) (by omega))
  replace Tg := Lib.hid (Tg.out.turns t17 (by omega) (by omega))
  replace PG := Lib.hid (PG.out.turns t17 (by omega) (by omega))
  clear t17
  have VM := Lib.hid v17
  clear v17
  go_wp2_with fail
  refine (markInts_any Lg _ lg _ _ (1 + zs'.length) ts _ rfl hf4 (by omega) (by omega) Tg.out).mono ?_
  rintro e w18 ⟨rfl, v18, t18⟩
  have z18 : w17.heap.size ≤ w18.heap.size := t18.size
  clear Tg
  replace B := Lib.hid (B.out.trans (t18.below (by omega) (by omega)))
  replace KC := Lib.hid (KC.out.turns t18 (by omega) (by omega))
  replace Vw := Lib.hid (Vw.out.turns t18 (by omega) (by omega))
  replace Tw := Lib.hid (Tw.out.turns t18 (by omega) (by omega))
  replace PW := Lib.hid (PW.out.turns t18 (by omega) (by omega))
  replace PG := Lib.hid (PG.out.turns t18 (by omega) (by omega))
  replace VM := Lib.hid (VM.out.turns t18 (by omega) (by omega))
  clear t18
  have TM := Lib.hid v18
  clear v18
  obtain ⟨q00, q01, q02, q03⟩ := PG.out.cells
  have q04 := PG.out.lt
  go_wp2_with fail
  clear q00 q01 q02 q04 q03
  refine (heldBreaker_any Ag _ cg _ _ 1 s' u' _ hf3 (by omega) (by omega) VM.out (by omega)).mono ?_
  rintro e w19 ⟨rfl, b19⟩
  have z19 : w18.heap.size ≤ w19.heap.size := b19.size
  replace B := Lib.hid (bel_trans B.out b19)
  replace KC := Lib.hid (KC.out.below b19 (by omega))
  replace Vw := Lib.hid (Vw.out.below b19 (by omega))
  replace Tw := Lib.hid (Tw.out.below b19 (by omega))
  replace PW := Lib.hid (PW.out.below b19 (by omega))
  replace PG := Lib.hid (PG.out.below b19 (by omega))
  replace VM := Lib.hid (VM.out.below b19 (by omega))
  replace TM := Lib.hid (TM.out.below b19 (by omega))
  clear b19
  have hk2 : ¬ 1 + (zs'.length : Int) < 0 := by omega
  have hk3 : ¬ 1 + (zs'.length : Int) + (ts.length : Int) < 0 := by omega
  go_wp2_with fail
  refine (heldInts_any Lg _ lg _ _ (1 + zs'.length) _ hf4 (by omega) (by omega) TM.out).mono ?_
  rintro e w' ⟨rfl, rfl⟩
  have x0 : w19.cell? ⟨w.heap.size, 0, none⟩ = some (.int .i64 (c 0)) := cell_of_row _ _ 0 _ _ (0, 0) KC.out
  have x1 : w19.cell? ⟨w.heap.size, 1, none⟩ = some (.int .i64 (c 1)) := cell_of_row _ _ 1 _ _ (0, 0) KC.out
  have x2 : w19.cell? ⟨w.heap.size, 2, none⟩ = some (.int .i64 (c 2)) := cell_of_row _ _ 2 _ _ (0, 0) KC.out
  have x3 : w19.cell? ⟨w.heap.size, 3, none⟩ = some (.int .i64 (c 3)) := cell_of_row _ _ 3 _ _ (0, 0) KC.out
  have x4 : w19.cell? ⟨w.heap.size, 4, none⟩ = some (.int .i64 (c 4)) := cell_of_row _ _ 4 _ _ (0, 0) KC.out
  have x5 : w19.cell? ⟨w.heap.size, 5, none⟩ = some (.int .i64 (c 5)) := cell_of_row _ _ 5 _ _ (0, 0) KC.out
  have x6 : w19.cell? ⟨w.heap.size, 6, none⟩ = some (.int .i64 (c 6)) := cell_of_row _ _ 6 _ _ (0, 0) KC.out
  have x7 : w19.cell? ⟨w.heap.size, 7, none⟩ = some (.int .i64 (c 7)) := cell_of_row _ _ 7 _ _ (0, 0) KC.out
  have x8 : w19.cell? ⟨w.heap.size, 8, none⟩ = some (.int .i64 (c 8)) := cell_of_row _ _ 8 _ _ (0, 0) KC.out
  have x9 : w19.cell? ⟨w.heap.size, 9, none⟩ = some (.int .i64 (c 9)) := cell_of_row _ _ 9 _ _ (0, 0) KC.out
  have x10 : w19.cell? ⟨w.heap.size, 10, none⟩ = some (.int .i64 (c 10)) := cell_of_row _ _ 10 _ _ (0, 0) KC.out
  have x11 : w19.cell? ⟨w.heap.size, 11, none⟩ = some (.int .i64 (c 11)) := cell_of_row _ _ 11 _ _ (0, 0) KC.out
  have x12 : w19.cell? ⟨w.heap.size, 12, none⟩ = some (.int .i64 (c 12)) := cell_of_row _ _ 12 _ _ (0, 0) KC.out
  have x13 : w19.cell? ⟨w.heap.size, 13, none⟩ = some (.int .i64 (c 13)) := cell_of_row _ _ 13 _ _ (0, 0) KC.out
  have xl := KC.out.lt
  go_wp2_with fail
  clear x0 x1 x2 x3 x4 x5 x6 x7 x8 x9 x10 x11 x12 x13 xl
  refine (toConfig_any c _).mono ?_
  rintro e w20 ⟨rfl, b20⟩
  have z20 : w19.heap.size ≤ w20.heap.size := b20.size
  replace B := Lib.hid (bel_trans B.out b20)
  replace KC := Lib.hid (KC.out.below b20 (by omega))
  replace Vw := Lib.hid (Vw.out.below b20 (by omega))
  replace Tw := Lib.hid (Tw.out.below b20 (by omega))
  replace PW := Lib.hid (PW.out.below b20 (by omega))
  replace PG := Lib.hid (PG.out.below b20 (by omega))
  replace VM := Lib.hid (VM.out.below b20 (by omega))
  replace TM := Lib.hid (TM.out.below b20 (by omega))
  clear b20
  go_wp2_with fail
  refine (toEvents_any A n cap evs _ Hn.out hm' (HA.out.below B.out)).mono ?_
  rintro e w21 ⟨rfl, v21, b21⟩
  have z21 : w20.heap.size ≤ w21.heap.size := b21.size
  replace B := Lib.hid (bel_trans B.out b21)
  replace KC := Lib.hid (KC.out.below b21 (by omega))
  replace Vw := Lib.hid (Vw.out.below b21 (by omega))
  replace Tw := Lib.hid (Tw.out.below b21 (by omega))
  replace PW := Lib.hid (PW.out.below b21 (by omega))
  replace PG := Lib.hid (PG.out.below b21 (by omega))
  replace VM := Lib.hid (VM.out.below b21 (by omega))
  replace TM := Lib.hid (TM.out.below b21 (by omega))
  clear b21
  have E0 := Lib.hid v21
  clear v21
  go_wp2_with fail
  refine (HIM.out _ _ _ E0.out.evI).mono ?_
  rintro e w22 ⟨Ah, ch, Lh, lh, gh, hh, rfl, vh, th, i1h, i2h, i3h, i4h, i5h, b22⟩
  have z22 : w21.heap.size ≤ w22.heap.size := b22.size
  clear E0
  replace B := Lib.hid (bel_trans B.out b22)
  replace KC := Lib.hid (KC.out.below b22 (by omega))
  replace Vw := Lib.hid (Vw.out.below b22 (by omega))
  replace Tw := Lib.hid (Tw.out.below b22 (by omega))
  replace PW := Lib.hid (PW.out.below b22 (by omega))
  replace PG := Lib.hid (PG.out.below b22 (by omega))
  replace VM := Lib.hid (VM.out.below b22 (by omega))
  replace TM := Lib.hid (TM.out.below b22 (by omega))
  clear b22
  have Vh := Lib.hid vh
  have Th := Lib.hid th
  clear vh th
  dsimp only at Vh Th ⊢
  obtain ⟨q00, q01, q02, q03⟩ := PW.out.cells
  have q04 := PW.out.lt
  go_wp2_with fail
  clear q00 q01 q02 q04 q03
  obtain ⟨w23, hw23⟩ : ∃ W', w22.alloc (.cells #[.int .i64 s', .slice Ah zs'.length ch, .int .i64 u'] 31) = W' := ⟨_, rfl⟩
  have b23 : Below w22.heap.size w22 w23 := by rw [← hw23]; exact bel_alloc _ _
  have PH : Hid (PB w23 w22.heap.size (.int .i64 s') (.slice Ah zs'.length ch) (.int .i64 u')) := by rw [← hw23]; exact heap_alloc_new w22 _
  have z23 : w22.heap.size < w23.heap.size := PH.out.lt
  rw [hw23]
  clear hw23
  replace B := Lib.hid (bel_trans B.out b23)
  replace KC := Lib.hid (KC.out.below b23 (by omega))
  replace Vw := Lib.hid (Vw.out.below b23 (by omega))
  replace Tw := Lib.hid (Tw.out.below b23 (by omega))
  replace PW := Lib.hid (PW.out.below b23 (by omega))
  replace PG := Lib.hid (PG.out.below b23 (by omega))
  replace VM := Lib.hid (VM.out.below b23 (by omega))
  replace TM := Lib.hid (TM.out.below b23 (by omega))
  replace Vh := Lib.hid (Vh.out.below b23 (by omega))
  replace Th := Lib.hid (Th.out.below b23 (by omega))
  clear b23
  refine (eqBreaker_same Ah Aw _ ch cw zs' s' u' _ rfl hf3 Vh.out.ints Vw.out.ints).mono ?_
  rintro e w24 ⟨rfl, b24⟩
  have z24 : w23.heap.size ≤ w24.heap.size := b24.size
  replace B := Lib.hid (bel_trans B.out b24)
  replace KC := Lib.hid (KC.out.below b24 (by omega))
  replace Vw := Lib.hid (Vw.out.below b24 (by omega))
  replace Tw := Lib.hid (Tw.out.below b24 (by omega))
  replace PW := Lib.hid (PW.out.below b24 (by omega))
  replace PG := Lib.hid (PG.out.below b24 (by omega))
  replace VM := Lib.hid (VM.out.below b24 (by omega))
  replace TM := Lib.hid (TM.out.below b24 (by omega))
  replace Vh := Lib.hid (Vh.out.below b24 (by omega))
  replace Th := Lib.hid (Th.out.below b24 (by omega))
  replace PH := Lib.hid (PH.out.below b24 (by omega))
  clear b24
  go_wp2_with fail
  refine (eqInts_same Lh Lw _ lh lw ts _ rfl hf4 Th.out.ints Tw.out.ints).mono ?_
  rintro e w25 ⟨rfl, b25⟩
  have z25 : w24.heap.size ≤ w25.heap.size := b25.size
  replace B := Lib.hid (bel_trans B.out b25)
  replace KC := Lib.hid (KC.out.below b25 (by omega))
  replace Vw := Lib.hid (Vw.out.below b25 (by omega))
  replace Tw := Lib.hid (Tw.out.below b25 (by omega))
  replace PW := Lib.hid (PW.out.below b25 (by omega))
  replace PG := Lib.hid (PG.out.below b25 (by omega))
  replace VM := Lib.hid (VM.out.below b25 (by omega))
  replace TM := Lib.hid (TM.out.below b25 (by omega))
  replace Vh := Lib.hid (Vh.out.below b25 (by omega))
  replace Th := Lib.hid (Th.out.below b25 (by omega))
  replace PH := Lib.hid (PH.out.below b25 (by omega))
  clear b25
  obtain ⟨q00, q01, q02, q03⟩ := PG.out.cells
  have q04 := PG.out.lt
  go_wp2_with fail
  clear q00 q01 q02 q04 q03
  refine (heldBreaker_any Ag _ cg _ _ 1 s' u' _ hf3 (by omega) (by omega) VM.out (by omega)).mono ?_
  rintro e w26 ⟨rfl, b26⟩
  have z26 : w25.heap.size ≤ w26.heap.size := b26.size
  replace B := Lib.hid (bel_trans B.out b26)
  replace KC := Lib.hid (KC.out.below b26 (by omega))
  replace Vw := Lib.hid (Vw.out.below b26 (by omega))
  replace Tw := Lib.hid (Tw.out.below b26 (by omega))
  replace PW := Lib.hid (PW.out.below b26 (by omega))
  replace PG := Lib.hid (PG.out.below b26 (by omega))
  replace VM := Lib.hid (VM.out.below b26 (by omega))
  replace TM := Lib.hid (TM.out.below b26 (by omega))
  replace Vh := Lib.hid (Vh.out.below b26 (by omega))
  replace Th := Lib.hid (Th.out.below b26 (by omega))
  replace PH := Lib.hid (PH.out.below b26 (by omega))
  clear b26
  go_wp2_with fail
  refine (heldInts_any Lg _ lg _ _ (1 + zs'.length) _ hf4 (by omega) (by omega) TM.out).mono ?_
  rintro e w' ⟨rfl, rfl⟩
  go_wp2
  go_ret
  exact ⟨rfl, B.out⟩

end Go.Proofs.Ytmmoelijpemlfaa.Bk
