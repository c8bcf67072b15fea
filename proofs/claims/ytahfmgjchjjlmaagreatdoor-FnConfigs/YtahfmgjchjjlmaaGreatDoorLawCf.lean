/- The law of configurations: parsing a configuration's text gives it back; of an empty text, the default configuration. -/
import Derived.Test.YtahfmgjchjjlmaaGreatDoorDcf3
import Derived.Test.YtahfmgjchjjlmaaGreatDoorCt3
import Derived.Test.YtahfmgjchjjlmaaGreatDoorPc1
import Derived.Test.YtahfmgjchjjlmaaGreatDoorCm1
import Derived.Deep.RegionHeld3
namespace Go.Proofs.YtahfmgjchjjlmaaGreatDoor.Fm
open Go.RowKit Go.Deep Base Cf Ct Num Parts Draw

theorem big_any (A : Option Addr) (n cap : Nat) (w : World) (hm : n ≤ maxLen) : Calls Tryz.prog 4 #[.slice A n cap] w fun e w' => e = .returned (.bool (decide (1048576 < n))) ∧ w = w' := by
  unfold maxLen at hm
  go_enter Tryz.func4, Tryz.ntmps4
  go_wp2
  go_ret
  exact ⟨ret_bool (by simp; omega), rfl⟩

set_option maxRecDepth 100000 in
set_option maxHeartbeats 2000000 in
theorem drawText_any (A : Option Addr) (n cap : Nat) (zs : List Int) (w : World) (hn : zs.length = n) (hs : n ≤ 1048576) (hb : Bytes w w.heap.size A zs) :
    Calls Tryz.prog 5 #[.slice A n cap] w fun e w' => ∃ c : Nat → Int, e = .returned (.agg #[.int .i64 (c 0), .int .i64 (c 1), .int .i64 (c 2), .int .i64 (c 3), .int .i64 (c 4), .int .i64 (c 5), .int .i64 (c 6), .int .i64 (c 7), .int .i64 (c 8), .int .i64 (c 9), .int .i64 (c 10), .int .i64 (c 11), .int .i64 (c 12), .int .i64 (c 13)]) ∧ Below w.heap.size w w' := by
  have Hn := Lib.hid hn
  have HB := Lib.hid hb
  clear hn hb
  go_enter Tryz.func5, Tryz.ntmps5
  go_wp2_with fail
  have hK := heap_alloc_new w (.cells #[.int .i64 (zero14 0), .int .i64 (zero14 1), .int .i64 (zero14 2), .int .i64 (zero14 3), .int .i64 (zero14 4), .int .i64 (zero14 5), .int .i64 (zero14 6), .int .i64 (zero14 7), .int .i64 (zero14 8), .int .i64 (zero14 9), .int .i64 (zero14 10), .int .i64 (zero14 11), .int .i64 (zero14 12), .int .i64 (zero14 13)] 25)
  have hB := bel_alloc w (.cells #[.int .i64 (zero14 0), .int .i64 (zero14 1), .int .i64 (zero14 2), .int .i64 (zero14 3), .int .i64 (zero14 4), .int .i64 (zero14 5), .int .i64 (zero14 6), .int .i64 (zero14 7), .int .i64 (zero14 8), .int .i64 (zero14 9), .int .i64 (zero14 10), .int .i64 (zero14 11), .int .i64 (zero14 12), .int .i64 (zero14 13)] 25)
  refine (draw04_any A n cap zs _ Hn.out hs ?hby).mono ?_
  case hby => exact ⟨HB.out.1, fun hp => by
    obtain ⟨b, off, e, hb, hc⟩ := HB.out.2 hp
    exact ⟨b, off, e, Nat.lt_of_lt_of_le hb hB.size, fun i hi => (hB.cell (p := ⟨b, off + i, none⟩) hb).trans (hc i hi)⟩⟩
  rintro e w1 ⟨g, c, rfl, -, -, b1⟩
  have z1 : w.heap.size < w1.heap.size := Nat.lt_of_lt_of_le (by simp) b1.size
  have K := Lib.hid ((b1.block w.heap.size (by simp)).trans hK)
  have B := Lib.hid (bel_trans hB b1)
  clear b1 hK hB
  obtain ⟨rb, hrb⟩ : ∃ rb, w.heap.size = rb := ⟨_, rfl⟩
  have HR := Lib.hid hrb
  rw [hrb] at K z1 ⊢
  clear hrb
  have y0 : w1.cell? ⟨rb, 0, none⟩ = some (.int .i64 (zero14 0)) := cell_of_row _ _ 0 _ _ (0, 0) K.out
  have y1 : w1.cell? ⟨rb, 1, none⟩ = some (.int .i64 (zero14 1)) := cell_of_row _ _ 1 _ _ (0, 0) K.out
  have y2 : w1.cell? ⟨rb, 2, none⟩ = some (.int .i64 (zero14 2)) := cell_of_row _ _ 2 _ _ (0, 0) K.out
  have y3 : w1.cell? ⟨rb, 3, none⟩ = some (.int .i64 (zero14 3)) := cell_of_row _ _ 3 _ _ (0, 0) K.out
  have y4 : w1.cell? ⟨rb, 4, none⟩ = some (.int .i64 (zero14 4)) := cell_of_row _ _ 4 _ _ (0, 0) K.out
  have y5 : w1.cell? ⟨rb, 5, none⟩ = some (.int .i64 (zero14 5)) := cell_of_row _ _ 5 _ _ (0, 0) K.out
  have y6 : w1.cell? ⟨rb, 6, none⟩ = some (.int .i64 (zero14 6)) := cell_of_row _ _ 6 _ _ (0, 0) K.out
  have y7 : w1.cell? ⟨rb, 7, none⟩ = some (.int .i64 (zero14 7)) := cell_of_row _ _ 7 _ _ (0, 0) K.out
  have y8 : w1.cell? ⟨rb, 8, none⟩ = some (.int .i64 (zero14 8)) := cell_of_row _ _ 8 _ _ (0, 0) K.out
  have y9 : w1.cell? ⟨rb, 9, none⟩ = some (.int .i64 (zero14 9)) := cell_of_row _ _ 9 _ _ (0, 0) K.out
  have y10 : w1.cell? ⟨rb, 10, none⟩ = some (.int .i64 (zero14 10)) := cell_of_row _ _ 10 _ _ (0, 0) K.out
  have y11 : w1.cell? ⟨rb, 11, none⟩ = some (.int .i64 (zero14 11)) := cell_of_row _ _ 11 _ _ (0, 0) K.out
  have y12 : w1.cell? ⟨rb, 12, none⟩ = some (.int .i64 (zero14 12)) := cell_of_row _ _ 12 _ _ (0, 0) K.out
  have y13 : w1.cell? ⟨rb, 13, none⟩ = some (.int .i64 (zero14 13)) := cell_of_row _ _ 13 _ _ (0, 0) K.out
  have yf : ∀ j, w1.frozen? ⟨rb, j, none⟩ = false := fun j => frozen_of_row _ _ j _ _ K.out
  go_wp2
  clear y0 y1 y2 y3 y4 y5 y6 y7 y8 y9 y10 y11 y12 y13 yf
  obtain ⟨U, hU⟩ : ∃ U, ((((((((((((((w1.setCell ⟨rb, 0, none⟩ (.int .i64 (c 0))).setCell ⟨rb, 1, none⟩ (.int .i64 (c 1))).setCell ⟨rb, 2, none⟩ (.int .i64 (c 2))).setCell ⟨rb, 3, none⟩ (.int .i64 (c 3))).setCell ⟨rb, 4, none⟩ (.int .i64 (c 4))).setCell ⟨rb, 5, none⟩ (.int .i64 (c 5))).setCell ⟨rb, 6, none⟩ (.int .i64 (c 6))).setCell ⟨rb, 7, none⟩ (.int .i64 (c 7))).setCell ⟨rb, 8, none⟩ (.int .i64 (c 8))).setCell ⟨rb, 9, none⟩ (.int .i64 (c 9))).setCell ⟨rb, 10, none⟩ (.int .i64 (c 10))).setCell ⟨rb, 11, none⟩ (.int .i64 (c 11))).setCell ⟨rb, 12, none⟩ (.int .i64 (c 12))).setCell ⟨rb, 13, none⟩ (.int .i64 (c 13))) = U := ⟨_, rfl⟩
  have KU := Lib.hid (st14_row K.out c hU)
  have BU := Lib.hid (st14_below B.out (by have := HR.out; omega) c hU)
  rw [hU]
  clear hU
  have K3 := Lib.hid (((bel_alloc U (.cells #[.int .i64 (c 0), .int .i64 (c 1), .int .i64 (c 2), .int .i64 (c 3), .int .i64 (c 4), .int .i64 (c 5), .int .i64 (c 6), .int .i64 (c 7), .int .i64 (c 8), .int .i64 (c 9), .int .i64 (c 10), .int .i64 (c 11), .int .i64 (c 12), .int .i64 (c 13)] 25)).block rb (Cv.row_lt KU.out)).trans KU.out)
  have B3 := Lib.hid (bel_trans BU.out (bel_alloc U (.cells #[.int .i64 (c 0), .int .i64 (c 1), .int .i64 (c 2), .int .i64 (c 3), .int .i64 (c 4), .int .i64 (c 5), .int .i64 (c 6), .int .i64 (c 7), .int .i64 (c 8), .int .i64 (c 9), .int .i64 (c 10), .int .i64 (c 11), .int .i64 (c 12), .int .i64 (c 13)] 25)))
  obtain ⟨V, hV⟩ : ∃ V, U.alloc (.cells #[.int .i64 (c 0), .int .i64 (c 1), .int .i64 (c 2), .int .i64 (c 3), .int .i64 (c 4), .int .i64 (c 5), .int .i64 (c 6), .int .i64 (c 7), .int .i64 (c 8), .int .i64 (c 9), .int .i64 (c 10), .int .i64 (c 11), .int .i64 (c 12), .int .i64 (c 13)] 25) = V := ⟨_, rfl⟩
  rw [hV] at K3 B3 ⊢
  clear hV KU BU
  have y0 : V.cell? ⟨rb, 0, none⟩ = some (.int .i64 (c 0)) := cell_of_row _ _ 0 _ _ (0, 0) K3.out
  have y1 : V.cell? ⟨rb, 1, none⟩ = some (.int .i64 (c 1)) := cell_of_row _ _ 1 _ _ (0, 0) K3.out
  have y2 : V.cell? ⟨rb, 2, none⟩ = some (.int .i64 (c 2)) := cell_of_row _ _ 2 _ _ (0, 0) K3.out
  have y3 : V.cell? ⟨rb, 3, none⟩ = some (.int .i64 (c 3)) := cell_of_row _ _ 3 _ _ (0, 0) K3.out
  have y4 : V.cell? ⟨rb, 4, none⟩ = some (.int .i64 (c 4)) := cell_of_row _ _ 4 _ _ (0, 0) K3.out
  have y5 : V.cell? ⟨rb, 5, none⟩ = some (.int .i64 (c 5)) := cell_of_row _ _ 5 _ _ (0, 0) K3.out
  have y6 : V.cell? ⟨rb, 6, none⟩ = some (.int .i64 (c 6)) := cell_of_row _ _ 6 _ _ (0, 0) K3.out
  have y7 : V.cell? ⟨rb, 7, none⟩ = some (.int .i64 (c 7)) := cell_of_row _ _ 7 _ _ (0, 0) K3.out
  have y8 : V.cell? ⟨rb, 8, none⟩ = some (.int .i64 (c 8)) := cell_of_row _ _ 8 _ _ (0, 0) K3.out
  have y9 : V.cell? ⟨rb, 9, none⟩ = some (.int .i64 (c 9)) := cell_of_row _ _ 9 _ _ (0, 0) K3.out
  have y10 : V.cell? ⟨rb, 10, none⟩ = some (.int .i64 (c 10)) := cell_of_row _ _ 10 _ _ (0, 0) K3.out
  have y11 : V.cell? ⟨rb, 11, none⟩ = some (.int .i64 (c 11)) := cell_of_row _ _ 11 _ _ (0, 0) K3.out
  have y12 : V.cell? ⟨rb, 12, none⟩ = some (.int .i64 (c 12)) := cell_of_row _ _ 12 _ _ (0, 0) K3.out
  have y13 : V.cell? ⟨rb, 13, none⟩ = some (.int .i64 (c 13)) := cell_of_row _ _ 13 _ _ (0, 0) K3.out
  exact bodyPost_ret (v := .agg #[.int .i64 (c 0), .int .i64 (c 1), .int .i64 (c 2), .int .i64 (c 3), .int .i64 (c 4), .int .i64 (c 5), .int .i64 (c 6), .int .i64 (c 7), .int .i64 (c 8), .int .i64 (c 9), .int .i64 (c 10), .int .i64 (c 11), .int .i64 (c 12), .int .i64 (c 13)]) (by simp [results, Tryz.results5, go_sem, y0, y1, y2, y3, y4, y5, y6, y7, y8, y9, y10, y11, y12, y13]) rfl ⟨c, rfl, B3.out⟩

theorem parse_text (c : Nat → Int) (w : World) (hok : okC c = true) (hv : Vs w) : Calls Tryz.prog 8 #[.string (txA c 14)] w fun e w' => e = .returned (.tuple #[.agg #[.int .i64 (c 0), .int .i64 (c 1), .int .i64 (c 2), .int .i64 (c 3), .int .i64 (c 4), .int .i64 (c 5), .int .i64 (c 6), .int .i64 (c 7), .int .i64 (c 8), .int .i64 (c 9), .int .i64 (c 10), .int .i64 (c 11), .int .i64 (c 12), .int .i64 (c 13)], .int .i64 0]) ∧ Below w.heap.size w w' := by
  have hsz : (txA c 14).size ≤ 560 := by have := tx_len (fit_ok hok) 14 (by omega); simp [txA, ByteArray.size]; omega
  refine (implParse_any _ w (by omega) hv).mono ?_
  rintro e w' ⟨v, code, rfl, hA, hb⟩
  have e2 : (txA c 14).data.toList = txT c 14 := by simp [txA]
  rw [e2] at hA
  obtain ⟨rfl, rfl⟩ := hA.det (ans_text hok)
  exact ⟨rfl, hb⟩

theorem parse_empty (w : World) (hv : Vs w) : Calls Tryz.prog 8 #[.string ⟨#[]⟩] w fun e w' => e = .returned (.tuple #[.agg #[.int .i64 1, .int .i64 4, .int .i64 30, .int .i64 1000, .int .i64 100, .int .i64 40, .int .i64 200, .int .i64 2, .int .i64 32, .int .i64 50, .int .i64 60, .int .i64 5, .int .i64 20, .int .i64 50], .int .i64 0]) ∧ Below w.heap.size w w' := by
  refine (implParse_any _ w (by decide) hv).mono ?_
  rintro e w' ⟨v, code, rfl, hA, hb⟩
  obtain ⟨rfl, rfl⟩ := hA.det ans_empty
  exact ⟨rfl, hb⟩

set_option maxRecDepth 100000 in
set_option maxHeartbeats 4000000 in
theorem lawConfigs (A : Option Addr) (n cap : Nat) (zs : List Int) (w : World) (hn : zs.length = n) (hm : n ≤ maxLen) (hb : Bytes w w.heap.size A zs) (hv : Vs w) :
    Calls Tryz.prog 3 #[.slice A n cap] w fun e w' => e = .returned (.bool true) ∧ Below w.heap.size w w' := by
  have Hn := Lib.hid hn
  have HB := Lib.hid hb
  have Hm := Lib.hid hm
  have HV := Lib.hid hv
  clear hb hn hv
  go_enter Tryz.func3, Tryz.ntmps3
  go_wp2_with fail
  refine (big_any A n cap _ Hm.out).mono ?_
  rintro e w' ⟨rfl, rfl⟩
  by_cases hbig : 1048576 < n
  · rw [decide_eq_true hbig]
    go_wp2
    go_ret
    exact ⟨rfl, Below.refl _ _⟩
  rw [decide_eq_false hbig]
  have hs : n ≤ 1048576 := by omega
  clear hbig hm
  go_wp2_with fail
  refine (drawText_any A n cap zs _ Hn.out hs HB.out).mono ?_
  rintro e w1 ⟨c, rfl, b1⟩
  have K := Lib.hid (heap_alloc_new w1 (.cells #[.int .i64 (c 0), .int .i64 (c 1), .int .i64 (c 2), .int .i64 (c 3), .int .i64 (c 4), .int .i64 (c 5), .int .i64 (c 6), .int .i64 (c 7), .int .i64 (c 8), .int .i64 (c 9), .int .i64 (c 10), .int .i64 (c 11), .int .i64 (c 12), .int .i64 (c 13)] 25))
  have B := Lib.hid (bel_trans b1 (bel_alloc w1 (.cells #[.int .i64 (c 0), .int .i64 (c 1), .int .i64 (c 2), .int .i64 (c 3), .int .i64 (c 4), .int .i64 (c 5), .int .i64 (c 6), .int .i64 (c 7), .int .i64 (c 8), .int .i64 (c 9), .int .i64 (c 10), .int .i64 (c 11), .int .i64 (c 12), .int .i64 (c 13)] 25)))
  have hz : w1.heap.size < (w1.alloc (.cells #[.int .i64 (c 0), .int .i64 (c 1), .int .i64 (c 2), .int .i64 (c 3), .int .i64 (c 4), .int .i64 (c 5), .int .i64 (c 6), .int .i64 (c 7), .int .i64 (c 8), .int .i64 (c 9), .int .i64 (c 10), .int .i64 (c 11), .int .i64 (c 12), .int .i64 (c 13)] 25)).heap.size := by simp
  clear b1
  go_wp2_with fail
  obtain ⟨kb, hkb⟩ : ∃ kb, w1.heap.size = kb := ⟨_, rfl⟩
  obtain ⟨w2, hw2⟩ : ∃ W, w1.alloc (.cells #[.int .i64 (c 0), .int .i64 (c 1), .int .i64 (c 2), .int .i64 (c 3), .int .i64 (c 4), .int .i64 (c 5), .int .i64 (c 6), .int .i64 (c 7), .int .i64 (c 8), .int .i64 (c 9), .int .i64 (c 10), .int .i64 (c 11), .int .i64 (c 12), .int .i64 (c 13)] 25) = W := ⟨_, rfl⟩
  rw [hw2, hkb] at K hz
  rw [hw2] at B ⊢
  rw [hkb]
  clear hw2 hkb
  cases hok : okC c with
  | false =>
    have HI := Lib.hid (implText_no c w2 hok)
    have HS := Lib.hid fun W => specText_no c W hok
    clear hok
    refine HI.out.mono ?_
    rintro e w3 ⟨rfl, b3⟩
    replace K := Lib.hid ((b3.block kb hz).trans K.out)
    replace B := Lib.hid (bel_trans B.out b3)
    clear b3 hz HI
    have x0 : w3.cell? ⟨kb, 0, none⟩ = some (.int .i64 (c 0)) := cell_of_row _ _ 0 _ _ (0, 0) K.out
    have x1 : w3.cell? ⟨kb, 1, none⟩ = some (.int .i64 (c 1)) := cell_of_row _ _ 1 _ _ (0, 0) K.out
    have x2 : w3.cell? ⟨kb, 2, none⟩ = some (.int .i64 (c 2)) := cell_of_row _ _ 2 _ _ (0, 0) K.out
    have x3 : w3.cell? ⟨kb, 3, none⟩ = some (.int .i64 (c 3)) := cell_of_row _ _ 3 _ _ (0, 0) K.out
    have x4 : w3.cell? ⟨kb, 4, none⟩ = some (.int .i64 (c 4)) := cell_of_row _ _ 4 _ _ (0, 0) K.out
    have x5 : w3.cell? ⟨kb, 5, none⟩ = some (.int .i64 (c 5)) := cell_of_row _ _ 5 _ _ (0, 0) K.out
    have x6 : w3.cell? ⟨kb, 6, none⟩ = some (.int .i64 (c 6)) := cell_of_row _ _ 6 _ _ (0, 0) K.out
    have x7 : w3.cell? ⟨kb, 7, none⟩ = some (.int .i64 (c 7)) := cell_of_row _ _ 7 _ _ (0, 0) K.out
    have x8 : w3.cell? ⟨kb, 8, none⟩ = some (.int .i64 (c 8)) := cell_of_row _ _ 8 _ _ (0, 0) K.out
    have x9 : w3.cell? ⟨kb, 9, none⟩ = some (.int .i64 (c 9)) := cell_of_row _ _ 9 _ _ (0, 0) K.out
    have x10 : w3.cell? ⟨kb, 10, none⟩ = some (.int .i64 (c 10)) := cell_of_row _ _ 10 _ _ (0, 0) K.out
    have x11 : w3.cell? ⟨kb, 11, none⟩ = some (.int .i64 (c 11)) := cell_of_row _ _ 11 _ _ (0, 0) K.out
    have x12 : w3.cell? ⟨kb, 12, none⟩ = some (.int .i64 (c 12)) := cell_of_row _ _ 12 _ _ (0, 0) K.out
    have x13 : w3.cell? ⟨kb, 13, none⟩ = some (.int .i64 (c 13)) := cell_of_row _ _ 13 _ _ (0, 0) K.out
    go_wp2_with fail
    clear x0 x1 x2 x3 x4 x5 x6 x7 x8 x9 x10 x11 x12 x13
    refine (HS.out _).mono ?_
    rintro e w4 ⟨rfl, b4⟩
    replace B := Lib.hid (bel_trans B.out b4)
    clear b4 K HS
    go_wp2_with fail
    refine (parse_empty _ (HV.out.below B.out)).mono ?_
    rintro e w5 ⟨rfl, b5⟩
    replace B := Lib.hid (bel_trans B.out b5)
    clear b5
    go_wp2_with fail
    have KD := Lib.hid (heap_alloc_new w5 (.cells #[.int .i64 (dflt 0), .int .i64 (dflt 1), .int .i64 (dflt 2), .int .i64 (dflt 3), .int .i64 (dflt 4), .int .i64 (dflt 5), .int .i64 (dflt 6), .int .i64 (dflt 7), .int .i64 (dflt 8), .int .i64 (dflt 9), .int .i64 (dflt 10), .int .i64 (dflt 11), .int .i64 (dflt 12), .int .i64 (dflt 13)] 25))
    have bd := bel_alloc w5 (.cells #[.int .i64 (dflt 0), .int .i64 (dflt 1), .int .i64 (dflt 2), .int .i64 (dflt 3), .int .i64 (dflt 4), .int .i64 (dflt 5), .int .i64 (dflt 6), .int .i64 (dflt 7), .int .i64 (dflt 8), .int .i64 (dflt 9), .int .i64 (dflt 10), .int .i64 (dflt 11), .int .i64 (dflt 12), .int .i64 (dflt 13)] 25)
    obtain ⟨db, hdb⟩ : ∃ db, w5.heap.size = db := ⟨_, rfl⟩
    obtain ⟨w8, hw8⟩ : ∃ W, w5.alloc (.cells #[.int .i64 1, .int .i64 4, .int .i64 30, .int .i64 1000, .int .i64 100, .int .i64 40, .int .i64 200, .int .i64 2, .int .i64 32, .int .i64 50, .int .i64 60, .int .i64 5, .int .i64 20, .int .i64 50] 25) = W := ⟨_, rfl⟩
    have hw9 : w5.alloc (.cells #[.int .i64 (dflt 0), .int .i64 (dflt 1), .int .i64 (dflt 2), .int .i64 (dflt 3), .int .i64 (dflt 4), .int .i64 (dflt 5), .int .i64 (dflt 6), .int .i64 (dflt 7), .int .i64 (dflt 8), .int .i64 (dflt 9), .int .i64 (dflt 10), .int .i64 (dflt 11), .int .i64 (dflt 12), .int .i64 (dflt 13)] 25) = w8 := hw8
    rw [hw9, hdb] at KD
    rw [hw9] at bd
    rw [hw8, hdb]
    replace B := Lib.hid (bel_trans B.out bd)
    clear bd hw8 hw9 hdb
    refine (Nam.implNames_any _).mono ?_
    rintro e w9 ⟨rfl, r9, b9, z9⟩
    obtain ⟨nb, hnb⟩ : ∃ nb, w8.heap.size = nb := ⟨_, rfl⟩
    rw [hnb] at r9 z9 ⊢
    replace KD := Lib.hid ((b9.block db (Cv.row_lt KD.out)).trans KD.out)
    replace B := Lib.hid (bel_trans B.out b9)
    have cn := (r9 0 (by decide)).1
    change w9.cell? ⟨nb, 0, none⟩ = some (.string ⟨#[109, 105, 110]⟩) at cn
    have HN := Lib.hid cn
    clear r9 b9 hnb cn
    go_wp2_with fail
    have HS0 : Hid (w9.drew.heap[db]? = some (.cells #[.int .i64 (dflt 0), .int .i64 (dflt 1), .int .i64 (dflt 2), .int .i64 (dflt 3), .int .i64 (dflt 4), .int .i64 (dflt 5), .int .i64 (dflt 6), .int .i64 (dflt 7), .int .i64 (dflt 8), .int .i64 (dflt 9), .int .i64 (dflt 10), .int .i64 (dflt 11), .int .i64 (dflt 12), .int .i64 (dflt 13)] 25 (0, 0)) ∧ w9.drew.cell? ⟨nb, 0, none⟩ = some (.string ⟨#[109, 105, 110]⟩)) := ⟨KD.out, HN.out⟩
    refine wp_region_held_drew (S := fun V => V.heap[db]? = some (.cells #[.int .i64 (dflt 0), .int .i64 (dflt 1), .int .i64 (dflt 2), .int .i64 (dflt 3), .int .i64 (dflt 4), .int .i64 (dflt 5), .int .i64 (dflt 6), .int .i64 (dflt 7), .int .i64 (dflt 8), .int .i64 (dflt 9), .int .i64 (dflt 10), .int .i64 (dflt 11), .int .i64 (dflt 12), .int .i64 (dflt 13)] 25 (0, 0)) ∧ V.cell? ⟨nb, 0, none⟩ = some (.string ⟨#[109, 105, 110]⟩)) (by kernel_rfl) HS0.out (fun _ => ?_)
    have B9 : Hid (Below w.heap.size w w9.drew) := B.out.drew
    obtain ⟨X, hX⟩ : ∃ X, w9.drew = X := ⟨_, rfl⟩
    rw [hX] at HS0 B9 ⊢
    clear hX KD HN B
    refine wpAnyH_take (i := 0) (v := (.int .i64 0)) rfl (by kernel_rfl) (by kernel_rfl) (by kernel_rfl) (fun _ _ _ h => h) (.inl ⟨rfl, fun V hS => ?y0⟩) (HS0).out ?_
    case y0 =>
      obtain ⟨hS1, hS2⟩ := hS
      have s0 : V.cell? ⟨db, 0, none⟩ = some (.int .i64 (dflt 0)) := cell_of_row _ _ 0 _ _ (0, 0) hS1
      have s1 : V.cell? ⟨db, 1, none⟩ = some (.int .i64 (dflt 1)) := cell_of_row _ _ 1 _ _ (0, 0) hS1
      have s2 : V.cell? ⟨db, 2, none⟩ = some (.int .i64 (dflt 2)) := cell_of_row _ _ 2 _ _ (0, 0) hS1
      have s3 : V.cell? ⟨db, 3, none⟩ = some (.int .i64 (dflt 3)) := cell_of_row _ _ 3 _ _ (0, 0) hS1
      have s4 : V.cell? ⟨db, 4, none⟩ = some (.int .i64 (dflt 4)) := cell_of_row _ _ 4 _ _ (0, 0) hS1
      have s5 : V.cell? ⟨db, 5, none⟩ = some (.int .i64 (dflt 5)) := cell_of_row _ _ 5 _ _ (0, 0) hS1
      have s6 : V.cell? ⟨db, 6, none⟩ = some (.int .i64 (dflt 6)) := cell_of_row _ _ 6 _ _ (0, 0) hS1
      have s7 : V.cell? ⟨db, 7, none⟩ = some (.int .i64 (dflt 7)) := cell_of_row _ _ 7 _ _ (0, 0) hS1
      have s8 : V.cell? ⟨db, 8, none⟩ = some (.int .i64 (dflt 8)) := cell_of_row _ _ 8 _ _ (0, 0) hS1
      have s9 : V.cell? ⟨db, 9, none⟩ = some (.int .i64 (dflt 9)) := cell_of_row _ _ 9 _ _ (0, 0) hS1
      have s10 : V.cell? ⟨db, 10, none⟩ = some (.int .i64 (dflt 10)) := cell_of_row _ _ 10 _ _ (0, 0) hS1
      have s11 : V.cell? ⟨db, 11, none⟩ = some (.int .i64 (dflt 11)) := cell_of_row _ _ 11 _ _ (0, 0) hS1
      have s12 : V.cell? ⟨db, 12, none⟩ = some (.int .i64 (dflt 12)) := cell_of_row _ _ 12 _ _ (0, 0) hS1
      have s13 : V.cell? ⟨db, 13, none⟩ = some (.int .i64 (dflt 13)) := cell_of_row _ _ 13 _ _ (0, 0) hS1
      clear hS1
      go_simp
      try decide
    go_simp
    refine wpAnyH_take (i := 1) (v := (.bool true)) rfl (by kernel_rfl) (by kernel_rfl) (by kernel_rfl) (fun _ _ _ h => h) (.inl ⟨rfl, fun V hS => ?y0⟩) (HS0).out ?_
    case y0 =>
      obtain ⟨hS1, hS2⟩ := hS
      have s0 : V.cell? ⟨db, 0, none⟩ = some (.int .i64 (dflt 0)) := cell_of_row _ _ 0 _ _ (0, 0) hS1
      have s1 : V.cell? ⟨db, 1, none⟩ = some (.int .i64 (dflt 1)) := cell_of_row _ _ 1 _ _ (0, 0) hS1
      have s2 : V.cell? ⟨db, 2, none⟩ = some (.int .i64 (dflt 2)) := cell_of_row _ _ 2 _ _ (0, 0) hS1
      have s3 : V.cell? ⟨db, 3, none⟩ = some (.int .i64 (dflt 3)) := cell_of_row _ _ 3 _ _ (0, 0) hS1
      have s4 : V.cell? ⟨db, 4, none⟩ = some (.int .i64 (dflt 4)) := cell_of_row _ _ 4 _ _ (0, 0) hS1
      have s5 : V.cell? ⟨db, 5, none⟩ = some (.int .i64 (dflt 5)) := cell_of_row _ _ 5 _ _ (0, 0) hS1
      have s6 : V.cell? ⟨db, 6, none⟩ = some (.int .i64 (dflt 6)) := cell_of_row _ _ 6 _ _ (0, 0) hS1
      have s7 : V.cell? ⟨db, 7, none⟩ = some (.int .i64 (dflt 7)) := cell_of_row _ _ 7 _ _ (0, 0) hS1
      have s8 : V.cell? ⟨db, 8, none⟩ = some (.int .i64 (dflt 8)) := cell_of_row _ _ 8 _ _ (0, 0) hS1
      have s9 : V.cell? ⟨db, 9, none⟩ = some (.int .i64 (dflt 9)) := cell_of_row _ _ 9 _ _ (0, 0) hS1
      have s10 : V.cell? ⟨db, 10, none⟩ = some (.int .i64 (dflt 10)) := cell_of_row _ _ 10 _ _ (0, 0) hS1
      have s11 : V.cell? ⟨db, 11, none⟩ = some (.int .i64 (dflt 11)) := cell_of_row _ _ 11 _ _ (0, 0) hS1
      have s12 : V.cell? ⟨db, 12, none⟩ = some (.int .i64 (dflt 12)) := cell_of_row _ _ 12 _ _ (0, 0) hS1
      have s13 : V.cell? ⟨db, 13, none⟩ = some (.int .i64 (dflt 13)) := cell_of_row _ _ 13 _ _ (0, 0) hS1
      clear hS1
      go_simp
      try decide
    go_simp
    refine wpAnyH_take (i := 2) (v := (.bool true)) rfl (by kernel_rfl) (by kernel_rfl) (by kernel_rfl) (fun _ _ _ h => h) (.inl ⟨rfl, fun V hS => ?y0⟩) (HS0).out ?_
    case y0 =>
      obtain ⟨hS1, hS2⟩ := hS
      have s0 : V.cell? ⟨db, 0, none⟩ = some (.int .i64 (dflt 0)) := cell_of_row _ _ 0 _ _ (0, 0) hS1
      have s1 : V.cell? ⟨db, 1, none⟩ = some (.int .i64 (dflt 1)) := cell_of_row _ _ 1 _ _ (0, 0) hS1
      have s2 : V.cell? ⟨db, 2, none⟩ = some (.int .i64 (dflt 2)) := cell_of_row _ _ 2 _ _ (0, 0) hS1
      have s3 : V.cell? ⟨db, 3, none⟩ = some (.int .i64 (dflt 3)) := cell_of_row _ _ 3 _ _ (0, 0) hS1
      have s4 : V.cell? ⟨db, 4, none⟩ = some (.int .i64 (dflt 4)) := cell_of_row _ _ 4 _ _ (0, 0) hS1
      have s5 : V.cell? ⟨db, 5, none⟩ = some (.int .i64 (dflt 5)) := cell_of_row _ _ 5 _ _ (0, 0) hS1
      have s6 : V.cell? ⟨db, 6, none⟩ = some (.int .i64 (dflt 6)) := cell_of_row _ _ 6 _ _ (0, 0) hS1
      have s7 : V.cell? ⟨db, 7, none⟩ = some (.int .i64 (dflt 7)) := cell_of_row _ _ 7 _ _ (0, 0) hS1
      have s8 : V.cell? ⟨db, 8, none⟩ = some (.int .i64 (dflt 8)) := cell_of_row _ _ 8 _ _ (0, 0) hS1
      have s9 : V.cell? ⟨db, 9, none⟩ = some (.int .i64 (dflt 9)) := cell_of_row _ _ 9 _ _ (0, 0) hS1
      have s10 : V.cell? ⟨db, 10, none⟩ = some (.int .i64 (dflt 10)) := cell_of_row _ _ 10 _ _ (0, 0) hS1
      have s11 : V.cell? ⟨db, 11, none⟩ = some (.int .i64 (dflt 11)) := cell_of_row _ _ 11 _ _ (0, 0) hS1
      have s12 : V.cell? ⟨db, 12, none⟩ = some (.int .i64 (dflt 12)) := cell_of_row _ _ 12 _ _ (0, 0) hS1
      have s13 : V.cell? ⟨db, 13, none⟩ = some (.int .i64 (dflt 13)) := cell_of_row _ _ 13 _ _ (0, 0) hS1
      clear hS1
      go_simp
      try decide
    go_simp
    refine wpAnyH_take (i := 3) (v := (.agg #[.int .i64 1, .int .i64 4, .int .i64 30, .int .i64 1000, .int .i64 100, .int .i64 40, .int .i64 200, .int .i64 2, .int .i64 32, .int .i64 50, .int .i64 60, .int .i64 5, .int .i64 20, .int .i64 50])) rfl (by kernel_rfl) (by kernel_rfl) (by kernel_rfl) (fun _ _ _ h => h) (.inl ⟨rfl, fun V hS => ?y0⟩) (HS0).out ?_
    case y0 =>
      obtain ⟨hS1, hS2⟩ := hS
      have s0 : V.cell? ⟨db, 0, none⟩ = some (.int .i64 (dflt 0)) := cell_of_row _ _ 0 _ _ (0, 0) hS1
      have s1 : V.cell? ⟨db, 1, none⟩ = some (.int .i64 (dflt 1)) := cell_of_row _ _ 1 _ _ (0, 0) hS1
      have s2 : V.cell? ⟨db, 2, none⟩ = some (.int .i64 (dflt 2)) := cell_of_row _ _ 2 _ _ (0, 0) hS1
      have s3 : V.cell? ⟨db, 3, none⟩ = some (.int .i64 (dflt 3)) := cell_of_row _ _ 3 _ _ (0, 0) hS1
      have s4 : V.cell? ⟨db, 4, none⟩ = some (.int .i64 (dflt 4)) := cell_of_row _ _ 4 _ _ (0, 0) hS1
      have s5 : V.cell? ⟨db, 5, none⟩ = some (.int .i64 (dflt 5)) := cell_of_row _ _ 5 _ _ (0, 0) hS1
      have s6 : V.cell? ⟨db, 6, none⟩ = some (.int .i64 (dflt 6)) := cell_of_row _ _ 6 _ _ (0, 0) hS1
      have s7 : V.cell? ⟨db, 7, none⟩ = some (.int .i64 (dflt 7)) := cell_of_row _ _ 7 _ _ (0, 0) hS1
      have s8 : V.cell? ⟨db, 8, none⟩ = some (.int .i64 (dflt 8)) := cell_of_row _ _ 8 _ _ (0, 0) hS1
      have s9 : V.cell? ⟨db, 9, none⟩ = some (.int .i64 (dflt 9)) := cell_of_row _ _ 9 _ _ (0, 0) hS1
      have s10 : V.cell? ⟨db, 10, none⟩ = some (.int .i64 (dflt 10)) := cell_of_row _ _ 10 _ _ (0, 0) hS1
      have s11 : V.cell? ⟨db, 11, none⟩ = some (.int .i64 (dflt 11)) := cell_of_row _ _ 11 _ _ (0, 0) hS1
      have s12 : V.cell? ⟨db, 12, none⟩ = some (.int .i64 (dflt 12)) := cell_of_row _ _ 12 _ _ (0, 0) hS1
      have s13 : V.cell? ⟨db, 13, none⟩ = some (.int .i64 (dflt 13)) := cell_of_row _ _ 13 _ _ (0, 0) hS1
      clear hS1
      go_simp
      try decide
    go_simp
    refine wpAnyH_ready (rs := [4]) (by kernel_rfl) (by simp) (AllReadyH.cons rfl (fun J hJ => ?_) AllReadyH.nil)
    go_simp
    refine (implDefault_any _).mono ?_
    rintro e w10 ⟨rfl, b10⟩
    have HS1 : Hid (w10.heap[db]? = some (.cells #[.int .i64 (dflt 0), .int .i64 (dflt 1), .int .i64 (dflt 2), .int .i64 (dflt 3), .int .i64 (dflt 4), .int .i64 (dflt 5), .int .i64 (dflt 6), .int .i64 (dflt 7), .int .i64 (dflt 8), .int .i64 (dflt 9), .int .i64 (dflt 10), .int .i64 (dflt 11), .int .i64 (dflt 12), .int .i64 (dflt 13)] 25 (0, 0)) ∧ w10.cell? ⟨nb, 0, none⟩ = some (.string ⟨#[109, 105, 110]⟩)) := ⟨(b10.block db (Cv.row_lt HS0.out.1)).trans HS0.out.1, (b10.cell (p := ⟨nb, 0, none⟩) (World.block_lt_of_cell? _ _ HS0.out.2)).trans HS0.out.2⟩
    have B10 := Lib.hid (bel_trans B9.out b10)
    clear b10 B9 HS0
    refine hJ.out _ _ HS1.out (fun _ => ?_)
    clear hJ J
    go_simp
    refine wpAnyH_take (i := 5) (v := (.bool true)) rfl (by kernel_rfl) (by kernel_rfl) (by kernel_rfl) (fun _ _ _ h => h) (.inl ⟨rfl, fun V hS => ?y0⟩) (HS1).out ?_
    case y0 =>
      obtain ⟨hS1, hS2⟩ := hS
      have s0 : V.cell? ⟨db, 0, none⟩ = some (.int .i64 (dflt 0)) := cell_of_row _ _ 0 _ _ (0, 0) hS1
      have s1 : V.cell? ⟨db, 1, none⟩ = some (.int .i64 (dflt 1)) := cell_of_row _ _ 1 _ _ (0, 0) hS1
      have s2 : V.cell? ⟨db, 2, none⟩ = some (.int .i64 (dflt 2)) := cell_of_row _ _ 2 _ _ (0, 0) hS1
      have s3 : V.cell? ⟨db, 3, none⟩ = some (.int .i64 (dflt 3)) := cell_of_row _ _ 3 _ _ (0, 0) hS1
      have s4 : V.cell? ⟨db, 4, none⟩ = some (.int .i64 (dflt 4)) := cell_of_row _ _ 4 _ _ (0, 0) hS1
      have s5 : V.cell? ⟨db, 5, none⟩ = some (.int .i64 (dflt 5)) := cell_of_row _ _ 5 _ _ (0, 0) hS1
      have s6 : V.cell? ⟨db, 6, none⟩ = some (.int .i64 (dflt 6)) := cell_of_row _ _ 6 _ _ (0, 0) hS1
      have s7 : V.cell? ⟨db, 7, none⟩ = some (.int .i64 (dflt 7)) := cell_of_row _ _ 7 _ _ (0, 0) hS1
      have s8 : V.cell? ⟨db, 8, none⟩ = some (.int .i64 (dflt 8)) := cell_of_row _ _ 8 _ _ (0, 0) hS1
      have s9 : V.cell? ⟨db, 9, none⟩ = some (.int .i64 (dflt 9)) := cell_of_row _ _ 9 _ _ (0, 0) hS1
      have s10 : V.cell? ⟨db, 10, none⟩ = some (.int .i64 (dflt 10)) := cell_of_row _ _ 10 _ _ (0, 0) hS1
      have s11 : V.cell? ⟨db, 11, none⟩ = some (.int .i64 (dflt 11)) := cell_of_row _ _ 11 _ _ (0, 0) hS1
      have s12 : V.cell? ⟨db, 12, none⟩ = some (.int .i64 (dflt 12)) := cell_of_row _ _ 12 _ _ (0, 0) hS1
      have s13 : V.cell? ⟨db, 13, none⟩ = some (.int .i64 (dflt 13)) := cell_of_row _ _ 13 _ _ (0, 0) hS1
      clear hS1
      go_simp
      try decide
    go_simp
    refine wpAnyH_take (i := 6) (v := (.bool true)) rfl (by kernel_rfl) (by kernel_rfl) (by kernel_rfl) (fun _ _ _ h => h) (.inl ⟨rfl, fun V hS => ?y0⟩) (HS1).out ?_
    case y0 =>
      obtain ⟨hS1, hS2⟩ := hS
      have s0 : V.cell? ⟨db, 0, none⟩ = some (.int .i64 (dflt 0)) := cell_of_row _ _ 0 _ _ (0, 0) hS1
      have s1 : V.cell? ⟨db, 1, none⟩ = some (.int .i64 (dflt 1)) := cell_of_row _ _ 1 _ _ (0, 0) hS1
      have s2 : V.cell? ⟨db, 2, none⟩ = some (.int .i64 (dflt 2)) := cell_of_row _ _ 2 _ _ (0, 0) hS1
      have s3 : V.cell? ⟨db, 3, none⟩ = some (.int .i64 (dflt 3)) := cell_of_row _ _ 3 _ _ (0, 0) hS1
      have s4 : V.cell? ⟨db, 4, none⟩ = some (.int .i64 (dflt 4)) := cell_of_row _ _ 4 _ _ (0, 0) hS1
      have s5 : V.cell? ⟨db, 5, none⟩ = some (.int .i64 (dflt 5)) := cell_of_row _ _ 5 _ _ (0, 0) hS1
      have s6 : V.cell? ⟨db, 6, none⟩ = some (.int .i64 (dflt 6)) := cell_of_row _ _ 6 _ _ (0, 0) hS1
      have s7 : V.cell? ⟨db, 7, none⟩ = some (.int .i64 (dflt 7)) := cell_of_row _ _ 7 _ _ (0, 0) hS1
      have s8 : V.cell? ⟨db, 8, none⟩ = some (.int .i64 (dflt 8)) := cell_of_row _ _ 8 _ _ (0, 0) hS1
      have s9 : V.cell? ⟨db, 9, none⟩ = some (.int .i64 (dflt 9)) := cell_of_row _ _ 9 _ _ (0, 0) hS1
      have s10 : V.cell? ⟨db, 10, none⟩ = some (.int .i64 (dflt 10)) := cell_of_row _ _ 10 _ _ (0, 0) hS1
      have s11 : V.cell? ⟨db, 11, none⟩ = some (.int .i64 (dflt 11)) := cell_of_row _ _ 11 _ _ (0, 0) hS1
      have s12 : V.cell? ⟨db, 12, none⟩ = some (.int .i64 (dflt 12)) := cell_of_row _ _ 12 _ _ (0, 0) hS1
      have s13 : V.cell? ⟨db, 13, none⟩ = some (.int .i64 (dflt 13)) := cell_of_row _ _ 13 _ _ (0, 0) hS1
      clear hS1
      go_simp
      try decide
    go_simp
    refine wpAnyH_take (i := 7) (v := (.bool true)) rfl (by kernel_rfl) (by kernel_rfl) (by kernel_rfl) (fun _ _ _ h => h) (.inl ⟨rfl, fun V hS => ?y0⟩) (HS1).out ?_
    case y0 =>
      obtain ⟨hS1, hS2⟩ := hS
      have s0 : V.cell? ⟨db, 0, none⟩ = some (.int .i64 (dflt 0)) := cell_of_row _ _ 0 _ _ (0, 0) hS1
      have s1 : V.cell? ⟨db, 1, none⟩ = some (.int .i64 (dflt 1)) := cell_of_row _ _ 1 _ _ (0, 0) hS1
      have s2 : V.cell? ⟨db, 2, none⟩ = some (.int .i64 (dflt 2)) := cell_of_row _ _ 2 _ _ (0, 0) hS1
      have s3 : V.cell? ⟨db, 3, none⟩ = some (.int .i64 (dflt 3)) := cell_of_row _ _ 3 _ _ (0, 0) hS1
      have s4 : V.cell? ⟨db, 4, none⟩ = some (.int .i64 (dflt 4)) := cell_of_row _ _ 4 _ _ (0, 0) hS1
      have s5 : V.cell? ⟨db, 5, none⟩ = some (.int .i64 (dflt 5)) := cell_of_row _ _ 5 _ _ (0, 0) hS1
      have s6 : V.cell? ⟨db, 6, none⟩ = some (.int .i64 (dflt 6)) := cell_of_row _ _ 6 _ _ (0, 0) hS1
      have s7 : V.cell? ⟨db, 7, none⟩ = some (.int .i64 (dflt 7)) := cell_of_row _ _ 7 _ _ (0, 0) hS1
      have s8 : V.cell? ⟨db, 8, none⟩ = some (.int .i64 (dflt 8)) := cell_of_row _ _ 8 _ _ (0, 0) hS1
      have s9 : V.cell? ⟨db, 9, none⟩ = some (.int .i64 (dflt 9)) := cell_of_row _ _ 9 _ _ (0, 0) hS1
      have s10 : V.cell? ⟨db, 10, none⟩ = some (.int .i64 (dflt 10)) := cell_of_row _ _ 10 _ _ (0, 0) hS1
      have s11 : V.cell? ⟨db, 11, none⟩ = some (.int .i64 (dflt 11)) := cell_of_row _ _ 11 _ _ (0, 0) hS1
      have s12 : V.cell? ⟨db, 12, none⟩ = some (.int .i64 (dflt 12)) := cell_of_row _ _ 12 _ _ (0, 0) hS1
      have s13 : V.cell? ⟨db, 13, none⟩ = some (.int .i64 (dflt 13)) := cell_of_row _ _ 13 _ _ (0, 0) hS1
      clear hS1
      go_simp
      try decide
    go_simp
    refine wpAnyH_take (i := 8) (v := (.slice (some ⟨nb, 0, none⟩) 14 14)) rfl (by kernel_rfl) (by kernel_rfl) (by kernel_rfl) (fun _ _ _ h => h) (.inl ⟨rfl, fun V hS => ?y0⟩) (HS1).out ?_
    case y0 =>
      obtain ⟨hS1, hS2⟩ := hS
      have s0 : V.cell? ⟨db, 0, none⟩ = some (.int .i64 (dflt 0)) := cell_of_row _ _ 0 _ _ (0, 0) hS1
      have s1 : V.cell? ⟨db, 1, none⟩ = some (.int .i64 (dflt 1)) := cell_of_row _ _ 1 _ _ (0, 0) hS1
      have s2 : V.cell? ⟨db, 2, none⟩ = some (.int .i64 (dflt 2)) := cell_of_row _ _ 2 _ _ (0, 0) hS1
      have s3 : V.cell? ⟨db, 3, none⟩ = some (.int .i64 (dflt 3)) := cell_of_row _ _ 3 _ _ (0, 0) hS1
      have s4 : V.cell? ⟨db, 4, none⟩ = some (.int .i64 (dflt 4)) := cell_of_row _ _ 4 _ _ (0, 0) hS1
      have s5 : V.cell? ⟨db, 5, none⟩ = some (.int .i64 (dflt 5)) := cell_of_row _ _ 5 _ _ (0, 0) hS1
      have s6 : V.cell? ⟨db, 6, none⟩ = some (.int .i64 (dflt 6)) := cell_of_row _ _ 6 _ _ (0, 0) hS1
      have s7 : V.cell? ⟨db, 7, none⟩ = some (.int .i64 (dflt 7)) := cell_of_row _ _ 7 _ _ (0, 0) hS1
      have s8 : V.cell? ⟨db, 8, none⟩ = some (.int .i64 (dflt 8)) := cell_of_row _ _ 8 _ _ (0, 0) hS1
      have s9 : V.cell? ⟨db, 9, none⟩ = some (.int .i64 (dflt 9)) := cell_of_row _ _ 9 _ _ (0, 0) hS1
      have s10 : V.cell? ⟨db, 10, none⟩ = some (.int .i64 (dflt 10)) := cell_of_row _ _ 10 _ _ (0, 0) hS1
      have s11 : V.cell? ⟨db, 11, none⟩ = some (.int .i64 (dflt 11)) := cell_of_row _ _ 11 _ _ (0, 0) hS1
      have s12 : V.cell? ⟨db, 12, none⟩ = some (.int .i64 (dflt 12)) := cell_of_row _ _ 12 _ _ (0, 0) hS1
      have s13 : V.cell? ⟨db, 13, none⟩ = some (.int .i64 (dflt 13)) := cell_of_row _ _ 13 _ _ (0, 0) hS1
      clear hS1
      go_simp
      try decide
    go_simp
    refine wpAnyH_take (i := 9) (v := (.int .i64 14)) rfl (by kernel_rfl) (by kernel_rfl) (by kernel_rfl) (fun _ _ _ h => h) (.inl ⟨rfl, fun V hS => ?y0⟩) (HS1).out ?_
    case y0 =>
      obtain ⟨hS1, hS2⟩ := hS
      have s0 : V.cell? ⟨db, 0, none⟩ = some (.int .i64 (dflt 0)) := cell_of_row _ _ 0 _ _ (0, 0) hS1
      have s1 : V.cell? ⟨db, 1, none⟩ = some (.int .i64 (dflt 1)) := cell_of_row _ _ 1 _ _ (0, 0) hS1
      have s2 : V.cell? ⟨db, 2, none⟩ = some (.int .i64 (dflt 2)) := cell_of_row _ _ 2 _ _ (0, 0) hS1
      have s3 : V.cell? ⟨db, 3, none⟩ = some (.int .i64 (dflt 3)) := cell_of_row _ _ 3 _ _ (0, 0) hS1
      have s4 : V.cell? ⟨db, 4, none⟩ = some (.int .i64 (dflt 4)) := cell_of_row _ _ 4 _ _ (0, 0) hS1
      have s5 : V.cell? ⟨db, 5, none⟩ = some (.int .i64 (dflt 5)) := cell_of_row _ _ 5 _ _ (0, 0) hS1
      have s6 : V.cell? ⟨db, 6, none⟩ = some (.int .i64 (dflt 6)) := cell_of_row _ _ 6 _ _ (0, 0) hS1
      have s7 : V.cell? ⟨db, 7, none⟩ = some (.int .i64 (dflt 7)) := cell_of_row _ _ 7 _ _ (0, 0) hS1
      have s8 : V.cell? ⟨db, 8, none⟩ = some (.int .i64 (dflt 8)) := cell_of_row _ _ 8 _ _ (0, 0) hS1
      have s9 : V.cell? ⟨db, 9, none⟩ = some (.int .i64 (dflt 9)) := cell_of_row _ _ 9 _ _ (0, 0) hS1
      have s10 : V.cell? ⟨db, 10, none⟩ = some (.int .i64 (dflt 10)) := cell_of_row _ _ 10 _ _ (0, 0) hS1
      have s11 : V.cell? ⟨db, 11, none⟩ = some (.int .i64 (dflt 11)) := cell_of_row _ _ 11 _ _ (0, 0) hS1
      have s12 : V.cell? ⟨db, 12, none⟩ = some (.int .i64 (dflt 12)) := cell_of_row _ _ 12 _ _ (0, 0) hS1
      have s13 : V.cell? ⟨db, 13, none⟩ = some (.int .i64 (dflt 13)) := cell_of_row _ _ 13 _ _ (0, 0) hS1
      clear hS1
      go_simp
      try decide
    go_simp
    refine wpAnyH_take (i := 10) (v := (.bool true)) rfl (by kernel_rfl) (by kernel_rfl) (by kernel_rfl) (fun _ _ _ h => h) (.inl ⟨rfl, fun V hS => ?y0⟩) (HS1).out ?_
    case y0 =>
      obtain ⟨hS1, hS2⟩ := hS
      have s0 : V.cell? ⟨db, 0, none⟩ = some (.int .i64 (dflt 0)) := cell_of_row _ _ 0 _ _ (0, 0) hS1
      have s1 : V.cell? ⟨db, 1, none⟩ = some (.int .i64 (dflt 1)) := cell_of_row _ _ 1 _ _ (0, 0) hS1
      have s2 : V.cell? ⟨db, 2, none⟩ = some (.int .i64 (dflt 2)) := cell_of_row _ _ 2 _ _ (0, 0) hS1
      have s3 : V.cell? ⟨db, 3, none⟩ = some (.int .i64 (dflt 3)) := cell_of_row _ _ 3 _ _ (0, 0) hS1
      have s4 : V.cell? ⟨db, 4, none⟩ = some (.int .i64 (dflt 4)) := cell_of_row _ _ 4 _ _ (0, 0) hS1
      have s5 : V.cell? ⟨db, 5, none⟩ = some (.int .i64 (dflt 5)) := cell_of_row _ _ 5 _ _ (0, 0) hS1
      have s6 : V.cell? ⟨db, 6, none⟩ = some (.int .i64 (dflt 6)) := cell_of_row _ _ 6 _ _ (0, 0) hS1
      have s7 : V.cell? ⟨db, 7, none⟩ = some (.int .i64 (dflt 7)) := cell_of_row _ _ 7 _ _ (0, 0) hS1
      have s8 : V.cell? ⟨db, 8, none⟩ = some (.int .i64 (dflt 8)) := cell_of_row _ _ 8 _ _ (0, 0) hS1
      have s9 : V.cell? ⟨db, 9, none⟩ = some (.int .i64 (dflt 9)) := cell_of_row _ _ 9 _ _ (0, 0) hS1
      have s10 : V.cell? ⟨db, 10, none⟩ = some (.int .i64 (dflt 10)) := cell_of_row _ _ 10 _ _ (0, 0) hS1
      have s11 : V.cell? ⟨db, 11, none⟩ = some (.int .i64 (dflt 11)) := cell_of_row _ _ 11 _ _ (0, 0) hS1
      have s12 : V.cell? ⟨db, 12, none⟩ = some (.int .i64 (dflt 12)) := cell_of_row _ _ 12 _ _ (0, 0) hS1
      have s13 : V.cell? ⟨db, 13, none⟩ = some (.int .i64 (dflt 13)) := cell_of_row _ _ 13 _ _ (0, 0) hS1
      clear hS1
      go_simp
      try decide
    go_simp
    refine wpAnyH_take (i := 11) (v := (.bool true)) rfl (by kernel_rfl) (by kernel_rfl) (by kernel_rfl) (fun _ _ _ h => h) (.inl ⟨rfl, fun V hS => ?y0⟩) (HS1).out ?_
    case y0 =>
      obtain ⟨hS1, hS2⟩ := hS
      have s0 : V.cell? ⟨db, 0, none⟩ = some (.int .i64 (dflt 0)) := cell_of_row _ _ 0 _ _ (0, 0) hS1
      have s1 : V.cell? ⟨db, 1, none⟩ = some (.int .i64 (dflt 1)) := cell_of_row _ _ 1 _ _ (0, 0) hS1
      have s2 : V.cell? ⟨db, 2, none⟩ = some (.int .i64 (dflt 2)) := cell_of_row _ _ 2 _ _ (0, 0) hS1
      have s3 : V.cell? ⟨db, 3, none⟩ = some (.int .i64 (dflt 3)) := cell_of_row _ _ 3 _ _ (0, 0) hS1
      have s4 : V.cell? ⟨db, 4, none⟩ = some (.int .i64 (dflt 4)) := cell_of_row _ _ 4 _ _ (0, 0) hS1
      have s5 : V.cell? ⟨db, 5, none⟩ = some (.int .i64 (dflt 5)) := cell_of_row _ _ 5 _ _ (0, 0) hS1
      have s6 : V.cell? ⟨db, 6, none⟩ = some (.int .i64 (dflt 6)) := cell_of_row _ _ 6 _ _ (0, 0) hS1
      have s7 : V.cell? ⟨db, 7, none⟩ = some (.int .i64 (dflt 7)) := cell_of_row _ _ 7 _ _ (0, 0) hS1
      have s8 : V.cell? ⟨db, 8, none⟩ = some (.int .i64 (dflt 8)) := cell_of_row _ _ 8 _ _ (0, 0) hS1
      have s9 : V.cell? ⟨db, 9, none⟩ = some (.int .i64 (dflt 9)) := cell_of_row _ _ 9 _ _ (0, 0) hS1
      have s10 : V.cell? ⟨db, 10, none⟩ = some (.int .i64 (dflt 10)) := cell_of_row _ _ 10 _ _ (0, 0) hS1
      have s11 : V.cell? ⟨db, 11, none⟩ = some (.int .i64 (dflt 11)) := cell_of_row _ _ 11 _ _ (0, 0) hS1
      have s12 : V.cell? ⟨db, 12, none⟩ = some (.int .i64 (dflt 12)) := cell_of_row _ _ 12 _ _ (0, 0) hS1
      have s13 : V.cell? ⟨db, 13, none⟩ = some (.int .i64 (dflt 13)) := cell_of_row _ _ 13 _ _ (0, 0) hS1
      clear hS1
      go_simp
      try decide
    go_simp
    refine wpAnyH_take (i := 12) (v := (.bool true)) rfl (by kernel_rfl) (by kernel_rfl) (by kernel_rfl) (fun _ _ _ h => h) (.inl ⟨rfl, fun V hS => ?y0⟩) (HS1).out ?_
    case y0 =>
      obtain ⟨hS1, hS2⟩ := hS
      have s0 : V.cell? ⟨db, 0, none⟩ = some (.int .i64 (dflt 0)) := cell_of_row _ _ 0 _ _ (0, 0) hS1
      have s1 : V.cell? ⟨db, 1, none⟩ = some (.int .i64 (dflt 1)) := cell_of_row _ _ 1 _ _ (0, 0) hS1
      have s2 : V.cell? ⟨db, 2, none⟩ = some (.int .i64 (dflt 2)) := cell_of_row _ _ 2 _ _ (0, 0) hS1
      have s3 : V.cell? ⟨db, 3, none⟩ = some (.int .i64 (dflt 3)) := cell_of_row _ _ 3 _ _ (0, 0) hS1
      have s4 : V.cell? ⟨db, 4, none⟩ = some (.int .i64 (dflt 4)) := cell_of_row _ _ 4 _ _ (0, 0) hS1
      have s5 : V.cell? ⟨db, 5, none⟩ = some (.int .i64 (dflt 5)) := cell_of_row _ _ 5 _ _ (0, 0) hS1
      have s6 : V.cell? ⟨db, 6, none⟩ = some (.int .i64 (dflt 6)) := cell_of_row _ _ 6 _ _ (0, 0) hS1
      have s7 : V.cell? ⟨db, 7, none⟩ = some (.int .i64 (dflt 7)) := cell_of_row _ _ 7 _ _ (0, 0) hS1
      have s8 : V.cell? ⟨db, 8, none⟩ = some (.int .i64 (dflt 8)) := cell_of_row _ _ 8 _ _ (0, 0) hS1
      have s9 : V.cell? ⟨db, 9, none⟩ = some (.int .i64 (dflt 9)) := cell_of_row _ _ 9 _ _ (0, 0) hS1
      have s10 : V.cell? ⟨db, 10, none⟩ = some (.int .i64 (dflt 10)) := cell_of_row _ _ 10 _ _ (0, 0) hS1
      have s11 : V.cell? ⟨db, 11, none⟩ = some (.int .i64 (dflt 11)) := cell_of_row _ _ 11 _ _ (0, 0) hS1
      have s12 : V.cell? ⟨db, 12, none⟩ = some (.int .i64 (dflt 12)) := cell_of_row _ _ 12 _ _ (0, 0) hS1
      have s13 : V.cell? ⟨db, 13, none⟩ = some (.int .i64 (dflt 13)) := cell_of_row _ _ 13 _ _ (0, 0) hS1
      clear hS1
      go_simp
      try decide
    go_simp
    refine wpAnyH_take (i := 13) (v := (.slice (some ⟨nb, 0, none⟩) 14 14)) rfl (by kernel_rfl) (by kernel_rfl) (by kernel_rfl) (fun _ _ _ h => h) (.inl ⟨rfl, fun V hS => ?y0⟩) (HS1).out ?_
    case y0 =>
      obtain ⟨hS1, hS2⟩ := hS
      have s0 : V.cell? ⟨db, 0, none⟩ = some (.int .i64 (dflt 0)) := cell_of_row _ _ 0 _ _ (0, 0) hS1
      have s1 : V.cell? ⟨db, 1, none⟩ = some (.int .i64 (dflt 1)) := cell_of_row _ _ 1 _ _ (0, 0) hS1
      have s2 : V.cell? ⟨db, 2, none⟩ = some (.int .i64 (dflt 2)) := cell_of_row _ _ 2 _ _ (0, 0) hS1
      have s3 : V.cell? ⟨db, 3, none⟩ = some (.int .i64 (dflt 3)) := cell_of_row _ _ 3 _ _ (0, 0) hS1
      have s4 : V.cell? ⟨db, 4, none⟩ = some (.int .i64 (dflt 4)) := cell_of_row _ _ 4 _ _ (0, 0) hS1
      have s5 : V.cell? ⟨db, 5, none⟩ = some (.int .i64 (dflt 5)) := cell_of_row _ _ 5 _ _ (0, 0) hS1
      have s6 : V.cell? ⟨db, 6, none⟩ = some (.int .i64 (dflt 6)) := cell_of_row _ _ 6 _ _ (0, 0) hS1
      have s7 : V.cell? ⟨db, 7, none⟩ = some (.int .i64 (dflt 7)) := cell_of_row _ _ 7 _ _ (0, 0) hS1
      have s8 : V.cell? ⟨db, 8, none⟩ = some (.int .i64 (dflt 8)) := cell_of_row _ _ 8 _ _ (0, 0) hS1
      have s9 : V.cell? ⟨db, 9, none⟩ = some (.int .i64 (dflt 9)) := cell_of_row _ _ 9 _ _ (0, 0) hS1
      have s10 : V.cell? ⟨db, 10, none⟩ = some (.int .i64 (dflt 10)) := cell_of_row _ _ 10 _ _ (0, 0) hS1
      have s11 : V.cell? ⟨db, 11, none⟩ = some (.int .i64 (dflt 11)) := cell_of_row _ _ 11 _ _ (0, 0) hS1
      have s12 : V.cell? ⟨db, 12, none⟩ = some (.int .i64 (dflt 12)) := cell_of_row _ _ 12 _ _ (0, 0) hS1
      have s13 : V.cell? ⟨db, 13, none⟩ = some (.int .i64 (dflt 13)) := cell_of_row _ _ 13 _ _ (0, 0) hS1
      clear hS1
      go_simp
      try decide
    go_simp
    refine wpAnyH_take (i := 14) (v := (.pointer (some ⟨nb, 0, none⟩))) rfl (by kernel_rfl) (by kernel_rfl) (by kernel_rfl) (fun _ _ _ h => h) (.inl ⟨rfl, fun V hS => ?y0⟩) (HS1).out ?_
    case y0 =>
      obtain ⟨hS1, hS2⟩ := hS
      have s0 : V.cell? ⟨db, 0, none⟩ = some (.int .i64 (dflt 0)) := cell_of_row _ _ 0 _ _ (0, 0) hS1
      have s1 : V.cell? ⟨db, 1, none⟩ = some (.int .i64 (dflt 1)) := cell_of_row _ _ 1 _ _ (0, 0) hS1
      have s2 : V.cell? ⟨db, 2, none⟩ = some (.int .i64 (dflt 2)) := cell_of_row _ _ 2 _ _ (0, 0) hS1
      have s3 : V.cell? ⟨db, 3, none⟩ = some (.int .i64 (dflt 3)) := cell_of_row _ _ 3 _ _ (0, 0) hS1
      have s4 : V.cell? ⟨db, 4, none⟩ = some (.int .i64 (dflt 4)) := cell_of_row _ _ 4 _ _ (0, 0) hS1
      have s5 : V.cell? ⟨db, 5, none⟩ = some (.int .i64 (dflt 5)) := cell_of_row _ _ 5 _ _ (0, 0) hS1
      have s6 : V.cell? ⟨db, 6, none⟩ = some (.int .i64 (dflt 6)) := cell_of_row _ _ 6 _ _ (0, 0) hS1
      have s7 : V.cell? ⟨db, 7, none⟩ = some (.int .i64 (dflt 7)) := cell_of_row _ _ 7 _ _ (0, 0) hS1
      have s8 : V.cell? ⟨db, 8, none⟩ = some (.int .i64 (dflt 8)) := cell_of_row _ _ 8 _ _ (0, 0) hS1
      have s9 : V.cell? ⟨db, 9, none⟩ = some (.int .i64 (dflt 9)) := cell_of_row _ _ 9 _ _ (0, 0) hS1
      have s10 : V.cell? ⟨db, 10, none⟩ = some (.int .i64 (dflt 10)) := cell_of_row _ _ 10 _ _ (0, 0) hS1
      have s11 : V.cell? ⟨db, 11, none⟩ = some (.int .i64 (dflt 11)) := cell_of_row _ _ 11 _ _ (0, 0) hS1
      have s12 : V.cell? ⟨db, 12, none⟩ = some (.int .i64 (dflt 12)) := cell_of_row _ _ 12 _ _ (0, 0) hS1
      have s13 : V.cell? ⟨db, 13, none⟩ = some (.int .i64 (dflt 13)) := cell_of_row _ _ 13 _ _ (0, 0) hS1
      clear hS1
      go_simp
      try decide
    go_simp
    refine wpAnyH_take (i := 15) (v := (.string ⟨#[109, 105, 110]⟩)) rfl (by kernel_rfl) (by kernel_rfl) (by kernel_rfl) (fun _ _ _ h => h) (.inl ⟨rfl, fun V hS => ?y0⟩) (HS1).out ?_
    case y0 =>
      obtain ⟨hS1, hS2⟩ := hS
      have s0 : V.cell? ⟨db, 0, none⟩ = some (.int .i64 (dflt 0)) := cell_of_row _ _ 0 _ _ (0, 0) hS1
      have s1 : V.cell? ⟨db, 1, none⟩ = some (.int .i64 (dflt 1)) := cell_of_row _ _ 1 _ _ (0, 0) hS1
      have s2 : V.cell? ⟨db, 2, none⟩ = some (.int .i64 (dflt 2)) := cell_of_row _ _ 2 _ _ (0, 0) hS1
      have s3 : V.cell? ⟨db, 3, none⟩ = some (.int .i64 (dflt 3)) := cell_of_row _ _ 3 _ _ (0, 0) hS1
      have s4 : V.cell? ⟨db, 4, none⟩ = some (.int .i64 (dflt 4)) := cell_of_row _ _ 4 _ _ (0, 0) hS1
      have s5 : V.cell? ⟨db, 5, none⟩ = some (.int .i64 (dflt 5)) := cell_of_row _ _ 5 _ _ (0, 0) hS1
      have s6 : V.cell? ⟨db, 6, none⟩ = some (.int .i64 (dflt 6)) := cell_of_row _ _ 6 _ _ (0, 0) hS1
      have s7 : V.cell? ⟨db, 7, none⟩ = some (.int .i64 (dflt 7)) := cell_of_row _ _ 7 _ _ (0, 0) hS1
      have s8 : V.cell? ⟨db, 8, none⟩ = some (.int .i64 (dflt 8)) := cell_of_row _ _ 8 _ _ (0, 0) hS1
      have s9 : V.cell? ⟨db, 9, none⟩ = some (.int .i64 (dflt 9)) := cell_of_row _ _ 9 _ _ (0, 0) hS1
      have s10 : V.cell? ⟨db, 10, none⟩ = some (.int .i64 (dflt 10)) := cell_of_row _ _ 10 _ _ (0, 0) hS1
      have s11 : V.cell? ⟨db, 11, none⟩ = some (.int .i64 (dflt 11)) := cell_of_row _ _ 11 _ _ (0, 0) hS1
      have s12 : V.cell? ⟨db, 12, none⟩ = some (.int .i64 (dflt 12)) := cell_of_row _ _ 12 _ _ (0, 0) hS1
      have s13 : V.cell? ⟨db, 13, none⟩ = some (.int .i64 (dflt 13)) := cell_of_row _ _ 13 _ _ (0, 0) hS1
      clear hS1
      go_simp
      try decide
    go_simp
    refine wpAnyH_take (i := 16) (v := (.bool true)) rfl (by kernel_rfl) (by kernel_rfl) (by kernel_rfl) (fun _ _ _ h => h) (.inl ⟨rfl, fun V hS => ?y0⟩) (HS1).out ?_
    case y0 =>
      obtain ⟨hS1, hS2⟩ := hS
      have s0 : V.cell? ⟨db, 0, none⟩ = some (.int .i64 (dflt 0)) := cell_of_row _ _ 0 _ _ (0, 0) hS1
      have s1 : V.cell? ⟨db, 1, none⟩ = some (.int .i64 (dflt 1)) := cell_of_row _ _ 1 _ _ (0, 0) hS1
      have s2 : V.cell? ⟨db, 2, none⟩ = some (.int .i64 (dflt 2)) := cell_of_row _ _ 2 _ _ (0, 0) hS1
      have s3 : V.cell? ⟨db, 3, none⟩ = some (.int .i64 (dflt 3)) := cell_of_row _ _ 3 _ _ (0, 0) hS1
      have s4 : V.cell? ⟨db, 4, none⟩ = some (.int .i64 (dflt 4)) := cell_of_row _ _ 4 _ _ (0, 0) hS1
      have s5 : V.cell? ⟨db, 5, none⟩ = some (.int .i64 (dflt 5)) := cell_of_row _ _ 5 _ _ (0, 0) hS1
      have s6 : V.cell? ⟨db, 6, none⟩ = some (.int .i64 (dflt 6)) := cell_of_row _ _ 6 _ _ (0, 0) hS1
      have s7 : V.cell? ⟨db, 7, none⟩ = some (.int .i64 (dflt 7)) := cell_of_row _ _ 7 _ _ (0, 0) hS1
      have s8 : V.cell? ⟨db, 8, none⟩ = some (.int .i64 (dflt 8)) := cell_of_row _ _ 8 _ _ (0, 0) hS1
      have s9 : V.cell? ⟨db, 9, none⟩ = some (.int .i64 (dflt 9)) := cell_of_row _ _ 9 _ _ (0, 0) hS1
      have s10 : V.cell? ⟨db, 10, none⟩ = some (.int .i64 (dflt 10)) := cell_of_row _ _ 10 _ _ (0, 0) hS1
      have s11 : V.cell? ⟨db, 11, none⟩ = some (.int .i64 (dflt 11)) := cell_of_row _ _ 11 _ _ (0, 0) hS1
      have s12 : V.cell? ⟨db, 12, none⟩ = some (.int .i64 (dflt 12)) := cell_of_row _ _ 12 _ _ (0, 0) hS1
      have s13 : V.cell? ⟨db, 13, none⟩ = some (.int .i64 (dflt 13)) := cell_of_row _ _ 13 _ _ (0, 0) hS1
      clear hS1
      go_simp
      try decide
    go_simp
    refine wpAnyH_take (i := 17) (v := (.bool true)) rfl (by kernel_rfl) (by kernel_rfl) (by kernel_rfl) (fun _ _ _ h => h) (.inl ⟨rfl, fun V hS => ?y0⟩) (HS1).out ?_
    case y0 =>
      obtain ⟨hS1, hS2⟩ := hS
      have s0 : V.cell? ⟨db, 0, none⟩ = some (.int .i64 (dflt 0)) := cell_of_row _ _ 0 _ _ (0, 0) hS1
      have s1 : V.cell? ⟨db, 1, none⟩ = some (.int .i64 (dflt 1)) := cell_of_row _ _ 1 _ _ (0, 0) hS1
      have s2 : V.cell? ⟨db, 2, none⟩ = some (.int .i64 (dflt 2)) := cell_of_row _ _ 2 _ _ (0, 0) hS1
      have s3 : V.cell? ⟨db, 3, none⟩ = some (.int .i64 (dflt 3)) := cell_of_row _ _ 3 _ _ (0, 0) hS1
      have s4 : V.cell? ⟨db, 4, none⟩ = some (.int .i64 (dflt 4)) := cell_of_row _ _ 4 _ _ (0, 0) hS1
      have s5 : V.cell? ⟨db, 5, none⟩ = some (.int .i64 (dflt 5)) := cell_of_row _ _ 5 _ _ (0, 0) hS1
      have s6 : V.cell? ⟨db, 6, none⟩ = some (.int .i64 (dflt 6)) := cell_of_row _ _ 6 _ _ (0, 0) hS1
      have s7 : V.cell? ⟨db, 7, none⟩ = some (.int .i64 (dflt 7)) := cell_of_row _ _ 7 _ _ (0, 0) hS1
      have s8 : V.cell? ⟨db, 8, none⟩ = some (.int .i64 (dflt 8)) := cell_of_row _ _ 8 _ _ (0, 0) hS1
      have s9 : V.cell? ⟨db, 9, none⟩ = some (.int .i64 (dflt 9)) := cell_of_row _ _ 9 _ _ (0, 0) hS1
      have s10 : V.cell? ⟨db, 10, none⟩ = some (.int .i64 (dflt 10)) := cell_of_row _ _ 10 _ _ (0, 0) hS1
      have s11 : V.cell? ⟨db, 11, none⟩ = some (.int .i64 (dflt 11)) := cell_of_row _ _ 11 _ _ (0, 0) hS1
      have s12 : V.cell? ⟨db, 12, none⟩ = some (.int .i64 (dflt 12)) := cell_of_row _ _ 12 _ _ (0, 0) hS1
      have s13 : V.cell? ⟨db, 13, none⟩ = some (.int .i64 (dflt 13)) := cell_of_row _ _ 13 _ _ (0, 0) hS1
      clear hS1
      go_simp
      try decide
    go_simp
    refine wpAnyH_take (i := 18) (v := (.bool true)) rfl (by kernel_rfl) (by kernel_rfl) (by kernel_rfl) (fun _ _ _ h => h) (.inl ⟨rfl, fun V hS => ?y0⟩) (HS1).out ?_
    case y0 =>
      obtain ⟨hS1, hS2⟩ := hS
      have s0 : V.cell? ⟨db, 0, none⟩ = some (.int .i64 (dflt 0)) := cell_of_row _ _ 0 _ _ (0, 0) hS1
      have s1 : V.cell? ⟨db, 1, none⟩ = some (.int .i64 (dflt 1)) := cell_of_row _ _ 1 _ _ (0, 0) hS1
      have s2 : V.cell? ⟨db, 2, none⟩ = some (.int .i64 (dflt 2)) := cell_of_row _ _ 2 _ _ (0, 0) hS1
      have s3 : V.cell? ⟨db, 3, none⟩ = some (.int .i64 (dflt 3)) := cell_of_row _ _ 3 _ _ (0, 0) hS1
      have s4 : V.cell? ⟨db, 4, none⟩ = some (.int .i64 (dflt 4)) := cell_of_row _ _ 4 _ _ (0, 0) hS1
      have s5 : V.cell? ⟨db, 5, none⟩ = some (.int .i64 (dflt 5)) := cell_of_row _ _ 5 _ _ (0, 0) hS1
      have s6 : V.cell? ⟨db, 6, none⟩ = some (.int .i64 (dflt 6)) := cell_of_row _ _ 6 _ _ (0, 0) hS1
      have s7 : V.cell? ⟨db, 7, none⟩ = some (.int .i64 (dflt 7)) := cell_of_row _ _ 7 _ _ (0, 0) hS1
      have s8 : V.cell? ⟨db, 8, none⟩ = some (.int .i64 (dflt 8)) := cell_of_row _ _ 8 _ _ (0, 0) hS1
      have s9 : V.cell? ⟨db, 9, none⟩ = some (.int .i64 (dflt 9)) := cell_of_row _ _ 9 _ _ (0, 0) hS1
      have s10 : V.cell? ⟨db, 10, none⟩ = some (.int .i64 (dflt 10)) := cell_of_row _ _ 10 _ _ (0, 0) hS1
      have s11 : V.cell? ⟨db, 11, none⟩ = some (.int .i64 (dflt 11)) := cell_of_row _ _ 11 _ _ (0, 0) hS1
      have s12 : V.cell? ⟨db, 12, none⟩ = some (.int .i64 (dflt 12)) := cell_of_row _ _ 12 _ _ (0, 0) hS1
      have s13 : V.cell? ⟨db, 13, none⟩ = some (.int .i64 (dflt 13)) := cell_of_row _ _ 13 _ _ (0, 0) hS1
      clear hS1
      go_simp
      try decide
    go_simp
    refine wpAnyH_done (by kernel_rfl) ?_ _
    go_wp2
    go_ret
    exact ⟨rfl, B10.out⟩
  | true =>
    have HI := Lib.hid (implText_yes c w2 hok (HV.out.below B.out).tab)
    have HS := Lib.hid fun W => specText_yes c W hok
    have HP := Lib.hid fun W hW => parse_text c W hok hW
    clear hok
    generalize txA c 14 = tx at HP HI HS
    refine HI.out.mono ?_
    rintro e w3 ⟨rfl, b3⟩
    replace K := Lib.hid ((b3.block kb hz).trans K.out)
    replace B := Lib.hid (bel_trans B.out b3)
    clear b3 hz HI
    have x0 : w3.cell? ⟨kb, 0, none⟩ = some (.int .i64 (c 0)) := cell_of_row _ _ 0 _ _ (0, 0) K.out
    have x1 : w3.cell? ⟨kb, 1, none⟩ = some (.int .i64 (c 1)) := cell_of_row _ _ 1 _ _ (0, 0) K.out
    have x2 : w3.cell? ⟨kb, 2, none⟩ = some (.int .i64 (c 2)) := cell_of_row _ _ 2 _ _ (0, 0) K.out
    have x3 : w3.cell? ⟨kb, 3, none⟩ = some (.int .i64 (c 3)) := cell_of_row _ _ 3 _ _ (0, 0) K.out
    have x4 : w3.cell? ⟨kb, 4, none⟩ = some (.int .i64 (c 4)) := cell_of_row _ _ 4 _ _ (0, 0) K.out
    have x5 : w3.cell? ⟨kb, 5, none⟩ = some (.int .i64 (c 5)) := cell_of_row _ _ 5 _ _ (0, 0) K.out
    have x6 : w3.cell? ⟨kb, 6, none⟩ = some (.int .i64 (c 6)) := cell_of_row _ _ 6 _ _ (0, 0) K.out
    have x7 : w3.cell? ⟨kb, 7, none⟩ = some (.int .i64 (c 7)) := cell_of_row _ _ 7 _ _ (0, 0) K.out
    have x8 : w3.cell? ⟨kb, 8, none⟩ = some (.int .i64 (c 8)) := cell_of_row _ _ 8 _ _ (0, 0) K.out
    have x9 : w3.cell? ⟨kb, 9, none⟩ = some (.int .i64 (c 9)) := cell_of_row _ _ 9 _ _ (0, 0) K.out
    have x10 : w3.cell? ⟨kb, 10, none⟩ = some (.int .i64 (c 10)) := cell_of_row _ _ 10 _ _ (0, 0) K.out
    have x11 : w3.cell? ⟨kb, 11, none⟩ = some (.int .i64 (c 11)) := cell_of_row _ _ 11 _ _ (0, 0) K.out
    have x12 : w3.cell? ⟨kb, 12, none⟩ = some (.int .i64 (c 12)) := cell_of_row _ _ 12 _ _ (0, 0) K.out
    have x13 : w3.cell? ⟨kb, 13, none⟩ = some (.int .i64 (c 13)) := cell_of_row _ _ 13 _ _ (0, 0) K.out
    go_wp2_with fail
    clear x0 x1 x2 x3 x4 x5 x6 x7 x8 x9 x10 x11 x12 x13
    refine (HS.out _).mono ?_
    rintro e w4 ⟨rfl, b4⟩
    replace K := Lib.hid ((b4.block kb (Cv.row_lt K.out)).trans K.out)
    replace B := Lib.hid (bel_trans B.out b4)
    clear b4 HS
    go_wp2_with fail
    refine (HP.out _ (HV.out.below B.out)).mono ?_
    rintro e w6 ⟨rfl, b6⟩
    replace K := Lib.hid ((b6.block kb (Cv.row_lt K.out)).trans K.out)
    replace B := Lib.hid (bel_trans B.out b6)
    clear b6 HP
    have hz6 : kb < w6.heap.size := Cv.row_lt K.out
    have x0 : w6.cell? ⟨kb, 0, none⟩ = some (.int .i64 (c 0)) := cell_of_row _ _ 0 _ _ (0, 0) K.out
    have x1 : w6.cell? ⟨kb, 1, none⟩ = some (.int .i64 (c 1)) := cell_of_row _ _ 1 _ _ (0, 0) K.out
    have x2 : w6.cell? ⟨kb, 2, none⟩ = some (.int .i64 (c 2)) := cell_of_row _ _ 2 _ _ (0, 0) K.out
    have x3 : w6.cell? ⟨kb, 3, none⟩ = some (.int .i64 (c 3)) := cell_of_row _ _ 3 _ _ (0, 0) K.out
    have x4 : w6.cell? ⟨kb, 4, none⟩ = some (.int .i64 (c 4)) := cell_of_row _ _ 4 _ _ (0, 0) K.out
    have x5 : w6.cell? ⟨kb, 5, none⟩ = some (.int .i64 (c 5)) := cell_of_row _ _ 5 _ _ (0, 0) K.out
    have x6 : w6.cell? ⟨kb, 6, none⟩ = some (.int .i64 (c 6)) := cell_of_row _ _ 6 _ _ (0, 0) K.out
    have x7 : w6.cell? ⟨kb, 7, none⟩ = some (.int .i64 (c 7)) := cell_of_row _ _ 7 _ _ (0, 0) K.out
    have x8 : w6.cell? ⟨kb, 8, none⟩ = some (.int .i64 (c 8)) := cell_of_row _ _ 8 _ _ (0, 0) K.out
    have x9 : w6.cell? ⟨kb, 9, none⟩ = some (.int .i64 (c 9)) := cell_of_row _ _ 9 _ _ (0, 0) K.out
    have x10 : w6.cell? ⟨kb, 10, none⟩ = some (.int .i64 (c 10)) := cell_of_row _ _ 10 _ _ (0, 0) K.out
    have x11 : w6.cell? ⟨kb, 11, none⟩ = some (.int .i64 (c 11)) := cell_of_row _ _ 11 _ _ (0, 0) K.out
    have x12 : w6.cell? ⟨kb, 12, none⟩ = some (.int .i64 (c 12)) := cell_of_row _ _ 12 _ _ (0, 0) K.out
    have x13 : w6.cell? ⟨kb, 13, none⟩ = some (.int .i64 (c 13)) := cell_of_row _ _ 13 _ _ (0, 0) K.out
    go_wp2_with fail
    clear x0 x1 x2 x3 x4 x5 x6 x7 x8 x9 x10 x11 x12 x13 hz6
    have ba := bel_alloc w6 (.cells #[.int .i64 (c 0), .int .i64 (c 1), .int .i64 (c 2), .int .i64 (c 3), .int .i64 (c 4), .int .i64 (c 5), .int .i64 (c 6), .int .i64 (c 7), .int .i64 (c 8), .int .i64 (c 9), .int .i64 (c 10), .int .i64 (c 11), .int .i64 (c 12), .int .i64 (c 13)] 25)
    obtain ⟨w7, hw7⟩ : ∃ W, w6.alloc (.cells #[.int .i64 (c 0), .int .i64 (c 1), .int .i64 (c 2), .int .i64 (c 3), .int .i64 (c 4), .int .i64 (c 5), .int .i64 (c 6), .int .i64 (c 7), .int .i64 (c 8), .int .i64 (c 9), .int .i64 (c 10), .int .i64 (c 11), .int .i64 (c 12), .int .i64 (c 13)] 25) = W := ⟨_, rfl⟩
    rw [hw7] at ba ⊢
    replace B := Lib.hid (bel_trans B.out ba)
    clear ba hw7 K
    refine (parse_empty _ (HV.out.below B.out)).mono ?_
    rintro e w5 ⟨rfl, b5⟩
    replace B := Lib.hid (bel_trans B.out b5)
    clear b5
    go_wp2_with fail
    have KD := Lib.hid (heap_alloc_new w5 (.cells #[.int .i64 (dflt 0), .int .i64 (dflt 1), .int .i64 (dflt 2), .int .i64 (dflt 3), .int .i64 (dflt 4), .int .i64 (dflt 5), .int .i64 (dflt 6), .int .i64 (dflt 7), .int .i64 (dflt 8), .int .i64 (dflt 9), .int .i64 (dflt 10), .int .i64 (dflt 11), .int .i64 (dflt 12), .int .i64 (dflt 13)] 25))
    have bd := bel_alloc w5 (.cells #[.int .i64 (dflt 0), .int .i64 (dflt 1), .int .i64 (dflt 2), .int .i64 (dflt 3), .int .i64 (dflt 4), .int .i64 (dflt 5), .int .i64 (dflt 6), .int .i64 (dflt 7), .int .i64 (dflt 8), .int .i64 (dflt 9), .int .i64 (dflt 10), .int .i64 (dflt 11), .int .i64 (dflt 12), .int .i64 (dflt 13)] 25)
    obtain ⟨db, hdb⟩ : ∃ db, w5.heap.size = db := ⟨_, rfl⟩
    obtain ⟨w8, hw8⟩ : ∃ W, w5.alloc (.cells #[.int .i64 1, .int .i64 4, .int .i64 30, .int .i64 1000, .int .i64 100, .int .i64 40, .int .i64 200, .int .i64 2, .int .i64 32, .int .i64 50, .int .i64 60, .int .i64 5, .int .i64 20, .int .i64 50] 25) = W := ⟨_, rfl⟩
    have hw9 : w5.alloc (.cells #[.int .i64 (dflt 0), .int .i64 (dflt 1), .int .i64 (dflt 2), .int .i64 (dflt 3), .int .i64 (dflt 4), .int .i64 (dflt 5), .int .i64 (dflt 6), .int .i64 (dflt 7), .int .i64 (dflt 8), .int .i64 (dflt 9), .int .i64 (dflt 10), .int .i64 (dflt 11), .int .i64 (dflt 12), .int .i64 (dflt 13)] 25) = w8 := hw8
    rw [hw9, hdb] at KD
    rw [hw9] at bd
    rw [hw8, hdb]
    replace B := Lib.hid (bel_trans B.out bd)
    clear bd hw8 hw9 hdb
    refine (Nam.implNames_any _).mono ?_
    rintro e w9 ⟨rfl, r9, b9, z9⟩
    obtain ⟨nb, hnb⟩ : ∃ nb, w8.heap.size = nb := ⟨_, rfl⟩
    rw [hnb] at r9 z9 ⊢
    replace KD := Lib.hid ((b9.block db (Cv.row_lt KD.out)).trans KD.out)
    replace B := Lib.hid (bel_trans B.out b9)
    have cn := (r9 0 (by decide)).1
    change w9.cell? ⟨nb, 0, none⟩ = some (.string ⟨#[109, 105, 110]⟩) at cn
    have HN := Lib.hid cn
    clear r9 b9 hnb cn
    go_wp2_with fail
    have HS0 : Hid (w9.drew.heap[db]? = some (.cells #[.int .i64 (dflt 0), .int .i64 (dflt 1), .int .i64 (dflt 2), .int .i64 (dflt 3), .int .i64 (dflt 4), .int .i64 (dflt 5), .int .i64 (dflt 6), .int .i64 (dflt 7), .int .i64 (dflt 8), .int .i64 (dflt 9), .int .i64 (dflt 10), .int .i64 (dflt 11), .int .i64 (dflt 12), .int .i64 (dflt 13)] 25 (0, 0)) ∧ w9.drew.cell? ⟨nb, 0, none⟩ = some (.string ⟨#[109, 105, 110]⟩)) := ⟨KD.out, HN.out⟩
    refine wp_region_held_drew (S := fun V => V.heap[db]? = some (.cells #[.int .i64 (dflt 0), .int .i64 (dflt 1), .int .i64 (dflt 2), .int .i64 (dflt 3), .int .i64 (dflt 4), .int .i64 (dflt 5), .int .i64 (dflt 6), .int .i64 (dflt 7), .int .i64 (dflt 8), .int .i64 (dflt 9), .int .i64 (dflt 10), .int .i64 (dflt 11), .int .i64 (dflt 12), .int .i64 (dflt 13)] 25 (0, 0)) ∧ V.cell? ⟨nb, 0, none⟩ = some (.string ⟨#[109, 105, 110]⟩)) (by kernel_rfl) HS0.out (fun _ => ?_)
    have B9 : Hid (Below w.heap.size w w9.drew) := B.out.drew
    obtain ⟨X, hX⟩ : ∃ X, w9.drew = X := ⟨_, rfl⟩
    rw [hX] at HS0 B9 ⊢
    clear hX KD HN B
    refine wpAnyH_take (i := 0) (v := (.int .i64 0)) rfl (by kernel_rfl) (by kernel_rfl) (by kernel_rfl) (fun _ _ _ h => h) (.inl ⟨rfl, fun V hS => ?y0⟩) (HS0).out ?_
    case y0 =>
      obtain ⟨hS1, hS2⟩ := hS
      have s0 : V.cell? ⟨db, 0, none⟩ = some (.int .i64 (dflt 0)) := cell_of_row _ _ 0 _ _ (0, 0) hS1
      have s1 : V.cell? ⟨db, 1, none⟩ = some (.int .i64 (dflt 1)) := cell_of_row _ _ 1 _ _ (0, 0) hS1
      have s2 : V.cell? ⟨db, 2, none⟩ = some (.int .i64 (dflt 2)) := cell_of_row _ _ 2 _ _ (0, 0) hS1
      have s3 : V.cell? ⟨db, 3, none⟩ = some (.int .i64 (dflt 3)) := cell_of_row _ _ 3 _ _ (0, 0) hS1
      have s4 : V.cell? ⟨db, 4, none⟩ = some (.int .i64 (dflt 4)) := cell_of_row _ _ 4 _ _ (0, 0) hS1
      have s5 : V.cell? ⟨db, 5, none⟩ = some (.int .i64 (dflt 5)) := cell_of_row _ _ 5 _ _ (0, 0) hS1
      have s6 : V.cell? ⟨db, 6, none⟩ = some (.int .i64 (dflt 6)) := cell_of_row _ _ 6 _ _ (0, 0) hS1
      have s7 : V.cell? ⟨db, 7, none⟩ = some (.int .i64 (dflt 7)) := cell_of_row _ _ 7 _ _ (0, 0) hS1
      have s8 : V.cell? ⟨db, 8, none⟩ = some (.int .i64 (dflt 8)) := cell_of_row _ _ 8 _ _ (0, 0) hS1
      have s9 : V.cell? ⟨db, 9, none⟩ = some (.int .i64 (dflt 9)) := cell_of_row _ _ 9 _ _ (0, 0) hS1
      have s10 : V.cell? ⟨db, 10, none⟩ = some (.int .i64 (dflt 10)) := cell_of_row _ _ 10 _ _ (0, 0) hS1
      have s11 : V.cell? ⟨db, 11, none⟩ = some (.int .i64 (dflt 11)) := cell_of_row _ _ 11 _ _ (0, 0) hS1
      have s12 : V.cell? ⟨db, 12, none⟩ = some (.int .i64 (dflt 12)) := cell_of_row _ _ 12 _ _ (0, 0) hS1
      have s13 : V.cell? ⟨db, 13, none⟩ = some (.int .i64 (dflt 13)) := cell_of_row _ _ 13 _ _ (0, 0) hS1
      clear hS1
      go_simp
      try decide
    go_simp
    refine wpAnyH_take (i := 1) (v := (.bool true)) rfl (by kernel_rfl) (by kernel_rfl) (by kernel_rfl) (fun _ _ _ h => h) (.inl ⟨rfl, fun V hS => ?y0⟩) (HS0).out ?_
    case y0 =>
      obtain ⟨hS1, hS2⟩ := hS
      have s0 : V.cell? ⟨db, 0, none⟩ = some (.int .i64 (dflt 0)) := cell_of_row _ _ 0 _ _ (0, 0) hS1
      have s1 : V.cell? ⟨db, 1, none⟩ = some (.int .i64 (dflt 1)) := cell_of_row _ _ 1 _ _ (0, 0) hS1
      have s2 : V.cell? ⟨db, 2, none⟩ = some (.int .i64 (dflt 2)) := cell_of_row _ _ 2 _ _ (0, 0) hS1
      have s3 : V.cell? ⟨db, 3, none⟩ = some (.int .i64 (dflt 3)) := cell_of_row _ _ 3 _ _ (0, 0) hS1
      have s4 : V.cell? ⟨db, 4, none⟩ = some (.int .i64 (dflt 4)) := cell_of_row _ _ 4 _ _ (0, 0) hS1
      have s5 : V.cell? ⟨db, 5, none⟩ = some (.int .i64 (dflt 5)) := cell_of_row _ _ 5 _ _ (0, 0) hS1
      have s6 : V.cell? ⟨db, 6, none⟩ = some (.int .i64 (dflt 6)) := cell_of_row _ _ 6 _ _ (0, 0) hS1
      have s7 : V.cell? ⟨db, 7, none⟩ = some (.int .i64 (dflt 7)) := cell_of_row _ _ 7 _ _ (0, 0) hS1
      have s8 : V.cell? ⟨db, 8, none⟩ = some (.int .i64 (dflt 8)) := cell_of_row _ _ 8 _ _ (0, 0) hS1
      have s9 : V.cell? ⟨db, 9, none⟩ = some (.int .i64 (dflt 9)) := cell_of_row _ _ 9 _ _ (0, 0) hS1
      have s10 : V.cell? ⟨db, 10, none⟩ = some (.int .i64 (dflt 10)) := cell_of_row _ _ 10 _ _ (0, 0) hS1
      have s11 : V.cell? ⟨db, 11, none⟩ = some (.int .i64 (dflt 11)) := cell_of_row _ _ 11 _ _ (0, 0) hS1
      have s12 : V.cell? ⟨db, 12, none⟩ = some (.int .i64 (dflt 12)) := cell_of_row _ _ 12 _ _ (0, 0) hS1
      have s13 : V.cell? ⟨db, 13, none⟩ = some (.int .i64 (dflt 13)) := cell_of_row _ _ 13 _ _ (0, 0) hS1
      clear hS1
      go_simp
      try decide
    go_simp
    refine wpAnyH_take (i := 2) (v := (.bool true)) rfl (by kernel_rfl) (by kernel_rfl) (by kernel_rfl) (fun _ _ _ h => h) (.inl ⟨rfl, fun V hS => ?y0⟩) (HS0).out ?_
    case y0 =>
      obtain ⟨hS1, hS2⟩ := hS
      have s0 : V.cell? ⟨db, 0, none⟩ = some (.int .i64 (dflt 0)) := cell_of_row _ _ 0 _ _ (0, 0) hS1
      have s1 : V.cell? ⟨db, 1, none⟩ = some (.int .i64 (dflt 1)) := cell_of_row _ _ 1 _ _ (0, 0) hS1
      have s2 : V.cell? ⟨db, 2, none⟩ = some (.int .i64 (dflt 2)) := cell_of_row _ _ 2 _ _ (0, 0) hS1
      have s3 : V.cell? ⟨db, 3, none⟩ = some (.int .i64 (dflt 3)) := cell_of_row _ _ 3 _ _ (0, 0) hS1
      have s4 : V.cell? ⟨db, 4, none⟩ = some (.int .i64 (dflt 4)) := cell_of_row _ _ 4 _ _ (0, 0) hS1
      have s5 : V.cell? ⟨db, 5, none⟩ = some (.int .i64 (dflt 5)) := cell_of_row _ _ 5 _ _ (0, 0) hS1
      have s6 : V.cell? ⟨db, 6, none⟩ = some (.int .i64 (dflt 6)) := cell_of_row _ _ 6 _ _ (0, 0) hS1
      have s7 : V.cell? ⟨db, 7, none⟩ = some (.int .i64 (dflt 7)) := cell_of_row _ _ 7 _ _ (0, 0) hS1
      have s8 : V.cell? ⟨db, 8, none⟩ = some (.int .i64 (dflt 8)) := cell_of_row _ _ 8 _ _ (0, 0) hS1
      have s9 : V.cell? ⟨db, 9, none⟩ = some (.int .i64 (dflt 9)) := cell_of_row _ _ 9 _ _ (0, 0) hS1
      have s10 : V.cell? ⟨db, 10, none⟩ = some (.int .i64 (dflt 10)) := cell_of_row _ _ 10 _ _ (0, 0) hS1
      have s11 : V.cell? ⟨db, 11, none⟩ = some (.int .i64 (dflt 11)) := cell_of_row _ _ 11 _ _ (0, 0) hS1
      have s12 : V.cell? ⟨db, 12, none⟩ = some (.int .i64 (dflt 12)) := cell_of_row _ _ 12 _ _ (0, 0) hS1
      have s13 : V.cell? ⟨db, 13, none⟩ = some (.int .i64 (dflt 13)) := cell_of_row _ _ 13 _ _ (0, 0) hS1
      clear hS1
      go_simp
      try decide
    go_simp
    refine wpAnyH_take (i := 3) (v := (.agg #[.int .i64 1, .int .i64 4, .int .i64 30, .int .i64 1000, .int .i64 100, .int .i64 40, .int .i64 200, .int .i64 2, .int .i64 32, .int .i64 50, .int .i64 60, .int .i64 5, .int .i64 20, .int .i64 50])) rfl (by kernel_rfl) (by kernel_rfl) (by kernel_rfl) (fun _ _ _ h => h) (.inl ⟨rfl, fun V hS => ?y0⟩) (HS0).out ?_
    case y0 =>
      obtain ⟨hS1, hS2⟩ := hS
      have s0 : V.cell? ⟨db, 0, none⟩ = some (.int .i64 (dflt 0)) := cell_of_row _ _ 0 _ _ (0, 0) hS1
      have s1 : V.cell? ⟨db, 1, none⟩ = some (.int .i64 (dflt 1)) := cell_of_row _ _ 1 _ _ (0, 0) hS1
      have s2 : V.cell? ⟨db, 2, none⟩ = some (.int .i64 (dflt 2)) := cell_of_row _ _ 2 _ _ (0, 0) hS1
      have s3 : V.cell? ⟨db, 3, none⟩ = some (.int .i64 (dflt 3)) := cell_of_row _ _ 3 _ _ (0, 0) hS1
      have s4 : V.cell? ⟨db, 4, none⟩ = some (.int .i64 (dflt 4)) := cell_of_row _ _ 4 _ _ (0, 0) hS1
      have s5 : V.cell? ⟨db, 5, none⟩ = some (.int .i64 (dflt 5)) := cell_of_row _ _ 5 _ _ (0, 0) hS1
      have s6 : V.cell? ⟨db, 6, none⟩ = some (.int .i64 (dflt 6)) := cell_of_row _ _ 6 _ _ (0, 0) hS1
      have s7 : V.cell? ⟨db, 7, none⟩ = some (.int .i64 (dflt 7)) := cell_of_row _ _ 7 _ _ (0, 0) hS1
      have s8 : V.cell? ⟨db, 8, none⟩ = some (.int .i64 (dflt 8)) := cell_of_row _ _ 8 _ _ (0, 0) hS1
      have s9 : V.cell? ⟨db, 9, none⟩ = some (.int .i64 (dflt 9)) := cell_of_row _ _ 9 _ _ (0, 0) hS1
      have s10 : V.cell? ⟨db, 10, none⟩ = some (.int .i64 (dflt 10)) := cell_of_row _ _ 10 _ _ (0, 0) hS1
      have s11 : V.cell? ⟨db, 11, none⟩ = some (.int .i64 (dflt 11)) := cell_of_row _ _ 11 _ _ (0, 0) hS1
      have s12 : V.cell? ⟨db, 12, none⟩ = some (.int .i64 (dflt 12)) := cell_of_row _ _ 12 _ _ (0, 0) hS1
      have s13 : V.cell? ⟨db, 13, none⟩ = some (.int .i64 (dflt 13)) := cell_of_row _ _ 13 _ _ (0, 0) hS1
      clear hS1
      go_simp
      try decide
    go_simp
    refine wpAnyH_ready (rs := [4]) (by kernel_rfl) (by simp) (AllReadyH.cons rfl (fun J hJ => ?_) AllReadyH.nil)
    go_simp
    refine (implDefault_any _).mono ?_
    rintro e w10 ⟨rfl, b10⟩
    have HS1 : Hid (w10.heap[db]? = some (.cells #[.int .i64 (dflt 0), .int .i64 (dflt 1), .int .i64 (dflt 2), .int .i64 (dflt 3), .int .i64 (dflt 4), .int .i64 (dflt 5), .int .i64 (dflt 6), .int .i64 (dflt 7), .int .i64 (dflt 8), .int .i64 (dflt 9), .int .i64 (dflt 10), .int .i64 (dflt 11), .int .i64 (dflt 12), .int .i64 (dflt 13)] 25 (0, 0)) ∧ w10.cell? ⟨nb, 0, none⟩ = some (.string ⟨#[109, 105, 110]⟩)) := ⟨(b10.block db (Cv.row_lt HS0.out.1)).trans HS0.out.1, (b10.cell (p := ⟨nb, 0, none⟩) (World.block_lt_of_cell? _ _ HS0.out.2)).trans HS0.out.2⟩
    have B10 := Lib.hid (bel_trans B9.out b10)
    clear b10 B9 HS0
    refine hJ.out _ _ HS1.out (fun _ => ?_)
    clear hJ J
    go_simp
    refine wpAnyH_take (i := 5) (v := (.bool true)) rfl (by kernel_rfl) (by kernel_rfl) (by kernel_rfl) (fun _ _ _ h => h) (.inl ⟨rfl, fun V hS => ?y0⟩) (HS1).out ?_
    case y0 =>
      obtain ⟨hS1, hS2⟩ := hS
      have s0 : V.cell? ⟨db, 0, none⟩ = some (.int .i64 (dflt 0)) := cell_of_row _ _ 0 _ _ (0, 0) hS1
      have s1 : V.cell? ⟨db, 1, none⟩ = some (.int .i64 (dflt 1)) := cell_of_row _ _ 1 _ _ (0, 0) hS1
      have s2 : V.cell? ⟨db, 2, none⟩ = some (.int .i64 (dflt 2)) := cell_of_row _ _ 2 _ _ (0, 0) hS1
      have s3 : V.cell? ⟨db, 3, none⟩ = some (.int .i64 (dflt 3)) := cell_of_row _ _ 3 _ _ (0, 0) hS1
      have s4 : V.cell? ⟨db, 4, none⟩ = some (.int .i64 (dflt 4)) := cell_of_row _ _ 4 _ _ (0, 0) hS1
      have s5 : V.cell? ⟨db, 5, none⟩ = some (.int .i64 (dflt 5)) := cell_of_row _ _ 5 _ _ (0, 0) hS1
      have s6 : V.cell? ⟨db, 6, none⟩ = some (.int .i64 (dflt 6)) := cell_of_row _ _ 6 _ _ (0, 0) hS1
      have s7 : V.cell? ⟨db, 7, none⟩ = some (.int .i64 (dflt 7)) := cell_of_row _ _ 7 _ _ (0, 0) hS1
      have s8 : V.cell? ⟨db, 8, none⟩ = some (.int .i64 (dflt 8)) := cell_of_row _ _ 8 _ _ (0, 0) hS1
      have s9 : V.cell? ⟨db, 9, none⟩ = some (.int .i64 (dflt 9)) := cell_of_row _ _ 9 _ _ (0, 0) hS1
      have s10 : V.cell? ⟨db, 10, none⟩ = some (.int .i64 (dflt 10)) := cell_of_row _ _ 10 _ _ (0, 0) hS1
      have s11 : V.cell? ⟨db, 11, none⟩ = some (.int .i64 (dflt 11)) := cell_of_row _ _ 11 _ _ (0, 0) hS1
      have s12 : V.cell? ⟨db, 12, none⟩ = some (.int .i64 (dflt 12)) := cell_of_row _ _ 12 _ _ (0, 0) hS1
      have s13 : V.cell? ⟨db, 13, none⟩ = some (.int .i64 (dflt 13)) := cell_of_row _ _ 13 _ _ (0, 0) hS1
      clear hS1
      go_simp
      try decide
    go_simp
    refine wpAnyH_take (i := 6) (v := (.bool true)) rfl (by kernel_rfl) (by kernel_rfl) (by kernel_rfl) (fun _ _ _ h => h) (.inl ⟨rfl, fun V hS => ?y0⟩) (HS1).out ?_
    case y0 =>
      obtain ⟨hS1, hS2⟩ := hS
      have s0 : V.cell? ⟨db, 0, none⟩ = some (.int .i64 (dflt 0)) := cell_of_row _ _ 0 _ _ (0, 0) hS1
      have s1 : V.cell? ⟨db, 1, none⟩ = some (.int .i64 (dflt 1)) := cell_of_row _ _ 1 _ _ (0, 0) hS1
      have s2 : V.cell? ⟨db, 2, none⟩ = some (.int .i64 (dflt 2)) := cell_of_row _ _ 2 _ _ (0, 0) hS1
      have s3 : V.cell? ⟨db, 3, none⟩ = some (.int .i64 (dflt 3)) := cell_of_row _ _ 3 _ _ (0, 0) hS1
      have s4 : V.cell? ⟨db, 4, none⟩ = some (.int .i64 (dflt 4)) := cell_of_row _ _ 4 _ _ (0, 0) hS1
      have s5 : V.cell? ⟨db, 5, none⟩ = some (.int .i64 (dflt 5)) := cell_of_row _ _ 5 _ _ (0, 0) hS1
      have s6 : V.cell? ⟨db, 6, none⟩ = some (.int .i64 (dflt 6)) := cell_of_row _ _ 6 _ _ (0, 0) hS1
      have s7 : V.cell? ⟨db, 7, none⟩ = some (.int .i64 (dflt 7)) := cell_of_row _ _ 7 _ _ (0, 0) hS1
      have s8 : V.cell? ⟨db, 8, none⟩ = some (.int .i64 (dflt 8)) := cell_of_row _ _ 8 _ _ (0, 0) hS1
      have s9 : V.cell? ⟨db, 9, none⟩ = some (.int .i64 (dflt 9)) := cell_of_row _ _ 9 _ _ (0, 0) hS1
      have s10 : V.cell? ⟨db, 10, none⟩ = some (.int .i64 (dflt 10)) := cell_of_row _ _ 10 _ _ (0, 0) hS1
      have s11 : V.cell? ⟨db, 11, none⟩ = some (.int .i64 (dflt 11)) := cell_of_row _ _ 11 _ _ (0, 0) hS1
      have s12 : V.cell? ⟨db, 12, none⟩ = some (.int .i64 (dflt 12)) := cell_of_row _ _ 12 _ _ (0, 0) hS1
      have s13 : V.cell? ⟨db, 13, none⟩ = some (.int .i64 (dflt 13)) := cell_of_row _ _ 13 _ _ (0, 0) hS1
      clear hS1
      go_simp
      try decide
    go_simp
    refine wpAnyH_take (i := 7) (v := (.bool true)) rfl (by kernel_rfl) (by kernel_rfl) (by kernel_rfl) (fun _ _ _ h => h) (.inl ⟨rfl, fun V hS => ?y0⟩) (HS1).out ?_
    case y0 =>
      obtain ⟨hS1, hS2⟩ := hS
      have s0 : V.cell? ⟨db, 0, none⟩ = some (.int .i64 (dflt 0)) := cell_of_row _ _ 0 _ _ (0, 0) hS1
      have s1 : V.cell? ⟨db, 1, none⟩ = some (.int .i64 (dflt 1)) := cell_of_row _ _ 1 _ _ (0, 0) hS1
      have s2 : V.cell? ⟨db, 2, none⟩ = some (.int .i64 (dflt 2)) := cell_of_row _ _ 2 _ _ (0, 0) hS1
      have s3 : V.cell? ⟨db, 3, none⟩ = some (.int .i64 (dflt 3)) := cell_of_row _ _ 3 _ _ (0, 0) hS1
      have s4 : V.cell? ⟨db, 4, none⟩ = some (.int .i64 (dflt 4)) := cell_of_row _ _ 4 _ _ (0, 0) hS1
      have s5 : V.cell? ⟨db, 5, none⟩ = some (.int .i64 (dflt 5)) := cell_of_row _ _ 5 _ _ (0, 0) hS1
      have s6 : V.cell? ⟨db, 6, none⟩ = some (.int .i64 (dflt 6)) := cell_of_row _ _ 6 _ _ (0, 0) hS1
      have s7 : V.cell? ⟨db, 7, none⟩ = some (.int .i64 (dflt 7)) := cell_of_row _ _ 7 _ _ (0, 0) hS1
      have s8 : V.cell? ⟨db, 8, none⟩ = some (.int .i64 (dflt 8)) := cell_of_row _ _ 8 _ _ (0, 0) hS1
      have s9 : V.cell? ⟨db, 9, none⟩ = some (.int .i64 (dflt 9)) := cell_of_row _ _ 9 _ _ (0, 0) hS1
      have s10 : V.cell? ⟨db, 10, none⟩ = some (.int .i64 (dflt 10)) := cell_of_row _ _ 10 _ _ (0, 0) hS1
      have s11 : V.cell? ⟨db, 11, none⟩ = some (.int .i64 (dflt 11)) := cell_of_row _ _ 11 _ _ (0, 0) hS1
      have s12 : V.cell? ⟨db, 12, none⟩ = some (.int .i64 (dflt 12)) := cell_of_row _ _ 12 _ _ (0, 0) hS1
      have s13 : V.cell? ⟨db, 13, none⟩ = some (.int .i64 (dflt 13)) := cell_of_row _ _ 13 _ _ (0, 0) hS1
      clear hS1
      go_simp
      try decide
    go_simp
    refine wpAnyH_take (i := 8) (v := (.slice (some ⟨nb, 0, none⟩) 14 14)) rfl (by kernel_rfl) (by kernel_rfl) (by kernel_rfl) (fun _ _ _ h => h) (.inl ⟨rfl, fun V hS => ?y0⟩) (HS1).out ?_
    case y0 =>
      obtain ⟨hS1, hS2⟩ := hS
      have s0 : V.cell? ⟨db, 0, none⟩ = some (.int .i64 (dflt 0)) := cell_of_row _ _ 0 _ _ (0, 0) hS1
      have s1 : V.cell? ⟨db, 1, none⟩ = some (.int .i64 (dflt 1)) := cell_of_row _ _ 1 _ _ (0, 0) hS1
      have s2 : V.cell? ⟨db, 2, none⟩ = some (.int .i64 (dflt 2)) := cell_of_row _ _ 2 _ _ (0, 0) hS1
      have s3 : V.cell? ⟨db, 3, none⟩ = some (.int .i64 (dflt 3)) := cell_of_row _ _ 3 _ _ (0, 0) hS1
      have s4 : V.cell? ⟨db, 4, none⟩ = some (.int .i64 (dflt 4)) := cell_of_row _ _ 4 _ _ (0, 0) hS1
      have s5 : V.cell? ⟨db, 5, none⟩ = some (.int .i64 (dflt 5)) := cell_of_row _ _ 5 _ _ (0, 0) hS1
      have s6 : V.cell? ⟨db, 6, none⟩ = some (.int .i64 (dflt 6)) := cell_of_row _ _ 6 _ _ (0, 0) hS1
      have s7 : V.cell? ⟨db, 7, none⟩ = some (.int .i64 (dflt 7)) := cell_of_row _ _ 7 _ _ (0, 0) hS1
      have s8 : V.cell? ⟨db, 8, none⟩ = some (.int .i64 (dflt 8)) := cell_of_row _ _ 8 _ _ (0, 0) hS1
      have s9 : V.cell? ⟨db, 9, none⟩ = some (.int .i64 (dflt 9)) := cell_of_row _ _ 9 _ _ (0, 0) hS1
      have s10 : V.cell? ⟨db, 10, none⟩ = some (.int .i64 (dflt 10)) := cell_of_row _ _ 10 _ _ (0, 0) hS1
      have s11 : V.cell? ⟨db, 11, none⟩ = some (.int .i64 (dflt 11)) := cell_of_row _ _ 11 _ _ (0, 0) hS1
      have s12 : V.cell? ⟨db, 12, none⟩ = some (.int .i64 (dflt 12)) := cell_of_row _ _ 12 _ _ (0, 0) hS1
      have s13 : V.cell? ⟨db, 13, none⟩ = some (.int .i64 (dflt 13)) := cell_of_row _ _ 13 _ _ (0, 0) hS1
      clear hS1
      go_simp
      try decide
    go_simp
    refine wpAnyH_take (i := 9) (v := (.int .i64 14)) rfl (by kernel_rfl) (by kernel_rfl) (by kernel_rfl) (fun _ _ _ h => h) (.inl ⟨rfl, fun V hS => ?y0⟩) (HS1).out ?_
    case y0 =>
      obtain ⟨hS1, hS2⟩ := hS
      have s0 : V.cell? ⟨db, 0, none⟩ = some (.int .i64 (dflt 0)) := cell_of_row _ _ 0 _ _ (0, 0) hS1
      have s1 : V.cell? ⟨db, 1, none⟩ = some (.int .i64 (dflt 1)) := cell_of_row _ _ 1 _ _ (0, 0) hS1
      have s2 : V.cell? ⟨db, 2, none⟩ = some (.int .i64 (dflt 2)) := cell_of_row _ _ 2 _ _ (0, 0) hS1
      have s3 : V.cell? ⟨db, 3, none⟩ = some (.int .i64 (dflt 3)) := cell_of_row _ _ 3 _ _ (0, 0) hS1
      have s4 : V.cell? ⟨db, 4, none⟩ = some (.int .i64 (dflt 4)) := cell_of_row _ _ 4 _ _ (0, 0) hS1
      have s5 : V.cell? ⟨db, 5, none⟩ = some (.int .i64 (dflt 5)) := cell_of_row _ _ 5 _ _ (0, 0) hS1
      have s6 : V.cell? ⟨db, 6, none⟩ = some (.int .i64 (dflt 6)) := cell_of_row _ _ 6 _ _ (0, 0) hS1
      have s7 : V.cell? ⟨db, 7, none⟩ = some (.int .i64 (dflt 7)) := cell_of_row _ _ 7 _ _ (0, 0) hS1
      have s8 : V.cell? ⟨db, 8, none⟩ = some (.int .i64 (dflt 8)) := cell_of_row _ _ 8 _ _ (0, 0) hS1
      have s9 : V.cell? ⟨db, 9, none⟩ = some (.int .i64 (dflt 9)) := cell_of_row _ _ 9 _ _ (0, 0) hS1
      have s10 : V.cell? ⟨db, 10, none⟩ = some (.int .i64 (dflt 10)) := cell_of_row _ _ 10 _ _ (0, 0) hS1
      have s11 : V.cell? ⟨db, 11, none⟩ = some (.int .i64 (dflt 11)) := cell_of_row _ _ 11 _ _ (0, 0) hS1
      have s12 : V.cell? ⟨db, 12, none⟩ = some (.int .i64 (dflt 12)) := cell_of_row _ _ 12 _ _ (0, 0) hS1
      have s13 : V.cell? ⟨db, 13, none⟩ = some (.int .i64 (dflt 13)) := cell_of_row _ _ 13 _ _ (0, 0) hS1
      clear hS1
      go_simp
      try decide
    go_simp
    refine wpAnyH_take (i := 10) (v := (.bool true)) rfl (by kernel_rfl) (by kernel_rfl) (by kernel_rfl) (fun _ _ _ h => h) (.inl ⟨rfl, fun V hS => ?y0⟩) (HS1).out ?_
    case y0 =>
      obtain ⟨hS1, hS2⟩ := hS
      have s0 : V.cell? ⟨db, 0, none⟩ = some (.int .i64 (dflt 0)) := cell_of_row _ _ 0 _ _ (0, 0) hS1
      have s1 : V.cell? ⟨db, 1, none⟩ = some (.int .i64 (dflt 1)) := cell_of_row _ _ 1 _ _ (0, 0) hS1
      have s2 : V.cell? ⟨db, 2, none⟩ = some (.int .i64 (dflt 2)) := cell_of_row _ _ 2 _ _ (0, 0) hS1
      have s3 : V.cell? ⟨db, 3, none⟩ = some (.int .i64 (dflt 3)) := cell_of_row _ _ 3 _ _ (0, 0) hS1
      have s4 : V.cell? ⟨db, 4, none⟩ = some (.int .i64 (dflt 4)) := cell_of_row _ _ 4 _ _ (0, 0) hS1
      have s5 : V.cell? ⟨db, 5, none⟩ = some (.int .i64 (dflt 5)) := cell_of_row _ _ 5 _ _ (0, 0) hS1
      have s6 : V.cell? ⟨db, 6, none⟩ = some (.int .i64 (dflt 6)) := cell_of_row _ _ 6 _ _ (0, 0) hS1
      have s7 : V.cell? ⟨db, 7, none⟩ = some (.int .i64 (dflt 7)) := cell_of_row _ _ 7 _ _ (0, 0) hS1
      have s8 : V.cell? ⟨db, 8, none⟩ = some (.int .i64 (dflt 8)) := cell_of_row _ _ 8 _ _ (0, 0) hS1
      have s9 : V.cell? ⟨db, 9, none⟩ = some (.int .i64 (dflt 9)) := cell_of_row _ _ 9 _ _ (0, 0) hS1
      have s10 : V.cell? ⟨db, 10, none⟩ = some (.int .i64 (dflt 10)) := cell_of_row _ _ 10 _ _ (0, 0) hS1
      have s11 : V.cell? ⟨db, 11, none⟩ = some (.int .i64 (dflt 11)) := cell_of_row _ _ 11 _ _ (0, 0) hS1
      have s12 : V.cell? ⟨db, 12, none⟩ = some (.int .i64 (dflt 12)) := cell_of_row _ _ 12 _ _ (0, 0) hS1
      have s13 : V.cell? ⟨db, 13, none⟩ = some (.int .i64 (dflt 13)) := cell_of_row _ _ 13 _ _ (0, 0) hS1
      clear hS1
      go_simp
      try decide
    go_simp
    refine wpAnyH_take (i := 11) (v := (.bool true)) rfl (by kernel_rfl) (by kernel_rfl) (by kernel_rfl) (fun _ _ _ h => h) (.inl ⟨rfl, fun V hS => ?y0⟩) (HS1).out ?_
    case y0 =>
      obtain ⟨hS1, hS2⟩ := hS
      have s0 : V.cell? ⟨db, 0, none⟩ = some (.int .i64 (dflt 0)) := cell_of_row _ _ 0 _ _ (0, 0) hS1
      have s1 : V.cell? ⟨db, 1, none⟩ = some (.int .i64 (dflt 1)) := cell_of_row _ _ 1 _ _ (0, 0) hS1
      have s2 : V.cell? ⟨db, 2, none⟩ = some (.int .i64 (dflt 2)) := cell_of_row _ _ 2 _ _ (0, 0) hS1
      have s3 : V.cell? ⟨db, 3, none⟩ = some (.int .i64 (dflt 3)) := cell_of_row _ _ 3 _ _ (0, 0) hS1
      have s4 : V.cell? ⟨db, 4, none⟩ = some (.int .i64 (dflt 4)) := cell_of_row _ _ 4 _ _ (0, 0) hS1
      have s5 : V.cell? ⟨db, 5, none⟩ = some (.int .i64 (dflt 5)) := cell_of_row _ _ 5 _ _ (0, 0) hS1
      have s6 : V.cell? ⟨db, 6, none⟩ = some (.int .i64 (dflt 6)) := cell_of_row _ _ 6 _ _ (0, 0) hS1
      have s7 : V.cell? ⟨db, 7, none⟩ = some (.int .i64 (dflt 7)) := cell_of_row _ _ 7 _ _ (0, 0) hS1
      have s8 : V.cell? ⟨db, 8, none⟩ = some (.int .i64 (dflt 8)) := cell_of_row _ _ 8 _ _ (0, 0) hS1
      have s9 : V.cell? ⟨db, 9, none⟩ = some (.int .i64 (dflt 9)) := cell_of_row _ _ 9 _ _ (0, 0) hS1
      have s10 : V.cell? ⟨db, 10, none⟩ = some (.int .i64 (dflt 10)) := cell_of_row _ _ 10 _ _ (0, 0) hS1
      have s11 : V.cell? ⟨db, 11, none⟩ = some (.int .i64 (dflt 11)) := cell_of_row _ _ 11 _ _ (0, 0) hS1
      have s12 : V.cell? ⟨db, 12, none⟩ = some (.int .i64 (dflt 12)) := cell_of_row _ _ 12 _ _ (0, 0) hS1
      have s13 : V.cell? ⟨db, 13, none⟩ = some (.int .i64 (dflt 13)) := cell_of_row _ _ 13 _ _ (0, 0) hS1
      clear hS1
      go_simp
      try decide
    go_simp
    refine wpAnyH_take (i := 12) (v := (.bool true)) rfl (by kernel_rfl) (by kernel_rfl) (by kernel_rfl) (fun _ _ _ h => h) (.inl ⟨rfl, fun V hS => ?y0⟩) (HS1).out ?_
    case y0 =>
      obtain ⟨hS1, hS2⟩ := hS
      have s0 : V.cell? ⟨db, 0, none⟩ = some (.int .i64 (dflt 0)) := cell_of_row _ _ 0 _ _ (0, 0) hS1
      have s1 : V.cell? ⟨db, 1, none⟩ = some (.int .i64 (dflt 1)) := cell_of_row _ _ 1 _ _ (0, 0) hS1
      have s2 : V.cell? ⟨db, 2, none⟩ = some (.int .i64 (dflt 2)) := cell_of_row _ _ 2 _ _ (0, 0) hS1
      have s3 : V.cell? ⟨db, 3, none⟩ = some (.int .i64 (dflt 3)) := cell_of_row _ _ 3 _ _ (0, 0) hS1
      have s4 : V.cell? ⟨db, 4, none⟩ = some (.int .i64 (dflt 4)) := cell_of_row _ _ 4 _ _ (0, 0) hS1
      have s5 : V.cell? ⟨db, 5, none⟩ = some (.int .i64 (dflt 5)) := cell_of_row _ _ 5 _ _ (0, 0) hS1
      have s6 : V.cell? ⟨db, 6, none⟩ = some (.int .i64 (dflt 6)) := cell_of_row _ _ 6 _ _ (0, 0) hS1
      have s7 : V.cell? ⟨db, 7, none⟩ = some (.int .i64 (dflt 7)) := cell_of_row _ _ 7 _ _ (0, 0) hS1
      have s8 : V.cell? ⟨db, 8, none⟩ = some (.int .i64 (dflt 8)) := cell_of_row _ _ 8 _ _ (0, 0) hS1
      have s9 : V.cell? ⟨db, 9, none⟩ = some (.int .i64 (dflt 9)) := cell_of_row _ _ 9 _ _ (0, 0) hS1
      have s10 : V.cell? ⟨db, 10, none⟩ = some (.int .i64 (dflt 10)) := cell_of_row _ _ 10 _ _ (0, 0) hS1
      have s11 : V.cell? ⟨db, 11, none⟩ = some (.int .i64 (dflt 11)) := cell_of_row _ _ 11 _ _ (0, 0) hS1
      have s12 : V.cell? ⟨db, 12, none⟩ = some (.int .i64 (dflt 12)) := cell_of_row _ _ 12 _ _ (0, 0) hS1
      have s13 : V.cell? ⟨db, 13, none⟩ = some (.int .i64 (dflt 13)) := cell_of_row _ _ 13 _ _ (0, 0) hS1
      clear hS1
      go_simp
      try decide
    go_simp
    refine wpAnyH_take (i := 13) (v := (.slice (some ⟨nb, 0, none⟩) 14 14)) rfl (by kernel_rfl) (by kernel_rfl) (by kernel_rfl) (fun _ _ _ h => h) (.inl ⟨rfl, fun V hS => ?y0⟩) (HS1).out ?_
    case y0 =>
      obtain ⟨hS1, hS2⟩ := hS
      have s0 : V.cell? ⟨db, 0, none⟩ = some (.int .i64 (dflt 0)) := cell_of_row _ _ 0 _ _ (0, 0) hS1
      have s1 : V.cell? ⟨db, 1, none⟩ = some (.int .i64 (dflt 1)) := cell_of_row _ _ 1 _ _ (0, 0) hS1
      have s2 : V.cell? ⟨db, 2, none⟩ = some (.int .i64 (dflt 2)) := cell_of_row _ _ 2 _ _ (0, 0) hS1
      have s3 : V.cell? ⟨db, 3, none⟩ = some (.int .i64 (dflt 3)) := cell_of_row _ _ 3 _ _ (0, 0) hS1
      have s4 : V.cell? ⟨db, 4, none⟩ = some (.int .i64 (dflt 4)) := cell_of_row _ _ 4 _ _ (0, 0) hS1
      have s5 : V.cell? ⟨db, 5, none⟩ = some (.int .i64 (dflt 5)) := cell_of_row _ _ 5 _ _ (0, 0) hS1
      have s6 : V.cell? ⟨db, 6, none⟩ = some (.int .i64 (dflt 6)) := cell_of_row _ _ 6 _ _ (0, 0) hS1
      have s7 : V.cell? ⟨db, 7, none⟩ = some (.int .i64 (dflt 7)) := cell_of_row _ _ 7 _ _ (0, 0) hS1
      have s8 : V.cell? ⟨db, 8, none⟩ = some (.int .i64 (dflt 8)) := cell_of_row _ _ 8 _ _ (0, 0) hS1
      have s9 : V.cell? ⟨db, 9, none⟩ = some (.int .i64 (dflt 9)) := cell_of_row _ _ 9 _ _ (0, 0) hS1
      have s10 : V.cell? ⟨db, 10, none⟩ = some (.int .i64 (dflt 10)) := cell_of_row _ _ 10 _ _ (0, 0) hS1
      have s11 : V.cell? ⟨db, 11, none⟩ = some (.int .i64 (dflt 11)) := cell_of_row _ _ 11 _ _ (0, 0) hS1
      have s12 : V.cell? ⟨db, 12, none⟩ = some (.int .i64 (dflt 12)) := cell_of_row _ _ 12 _ _ (0, 0) hS1
      have s13 : V.cell? ⟨db, 13, none⟩ = some (.int .i64 (dflt 13)) := cell_of_row _ _ 13 _ _ (0, 0) hS1
      clear hS1
      go_simp
      try decide
    go_simp
    refine wpAnyH_take (i := 14) (v := (.pointer (some ⟨nb, 0, none⟩))) rfl (by kernel_rfl) (by kernel_rfl) (by kernel_rfl) (fun _ _ _ h => h) (.inl ⟨rfl, fun V hS => ?y0⟩) (HS1).out ?_
    case y0 =>
      obtain ⟨hS1, hS2⟩ := hS
      have s0 : V.cell? ⟨db, 0, none⟩ = some (.int .i64 (dflt 0)) := cell_of_row _ _ 0 _ _ (0, 0) hS1
      have s1 : V.cell? ⟨db, 1, none⟩ = some (.int .i64 (dflt 1)) := cell_of_row _ _ 1 _ _ (0, 0) hS1
      have s2 : V.cell? ⟨db, 2, none⟩ = some (.int .i64 (dflt 2)) := cell_of_row _ _ 2 _ _ (0, 0) hS1
      have s3 : V.cell? ⟨db, 3, none⟩ = some (.int .i64 (dflt 3)) := cell_of_row _ _ 3 _ _ (0, 0) hS1
      have s4 : V.cell? ⟨db, 4, none⟩ = some (.int .i64 (dflt 4)) := cell_of_row _ _ 4 _ _ (0, 0) hS1
      have s5 : V.cell? ⟨db, 5, none⟩ = some (.int .i64 (dflt 5)) := cell_of_row _ _ 5 _ _ (0, 0) hS1
      have s6 : V.cell? ⟨db, 6, none⟩ = some (.int .i64 (dflt 6)) := cell_of_row _ _ 6 _ _ (0, 0) hS1
      have s7 : V.cell? ⟨db, 7, none⟩ = some (.int .i64 (dflt 7)) := cell_of_row _ _ 7 _ _ (0, 0) hS1
      have s8 : V.cell? ⟨db, 8, none⟩ = some (.int .i64 (dflt 8)) := cell_of_row _ _ 8 _ _ (0, 0) hS1
      have s9 : V.cell? ⟨db, 9, none⟩ = some (.int .i64 (dflt 9)) := cell_of_row _ _ 9 _ _ (0, 0) hS1
      have s10 : V.cell? ⟨db, 10, none⟩ = some (.int .i64 (dflt 10)) := cell_of_row _ _ 10 _ _ (0, 0) hS1
      have s11 : V.cell? ⟨db, 11, none⟩ = some (.int .i64 (dflt 11)) := cell_of_row _ _ 11 _ _ (0, 0) hS1
      have s12 : V.cell? ⟨db, 12, none⟩ = some (.int .i64 (dflt 12)) := cell_of_row _ _ 12 _ _ (0, 0) hS1
      have s13 : V.cell? ⟨db, 13, none⟩ = some (.int .i64 (dflt 13)) := cell_of_row _ _ 13 _ _ (0, 0) hS1
      clear hS1
      go_simp
      try decide
    go_simp
    refine wpAnyH_take (i := 15) (v := (.string ⟨#[109, 105, 110]⟩)) rfl (by kernel_rfl) (by kernel_rfl) (by kernel_rfl) (fun _ _ _ h => h) (.inl ⟨rfl, fun V hS => ?y0⟩) (HS1).out ?_
    case y0 =>
      obtain ⟨hS1, hS2⟩ := hS
      have s0 : V.cell? ⟨db, 0, none⟩ = some (.int .i64 (dflt 0)) := cell_of_row _ _ 0 _ _ (0, 0) hS1
      have s1 : V.cell? ⟨db, 1, none⟩ = some (.int .i64 (dflt 1)) := cell_of_row _ _ 1 _ _ (0, 0) hS1
      have s2 : V.cell? ⟨db, 2, none⟩ = some (.int .i64 (dflt 2)) := cell_of_row _ _ 2 _ _ (0, 0) hS1
      have s3 : V.cell? ⟨db, 3, none⟩ = some (.int .i64 (dflt 3)) := cell_of_row _ _ 3 _ _ (0, 0) hS1
      have s4 : V.cell? ⟨db, 4, none⟩ = some (.int .i64 (dflt 4)) := cell_of_row _ _ 4 _ _ (0, 0) hS1
      have s5 : V.cell? ⟨db, 5, none⟩ = some (.int .i64 (dflt 5)) := cell_of_row _ _ 5 _ _ (0, 0) hS1
      have s6 : V.cell? ⟨db, 6, none⟩ = some (.int .i64 (dflt 6)) := cell_of_row _ _ 6 _ _ (0, 0) hS1
      have s7 : V.cell? ⟨db, 7, none⟩ = some (.int .i64 (dflt 7)) := cell_of_row _ _ 7 _ _ (0, 0) hS1
      have s8 : V.cell? ⟨db, 8, none⟩ = some (.int .i64 (dflt 8)) := cell_of_row _ _ 8 _ _ (0, 0) hS1
      have s9 : V.cell? ⟨db, 9, none⟩ = some (.int .i64 (dflt 9)) := cell_of_row _ _ 9 _ _ (0, 0) hS1
      have s10 : V.cell? ⟨db, 10, none⟩ = some (.int .i64 (dflt 10)) := cell_of_row _ _ 10 _ _ (0, 0) hS1
      have s11 : V.cell? ⟨db, 11, none⟩ = some (.int .i64 (dflt 11)) := cell_of_row _ _ 11 _ _ (0, 0) hS1
      have s12 : V.cell? ⟨db, 12, none⟩ = some (.int .i64 (dflt 12)) := cell_of_row _ _ 12 _ _ (0, 0) hS1
      have s13 : V.cell? ⟨db, 13, none⟩ = some (.int .i64 (dflt 13)) := cell_of_row _ _ 13 _ _ (0, 0) hS1
      clear hS1
      go_simp
      try decide
    go_simp
    refine wpAnyH_take (i := 16) (v := (.bool true)) rfl (by kernel_rfl) (by kernel_rfl) (by kernel_rfl) (fun _ _ _ h => h) (.inl ⟨rfl, fun V hS => ?y0⟩) (HS1).out ?_
    case y0 =>
      obtain ⟨hS1, hS2⟩ := hS
      have s0 : V.cell? ⟨db, 0, none⟩ = some (.int .i64 (dflt 0)) := cell_of_row _ _ 0 _ _ (0, 0) hS1
      have s1 : V.cell? ⟨db, 1, none⟩ = some (.int .i64 (dflt 1)) := cell_of_row _ _ 1 _ _ (0, 0) hS1
      have s2 : V.cell? ⟨db, 2, none⟩ = some (.int .i64 (dflt 2)) := cell_of_row _ _ 2 _ _ (0, 0) hS1
      have s3 : V.cell? ⟨db, 3, none⟩ = some (.int .i64 (dflt 3)) := cell_of_row _ _ 3 _ _ (0, 0) hS1
      have s4 : V.cell? ⟨db, 4, none⟩ = some (.int .i64 (dflt 4)) := cell_of_row _ _ 4 _ _ (0, 0) hS1
      have s5 : V.cell? ⟨db, 5, none⟩ = some (.int .i64 (dflt 5)) := cell_of_row _ _ 5 _ _ (0, 0) hS1
      have s6 : V.cell? ⟨db, 6, none⟩ = some (.int .i64 (dflt 6)) := cell_of_row _ _ 6 _ _ (0, 0) hS1
      have s7 : V.cell? ⟨db, 7, none⟩ = some (.int .i64 (dflt 7)) := cell_of_row _ _ 7 _ _ (0, 0) hS1
      have s8 : V.cell? ⟨db, 8, none⟩ = some (.int .i64 (dflt 8)) := cell_of_row _ _ 8 _ _ (0, 0) hS1
      have s9 : V.cell? ⟨db, 9, none⟩ = some (.int .i64 (dflt 9)) := cell_of_row _ _ 9 _ _ (0, 0) hS1
      have s10 : V.cell? ⟨db, 10, none⟩ = some (.int .i64 (dflt 10)) := cell_of_row _ _ 10 _ _ (0, 0) hS1
      have s11 : V.cell? ⟨db, 11, none⟩ = some (.int .i64 (dflt 11)) := cell_of_row _ _ 11 _ _ (0, 0) hS1
      have s12 : V.cell? ⟨db, 12, none⟩ = some (.int .i64 (dflt 12)) := cell_of_row _ _ 12 _ _ (0, 0) hS1
      have s13 : V.cell? ⟨db, 13, none⟩ = some (.int .i64 (dflt 13)) := cell_of_row _ _ 13 _ _ (0, 0) hS1
      clear hS1
      go_simp
      try decide
    go_simp
    refine wpAnyH_take (i := 17) (v := (.bool true)) rfl (by kernel_rfl) (by kernel_rfl) (by kernel_rfl) (fun _ _ _ h => h) (.inl ⟨rfl, fun V hS => ?y0⟩) (HS1).out ?_
    case y0 =>
      obtain ⟨hS1, hS2⟩ := hS
      have s0 : V.cell? ⟨db, 0, none⟩ = some (.int .i64 (dflt 0)) := cell_of_row _ _ 0 _ _ (0, 0) hS1
      have s1 : V.cell? ⟨db, 1, none⟩ = some (.int .i64 (dflt 1)) := cell_of_row _ _ 1 _ _ (0, 0) hS1
      have s2 : V.cell? ⟨db, 2, none⟩ = some (.int .i64 (dflt 2)) := cell_of_row _ _ 2 _ _ (0, 0) hS1
      have s3 : V.cell? ⟨db, 3, none⟩ = some (.int .i64 (dflt 3)) := cell_of_row _ _ 3 _ _ (0, 0) hS1
      have s4 : V.cell? ⟨db, 4, none⟩ = some (.int .i64 (dflt 4)) := cell_of_row _ _ 4 _ _ (0, 0) hS1
      have s5 : V.cell? ⟨db, 5, none⟩ = some (.int .i64 (dflt 5)) := cell_of_row _ _ 5 _ _ (0, 0) hS1
      have s6 : V.cell? ⟨db, 6, none⟩ = some (.int .i64 (dflt 6)) := cell_of_row _ _ 6 _ _ (0, 0) hS1
      have s7 : V.cell? ⟨db, 7, none⟩ = some (.int .i64 (dflt 7)) := cell_of_row _ _ 7 _ _ (0, 0) hS1
      have s8 : V.cell? ⟨db, 8, none⟩ = some (.int .i64 (dflt 8)) := cell_of_row _ _ 8 _ _ (0, 0) hS1
      have s9 : V.cell? ⟨db, 9, none⟩ = some (.int .i64 (dflt 9)) := cell_of_row _ _ 9 _ _ (0, 0) hS1
      have s10 : V.cell? ⟨db, 10, none⟩ = some (.int .i64 (dflt 10)) := cell_of_row _ _ 10 _ _ (0, 0) hS1
      have s11 : V.cell? ⟨db, 11, none⟩ = some (.int .i64 (dflt 11)) := cell_of_row _ _ 11 _ _ (0, 0) hS1
      have s12 : V.cell? ⟨db, 12, none⟩ = some (.int .i64 (dflt 12)) := cell_of_row _ _ 12 _ _ (0, 0) hS1
      have s13 : V.cell? ⟨db, 13, none⟩ = some (.int .i64 (dflt 13)) := cell_of_row _ _ 13 _ _ (0, 0) hS1
      clear hS1
      go_simp
      try decide
    go_simp
    refine wpAnyH_take (i := 18) (v := (.bool true)) rfl (by kernel_rfl) (by kernel_rfl) (by kernel_rfl) (fun _ _ _ h => h) (.inl ⟨rfl, fun V hS => ?y0⟩) (HS1).out ?_
    case y0 =>
      obtain ⟨hS1, hS2⟩ := hS
      have s0 : V.cell? ⟨db, 0, none⟩ = some (.int .i64 (dflt 0)) := cell_of_row _ _ 0 _ _ (0, 0) hS1
      have s1 : V.cell? ⟨db, 1, none⟩ = some (.int .i64 (dflt 1)) := cell_of_row _ _ 1 _ _ (0, 0) hS1
      have s2 : V.cell? ⟨db, 2, none⟩ = some (.int .i64 (dflt 2)) := cell_of_row _ _ 2 _ _ (0, 0) hS1
      have s3 : V.cell? ⟨db, 3, none⟩ = some (.int .i64 (dflt 3)) := cell_of_row _ _ 3 _ _ (0, 0) hS1
      have s4 : V.cell? ⟨db, 4, none⟩ = some (.int .i64 (dflt 4)) := cell_of_row _ _ 4 _ _ (0, 0) hS1
      have s5 : V.cell? ⟨db, 5, none⟩ = some (.int .i64 (dflt 5)) := cell_of_row _ _ 5 _ _ (0, 0) hS1
      have s6 : V.cell? ⟨db, 6, none⟩ = some (.int .i64 (dflt 6)) := cell_of_row _ _ 6 _ _ (0, 0) hS1
      have s7 : V.cell? ⟨db, 7, none⟩ = some (.int .i64 (dflt 7)) := cell_of_row _ _ 7 _ _ (0, 0) hS1
      have s8 : V.cell? ⟨db, 8, none⟩ = some (.int .i64 (dflt 8)) := cell_of_row _ _ 8 _ _ (0, 0) hS1
      have s9 : V.cell? ⟨db, 9, none⟩ = some (.int .i64 (dflt 9)) := cell_of_row _ _ 9 _ _ (0, 0) hS1
      have s10 : V.cell? ⟨db, 10, none⟩ = some (.int .i64 (dflt 10)) := cell_of_row _ _ 10 _ _ (0, 0) hS1
      have s11 : V.cell? ⟨db, 11, none⟩ = some (.int .i64 (dflt 11)) := cell_of_row _ _ 11 _ _ (0, 0) hS1
      have s12 : V.cell? ⟨db, 12, none⟩ = some (.int .i64 (dflt 12)) := cell_of_row _ _ 12 _ _ (0, 0) hS1
      have s13 : V.cell? ⟨db, 13, none⟩ = some (.int .i64 (dflt 13)) := cell_of_row _ _ 13 _ _ (0, 0) hS1
      clear hS1
      go_simp
      try decide
    go_simp
    refine wpAnyH_done (by kernel_rfl) ?_ _
    go_wp2
    go_ret
    exact ⟨rfl, B10.out⟩
end Go.Proofs.YtahfmgjchjjlmaaGreatDoor.Fm
