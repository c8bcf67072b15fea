/- The law of ParseConfig: the program's answer is the reference's. -/
import Derived.Test.YtahfmgjchjjlmaaDoorPc1
import Derived.Test.YtahfmgjchjjlmaaDoorSp4
namespace Go.Proofs.YtahfmgjchjjlmaaDoor.Fm
open Go.RowKit Go.Deep Base Cf Ct Num Parts

set_option maxRecDepth 100000 in
set_option maxHeartbeats 2000000 in
theorem lawParseConfig (s : ByteArray) (w : World) (hv : Vs w) : Calls Tryd.prog 4 #[.string s] w fun e w' => e = .returned (.bool true) ∧ Below w.heap.size w w' := by
  have HV := Lib.hid hv
  clear hv
  by_cases hs : s.size ≤ 1048576
  · have hsi : ¬ (1048576 : Int) < (s.size : Int) := by omega
    go_enter Tryd.func4, Tryd.ntmps4
    go_wp2_with fail
    refine (specParse_any s _ hs).mono ?_
    rintro e w1 ⟨v, code, rfl, hA, b1⟩
    have HA := Lib.hid hA
    have B := Lib.hid b1
    clear hA b1
    go_wp2_with fail
    have K := Lib.hid (heap_alloc_new w1 (.cells #[.int .i64 (v 0), .int .i64 (v 1), .int .i64 (v 2), .int .i64 (v 3), .int .i64 (v 4), .int .i64 (v 5), .int .i64 (v 6), .int .i64 (v 7), .int .i64 (v 8), .int .i64 (v 9), .int .i64 (v 10), .int .i64 (v 11), .int .i64 (v 12), .int .i64 (v 13)] 26))
    have B2 := Lib.hid (bel_trans B.out (bel_alloc w1 (.cells #[.int .i64 (v 0), .int .i64 (v 1), .int .i64 (v 2), .int .i64 (v 3), .int .i64 (v 4), .int .i64 (v 5), .int .i64 (v 6), .int .i64 (v 7), .int .i64 (v 8), .int .i64 (v 9), .int .i64 (v 10), .int .i64 (v 11), .int .i64 (v 12), .int .i64 (v 13)] 26)))
    refine (implParse_any s _ hs (HV.out.below B2.out)).mono ?_
    rintro e w2 ⟨v', code', rfl, hA', b2⟩
    obtain ⟨rfl, rfl⟩ := HA.out.det hA'
    have K2 := Lib.hid ((b2.block w1.heap.size (by simp)).trans K.out)
    replace B2 := Lib.hid (bel_trans B2.out b2)
    have hz : w1.heap.size < w2.heap.size := Cv.row_lt K2.out
    clear hA' b2 K HA B
    have x0 : w2.cell? ⟨w1.heap.size, 0, none⟩ = some (.int .i64 (v 0)) := cell_of_row _ _ 0 _ _ (0, 0) K2.out
    have x1 : w2.cell? ⟨w1.heap.size, 1, none⟩ = some (.int .i64 (v 1)) := cell_of_row _ _ 1 _ _ (0, 0) K2.out
    have x2 : w2.cell? ⟨w1.heap.size, 2, none⟩ = some (.int .i64 (v 2)) := cell_of_row _ _ 2 _ _ (0, 0) K2.out
    have x3 : w2.cell? ⟨w1.heap.size, 3, none⟩ = some (.int .i64 (v 3)) := cell_of_row _ _ 3 _ _ (0, 0) K2.out
    have x4 : w2.cell? ⟨w1.heap.size, 4, none⟩ = some (.int .i64 (v 4)) := cell_of_row _ _ 4 _ _ (0, 0) K2.out
    have x5 : w2.cell? ⟨w1.heap.size, 5, none⟩ = some (.int .i64 (v 5)) := cell_of_row _ _ 5 _ _ (0, 0) K2.out
    have x6 : w2.cell? ⟨w1.heap.size, 6, none⟩ = some (.int .i64 (v 6)) := cell_of_row _ _ 6 _ _ (0, 0) K2.out
    have x7 : w2.cell? ⟨w1.heap.size, 7, none⟩ = some (.int .i64 (v 7)) := cell_of_row _ _ 7 _ _ (0, 0) K2.out
    have x8 : w2.cell? ⟨w1.heap.size, 8, none⟩ = some (.int .i64 (v 8)) := cell_of_row _ _ 8 _ _ (0, 0) K2.out
    have x9 : w2.cell? ⟨w1.heap.size, 9, none⟩ = some (.int .i64 (v 9)) := cell_of_row _ _ 9 _ _ (0, 0) K2.out
    have x10 : w2.cell? ⟨w1.heap.size, 10, none⟩ = some (.int .i64 (v 10)) := cell_of_row _ _ 10 _ _ (0, 0) K2.out
    have x11 : w2.cell? ⟨w1.heap.size, 11, none⟩ = some (.int .i64 (v 11)) := cell_of_row _ _ 11 _ _ (0, 0) K2.out
    have x12 : w2.cell? ⟨w1.heap.size, 12, none⟩ = some (.int .i64 (v 12)) := cell_of_row _ _ 12 _ _ (0, 0) K2.out
    have x13 : w2.cell? ⟨w1.heap.size, 13, none⟩ = some (.int .i64 (v 13)) := cell_of_row _ _ 13 _ _ (0, 0) K2.out
    go_wp2_with fail
    refine (eqConfig_same v _).mono ?_
    rintro e w3 ⟨rfl, b3⟩
    have B3 := Lib.hid (bel_trans (bel_trans B2.out (bel_alloc _ _)) b3)
    clear b3 x0 x1 x2 x3 x4 x5 x6 x7 x8 x9 x10 x11 x12 x13
    go_wp2
    go_ret
    exact ⟨rfl, B3.out⟩
  · have hsi : (1048576 : Int) < (s.size : Int) := by omega
    go_enter Tryd.func4, Tryd.ntmps4
    go_wp2
    go_ret
    exact ⟨rfl, Below.refl _ _⟩
end Go.Proofs.YtahfmgjchjjlmaaDoor.Fm
