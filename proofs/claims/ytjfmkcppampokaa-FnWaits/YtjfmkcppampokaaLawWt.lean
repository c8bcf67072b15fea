/- The law on waits walked. -/
import Derived.Test.YtjfmkcppampokaaDrd1
import Derived.Test.YtjfmkcppampokaaRd2
import Derived.Test.YtjfmkcppampokaaWt9
import Derived.Test.YtjfmkcppampokaaWm1
namespace Go.Proofs.Ytjfmkcppampokaa.Wt
open Go.RowKit Go.Deep Base Flt Cf Tick Rw Draw

theorem redL_get (c : Nat → Int) (ds : List Int) (n i : Nat) (h : i ≤ n) : (redL c ds n).getD i 0 = redT c ds i := by
  unfold redL
  rw [List.getD_eq_getElem?_getD, List.getElem?_map, List.getElem?_range (by omega)]
  rfl

set_option maxRecDepth 100000 in
set_option maxHeartbeats 16000000 in
theorem lawWaits (A : Option Addr) (n cap : Nat) (zs : List Int) (w : World) (hn : zs.length = n) (hm : n ≤ maxLen) (hb : Bytes w w.heap.size A zs) :
    Calls Try.prog 3 #[.slice A n cap] w fun e w' => e = .returned (.bool true) ∧ Below w.heap.size w w' := by
  have Hn := Lib.hid hn
  have HB := Lib.hid hb
  have Hm := Lib.hid hm
  clear hb hn
  go_enter Try.func3, Try.ntmps3
  go_wp2_with fail
  refine (big_any A n cap _ Hm.out).mono ?_
  rintro e w' ⟨rfl, rfl⟩
  by_cases hbig : 1048576 < n
  · rw [decide_eq_true hbig]
    go_wp2
    go_ret
    exact ⟨rfl, Below.refl _ _⟩
  rw [decide_eq_false hbig]
  have hs : n ≤ 1048576 := by omega
  clear hbig hm
  go_wp2_with fail
  refine (drawRed_any A n cap zs _ Hn.out hs HB.out).mono ?_
  rintro e w1 ⟨c, A', cap', ds, rfl, hi, hl, b1⟩
  have HI := Lib.hid hi
  have B := Lib.hid b1
  have hsz1 := b1.size
  clear hi b1
  go_wp2_with fail
  have K : Hid ((w1.alloc (.cells #[.int .i64 (c 0), .int .i64 (c 1), .int .i64 (c 2), .int .i64 (c 3), .int .i64 (c 4), .int .i64 (c 5), .int .i64 (c 6), .int .i64 (c 7), .int .i64 (c 8), .int .i64 (c 9), .int .i64 (c 10), .int .i64 (c 11), .int .i64 (c 12), .int .i64 (c 13)] 25)).heap[w1.heap.size]? = some (.cells #[.int .i64 (c 0), .int .i64 (c 1), .int .i64 (c 2), .int .i64 (c 3), .int .i64 (c 4), .int .i64 (c 5), .int .i64 (c 6), .int .i64 (c 7), .int .i64 (c 8), .int .i64 (c 9), .int .i64 (c 10), .int .i64 (c 11), .int .i64 (c 12), .int .i64 (c 13)] 25 (0, 0))) := heap_alloc_new w1 _
  have hba := bel_alloc w1 (.cells #[.int .i64 (c 0), .int .i64 (c 1), .int .i64 (c 2), .int .i64 (c 3), .int .i64 (c 4), .int .i64 (c 5), .int .i64 (c 6), .int .i64 (c 7), .int .i64 (c 8), .int .i64 (c 9), .int .i64 (c 10), .int .i64 (c 11), .int .i64 (c 12), .int .i64 (c 13)] 25)
  replace B := Lib.hid (bel_trans B.out hba)
  replace HI := Lib.hid (HI.out.below hba)
  have z0 : w1.heap.size < (w1.alloc (.cells #[.int .i64 (c 0), .int .i64 (c 1), .int .i64 (c 2), .int .i64 (c 3), .int .i64 (c 4), .int .i64 (c 5), .int .i64 (c 6), .int .i64 (c 7), .int .i64 (c 8), .int .i64 (c 9), .int .i64 (c 10), .int .i64 (c 11), .int .i64 (c 12), .int .i64 (c 13)] 25)).heap.size := by simp
  obtain ⟨W0, hW0⟩ : ∃ W0, w1.alloc (.cells #[.int .i64 (c 0), .int .i64 (c 1), .int .i64 (c 2), .int .i64 (c 3), .int .i64 (c 4), .int .i64 (c 5), .int .i64 (c 6), .int .i64 (c 7), .int .i64 (c 8), .int .i64 (c 9), .int .i64 (c 10), .int .i64 (c 11), .int .i64 (c 12), .int .i64 (c 13)] 25) = W0 := ⟨_, rfl⟩
  rw [hW0] at K B HI z0 ⊢
  clear hW0 hba
  obtain ⟨kb, hkb⟩ : ∃ kb, w1.heap.size = kb := ⟨_, rfl⟩
  rw [hkb] at K z0 hsz1 ⊢
  clear hkb
  refine (specConfigOk_any c _).mono ?_
  rintro e w2 ⟨rfl, b2⟩
  replace B := Lib.hid (bel_trans B.out b2)
  replace K := Lib.hid ((b2.block _ z0).trans K.out)
  replace HI := Lib.hid (HI.out.below b2)
  have z2 : kb < w2.heap.size := Nat.lt_of_lt_of_le z0 b2.size
  clear b2 z0
  have x0 : w2.cell? ⟨kb, 0, none⟩ = some (.int .i64 (c 0)) := cell_of_row _ _ 0 _ _ (0, 0) K.out
  have x1 : w2.cell? ⟨kb, 1, none⟩ = some (.int .i64 (c 1)) := cell_of_row _ _ 1 _ _ (0, 0) K.out
  have x2 : w2.cell? ⟨kb, 2, none⟩ = some (.int .i64 (c 2)) := cell_of_row _ _ 2 _ _ (0, 0) K.out
  have x3 : w2.cell? ⟨kb, 3, none⟩ = some (.int .i64 (c 3)) := cell_of_row _ _ 3 _ _ (0, 0) K.out
  have x4 : w2.cell? ⟨kb, 4, none⟩ = some (.int .i64 (c 4)) := cell_of_row _ _ 4 _ _ (0, 0) K.out
  have x5 : w2.cell? ⟨kb, 5, none⟩ = some (.int .i64 (c 5)) := cell_of_row _ _ 5 _ _ (0, 0) K.out
  have x6 : w2.cell? ⟨kb, 6, none⟩ = some (.int .i64 (c 6)) := cell_of_row _ _ 6 _ _ (0, 0) K.out
  have x7 : w2.cell? ⟨kb, 7, none⟩ = some (.int .i64 (c 7)) := cell_of_row _ _ 7 _ _ (0, 0) K.out
  have x8 : w2.cell? ⟨kb, 8, none⟩ = some (.int .i64 (c 8)) := cell_of_row _ _ 8 _ _ (0, 0) K.out
  have x9 : w2.cell? ⟨kb, 9, none⟩ = some (.int .i64 (c 9)) := cell_of_row _ _ 9 _ _ (0, 0) K.out
  have x10 : w2.cell? ⟨kb, 10, none⟩ = some (.int .i64 (c 10)) := cell_of_row _ _ 10 _ _ (0, 0) K.out
  have x11 : w2.cell? ⟨kb, 11, none⟩ = some (.int .i64 (c 11)) := cell_of_row _ _ 11 _ _ (0, 0) K.out
  have x12 : w2.cell? ⟨kb, 12, none⟩ = some (.int .i64 (c 12)) := cell_of_row _ _ 12 _ _ (0, 0) K.out
  have x13 : w2.cell? ⟨kb, 13, none⟩ = some (.int .i64 (c 13)) := cell_of_row _ _ 13 _ _ (0, 0) K.out
  cases hok : okC c
  · have Hr := Lib.hid (red_bad (ds := ds) hok)
    clear hok
    go_wp2_with fail
    refine (implRed_any c A' _ cap' ds _ rfl (by omega) HI.out).mono ?_
    intro e w3 hend
    rw [Hr.out] at hend
    obtain ⟨A3, c3, rfl, _, b3⟩ := hend
    replace B := Lib.hid (bel_trans B.out b3)
    clear b3 x0 x1 x2 x3 x4 x5 x6 x7 x8 x9 x10 x11 x12 x13
    go_wp2
    go_ret
    exact ⟨rfl, B.out⟩
  have Hok := Lib.hid hok
  clear hok
  obtain ⟨s, hst⟩ := st_some c
  have Hst := Lib.hid hst
  clear hst
  go_wp2_with fail
  refine (implSteps_any c s Hst.out _).mono ?_
  rintro e w3 ⟨rfl, b3⟩
  replace B := Lib.hid (bel_trans B.out b3)
  replace K := Lib.hid ((b3.block _ z2).trans K.out)
  replace HI := Lib.hid (HI.out.below b3)
  have z3 : kb < w3.heap.size := Nat.lt_of_lt_of_le z2 b3.size
  clear b3 z2 x0 x1 x2 x3 x4 x5 x6 x7 x8 x9 x10 x11 x12 x13
  go_wp2
  go_loopw [6] (fun i wr => ∃ k : Nat, k ≤ 11 ∧ i = .int .i64 ((k : Int) + 1) ∧ Below w3.heap.size w3 wr) (fun i _ => 12 - (intOf i).toNat)
  case atStart => exact ⟨0, by omega, rfl, Below.refl _ _⟩
  case round =>
    obtain ⟨k, hk, rfl, hr⟩ := hrel
    have hzr := hr.size
    have zr : kb < wr.heap.size := Nat.lt_of_lt_of_le z3 hzr
    have BR := Lib.hid (bel_trans B.out hr)
    have KR := Lib.hid ((hr.block _ z3).trans K.out)
    have HR := Lib.hid hr
    have HIR := Lib.hid (HI.out.below hr)
    clear hr
    by_cases hlt : (k : Int) + 1 < 12
    · have F := Lib.hid (waitFacts Hok.out Hst.out k)
      have HF1 := fun V => implFull_any c ((k : Int) + 1) (by omega) V
      have HF2 := fun V => implFull_any c ((k : Int) + 1 + 1) (by omega) V
      have HG1 := fun V => specFull_any c ((k : Int) + 1) V
      have HL := fun V => implLeast_any c ((k : Int) + 1) (by omega) V
      have HJ := fun d V => implJit_any c ((k : Int) + 1) d (by omega) V
      have HW1 := fun V => implSum_any c ((k : Int) + 1) V
      have HW0 := fun V => implSum_any c (k : Int) V
      have fup := F.out.up
      have ftop := F.out.top
      have fcap := F.out.cap
      have fdbl := F.out.dbl
      have flo := F.out.lo
      have fhi := F.out.hi
      have fze := F.out.zero
      have fal := F.out.all
      have fsu := F.out.sum (by omega)
      have f0 := (fw_bound Hok.out (n := (k : Int) + 1) (by omega)).1
      have f1 := (fw_bound Hok.out (n := (k : Int) + 1) (by omega)).2.1
      clear F
      generalize fw c ((k : Int) + 1) = f at *
      generalize fw c ((k : Int) + 1 + 1) = f' at *
      generalize lw c ((k : Int) + 1) = l at *
      generalize ws c (k : Int) = s0 at *
      generalize ws c ((k : Int) + 1) = s1 at *
      have x0 : wr.cell? ⟨kb, 0, none⟩ = some (.int .i64 (c 0)) := cell_of_row _ _ 0 _ _ (0, 0) KR.out
      have x1 : wr.cell? ⟨kb, 1, none⟩ = some (.int .i64 (c 1)) := cell_of_row _ _ 1 _ _ (0, 0) KR.out
      have x2 : wr.cell? ⟨kb, 2, none⟩ = some (.int .i64 (c 2)) := cell_of_row _ _ 2 _ _ (0, 0) KR.out
      have x3 : wr.cell? ⟨kb, 3, none⟩ = some (.int .i64 (c 3)) := cell_of_row _ _ 3 _ _ (0, 0) KR.out
      have x4 : wr.cell? ⟨kb, 4, none⟩ = some (.int .i64 (c 4)) := cell_of_row _ _ 4 _ _ (0, 0) KR.out
      have x5 : wr.cell? ⟨kb, 5, none⟩ = some (.int .i64 (c 5)) := cell_of_row _ _ 5 _ _ (0, 0) KR.out
      have x6 : wr.cell? ⟨kb, 6, none⟩ = some (.int .i64 (c 6)) := cell_of_row _ _ 6 _ _ (0, 0) KR.out
      have x7 : wr.cell? ⟨kb, 7, none⟩ = some (.int .i64 (c 7)) := cell_of_row _ _ 7 _ _ (0, 0) KR.out
      have x8 : wr.cell? ⟨kb, 8, none⟩ = some (.int .i64 (c 8)) := cell_of_row _ _ 8 _ _ (0, 0) KR.out
      have x9 : wr.cell? ⟨kb, 9, none⟩ = some (.int .i64 (c 9)) := cell_of_row _ _ 9 _ _ (0, 0) KR.out
      have x10 : wr.cell? ⟨kb, 10, none⟩ = some (.int .i64 (c 10)) := cell_of_row _ _ 10 _ _ (0, 0) KR.out
      have x11 : wr.cell? ⟨kb, 11, none⟩ = some (.int .i64 (c 11)) := cell_of_row _ _ 11 _ _ (0, 0) KR.out
      have x12 : wr.cell? ⟨kb, 12, none⟩ = some (.int .i64 (c 12)) := cell_of_row _ _ 12 _ _ (0, 0) KR.out
      have x13 : wr.cell? ⟨kb, 13, none⟩ = some (.int .i64 (c 13)) := cell_of_row _ _ 13 _ _ (0, 0) KR.out
      go_wp2_with fail
      refine (HF1 _).mono ?_
      rintro e w4 ⟨rfl, b4⟩
      replace BR := Lib.hid (bel_trans BR.out b4)
      replace HR := Lib.hid (bel_trans HR.out b4)
      replace KR := Lib.hid ((b4.block _ zr).trans KR.out)
      have z4 : kb < w4.heap.size := Nat.lt_of_lt_of_le zr b4.size
      clear b4 zr x0 x1 x2 x3 x4 x5 x6 x7 x8 x9 x10 x11 x12 x13
      have x0 : w4.cell? ⟨kb, 0, none⟩ = some (.int .i64 (c 0)) := cell_of_row _ _ 0 _ _ (0, 0) KR.out
      have x1 : w4.cell? ⟨kb, 1, none⟩ = some (.int .i64 (c 1)) := cell_of_row _ _ 1 _ _ (0, 0) KR.out
      have x2 : w4.cell? ⟨kb, 2, none⟩ = some (.int .i64 (c 2)) := cell_of_row _ _ 2 _ _ (0, 0) KR.out
      have x3 : w4.cell? ⟨kb, 3, none⟩ = some (.int .i64 (c 3)) := cell_of_row _ _ 3 _ _ (0, 0) KR.out
      have x4 : w4.cell? ⟨kb, 4, none⟩ = some (.int .i64 (c 4)) := cell_of_row _ _ 4 _ _ (0, 0) KR.out
      have x5 : w4.cell? ⟨kb, 5, none⟩ = some (.int .i64 (c 5)) := cell_of_row _ _ 5 _ _ (0, 0) KR.out
      have x6 : w4.cell? ⟨kb, 6, none⟩ = some (.int .i64 (c 6)) := cell_of_row _ _ 6 _ _ (0, 0) KR.out
      have x7 : w4.cell? ⟨kb, 7, none⟩ = some (.int .i64 (c 7)) := cell_of_row _ _ 7 _ _ (0, 0) KR.out
      have x8 : w4.cell? ⟨kb, 8, none⟩ = some (.int .i64 (c 8)) := cell_of_row _ _ 8 _ _ (0, 0) KR.out
      have x9 : w4.cell? ⟨kb, 9, none⟩ = some (.int .i64 (c 9)) := cell_of_row _ _ 9 _ _ (0, 0) KR.out
      have x10 : w4.cell? ⟨kb, 10, none⟩ = some (.int .i64 (c 10)) := cell_of_row _ _ 10 _ _ (0, 0) KR.out
      have x11 : w4.cell? ⟨kb, 11, none⟩ = some (.int .i64 (c 11)) := cell_of_row _ _ 11 _ _ (0, 0) KR.out
      have x12 : w4.cell? ⟨kb, 12, none⟩ = some (.int .i64 (c 12)) := cell_of_row _ _ 12 _ _ (0, 0) KR.out
      have x13 : w4.cell? ⟨kb, 13, none⟩ = some (.int .i64 (c 13)) := cell_of_row _ _ 13 _ _ (0, 0) KR.out
      go_wp2_with fail
      refine (HF2 _).mono ?_
      rintro e w5 ⟨rfl, b5⟩
      replace BR := Lib.hid (bel_trans BR.out b5)
      replace HR := Lib.hid (bel_trans HR.out b5)
      replace KR := Lib.hid ((b5.block _ z4).trans KR.out)
      have z5 : kb < w5.heap.size := Nat.lt_of_lt_of_le z4 b5.size
      clear b5 z4 x0 x1 x2 x3 x4 x5 x6 x7 x8 x9 x10 x11 x12 x13
      have x0 : w5.cell? ⟨kb, 0, none⟩ = some (.int .i64 (c 0)) := cell_of_row _ _ 0 _ _ (0, 0) KR.out
      have x1 : w5.cell? ⟨kb, 1, none⟩ = some (.int .i64 (c 1)) := cell_of_row _ _ 1 _ _ (0, 0) KR.out
      have x2 : w5.cell? ⟨kb, 2, none⟩ = some (.int .i64 (c 2)) := cell_of_row _ _ 2 _ _ (0, 0) KR.out
      have x3 : w5.cell? ⟨kb, 3, none⟩ = some (.int .i64 (c 3)) := cell_of_row _ _ 3 _ _ (0, 0) KR.out
      have x4 : w5.cell? ⟨kb, 4, none⟩ = some (.int .i64 (c 4)) := cell_of_row _ _ 4 _ _ (0, 0) KR.out
      have x5 : w5.cell? ⟨kb, 5, none⟩ = some (.int .i64 (c 5)) := cell_of_row _ _ 5 _ _ (0, 0) KR.out
      have x6 : w5.cell? ⟨kb, 6, none⟩ = some (.int .i64 (c 6)) := cell_of_row _ _ 6 _ _ (0, 0) KR.out
      have x7 : w5.cell? ⟨kb, 7, none⟩ = some (.int .i64 (c 7)) := cell_of_row _ _ 7 _ _ (0, 0) KR.out
      have x8 : w5.cell? ⟨kb, 8, none⟩ = some (.int .i64 (c 8)) := cell_of_row _ _ 8 _ _ (0, 0) KR.out
      have x9 : w5.cell? ⟨kb, 9, none⟩ = some (.int .i64 (c 9)) := cell_of_row _ _ 9 _ _ (0, 0) KR.out
      have x10 : w5.cell? ⟨kb, 10, none⟩ = some (.int .i64 (c 10)) := cell_of_row _ _ 10 _ _ (0, 0) KR.out
      have x11 : w5.cell? ⟨kb, 11, none⟩ = some (.int .i64 (c 11)) := cell_of_row _ _ 11 _ _ (0, 0) KR.out
      have x12 : w5.cell? ⟨kb, 12, none⟩ = some (.int .i64 (c 12)) := cell_of_row _ _ 12 _ _ (0, 0) KR.out
      have x13 : w5.cell? ⟨kb, 13, none⟩ = some (.int .i64 (c 13)) := cell_of_row _ _ 13 _ _ (0, 0) KR.out
      go_wp2_with fail
      refine (HG1 _).mono ?_
      rintro e w6 ⟨rfl, b6⟩
      replace BR := Lib.hid (bel_trans BR.out b6)
      replace HR := Lib.hid (bel_trans HR.out b6)
      replace KR := Lib.hid ((b6.block _ z5).trans KR.out)
      have z6 : kb < w6.heap.size := Nat.lt_of_lt_of_le z5 b6.size
      clear b6 z5 x0 x1 x2 x3 x4 x5 x6 x7 x8 x9 x10 x11 x12 x13
      have x0 : w6.cell? ⟨kb, 0, none⟩ = some (.int .i64 (c 0)) := cell_of_row _ _ 0 _ _ (0, 0) KR.out
      have x1 : w6.cell? ⟨kb, 1, none⟩ = some (.int .i64 (c 1)) := cell_of_row _ _ 1 _ _ (0, 0) KR.out
      have x2 : w6.cell? ⟨kb, 2, none⟩ = some (.int .i64 (c 2)) := cell_of_row _ _ 2 _ _ (0, 0) KR.out
      have x3 : w6.cell? ⟨kb, 3, none⟩ = some (.int .i64 (c 3)) := cell_of_row _ _ 3 _ _ (0, 0) KR.out
      have x4 : w6.cell? ⟨kb, 4, none⟩ = some (.int .i64 (c 4)) := cell_of_row _ _ 4 _ _ (0, 0) KR.out
      have x5 : w6.cell? ⟨kb, 5, none⟩ = some (.int .i64 (c 5)) := cell_of_row _ _ 5 _ _ (0, 0) KR.out
      have x6 : w6.cell? ⟨kb, 6, none⟩ = some (.int .i64 (c 6)) := cell_of_row _ _ 6 _ _ (0, 0) KR.out
      have x7 : w6.cell? ⟨kb, 7, none⟩ = some (.int .i64 (c 7)) := cell_of_row _ _ 7 _ _ (0, 0) KR.out
      have x8 : w6.cell? ⟨kb, 8, none⟩ = some (.int .i64 (c 8)) := cell_of_row _ _ 8 _ _ (0, 0) KR.out
      have x9 : w6.cell? ⟨kb, 9, none⟩ = some (.int .i64 (c 9)) := cell_of_row _ _ 9 _ _ (0, 0) KR.out
      have x10 : w6.cell? ⟨kb, 10, none⟩ = some (.int .i64 (c 10)) := cell_of_row _ _ 10 _ _ (0, 0) KR.out
      have x11 : w6.cell? ⟨kb, 11, none⟩ = some (.int .i64 (c 11)) := cell_of_row _ _ 11 _ _ (0, 0) KR.out
      have x12 : w6.cell? ⟨kb, 12, none⟩ = some (.int .i64 (c 12)) := cell_of_row _ _ 12 _ _ (0, 0) KR.out
      have x13 : w6.cell? ⟨kb, 13, none⟩ = some (.int .i64 (c 13)) := cell_of_row _ _ 13 _ _ (0, 0) KR.out
      obtain ⟨q, hq1, hq2⟩ : ∃ q : Bool, (f == c 8) = q ∧ decide (s ≤ (k : Int) + 1) = q := by
        by_cases h : f = c 8
        · exact ⟨true, by simp [h], by simp [fcap.1 h]⟩
        · exact ⟨false, by simp [h], by simp only [decide_eq_false_iff_not]; exact fun h' => h (fcap.2 h')⟩
      clear fcap
      have hnd : ¬ f' < f := by omega
      have hnt : ¬ c 8 < f := by omega
      have hdd : (2 * f ≤ c 8 ∧ (f' != 2 * f) = false) ∨ ¬ 2 * f ≤ c 8 := by
        by_cases h : 2 * f ≤ c 8
        · exact .inl ⟨h, by simp [fdbl h]⟩
        · exact .inr h
      clear fdbl fup ftop
      rcases hdd with ⟨hd1, hd2⟩ | hd1
      · go_wp2_with fail
        as_aux_lemma =>
          clear hq1 hq2 hnd hnt
          have HBY := fun V (hb : Below w.heap.size w V) => (HB.out.keep (fun b o hlt => hb.cell (p := ⟨b, o, none⟩) hlt) : Bytes V w.heap.size A zs)
          have HA := fun V (hb : Below w.heap.size w V) => at_any A n cap zs (k + 1) (by omega) V w.heap.size Hn.out hs (HBY V hb)
          rw [show ((k + 1 : Nat) : Int) = (k : Int) + 1 by omega] at HA
          go_region_held3 (fun V => V.cell? ⟨kb, 0, none⟩ = some (.int .i64 (c 0)) ∧ V.cell? ⟨kb, 1, none⟩ = some (.int .i64 (c 1)) ∧ V.cell? ⟨kb, 2, none⟩ = some (.int .i64 (c 2)) ∧ V.cell? ⟨kb, 3, none⟩ = some (.int .i64 (c 3)) ∧ V.cell? ⟨kb, 4, none⟩ = some (.int .i64 (c 4)) ∧ V.cell? ⟨kb, 5, none⟩ = some (.int .i64 (c 5)) ∧ V.cell? ⟨kb, 6, none⟩ = some (.int .i64 (c 6)) ∧ V.cell? ⟨kb, 7, none⟩ = some (.int .i64 (c 7)) ∧ V.cell? ⟨kb, 8, none⟩ = some (.int .i64 (c 8)) ∧ V.cell? ⟨kb, 9, none⟩ = some (.int .i64 (c 9)) ∧ V.cell? ⟨kb, 10, none⟩ = some (.int .i64 (c 10)) ∧ V.cell? ⟨kb, 11, none⟩ = some (.int .i64 (c 11)) ∧ V.cell? ⟨kb, 12, none⟩ = some (.int .i64 (c 12)) ∧ V.cell? ⟨kb, 13, none⟩ = some (.int .i64 (c 13)))
            (first
              | with_reducible exact ⟨bkeep x0 H7.out, bkeep x1 H7.out, bkeep x2 H7.out, bkeep x3 H7.out, bkeep x4 H7.out, bkeep x5 H7.out, bkeep x6 H7.out, bkeep x7 H7.out, bkeep x8 H7.out, bkeep x9 H7.out, bkeep x10 H7.out, bkeep x11 H7.out, bkeep x12 H7.out, bkeep x13 H7.out⟩
              | go_keep)
            (first
              | (go_at_call 18; refine (HA _ BR.out.drew).mono ?_; rintro e w' ⟨⟨y, rfl, y0, y1⟩, rfl⟩)
              | (go_at_call 17; refine (HJ _ _).mono ?_; rintro e w7 ⟨rfl, b7⟩; have H7 := Lib.hid (bel_of_drew b7); clear b7))
          replace BR := Lib.hid (bel_trans BR.out H7.out)
          replace HR := Lib.hid (bel_trans HR.out H7.out)
          replace KR := Lib.hid ((H7.out.block _ z6).trans KR.out)
          have z7 : kb < w7.heap.size := Nat.lt_of_lt_of_le z6 H7.out.size
          clear H7 z6 x0 x1 x2 x3 x4 x5 x6 x7 x8 x9 x10 x11 x12 x13 HA HBY
          as_aux_lemma =>
            obtain ⟨dd, hdd⟩ : ∃ dd, IntKind.i64.wrap (y * 4) = dd := ⟨_, rfl⟩
            have hx1 := flo dd
            have hx2 := fhi dd
            have hx3 : decide (jw c ((k : Int) + 1) dd < l) = false := by simp only [decide_eq_false_iff_not]; omega
            have hx4 : decide (f < jw c ((k : Int) + 1) dd) = false := by simp only [decide_eq_false_iff_not]; omega
            have HJ0 := fun V => HJ 0 V
            have HJ1 := fun V => HJ 1000 V
            rw [fze] at HJ0
            rw [fal] at HJ1
            first | rw [hdd] | skip
            generalize jw c ((k : Int) + 1) dd = xv at hx1 hx2 hx3 hx4 ⊢
            clear hdd flo fhi fze fal HJ y0 y1
            have x0 : w7.cell? ⟨kb, 0, none⟩ = some (.int .i64 (c 0)) := cell_of_row _ _ 0 _ _ (0, 0) KR.out
            have x1 : w7.cell? ⟨kb, 1, none⟩ = some (.int .i64 (c 1)) := cell_of_row _ _ 1 _ _ (0, 0) KR.out
            have x2 : w7.cell? ⟨kb, 2, none⟩ = some (.int .i64 (c 2)) := cell_of_row _ _ 2 _ _ (0, 0) KR.out
            have x3 : w7.cell? ⟨kb, 3, none⟩ = some (.int .i64 (c 3)) := cell_of_row _ _ 3 _ _ (0, 0) KR.out
            have x4 : w7.cell? ⟨kb, 4, none⟩ = some (.int .i64 (c 4)) := cell_of_row _ _ 4 _ _ (0, 0) KR.out
            have x5 : w7.cell? ⟨kb, 5, none⟩ = some (.int .i64 (c 5)) := cell_of_row _ _ 5 _ _ (0, 0) KR.out
            have x6 : w7.cell? ⟨kb, 6, none⟩ = some (.int .i64 (c 6)) := cell_of_row _ _ 6 _ _ (0, 0) KR.out
            have x7 : w7.cell? ⟨kb, 7, none⟩ = some (.int .i64 (c 7)) := cell_of_row _ _ 7 _ _ (0, 0) KR.out
            have x8 : w7.cell? ⟨kb, 8, none⟩ = some (.int .i64 (c 8)) := cell_of_row _ _ 8 _ _ (0, 0) KR.out
            have x9 : w7.cell? ⟨kb, 9, none⟩ = some (.int .i64 (c 9)) := cell_of_row _ _ 9 _ _ (0, 0) KR.out
            have x10 : w7.cell? ⟨kb, 10, none⟩ = some (.int .i64 (c 10)) := cell_of_row _ _ 10 _ _ (0, 0) KR.out
            have x11 : w7.cell? ⟨kb, 11, none⟩ = some (.int .i64 (c 11)) := cell_of_row _ _ 11 _ _ (0, 0) KR.out
            have x12 : w7.cell? ⟨kb, 12, none⟩ = some (.int .i64 (c 12)) := cell_of_row _ _ 12 _ _ (0, 0) KR.out
            have x13 : w7.cell? ⟨kb, 13, none⟩ = some (.int .i64 (c 13)) := cell_of_row _ _ 13 _ _ (0, 0) KR.out
            go_wp2_with fail
            have HH : Hid (Below w7.heap.size w7 w7.drew) := (Below.refl _ _).drew
            go_region_held3 (fun V => V.cell? ⟨kb, 0, none⟩ = some (.int .i64 (c 0)) ∧ V.cell? ⟨kb, 1, none⟩ = some (.int .i64 (c 1)) ∧ V.cell? ⟨kb, 2, none⟩ = some (.int .i64 (c 2)) ∧ V.cell? ⟨kb, 3, none⟩ = some (.int .i64 (c 3)) ∧ V.cell? ⟨kb, 4, none⟩ = some (.int .i64 (c 4)) ∧ V.cell? ⟨kb, 5, none⟩ = some (.int .i64 (c 5)) ∧ V.cell? ⟨kb, 6, none⟩ = some (.int .i64 (c 6)) ∧ V.cell? ⟨kb, 7, none⟩ = some (.int .i64 (c 7)) ∧ V.cell? ⟨kb, 8, none⟩ = some (.int .i64 (c 8)) ∧ V.cell? ⟨kb, 9, none⟩ = some (.int .i64 (c 9)) ∧ V.cell? ⟨kb, 10, none⟩ = some (.int .i64 (c 10)) ∧ V.cell? ⟨kb, 11, none⟩ = some (.int .i64 (c 11)) ∧ V.cell? ⟨kb, 12, none⟩ = some (.int .i64 (c 12)) ∧ V.cell? ⟨kb, 13, none⟩ = some (.int .i64 (c 13)))
              (first
                | with_reducible exact ⟨bkeep x0 HH.out, bkeep x1 HH.out, bkeep x2 HH.out, bkeep x3 HH.out, bkeep x4 HH.out, bkeep x5 HH.out, bkeep x6 HH.out, bkeep x7 HH.out, bkeep x8 HH.out, bkeep x9 HH.out, bkeep x10 HH.out, bkeep x11 HH.out, bkeep x12 HH.out, bkeep x13 HH.out⟩
                | go_keep)
              (first
                | (go_at_call 19; refine (HL _).mono ?_; rintro e w8 ⟨rfl, b8⟩; replace HH := Lib.hid (bel_trans HH.out b8); clear b8)
                | (go_at_call 17; with_reducible refine (HJ0 _).mono ?_; rintro e w8 ⟨rfl, b8⟩; replace HH := Lib.hid (bel_trans HH.out b8); clear b8)
                | (go_at_call 17; with_reducible refine (HJ1 _).mono ?_; rintro e w8 ⟨rfl, b8⟩; replace HH := Lib.hid (bel_trans HH.out b8); clear b8))
            replace BR := Lib.hid (bel_trans BR.out HH.out)
            replace HR := Lib.hid (bel_trans HR.out HH.out)
            replace KR := Lib.hid ((HH.out.block _ z7).trans KR.out)
            have z8 : kb < w8.heap.size := Nat.lt_of_lt_of_le z7 HH.out.size
            clear HH z7 x0 x1 x2 x3 x4 x5 x6 x7 x8 x9 x10 x11 x12 x13 hx3 hx4 HJ0 HJ1 HL
            as_aux_lemma =>
              have HAT := fun V => implAddTick_any s0 f V
              rw [← fsu] at HAT
              have hw1 : IntKind.i64.wrap ((k : Int) + 1 - 1) = (k : Int) := by rw [show (k : Int) + 1 - 1 = (k : Int) by omega]; exact IntWalk.i64_in _ (by omega)
              have hw2 : IntKind.i64.wrap (k : Int) = (k : Int) := IntWalk.i64_in _ (by omega)
              have x0 : w8.cell? ⟨kb, 0, none⟩ = some (.int .i64 (c 0)) := cell_of_row _ _ 0 _ _ (0, 0) KR.out
              have x1 : w8.cell? ⟨kb, 1, none⟩ = some (.int .i64 (c 1)) := cell_of_row _ _ 1 _ _ (0, 0) KR.out
              have x2 : w8.cell? ⟨kb, 2, none⟩ = some (.int .i64 (c 2)) := cell_of_row _ _ 2 _ _ (0, 0) KR.out
              have x3 : w8.cell? ⟨kb, 3, none⟩ = some (.int .i64 (c 3)) := cell_of_row _ _ 3 _ _ (0, 0) KR.out
              have x4 : w8.cell? ⟨kb, 4, none⟩ = some (.int .i64 (c 4)) := cell_of_row _ _ 4 _ _ (0, 0) KR.out
              have x5 : w8.cell? ⟨kb, 5, none⟩ = some (.int .i64 (c 5)) := cell_of_row _ _ 5 _ _ (0, 0) KR.out
              have x6 : w8.cell? ⟨kb, 6, none⟩ = some (.int .i64 (c 6)) := cell_of_row _ _ 6 _ _ (0, 0) KR.out
              have x7 : w8.cell? ⟨kb, 7, none⟩ = some (.int .i64 (c 7)) := cell_of_row _ _ 7 _ _ (0, 0) KR.out
              have x8 : w8.cell? ⟨kb, 8, none⟩ = some (.int .i64 (c 8)) := cell_of_row _ _ 8 _ _ (0, 0) KR.out
              have x9 : w8.cell? ⟨kb, 9, none⟩ = some (.int .i64 (c 9)) := cell_of_row _ _ 9 _ _ (0, 0) KR.out
              have x10 : w8.cell? ⟨kb, 10, none⟩ = some (.int .i64 (c 10)) := cell_of_row _ _ 10 _ _ (0, 0) KR.out
              have x11 : w8.cell? ⟨kb, 11, none⟩ = some (.int .i64 (c 11)) := cell_of_row _ _ 11 _ _ (0, 0) KR.out
              have x12 : w8.cell? ⟨kb, 12, none⟩ = some (.int .i64 (c 12)) := cell_of_row _ _ 12 _ _ (0, 0) KR.out
              have x13 : w8.cell? ⟨kb, 13, none⟩ = some (.int .i64 (c 13)) := cell_of_row _ _ 13 _ _ (0, 0) KR.out
              go_wp2_with fail
              have HH : Hid (Below w8.heap.size w8 w8.drew) := (Below.refl _ _).drew
              go_region_held3 (fun V => V.cell? ⟨kb, 0, none⟩ = some (.int .i64 (c 0)) ∧ V.cell? ⟨kb, 1, none⟩ = some (.int .i64 (c 1)) ∧ V.cell? ⟨kb, 2, none⟩ = some (.int .i64 (c 2)) ∧ V.cell? ⟨kb, 3, none⟩ = some (.int .i64 (c 3)) ∧ V.cell? ⟨kb, 4, none⟩ = some (.int .i64 (c 4)) ∧ V.cell? ⟨kb, 5, none⟩ = some (.int .i64 (c 5)) ∧ V.cell? ⟨kb, 6, none⟩ = some (.int .i64 (c 6)) ∧ V.cell? ⟨kb, 7, none⟩ = some (.int .i64 (c 7)) ∧ V.cell? ⟨kb, 8, none⟩ = some (.int .i64 (c 8)) ∧ V.cell? ⟨kb, 9, none⟩ = some (.int .i64 (c 9)) ∧ V.cell? ⟨kb, 10, none⟩ = some (.int .i64 (c 10)) ∧ V.cell? ⟨kb, 11, none⟩ = some (.int .i64 (c 11)) ∧ V.cell? ⟨kb, 12, none⟩ = some (.int .i64 (c 12)) ∧ V.cell? ⟨kb, 13, none⟩ = some (.int .i64 (c 13)))
                (first
                  | with_reducible exact ⟨bkeep x0 HH.out, bkeep x1 HH.out, bkeep x2 HH.out, bkeep x3 HH.out, bkeep x4 HH.out, bkeep x5 HH.out, bkeep x6 HH.out, bkeep x7 HH.out, bkeep x8 HH.out, bkeep x9 HH.out, bkeep x10 HH.out, bkeep x11 HH.out, bkeep x12 HH.out, bkeep x13 HH.out⟩
                  | go_keep)
                (first
                  | (go_at_call 20; with_reducible refine (HW1 _).mono ?_; rintro e w9 ⟨rfl, b9⟩; replace HH := Lib.hid (bel_trans HH.out b9); clear b9)
                  | (go_at_call 20; with_reducible refine (HW0 _).mono ?_; rintro e w9 ⟨rfl, b9⟩; replace HH := Lib.hid (bel_trans HH.out b9); clear b9)
                  | (go_at_call 21; refine (HAT _).mono ?_; rintro e w9 ⟨rfl, b9⟩; replace HH := Lib.hid (bel_trans HH.out b9); clear b9))
              replace HR := Lib.hid (bel_trans HR.out HH.out)
              clear HH x0 x1 x2 x3 x4 x5 x6 x7 x8 x9 x10 x11 x12 x13 hw1 hw2 HAT HW1 HW0
              go_wp2
              go_roundw
              case rel => exact ⟨k + 1, by omega, by go_num, HR.out⟩
              case measure => simp [intOf]; omega
      · go_wp2_with fail
        as_aux_lemma =>
          clear hq1 hq2 hnd hnt
          have HBY := fun V (hb : Below w.heap.size w V) => (HB.out.keep (fun b o hlt => hb.cell (p := ⟨b, o, none⟩) hlt) : Bytes V w.heap.size A zs)
          have HA := fun V (hb : Below w.heap.size w V) => at_any A n cap zs (k + 1) (by omega) V w.heap.size Hn.out hs (HBY V hb)
          rw [show ((k + 1 : Nat) : Int) = (k : Int) + 1 by omega] at HA
          go_region_held3 (fun V => V.cell? ⟨kb, 0, none⟩ = some (.int .i64 (c 0)) ∧ V.cell? ⟨kb, 1, none⟩ = some (.int .i64 (c 1)) ∧ V.cell? ⟨kb, 2, none⟩ = some (.int .i64 (c 2)) ∧ V.cell? ⟨kb, 3, none⟩ = some (.int .i64 (c 3)) ∧ V.cell? ⟨kb, 4, none⟩ = some (.int .i64 (c 4)) ∧ V.cell? ⟨kb, 5, none⟩ = some (.int .i64 (c 5)) ∧ V.cell? ⟨kb, 6, none⟩ = some (.int .i64 (c 6)) ∧ V.cell? ⟨kb, 7, none⟩ = some (.int .i64 (c 7)) ∧ V.cell? ⟨kb, 8, none⟩ = some (.int .i64 (c 8)) ∧ V.cell? ⟨kb, 9, none⟩ = some (.int .i64 (c 9)) ∧ V.cell? ⟨kb, 10, none⟩ = some (.int .i64 (c 10)) ∧ V.cell? ⟨kb, 11, none⟩ = some (.int .i64 (c 11)) ∧ V.cell? ⟨kb, 12, none⟩ = some (.int .i64 (c 12)) ∧ V.cell? ⟨kb, 13, none⟩ = some (.int .i64 (c 13)))
            (first
              | with_reducible exact ⟨bkeep x0 H7.out, bkeep x1 H7.out, bkeep x2 H7.out, bkeep x3 H7.out, bkeep x4 H7.out, bkeep x5 H7.out, bkeep x6 H7.out, bkeep x7 H7.out, bkeep x8 H7.out, bkeep x9 H7.out, bkeep x10 H7.out, bkeep x11 H7.out, bkeep x12 H7.out, bkeep x13 H7.out⟩
              | go_keep)
            (first
              | (go_at_call 18; refine (HA _ BR.out.drew).mono ?_; rintro e w' ⟨⟨y, rfl, y0, y1⟩, rfl⟩)
              | (go_at_call 17; refine (HJ _ _).mono ?_; rintro e w7 ⟨rfl, b7⟩; have H7 := Lib.hid (bel_of_drew b7); clear b7))
          replace BR := Lib.hid (bel_trans BR.out H7.out)
          replace HR := Lib.hid (bel_trans HR.out H7.out)
          replace KR := Lib.hid ((H7.out.block _ z6).trans KR.out)
          have z7 : kb < w7.heap.size := Nat.lt_of_lt_of_le z6 H7.out.size
          clear H7 z6 x0 x1 x2 x3 x4 x5 x6 x7 x8 x9 x10 x11 x12 x13 HA HBY
          as_aux_lemma =>
            obtain ⟨dd, hdd⟩ : ∃ dd, IntKind.i64.wrap (y * 4) = dd := ⟨_, rfl⟩
            have hx1 := flo dd
            have hx2 := fhi dd
            have hx3 : decide (jw c ((k : Int) + 1) dd < l) = false := by simp only [decide_eq_false_iff_not]; omega
            have hx4 : decide (f < jw c ((k : Int) + 1) dd) = false := by simp only [decide_eq_false_iff_not]; omega
            have HJ0 := fun V => HJ 0 V
            have HJ1 := fun V => HJ 1000 V
            rw [fze] at HJ0
            rw [fal] at HJ1
            first | rw [hdd] | skip
            generalize jw c ((k : Int) + 1) dd = xv at hx1 hx2 hx3 hx4 ⊢
            clear hdd flo fhi fze fal HJ y0 y1
            have x0 : w7.cell? ⟨kb, 0, none⟩ = some (.int .i64 (c 0)) := cell_of_row _ _ 0 _ _ (0, 0) KR.out
            have x1 : w7.cell? ⟨kb, 1, none⟩ = some (.int .i64 (c 1)) := cell_of_row _ _ 1 _ _ (0, 0) KR.out
            have x2 : w7.cell? ⟨kb, 2, none⟩ = some (.int .i64 (c 2)) := cell_of_row _ _ 2 _ _ (0, 0) KR.out
            have x3 : w7.cell? ⟨kb, 3, none⟩ = some (.int .i64 (c 3)) := cell_of_row _ _ 3 _ _ (0, 0) KR.out
            have x4 : w7.cell? ⟨kb, 4, none⟩ = some (.int .i64 (c 4)) := cell_of_row _ _ 4 _ _ (0, 0) KR.out
            have x5 : w7.cell? ⟨kb, 5, none⟩ = some (.int .i64 (c 5)) := cell_of_row _ _ 5 _ _ (0, 0) KR.out
            have x6 : w7.cell? ⟨kb, 6, none⟩ = some (.int .i64 (c 6)) := cell_of_row _ _ 6 _ _ (0, 0) KR.out
            have x7 : w7.cell? ⟨kb, 7, none⟩ = some (.int .i64 (c 7)) := cell_of_row _ _ 7 _ _ (0, 0) KR.out
            have x8 : w7.cell? ⟨kb, 8, none⟩ = some (.int .i64 (c 8)) := cell_of_row _ _ 8 _ _ (0, 0) KR.out
            have x9 : w7.cell? ⟨kb, 9, none⟩ = some (.int .i64 (c 9)) := cell_of_row _ _ 9 _ _ (0, 0) KR.out
            have x10 : w7.cell? ⟨kb, 10, none⟩ = some (.int .i64 (c 10)) := cell_of_row _ _ 10 _ _ (0, 0) KR.out
            have x11 : w7.cell? ⟨kb, 11, none⟩ = some (.int .i64 (c 11)) := cell_of_row _ _ 11 _ _ (0, 0) KR.out
            have x12 : w7.cell? ⟨kb, 12, none⟩ = some (.int .i64 (c 12)) := cell_of_row _ _ 12 _ _ (0, 0) KR.out
            have x13 : w7.cell? ⟨kb, 13, none⟩ = some (.int .i64 (c 13)) := cell_of_row _ _ 13 _ _ (0, 0) KR.out
            go_wp2_with fail
            have HH : Hid (Below w7.heap.size w7 w7.drew) := (Below.refl _ _).drew
            go_region_held3 (fun V => V.cell? ⟨kb, 0, none⟩ = some (.int .i64 (c 0)) ∧ V.cell? ⟨kb, 1, none⟩ = some (.int .i64 (c 1)) ∧ V.cell? ⟨kb, 2, none⟩ = some (.int .i64 (c 2)) ∧ V.cell? ⟨kb, 3, none⟩ = some (.int .i64 (c 3)) ∧ V.cell? ⟨kb, 4, none⟩ = some (.int .i64 (c 4)) ∧ V.cell? ⟨kb, 5, none⟩ = some (.int .i64 (c 5)) ∧ V.cell? ⟨kb, 6, none⟩ = some (.int .i64 (c 6)) ∧ V.cell? ⟨kb, 7, none⟩ = some (.int .i64 (c 7)) ∧ V.cell? ⟨kb, 8, none⟩ = some (.int .i64 (c 8)) ∧ V.cell? ⟨kb, 9, none⟩ = some (.int .i64 (c 9)) ∧ V.cell? ⟨kb, 10, none⟩ = some (.int .i64 (c 10)) ∧ V.cell? ⟨kb, 11, none⟩ = some (.int .i64 (c 11)) ∧ V.cell? ⟨kb, 12, none⟩ = some (.int .i64 (c 12)) ∧ V.cell? ⟨kb, 13, none⟩ = some (.int .i64 (c 13)))
              (first
                | with_reducible exact ⟨bkeep x0 HH.out, bkeep x1 HH.out, bkeep x2 HH.out, bkeep x3 HH.out, bkeep x4 HH.out, bkeep x5 HH.out, bkeep x6 HH.out, bkeep x7 HH.out, bkeep x8 HH.out, bkeep x9 HH.out, bkeep x10 HH.out, bkeep x11 HH.out, bkeep x12 HH.out, bkeep x13 HH.out⟩
                | go_keep)
              (first
                | (go_at_call 19; refine (HL _).mono ?_; rintro e w8 ⟨rfl, b8⟩; replace HH := Lib.hid (bel_trans HH.out b8); clear b8)
                | (go_at_call 17; with_reducible refine (HJ0 _).mono ?_; rintro e w8 ⟨rfl, b8⟩; replace HH := Lib.hid (bel_trans HH.out b8); clear b8)
                | (go_at_call 17; with_reducible refine (HJ1 _).mono ?_; rintro e w8 ⟨rfl, b8⟩; replace HH := Lib.hid (bel_trans HH.out b8); clear b8))
            replace BR := Lib.hid (bel_trans BR.out HH.out)
            replace HR := Lib.hid (bel_trans HR.out HH.out)
            replace KR := Lib.hid ((HH.out.block _ z7).trans KR.out)
            have z8 : kb < w8.heap.size := Nat.lt_of_lt_of_le z7 HH.out.size
            clear HH z7 x0 x1 x2 x3 x4 x5 x6 x7 x8 x9 x10 x11 x12 x13 hx3 hx4 HJ0 HJ1 HL
            as_aux_lemma =>
              have HAT := fun V => implAddTick_any s0 f V
              rw [← fsu] at HAT
              have hw1 : IntKind.i64.wrap ((k : Int) + 1 - 1) = (k : Int) := by rw [show (k : Int) + 1 - 1 = (k : Int) by omega]; exact IntWalk.i64_in _ (by omega)
              have hw2 : IntKind.i64.wrap (k : Int) = (k : Int) := IntWalk.i64_in _ (by omega)
              have x0 : w8.cell? ⟨kb, 0, none⟩ = some (.int .i64 (c 0)) := cell_of_row _ _ 0 _ _ (0, 0) KR.out
              have x1 : w8.cell? ⟨kb, 1, none⟩ = some (.int .i64 (c 1)) := cell_of_row _ _ 1 _ _ (0, 0) KR.out
              have x2 : w8.cell? ⟨kb, 2, none⟩ = some (.int .i64 (c 2)) := cell_of_row _ _ 2 _ _ (0, 0) KR.out
              have x3 : w8.cell? ⟨kb, 3, none⟩ = some (.int .i64 (c 3)) := cell_of_row _ _ 3 _ _ (0, 0) KR.out
              have x4 : w8.cell? ⟨kb, 4, none⟩ = some (.int .i64 (c 4)) := cell_of_row _ _ 4 _ _ (0, 0) KR.out
              have x5 : w8.cell? ⟨kb, 5, none⟩ = some (.int .i64 (c 5)) := cell_of_row _ _ 5 _ _ (0, 0) KR.out
              have x6 : w8.cell? ⟨kb, 6, none⟩ = some (.int .i64 (c 6)) := cell_of_row _ _ 6 _ _ (0, 0) KR.out
              have x7 : w8.cell? ⟨kb, 7, none⟩ = some (.int .i64 (c 7)) := cell_of_row _ _ 7 _ _ (0, 0) KR.out
              have x8 : w8.cell? ⟨kb, 8, none⟩ = some (.int .i64 (c 8)) := cell_of_row _ _ 8 _ _ (0, 0) KR.out
              have x9 : w8.cell? ⟨kb, 9, none⟩ = some (.int .i64 (c 9)) := cell_of_row _ _ 9 _ _ (0, 0) KR.out
              have x10 : w8.cell? ⟨kb, 10, none⟩ = some (.int .i64 (c 10)) := cell_of_row _ _ 10 _ _ (0, 0) KR.out
              have x11 : w8.cell? ⟨kb, 11, none⟩ = some (.int .i64 (c 11)) := cell_of_row _ _ 11 _ _ (0, 0) KR.out
              have x12 : w8.cell? ⟨kb, 12, none⟩ = some (.int .i64 (c 12)) := cell_of_row _ _ 12 _ _ (0, 0) KR.out
              have x13 : w8.cell? ⟨kb, 13, none⟩ = some (.int .i64 (c 13)) := cell_of_row _ _ 13 _ _ (0, 0) KR.out
              go_wp2_with fail
              have HH : Hid (Below w8.heap.size w8 w8.drew) := (Below.refl _ _).drew
              go_region_held3 (fun V => V.cell? ⟨kb, 0, none⟩ = some (.int .i64 (c 0)) ∧ V.cell? ⟨kb, 1, none⟩ = some (.int .i64 (c 1)) ∧ V.cell? ⟨kb, 2, none⟩ = some (.int .i64 (c 2)) ∧ V.cell? ⟨kb, 3, none⟩ = some (.int .i64 (c 3)) ∧ V.cell? ⟨kb, 4, none⟩ = some (.int .i64 (c 4)) ∧ V.cell? ⟨kb, 5, none⟩ = some (.int .i64 (c 5)) ∧ V.cell? ⟨kb, 6, none⟩ = some (.int .i64 (c 6)) ∧ V.cell? ⟨kb, 7, none⟩ = some (.int .i64 (c 7)) ∧ V.cell? ⟨kb, 8, none⟩ = some (.int .i64 (c 8)) ∧ V.cell? ⟨kb, 9, none⟩ = some (.int .i64 (c 9)) ∧ V.cell? ⟨kb, 10, none⟩ = some (.int .i64 (c 10)) ∧ V.cell? ⟨kb, 11, none⟩ = some (.int .i64 (c 11)) ∧ V.cell? ⟨kb, 12, none⟩ = some (.int .i64 (c 12)) ∧ V.cell? ⟨kb, 13, none⟩ = some (.int .i64 (c 13)))
                (first
                  | with_reducible exact ⟨bkeep x0 HH.out, bkeep x1 HH.out, bkeep x2 HH.out, bkeep x3 HH.out, bkeep x4 HH.out, bkeep x5 HH.out, bkeep x6 HH.out, bkeep x7 HH.out, bkeep x8 HH.out, bkeep x9 HH.out, bkeep x10 HH.out, bkeep x11 HH.out, bkeep x12 HH.out, bkeep x13 HH.out⟩
                  | go_keep)
                (first
                  | (go_at_call 20; with_reducible refine (HW1 _).mono ?_; rintro e w9 ⟨rfl, b9⟩; replace HH := Lib.hid (bel_trans HH.out b9); clear b9)
                  | (go_at_call 20; with_reducible refine (HW0 _).mono ?_; rintro e w9 ⟨rfl, b9⟩; replace HH := Lib.hid (bel_trans HH.out b9); clear b9)
                  | (go_at_call 21; refine (HAT _).mono ?_; rintro e w9 ⟨rfl, b9⟩; replace HH := Lib.hid (bel_trans HH.out b9); clear b9))
              replace HR := Lib.hid (bel_trans HR.out HH.out)
              clear HH x0 x1 x2 x3 x4 x5 x6 x7 x8 x9 x10 x11 x12 x13 hw1 hw2 HAT HW1 HW0
              go_wp2
              go_roundw
              case rel => exact ⟨k + 1, by omega, by go_num, HR.out⟩
              case measure => simp [intOf]; omega
    · have hk11 : k = 11 := by omega
      subst hk11
      have x0 : wr.cell? ⟨kb, 0, none⟩ = some (.int .i64 (c 0)) := cell_of_row _ _ 0 _ _ (0, 0) KR.out
      have x1 : wr.cell? ⟨kb, 1, none⟩ = some (.int .i64 (c 1)) := cell_of_row _ _ 1 _ _ (0, 0) KR.out
      have x2 : wr.cell? ⟨kb, 2, none⟩ = some (.int .i64 (c 2)) := cell_of_row _ _ 2 _ _ (0, 0) KR.out
      have x3 : wr.cell? ⟨kb, 3, none⟩ = some (.int .i64 (c 3)) := cell_of_row _ _ 3 _ _ (0, 0) KR.out
      have x4 : wr.cell? ⟨kb, 4, none⟩ = some (.int .i64 (c 4)) := cell_of_row _ _ 4 _ _ (0, 0) KR.out
      have x5 : wr.cell? ⟨kb, 5, none⟩ = some (.int .i64 (c 5)) := cell_of_row _ _ 5 _ _ (0, 0) KR.out
      have x6 : wr.cell? ⟨kb, 6, none⟩ = some (.int .i64 (c 6)) := cell_of_row _ _ 6 _ _ (0, 0) KR.out
      have x7 : wr.cell? ⟨kb, 7, none⟩ = some (.int .i64 (c 7)) := cell_of_row _ _ 7 _ _ (0, 0) KR.out
      have x8 : wr.cell? ⟨kb, 8, none⟩ = some (.int .i64 (c 8)) := cell_of_row _ _ 8 _ _ (0, 0) KR.out
      have x9 : wr.cell? ⟨kb, 9, none⟩ = some (.int .i64 (c 9)) := cell_of_row _ _ 9 _ _ (0, 0) KR.out
      have x10 : wr.cell? ⟨kb, 10, none⟩ = some (.int .i64 (c 10)) := cell_of_row _ _ 10 _ _ (0, 0) KR.out
      have x11 : wr.cell? ⟨kb, 11, none⟩ = some (.int .i64 (c 11)) := cell_of_row _ _ 11 _ _ (0, 0) KR.out
      have x12 : wr.cell? ⟨kb, 12, none⟩ = some (.int .i64 (c 12)) := cell_of_row _ _ 12 _ _ (0, 0) KR.out
      have x13 : wr.cell? ⟨kb, 13, none⟩ = some (.int .i64 (c 13)) := cell_of_row _ _ 13 _ _ (0, 0) KR.out
      go_wp2_with fail
      refine (implRed_any c A' _ cap' ds _ rfl (by omega) HIR.out).mono ?_
      rintro e w4 ⟨A4, c4, rfl, v4, b4⟩
      replace BR := Lib.hid (bel_trans BR.out b4)
      replace KR := Lib.hid ((b4.block _ zr).trans KR.out)
      replace HIR := Lib.hid (HIR.out.below b4)
      have z4 : kb < w4.heap.size := Nat.lt_of_lt_of_le zr b4.size
      clear b4 zr x0 x1 x2 x3 x4 x5 x6 x7 x8 x9 x10 x11 x12 x13 HR
      by_cases h300 : 300 < ds.length
      · have Hr := Lib.hid (red_long (c := c) h300)
        rw [Hr.out]
        clear v4
        go_wp2
        go_ret
        exact ⟨rfl, BR.out⟩
      rw [red_yes Hok.out (by omega)] at v4 ⊢
      rw [redL_len]
      obtain ⟨g, rfl, hg1, hg2, hri⟩ := v4 (by rw [redL_len]; omega)
      have HRI : Hid (∀ i, i ≤ ds.length → w4.cell? ⟨g, i, none⟩ = some (.int .i64 (redT c ds i))) := fun i hi => by
        have := (hri i (by rw [redL_len]; omega)).1
        rwa [redL_get c ds ds.length i hi] at this
      have h00 : w4.cell? ⟨g, 0, none⟩ = some (.int .i64 0) := HRI.out 0 (by omega)
      clear hri v4
      have hl1 : (0 : Int) < (ds.length : Int) + 1 := by omega
      have hl2 : ¬ (ds.length : Int) + 1 ≤ 0 := by omega
      have hl3 : ¬ (300 : Int) < (ds.length : Int) := by omega
      go_wp2_with fail
      clear h00 hl1 hl2 hl3
      as_aux_lemma =>
        obtain ⟨wo, hwo⟩ : ∃ wo, wo = wr := ⟨_, rfl⟩
        subst hwo
        go_loopw [11] (fun i wr => ∃ k : Nat, k ≤ ds.length ∧ i = .int .i64 (k : Int) ∧ Below w4.heap.size w4 wr) (fun i _ => ds.length - (intOf i).toNat)
        case atStart => exact ⟨0, by omega, rfl, Below.refl _ _⟩
        case round =>
          obtain ⟨k, hk, rfl, hz⟩ := hrel
          have HZ := Lib.hid hz
          have BZ := Lib.hid (bel_trans BR.out hz)
          have KZ := Lib.hid ((hz.block _ z4).trans KR.out)
          have zz : kb < wr.heap.size := Nat.lt_of_lt_of_le z4 hz.size
          by_cases hlt2 : k < ds.length
          · obtain ⟨gd, off, rfl, hcd⟩ := HIR.out.below hz (by omega)
            have hck := hcd k hlt2
            have hl0 := bkeep (HRI.out k (by omega)) hz
            have hl1 := bkeep (HRI.out (k + 1) (by omega)) hz
            have Ht : Hid (redT c ds (k + 1) = addT (redT c ds k) (jw c ((k : Int) + 1) (ds.getD k 0))) := rfl
            have HJ := fun V => implJit_any c ((k : Int) + 1) (ds.getD k 0) (by omega) V
            clear hz hcd
            generalize ds.getD k 0 = z at hck HJ Ht
            generalize jw c ((k : Int) + 1) z = j at HJ Ht
            generalize redT c ds k = t0 at hl0 Ht
            have HAT := fun V => implAddTick_any t0 j V
            rw [← Ht.out] at HAT
            clear Ht
            generalize redT c ds (k + 1) = t1 at hl1 HAT
            have p1 : (k : Int) < (ds.length : Int) := by omega
            have p2 : (k : Int) + 1 < (ds.length : Int) + 1 := by omega
            have p3 : ¬ (ds.length : Int) ≤ (k : Int) := by omega
            have p4 : ¬ (ds.length : Int) + 1 ≤ (k : Int) + 1 := by omega
            have p5 : ¬ (ds.length : Int) + 1 ≤ (k : Int) := by omega
            have p6 : (k : Int) < (ds.length : Int) + 1 := by omega
            have p7 : (0 : Int) ≤ (k : Int) := by omega
            have p8 : (0 : Int) ≤ (k : Int) + 1 := by omega
            have p9 : ¬ (k : Int) + 1 < 0 := by omega
            have hw1 : IntKind.i64.wrap ((k : Int) + 1) = (k : Int) + 1 := IntWalk.i64_in _ (by omega)
            have x0 : wr.cell? ⟨kb, 0, none⟩ = some (.int .i64 (c 0)) := cell_of_row _ _ 0 _ _ (0, 0) KZ.out
            have x1 : wr.cell? ⟨kb, 1, none⟩ = some (.int .i64 (c 1)) := cell_of_row _ _ 1 _ _ (0, 0) KZ.out
            have x2 : wr.cell? ⟨kb, 2, none⟩ = some (.int .i64 (c 2)) := cell_of_row _ _ 2 _ _ (0, 0) KZ.out
            have x3 : wr.cell? ⟨kb, 3, none⟩ = some (.int .i64 (c 3)) := cell_of_row _ _ 3 _ _ (0, 0) KZ.out
            have x4 : wr.cell? ⟨kb, 4, none⟩ = some (.int .i64 (c 4)) := cell_of_row _ _ 4 _ _ (0, 0) KZ.out
            have x5 : wr.cell? ⟨kb, 5, none⟩ = some (.int .i64 (c 5)) := cell_of_row _ _ 5 _ _ (0, 0) KZ.out
            have x6 : wr.cell? ⟨kb, 6, none⟩ = some (.int .i64 (c 6)) := cell_of_row _ _ 6 _ _ (0, 0) KZ.out
            have x7 : wr.cell? ⟨kb, 7, none⟩ = some (.int .i64 (c 7)) := cell_of_row _ _ 7 _ _ (0, 0) KZ.out
            have x8 : wr.cell? ⟨kb, 8, none⟩ = some (.int .i64 (c 8)) := cell_of_row _ _ 8 _ _ (0, 0) KZ.out
            have x9 : wr.cell? ⟨kb, 9, none⟩ = some (.int .i64 (c 9)) := cell_of_row _ _ 9 _ _ (0, 0) KZ.out
            have x10 : wr.cell? ⟨kb, 10, none⟩ = some (.int .i64 (c 10)) := cell_of_row _ _ 10 _ _ (0, 0) KZ.out
            have x11 : wr.cell? ⟨kb, 11, none⟩ = some (.int .i64 (c 11)) := cell_of_row _ _ 11 _ _ (0, 0) KZ.out
            have x12 : wr.cell? ⟨kb, 12, none⟩ = some (.int .i64 (c 12)) := cell_of_row _ _ 12 _ _ (0, 0) KZ.out
            have x13 : wr.cell? ⟨kb, 13, none⟩ = some (.int .i64 (c 13)) := cell_of_row _ _ 13 _ _ (0, 0) KZ.out
            go_wp2_with fail
            have HH : Hid (Below wr.heap.size wr wr.drew) := (Below.refl _ _).drew
            go_region_held3 (fun V => V.cell? ⟨g, k, none⟩ = some (.int .i64 t0) ∧ V.cell? ⟨g, k + 1, none⟩ = some (.int .i64 t1) ∧ V.cell? ⟨gd, off + k, none⟩ = some (.int .i64 z) ∧ V.cell? ⟨kb, 0, none⟩ = some (.int .i64 (c 0)) ∧ V.cell? ⟨kb, 1, none⟩ = some (.int .i64 (c 1)) ∧ V.cell? ⟨kb, 2, none⟩ = some (.int .i64 (c 2)) ∧ V.cell? ⟨kb, 3, none⟩ = some (.int .i64 (c 3)) ∧ V.cell? ⟨kb, 4, none⟩ = some (.int .i64 (c 4)) ∧ V.cell? ⟨kb, 5, none⟩ = some (.int .i64 (c 5)) ∧ V.cell? ⟨kb, 6, none⟩ = some (.int .i64 (c 6)) ∧ V.cell? ⟨kb, 7, none⟩ = some (.int .i64 (c 7)) ∧ V.cell? ⟨kb, 8, none⟩ = some (.int .i64 (c 8)) ∧ V.cell? ⟨kb, 9, none⟩ = some (.int .i64 (c 9)) ∧ V.cell? ⟨kb, 10, none⟩ = some (.int .i64 (c 10)) ∧ V.cell? ⟨kb, 11, none⟩ = some (.int .i64 (c 11)) ∧ V.cell? ⟨kb, 12, none⟩ = some (.int .i64 (c 12)) ∧ V.cell? ⟨kb, 13, none⟩ = some (.int .i64 (c 13)))
              (first
                | with_reducible exact ⟨bkeep hl0 HH.out, bkeep hl1 HH.out, bkeep hck HH.out, bkeep x0 HH.out, bkeep x1 HH.out, bkeep x2 HH.out, bkeep x3 HH.out, bkeep x4 HH.out, bkeep x5 HH.out, bkeep x6 HH.out, bkeep x7 HH.out, bkeep x8 HH.out, bkeep x9 HH.out, bkeep x10 HH.out, bkeep x11 HH.out, bkeep x12 HH.out, bkeep x13 HH.out⟩
                | go_keep)
              (first
                | (go_at_call 17; refine (HJ _).mono ?_; rintro e w9 ⟨rfl, b9⟩; replace HH := Lib.hid (bel_trans HH.out b9); clear b9)
                | (go_at_call 21; refine (HAT _).mono ?_; rintro e w9 ⟨rfl, b9⟩; replace HH := Lib.hid (bel_trans HH.out b9); clear b9))
            replace HZ := Lib.hid (bel_trans HZ.out HH.out)
            clear HH x0 x1 x2 x3 x4 x5 x6 x7 x8 x9 x10 x11 x12 x13 hw1 HAT HJ hck hl0 hl1
            go_wp2
            go_roundw
            case rel => exact ⟨k + 1, by omega, by go_num, HZ.out⟩
            case measure => simp [intOf]; omega
          · have p3 : ¬ (k : Int) < (ds.length : Int) := by omega
            clear hz
            go_wp2
            go_ret
            exact ⟨rfl, BZ.out⟩
end Go.Proofs.Ytjfmkcppampokaa.Wt
