/- The law of LogSum walked. -/
import Derived.Test.YtcgmeindiaaokaaByW
namespace Go.Proofs.Ytcgmeindiaaokaa.By
open Go.RowKit Go.Deep Base Rw


set_option maxRecDepth 100000 in
set_option maxHeartbeats 4000000 in
theorem lawLogSum (a0 : Option Addr) (len0 cap0 : Nat) (es : List Ev) (w : World) (hn : es.length = len0) (hm : len0 ≤ 9223372036854775807) (he : EI w a0 es) :
    Calls Try.prog 6 #[.slice a0 len0 cap0] w fun e w' => e = .returned (.bool true) ∧ Below w.heap.size w w' := by
  by_cases hbig : (1048576 : Int) < len0
  · have Hm := Lib.hid hm
    go_enter Try.func6, Try.ntmps6
    go_wp2_with fail
    refine (szE_any a0 len0 cap0 1048576 w Hm.out (by omega) (by omega)).mono ?_
    rw [if_pos hbig]
    rintro e w1 ⟨rfl, rfl⟩
    go_wp2
    go_ret
    exact ⟨rfl, Below.refl _ _⟩
  · have hm' : len0 ≤ 1048576 := by omega
    have hl : ¬ ((1048576 : Int) - len0 < 0) := by omega
    have HS : Hid (∀ A c W, EI W A es → Calls Try.prog 21 #[.slice A len0 c] W fun e w' => e = .returned (.int .i64 (sumL es)) ∧ Below W.heap.size W w') := fun A c W h => specSum_any A len0 c es W hn hm' h
    have HI : Hid (∀ A c W, EI W A es → Calls Try.prog 22 #[.slice A len0 c] W fun e w' => e = .returned (.int .i64 (sumL es)) ∧ Below W.heap.size W w') := fun A c W h => implSum_any A len0 c es W hn hm' h
    have HT : Hid (∀ W, EI W a0 es → Calls Try.prog 17 #[.slice a0 len0 cap0] W (CopyE W len0 es)) := fun W h => toEs_any a0 len0 cap0 es W hn hm' h
    have HQ : Hid (∀ A1 A2 c1 c2 W, EI W A1 es → EI W A2 es → Calls Try.prog 19 #[.slice A1 len0 c1, .slice A2 len0 c2] W fun e w' => e = .returned (.bool true) ∧ Below W.heap.size W w') := fun A1 A2 c1 c2 W h1 h2 => eqEs_same A1 A2 len0 c1 c2 es W hn hm' h1 h2
    have E0 := Lib.hid he
    clear he hn hm
    generalize sumL es = s at HS HI
    go_enter Try.func6, Try.ntmps6
    go_wp2_with fail
    refine (szE_any a0 len0 cap0 1048576 w (by omega) (by omega) (by omega)).mono ?_
    rw [if_neg (by omega)]
    rintro e _ ⟨rfl, rfl⟩
    go_wp2_with fail
    refine (HT.out _ E0.out).mono ?_
    rintro e w1 ⟨rfl, v, b⟩
    have z1 := b.size
    have B := Lib.hid b
    have X1 := Lib.hid v
    clear b
    clear v
    go_wp2_with fail
    refine (HS.out _ _ _ X1.out.ei).mono ?_
    rintro e w2 ⟨rfl, b⟩
    clear X1
    have z2 := b.size
    replace B := Lib.hid (bel_trans B.out b)
    clear b
    go_wp2_with fail
    refine (HT.out _ (E0.out.below B.out)).mono ?_
    rintro e w3 ⟨rfl, v, b⟩
    have z3 := b.size
    replace B := Lib.hid (bel_trans B.out b)
    have X0 := Lib.hid v
    clear b
    clear v
    go_wp2_with fail
    refine (HI.out _ _ _ X0.out.ei).mono ?_
    rintro e w4 ⟨rfl, b⟩
    have z4 := b.size
    replace X0 := Lib.hid (X0.out.below b (by omega))
    replace B := Lib.hid (bel_trans B.out b)
    clear b
    go_wp2_with fail
    refine (HT.out _ (E0.out.below B.out)).mono ?_
    rintro e w5 ⟨rfl, v, b⟩
    have z5 := b.size
    replace X0 := Lib.hid (X0.out.below b (by omega))
    replace B := Lib.hid (bel_trans B.out b)
    have X1 := Lib.hid v
    clear b
    clear v
    go_wp2_with fail
    refine (HQ.out _ _ _ _ _ X0.out.ei X1.out.ei).mono ?_
    rintro e w6 ⟨rfl, b⟩
    clear X1 X0
    have z6 := b.size
    replace B := Lib.hid (bel_trans B.out b)
    clear b
    go_wp2
    go_ret
    exact ⟨rfl, B.out⟩
end Go.Proofs.Ytcgmeindiaaokaa.By
