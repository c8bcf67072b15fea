/- The law of TakeEvent walked. -/
import Derived.Test.YtcgmeindiaaokaaDoorBdW
namespace Go.Proofs.YtcgmeindiaaokaaDoor.By
open Go.RowKit Go.Deep Base Rw

set_option maxRecDepth 100000 in
set_option maxHeartbeats 4000000 in
theorem lawTakeEvent (a0 : Option Addr) (len0 cap0 : Nat) (zs : List Int) (at_ : Int) (w : World) (hn : zs.length = len0) (hm : len0 ≤ 9223372036854775807) (hb : isB zs) (h : BI w a0 zs) (ha0 : -9223372036854775808 ≤ at_) (ha1 : at_ ≤ 9223372036854775807) (ha : ∃ p, ErA p w) (hp : ∃ p, ErN p w) :
    Calls Tryd.prog 5 #[.slice a0 len0 cap0, .int .i64 at_] w fun e w' => e = .returned (.bool true) ∧ Below w.heap.size w w' := by
  obtain ⟨p, hp⟩ := hp
  obtain ⟨pA, ha⟩ := ha
  by_cases hbig : (1048576 : Int) < len0
  · clear h hp ha
    go_enter Tryd.func5, Tryd.ntmps5
    go_wp2
    go_ret
    exact ⟨rfl, Below.refl _ _⟩
  · have hm' : len0 ≤ 1048576 := by omega
    have HT : Hid (∀ W, BI W a0 zs → Calls Tryd.prog 20 #[.slice a0 len0 cap0] W (CopyY W len0 zs)) := fun W h => toY_any a0 len0 cap0 zs W hn hm' h
    have HS : Hid (∀ A W, BI W A zs → Calls Tryd.prog 23 #[.slice A len0 len0, .int .i64 at_] W fun e w' => e = .returned (.tuple #[aggE (ansE zs at_).1, .int .i64 (ansE zs at_).2]) ∧ Below W.heap.size W w') := fun A W h => specTakeE_any A len0 len0 zs at_ W hn hm' hb h ha0 ha1
    have HI : Hid (∀ A W, BI W A zs → ErA pA W → ErN p W → Calls Tryd.prog 24 #[.slice A len0 len0, .int .i64 at_] W fun e w' => e = .returned (.tuple #[aggE (ansE zs at_).1, .int .i64 (ansE zs at_).2]) ∧ Below W.heap.size W w') := fun A W h ha hp => implTakeE_any A len0 len0 zs at_ pA p W hn hm' (Nat.le_refl _) hm hb h ha hp ha0 ha1
    have HQ : Hid (∀ A1 A2 W, BI W A1 zs → BI W A2 zs → Calls Tryd.prog 22 #[.slice A1 len0 len0, .slice A2 len0 len0] W fun e w' => e = .returned (.bool true) ∧ Below W.heap.size W w') := fun A1 A2 W h1 h2 => eqY_same A1 A2 len0 len0 len0 zs W hn hm' h1 h2
    have E0 := Lib.hid h
    have P0 := Lib.hid hp
    have P1 := Lib.hid ha
    clear h hp ha hn hb hm
    generalize (ansE zs at_).1 = s at HS HI
    generalize (ansE zs at_).2 = m at HS HI
    obtain ⟨s0, s1, s2⟩ := s
    go_enter Tryd.func5, Tryd.ntmps5
    go_wp2_with fail
    refine (HT.out _ E0.out).mono ?_
    rintro e w1 ⟨rfl, v1, b1⟩
    have B := Lib.hid b1
    have V1 := Lib.hid v1.bi
    clear b1 v1
    go_wp2_with fail
    refine (HS.out _ _ V1.out).mono ?_
    rintro e w2 ⟨rfl, b2⟩
    replace B := Lib.hid (bel_trans (bel_trans B.out b2) (bel_alloc w2 (.cells #[.int .i64 s0, .int .i64 s1, .int .i64 s2] 41)))
    have HW := Lib.hid (BxE.new w2 (s0, s1, s2) 41)
    have sz2 : (w2.alloc (.cells #[.int .i64 s0, .int .i64 s1, .int .i64 s2] 41)).heap.size = w2.heap.size + 1 := by simp
    clear V1 b2
    go_wp2_with fail
    generalize w2.alloc (.cells #[.int .i64 s0, .int .i64 s1, .int .i64 s2] 41) = W2 at HW B sz2 ⊢
    refine (HT.out W2 (E0.out.below B.out)).mono ?_
    rintro e w3 ⟨rfl, v3, b3⟩
    replace B := Lib.hid (bel_trans B.out b3)
    replace HW := Lib.hid (HW.out.below b3)
    rw [sz2] at v3
    have V3 := Lib.hid v3
    have z3 : w2.heap.size + 1 ≤ w3.heap.size := by rw [← sz2]; exact b3.size
    clear b3 v3
    go_wp2_with fail
    refine (HI.out _ _ V3.out.bi (P1.out.below B.out) (P0.out.below B.out)).mono ?_
    rintro e w4 ⟨rfl, b4⟩
    replace B := Lib.hid (bel_trans (bel_trans B.out b4) (bel_alloc w4 (.cells #[.int .i64 s0, .int .i64 s1, .int .i64 s2] 41)))
    replace V3 := Lib.hid ((V3.out.below b4 (Nat.le_refl _)).below (bel_alloc w4 (.cells #[.int .i64 s0, .int .i64 s1, .int .i64 s2] 41)) b4.size)
    replace HW := Lib.hid ((HW.out.below b4).below (bel_alloc w4 (.cells #[.int .i64 s0, .int .i64 s1, .int .i64 s2] 41)))
    have z4 := b4.size
    obtain ⟨u0, u1, u2⟩ := HW.out
    clear b4
    go_wp2_with fail
    refine (eqE_same (s0, s1, s2) _).mono ?_
    rintro e w5 ⟨rfl, b5⟩
    replace B := Lib.hid (bel_trans B.out b5)
    replace V3 := Lib.hid (V3.out.below b5 (by simp; omega))
    have z5 : w4.heap.size + 1 ≤ w5.heap.size := by simpa using b5.size
    clear b5 HW u0 u1 u2
    go_wp2_with fail
    refine (HT.out _ (E0.out.below B.out)).mono ?_
    rintro e w6 ⟨rfl, v6, b6⟩
    replace B := Lib.hid (bel_trans B.out b6)
    replace V3 := Lib.hid (V3.out.below b6 (by omega))
    have V6 := Lib.hid v6
    clear b6 v6
    go_wp2_with fail
    refine (HQ.out _ _ _ V3.out.bi V6.out.bi).mono ?_
    rintro e w7 ⟨rfl, b7⟩
    replace B := Lib.hid (bel_trans B.out b7)
    clear b7
    go_wp2
    go_ret
    exact ⟨rfl, B.out⟩
end Go.Proofs.YtcgmeindiaaokaaDoor.By
