/- The law of TakeNumber walked. -/
import Derived.Test.YtcgmeindiaaokaaDoorBdT
import Derived.Test.YtcgmeindiaaokaaDoorBdN
namespace Go.Proofs.YtcgmeindiaaokaaDoor.By
open Go.RowKit Go.Deep Base Rw

set_option maxRecDepth 100000 in
set_option maxHeartbeats 4000000 in
theorem lawTakeNumber (a0 : Option Addr) (len0 cap0 : Nat) (zs : List Int) (at_ : Int) (w : World) (hn : zs.length = len0) (hm : len0 ≤ 9223372036854775807) (hb : isB zs) (h : BI w a0 zs) (ha0 : -9223372036854775808 ≤ at_) (ha1 : at_ ≤ 9223372036854775807) (hp : ∃ p, ErN p w) :
    Calls Tryd.prog 4 #[.slice a0 len0 cap0, .int .i64 at_] w fun e w' => e = .returned (.bool true) ∧ Below w.heap.size w w' := by
  obtain ⟨p, hp⟩ := hp
  by_cases hbig : (1048576 : Int) < len0
  · clear h hp
    go_enter Tryd.func4, Tryd.ntmps4
    go_wp2
    go_ret
    exact ⟨rfl, Below.refl _ _⟩
  · have hm' : len0 ≤ 1048576 := by omega
    have HT : Hid (∀ W, BI W a0 zs → Calls Tryd.prog 20 #[.slice a0 len0 cap0] W (CopyY W len0 zs)) := fun W h => toY_any a0 len0 cap0 zs W hn hm' h
    have HS : Hid (∀ A W, BI W A zs → Calls Tryd.prog 19 #[.slice A len0 len0, .int .i64 at_] W fun e w' => e = .returned (.tuple #[.int .i64 (ansN zs at_).1, .int .i64 (ansN zs at_).2]) ∧ W = w') := fun A W h => specTakeN_any A len0 len0 zs at_ W hn hm' hb h ha0 ha1
    have HI : Hid (∀ A W, BI W A zs → ErN p W → Calls Tryd.prog 21 #[.slice A len0 len0, .int .i64 at_] W fun e w' => e = .returned (.tuple #[.int .i64 (ansN zs at_).1, .int .i64 (ansN zs at_).2]) ∧ Below W.heap.size W w') := fun A W h hp => implTakeN_any A len0 len0 zs at_ p W hn hm' (Nat.le_refl _) hm hb h hp ha0 ha1
    have HQ : Hid (∀ A1 A2 W, BI W A1 zs → BI W A2 zs → Calls Tryd.prog 22 #[.slice A1 len0 len0, .slice A2 len0 len0] W fun e w' => e = .returned (.bool true) ∧ Below W.heap.size W w') := fun A1 A2 W h1 h2 => eqY_same A1 A2 len0 len0 len0 zs W hn hm' h1 h2
    have E0 := Lib.hid h
    have P0 := Lib.hid hp
    clear h hp hn hb hm
    generalize (ansN zs at_).1 = x1 at HS HI
    generalize (ansN zs at_).2 = x2 at HS HI
    go_enter Tryd.func4, Tryd.ntmps4
    go_wp2_with fail
    refine (HT.out _ E0.out).mono ?_
    rintro e w1 ⟨rfl, v1, b1⟩
    have B := Lib.hid b1
    have V1 := Lib.hid v1.bi
    clear b1 v1
    go_wp2_with fail
    refine (HS.out _ _ V1.out).mono ?_
    rintro e _ ⟨rfl, rfl⟩
    clear V1
    go_wp2_with fail
    refine (HT.out _ (E0.out.below B.out)).mono ?_
    rintro e w2 ⟨rfl, v2, b2⟩
    replace B := Lib.hid (bel_trans B.out b2)
    have V2 := Lib.hid v2
    have z2 := b2.size
    clear b2 v2
    go_wp2_with fail
    refine (HI.out _ _ V2.out.bi (P0.out.below B.out)).mono ?_
    rintro e w3 ⟨rfl, b3⟩
    replace B := Lib.hid (bel_trans B.out b3)
    replace V2 := Lib.hid (V2.out.below b3 (Nat.le_refl _))
    have z3 := b3.size
    clear b3
    go_wp2_with fail
    refine (HT.out _ (E0.out.below B.out)).mono ?_
    rintro e w4 ⟨rfl, v4, b4⟩
    replace B := Lib.hid (bel_trans B.out b4)
    replace V2 := Lib.hid (V2.out.below b4 (by omega))
    have V4 := Lib.hid v4
    clear b4 v4
    go_wp2_with fail
    refine (HQ.out _ _ _ V2.out.bi V4.out.bi).mono ?_
    rintro e w5 ⟨rfl, b5⟩
    replace B := Lib.hid (bel_trans B.out b5)
    clear b5
    go_wp2
    go_ret
    exact ⟨rfl, B.out⟩
end Go.Proofs.YtcgmeindiaaokaaDoor.By
