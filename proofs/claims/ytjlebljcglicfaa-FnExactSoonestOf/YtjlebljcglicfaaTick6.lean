/- The walks of the laws of SoonestOf and SumTicks: each returns true for every slice of integers, and what was in memory stays. -/
import Derived.Test.YtjlebljcglicfaaTick5
namespace Go.Proofs.Ytjlebljcglicfaa.Tick
open Go.RowKit Base

set_option maxHeartbeats 400000 in
theorem lawSoonestOf (A : Option Addr) (n cap : Nat) (zs : List Int) (w : World) (hn : zs.length = n) (hx : n ≤ maxLen) (h : Ints w A zs) :
    Calls Try.prog 7 #[.slice A n cap] w fun e w' => e = .returned (.bool true) ∧ Below w.heap.size w w' := by
  unfold maxLen at hx
  have Hn := Lib.hid hn
  clear hn
  have HI := Lib.hid h
  clear h
  by_cases hl : 1048576 < n
  · go_enter Try.func7, Try.ntmps7
    go_wp2
    go_ret
    exact ⟨rfl, Below.refl _ _⟩
  · go_enter Try.func7, Try.ntmps7
    go_wp2_with fail
    refine (toIntS_any A n cap zs w Hn.out (by omega) HI.out).mono ?_
    rintro e w1 ⟨rfl, hi1, hb1⟩
    have HI1 := Lib.hid hi1
    clear hi1
    go_wp2_with fail
    refine (specSoonestOf_any _ n n zs w1 Hn.out (by omega) HI1.out).mono ?_
    rintro e w' ⟨rfl, rfl⟩
    go_wp2_with fail
    refine (toIntS_any A n cap zs w1 Hn.out (by omega) (HI.out.below hb1)).mono ?_
    rintro e w2 ⟨rfl, hi2, hb2⟩
    have HI2 := Lib.hid hi2
    clear hi2
    go_wp2_with fail
    refine (implSoonestOf_any _ n n zs w2 Hn.out (by omega) HI2.out).mono ?_
    rintro e w3 ⟨rfl, hb3⟩
    go_wp2_with fail
    have b3 := bel_trans (bel_trans hb1 hb2) hb3
    refine (toIntS_any A n cap zs w3 Hn.out (by omega) (HI.out.below b3)).mono ?_
    rintro e w4 ⟨rfl, hi4, hb4⟩
    have HI4 := Lib.hid hi4
    clear hi4
    go_wp2_with fail
    refine (eqIntS_same _ _ n n n zs w4 Hn.out (by omega) ((HI2.out.below hb3).below hb4) HI4.out).mono ?_
    rintro e w5 ⟨rfl, hb5⟩
    go_wp2
    go_ret
    exact ⟨rfl, bel_trans (bel_trans b3 hb4) hb5⟩

set_option maxHeartbeats 400000 in
theorem lawSumTicks (A : Option Addr) (n cap : Nat) (zs : List Int) (w : World) (hn : zs.length = n) (hx : n ≤ maxLen) (h : Ints w A zs) :
    Calls Try.prog 8 #[.slice A n cap] w fun e w' => e = .returned (.bool true) ∧ Below w.heap.size w w' := by
  unfold maxLen at hx
  have Hn := Lib.hid hn
  clear hn
  have HI := Lib.hid h
  clear h
  by_cases hl : 1048576 < n
  · go_enter Try.func8, Try.ntmps8
    go_wp2
    go_ret
    exact ⟨rfl, Below.refl _ _⟩
  · go_enter Try.func8, Try.ntmps8
    go_wp2_with fail
    refine (toIntS_any A n cap zs w Hn.out (by omega) HI.out).mono ?_
    rintro e w1 ⟨rfl, hi1, hb1⟩
    have HI1 := Lib.hid hi1
    clear hi1
    go_wp2_with fail
    refine (specSumTicks_any _ n n zs w1 Hn.out (by omega) HI1.out).mono ?_
    rintro e w' ⟨rfl, rfl⟩
    go_wp2_with fail
    refine (toIntS_any A n cap zs w1 Hn.out (by omega) (HI.out.below hb1)).mono ?_
    rintro e w2 ⟨rfl, hi2, hb2⟩
    have HI2 := Lib.hid hi2
    clear hi2
    go_wp2_with fail
    refine (implSumTicks_any _ n n zs w2 Hn.out (by omega) HI2.out).mono ?_
    rintro e w3 ⟨rfl, hb3⟩
    go_wp2_with fail
    have b3 := bel_trans (bel_trans hb1 hb2) hb3
    refine (toIntS_any A n cap zs w3 Hn.out (by omega) (HI.out.below b3)).mono ?_
    rintro e w4 ⟨rfl, hi4, hb4⟩
    have HI4 := Lib.hid hi4
    clear hi4
    go_wp2_with fail
    refine (eqIntS_same _ _ n n n zs w4 Hn.out (by omega) ((HI2.out.below hb3).below hb4) HI4.out).mono ?_
    rintro e w5 ⟨rfl, hb5⟩
    go_wp2
    go_ret
    exact ⟨rfl, bel_trans (bel_trans b3 hb4) hb5⟩
end Go.Proofs.Ytjlebljcglicfaa.Tick
