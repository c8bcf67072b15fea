/- The law of chapter 1, walked. -/
import Derived.Test.YtjlebljcglicfaaDoorTicks1
import Derived.Test.YtjlebljcglicfaaDoorLaidErr
namespace Go.Proofs.YtjlebljcglicfaaDoor.Num
open Go.RowKit Base Tick Draw

set_option maxRecDepth 100000 in
set_option maxHeartbeats 3200000 in
theorem lawTicks (A : Option Addr) (n cap : Nat) (zs : List Int) (w : World) (hn : zs.length = n) (hm : n ≤ maxLen) (hb : Bytes w w.heap.size A zs) (htab : Tab w) (hes : Es w) :
    Calls Tryd.prog 3 #[.slice A n cap] w fun e w' => e = .returned (.bool true) ∧ Below w.heap.size w w' := by
  have HB := Lib.hid hb
  have HN := Lib.hid hn
  have HT := Lib.hid htab
  have HE := Lib.hid hes
  have HM := Lib.hid hm
  clear hb hn htab hes hm
  by_cases hbig : 1048576 < n
  · have hd : decide (1048576 < n) = true := decide_eq_true hbig
    have Hc := Lib.hid (big_any A n cap w HM.out)
    rw [hd] at Hc
    clear hd
    go_enter Tryd.func3, Tryd.ntmps3
    go_wp2_with fail
    refine Hc.out.mono ?_
    rintro e w' ⟨rfl, rfl⟩
    go_wp2
    go_ret
    exact ⟨rfl, Below.refl _ _⟩
  · have hd : decide (1048576 < n) = false := decide_eq_false hbig
    have Hc := Lib.hid (big_any A n cap w HM.out)
    rw [hd] at Hc
    clear hd
    have Hs : Hid (n ≤ 1048576) := by show n ≤ 1048576; omega
    clear hbig
    go_enter Tryd.func3, Tryd.ntmps3
    go_wp2_with fail
    refine Hc.out.mono ?_
    rintro e w' ⟨rfl, rfl⟩
    go_wp2_with fail
    refine (drawSince_any A n cap zs w HN.out Hs.out HB.out).mono ?_
    rintro e w1 ⟨a, b, rfl, -, -, hb1⟩
    clear HB HN Hc Hs HM
    by_cases hab : isT a = true ∧ isT b = true
    · obtain ⟨ha, hb⟩ := hab
      have HS := Lib.hid (sums ha hb)
      have ha' := isT_iff.1 ha
      have hb' := isT_iff.1 hb
      obtain ⟨a0, a1⟩ := ha'
      obtain ⟨b0, b1⟩ := hb'
      have hx := isT_iff.1 HS.out.tick
      obtain ⟨x0, x1⟩ := hx
      have hge := HS.out.ge
      have htx := HS.out.tick
      have hcm := HS.out.comm
      have hng := HS.out.neg
      have hdu := HS.out.due
      have HBk := Lib.hid HS.out.back
      have HEa := Lib.hid HS.out.early
      have H3 := Lib.hid HS.out.three
      have H2 := Lib.hid HS.out.soon
      have HP := Lib.hid (parse_text ha)
      have HPo := Lib.hid HS.out.pos
      have Hlen : Hid ((⟨(textT a).toArray⟩ : ByteArray).size ≤ maxLen) := Nat.le_trans (show (textT a).toArray.size ≤ 30 by simpa using textT_len a) (by decide)
      have Hab : Hid (∀ W : World, Calls Tryd.prog 9 #[.int .i64 a, .int .i64 b] W fun e w' => e = .returned (.int .i64 (addT a b)) ∧ Below W.heap.size W w') := fun W => implAddTick_any a b W
      clear HS
      generalize addT a b = x at x0 x1 hge htx hcm hdu HBk HEa H3 Hab HPo
      go_wp2_with (go_at_call 8; with_reducible refine (specTickOk_any _ _).mono ?_; rintro e w' ⟨rfl, rfl⟩)
      refine (Hab.out w1).mono ?_
      rintro e w2 ⟨rfl, hb2⟩
      have k2 := bel_trans hb1 hb2
      clear hb1 hb2 Hab
      go_wp2_with fail
      refine (implTickOk_any x w2).mono ?_
      rintro e w3 ⟨rfl, hb3⟩
      have k3 := bel_trans k2 hb3
      clear k2 hb3
      rw [htx]
      go_wp2_with fail
      refine (implAddTick_any b a w3).mono ?_
      rw [hcm]
      rintro e w4 ⟨rfl, hb4⟩
      have k4 := bel_trans k3 hb4
      clear k3 hb4
      go_wp2_with fail
      refine (implAddTick_any a (-b) w4).mono ?_
      rw [hng]
      rintro e w5 ⟨rfl, hb5⟩
      have k5 := bel_trans k4 hb5
      clear k4 hb5
      go_wp2_with fail
      refine (implSince_any b a w5).mono ?_
      rintro e w6 ⟨rfl, hb6⟩
      have k6 := bel_trans k5 hb6
      clear k5 hb6 hng hcm
      generalize sinceT b a = y
      have fin : ∀ W : World, Below w.heap.size w W → Tab W ∧ Es W := fun W h => ⟨HT.out.below h, HE.out.below h⟩
      have Fin := Lib.hid fin
      clear fin HT HE
      by_cases hp : 0 < b
      · have hpd : decide (0 < b) = true := decide_eq_true hp
        rw [hpd] at hdu
        have hx0 := HPo.out hp
        clear HPo hpd
        by_cases hmx : x < 1000000000
        · have hbk := HBk.out hmx
          have hea := HEa.out hp hmx
          clear HBk HEa
          go_wp2_with fail
          refine (implSince_any a x w6).mono ?_
          rw [hbk]
          rintro e w7 ⟨rfl, hb7⟩
          have k7 := bel_trans k6 hb7
          clear k6 hb7 hbk
          go_wp2_with fail
          refine (implDueAt_any a b x w7).mono ?_
          rw [hdu]
          rintro e w8 ⟨rfl, hb8⟩
          have k8 := bel_trans k7 hb8
          clear k7 hb8 hdu
          go_wp2_with fail
          refine (implDueAt_any a b (x - 1) w8).mono ?_
          rw [hea]
          rintro e w9 ⟨rfl, hb9⟩
          have K := bel_trans k8 hb9
          clear k8 hb9 hea
          go_wp2_with fail
          refine (implTickText_any a _ (Fin.out _ K).1).mono ?_
          rintro e v1 ⟨rfl, hv1⟩
          have K1 := bel_trans K hv1
          clear K hv1
          go_wp2_with fail
          refine (implParseTick_any _ v1 Hlen.out (Fin.out _ K1).1 (Fin.out _ K1).2).mono ?_
          rintro e v2 ⟨v, ok, rfl, hok, hv2⟩
          obtain ⟨rfl, rfl⟩ := HP.out.det hok
          have K2 := bel_trans K1 hv2
          clear K1 hv2 hok HP Fin Hlen
          go_wp2_with fail
          refine (implSumTicks_any _ 3 3 [a, b, 1] _ rfl (by omega) (ints_new v2 [a, b, 1] _)).mono ?_
          rw [H3.out]
          rintro e v3 ⟨rfl, hv3⟩
          have K3 := bel_trans (bel_trans K2 (bel_alloc _ _)) hv3
          clear K2 hv3
          go_wp2_with fail
          refine (implAddTick_any x 1 v3).mono ?_
          rintro e v4 ⟨rfl, hv4⟩
          have K4 := bel_trans K3 hv4
          clear K3 hv4
          go_wp2_with fail
          refine (implSoonestOf_any _ 3 3 [-1, a, b] _ rfl (by omega) (ints_new v4 [-1, a, b] _)).mono ?_
          rw [H2.out]
          rintro e v5 ⟨rfl, hv5⟩
          have K5 := bel_trans (bel_trans K4 (bel_alloc _ _)) hv5
          clear K4 hv5
          go_wp2_with fail
          refine (specSoonestOf_any _ 2 2 [a, b] _ rfl (by omega) (ints_new v5 [a, b] _)).mono ?_
          rintro e v6 ⟨rfl, rfl⟩
          go_wp2
          go_ret
          exact ⟨by simp, bel_trans K5 (bel_alloc _ _)⟩
        · clear HBk HEa
          go_wp2_with fail
          refine (implDueAt_any a b x w6).mono ?_
          rw [hdu]
          rintro e w8 ⟨rfl, hb8⟩
          have k8 := bel_trans k6 hb8
          clear k6 hb8 hdu
          have K := k8
          clear k8
          go_wp2_with fail
          refine (implTickText_any a _ (Fin.out _ K).1).mono ?_
          rintro e v1 ⟨rfl, hv1⟩
          have K1 := bel_trans K hv1
          clear K hv1
          go_wp2_with fail
          refine (implParseTick_any _ v1 Hlen.out (Fin.out _ K1).1 (Fin.out _ K1).2).mono ?_
          rintro e v2 ⟨v, ok, rfl, hok, hv2⟩
          obtain ⟨rfl, rfl⟩ := HP.out.det hok
          have K2 := bel_trans K1 hv2
          clear K1 hv2 hok HP Fin Hlen
          go_wp2_with fail
          refine (implSumTicks_any _ 3 3 [a, b, 1] _ rfl (by omega) (ints_new v2 [a, b, 1] _)).mono ?_
          rw [H3.out]
          rintro e v3 ⟨rfl, hv3⟩
          have K3 := bel_trans (bel_trans K2 (bel_alloc _ _)) hv3
          clear K2 hv3
          go_wp2_with fail
          refine (implAddTick_any x 1 v3).mono ?_
          rintro e v4 ⟨rfl, hv4⟩
          have K4 := bel_trans K3 hv4
          clear K3 hv4
          go_wp2_with fail
          refine (implSoonestOf_any _ 3 3 [-1, a, b] _ rfl (by omega) (ints_new v4 [-1, a, b] _)).mono ?_
          rw [H2.out]
          rintro e v5 ⟨rfl, hv5⟩
          have K5 := bel_trans (bel_trans K4 (bel_alloc _ _)) hv5
          clear K4 hv5
          go_wp2_with fail
          refine (specSoonestOf_any _ 2 2 [a, b] _ rfl (by omega) (ints_new v5 [a, b] _)).mono ?_
          rintro e v6 ⟨rfl, rfl⟩
          go_wp2
          go_ret
          exact ⟨by simp, bel_trans K5 (bel_alloc _ _)⟩
      · have hpd : decide (0 < b) = false := decide_eq_false hp
        rw [hpd] at hdu
        clear HPo hpd
        by_cases hmx : x < 1000000000
        · have hbk := HBk.out hmx
          clear HBk HEa
          by_cases hx0 : 0 < x
          · go_wp2_with fail
            refine (implSince_any a x w6).mono ?_
            rw [hbk]
            rintro e w7 ⟨rfl, hb7⟩
            have k7 := bel_trans k6 hb7
            clear k6 hb7 hbk
            go_wp2_with fail
            refine (implDueAt_any a b x w7).mono ?_
            rw [hdu]
            rintro e w8 ⟨rfl, hb8⟩
            have k8 := bel_trans k7 hb8
            clear k7 hb8 hdu
            have K := k8
            clear k8
            go_wp2_with fail
            refine (implTickText_any a _ (Fin.out _ K).1).mono ?_
            rintro e v1 ⟨rfl, hv1⟩
            have K1 := bel_trans K hv1
            clear K hv1
            go_wp2_with fail
            refine (implParseTick_any _ v1 Hlen.out (Fin.out _ K1).1 (Fin.out _ K1).2).mono ?_
            rintro e v2 ⟨v, ok, rfl, hok, hv2⟩
            obtain ⟨rfl, rfl⟩ := HP.out.det hok
            have K2 := bel_trans K1 hv2
            clear K1 hv2 hok HP Fin Hlen
            go_wp2_with fail
            refine (implSumTicks_any _ 3 3 [a, b, 1] _ rfl (by omega) (ints_new v2 [a, b, 1] _)).mono ?_
            rw [H3.out]
            rintro e v3 ⟨rfl, hv3⟩
            have K3 := bel_trans (bel_trans K2 (bel_alloc _ _)) hv3
            clear K2 hv3
            go_wp2_with fail
            refine (implAddTick_any x 1 v3).mono ?_
            rintro e v4 ⟨rfl, hv4⟩
            have K4 := bel_trans K3 hv4
            clear K3 hv4
            go_wp2_with fail
            refine (implSoonestOf_any _ 3 3 [-1, a, b] _ rfl (by omega) (ints_new v4 [-1, a, b] _)).mono ?_
            rw [H2.out]
            rintro e v5 ⟨rfl, hv5⟩
            have K5 := bel_trans (bel_trans K4 (bel_alloc _ _)) hv5
            clear K4 hv5
            go_wp2_with fail
            refine (specSoonestOf_any _ 2 2 [a, b] _ rfl (by omega) (ints_new v5 [a, b] _)).mono ?_
            rintro e v6 ⟨rfl, rfl⟩
            go_wp2
            go_ret
            exact ⟨by simp, bel_trans K5 (bel_alloc _ _)⟩
          · go_wp2_with fail
            refine (implSince_any a x w6).mono ?_
            rw [hbk]
            rintro e w7 ⟨rfl, hb7⟩
            have k7 := bel_trans k6 hb7
            clear k6 hb7 hbk
            go_wp2_with fail
            refine (implDueAt_any a b x w7).mono ?_
            rw [hdu]
            rintro e w8 ⟨rfl, hb8⟩
            have k8 := bel_trans k7 hb8
            clear k7 hb8 hdu
            have K := k8
            clear k8
            go_wp2_with fail
            refine (implTickText_any a _ (Fin.out _ K).1).mono ?_
            rintro e v1 ⟨rfl, hv1⟩
            have K1 := bel_trans K hv1
            clear K hv1
            go_wp2_with fail
            refine (implParseTick_any _ v1 Hlen.out (Fin.out _ K1).1 (Fin.out _ K1).2).mono ?_
            rintro e v2 ⟨v, ok, rfl, hok, hv2⟩
            obtain ⟨rfl, rfl⟩ := HP.out.det hok
            have K2 := bel_trans K1 hv2
            clear K1 hv2 hok HP Fin Hlen
            go_wp2_with fail
            refine (implSumTicks_any _ 3 3 [a, b, 1] _ rfl (by omega) (ints_new v2 [a, b, 1] _)).mono ?_
            rw [H3.out]
            rintro e v3 ⟨rfl, hv3⟩
            have K3 := bel_trans (bel_trans K2 (bel_alloc _ _)) hv3
            clear K2 hv3
            go_wp2_with fail
            refine (implAddTick_any x 1 v3).mono ?_
            rintro e v4 ⟨rfl, hv4⟩
            have K4 := bel_trans K3 hv4
            clear K3 hv4
            go_wp2_with fail
            refine (implSoonestOf_any _ 3 3 [-1, a, b] _ rfl (by omega) (ints_new v4 [-1, a, b] _)).mono ?_
            rw [H2.out]
            rintro e v5 ⟨rfl, hv5⟩
            have K5 := bel_trans (bel_trans K4 (bel_alloc _ _)) hv5
            clear K4 hv5
            go_wp2_with fail
            refine (specSoonestOf_any _ 2 2 [a, b] _ rfl (by omega) (ints_new v5 [a, b] _)).mono ?_
            rintro e v6 ⟨rfl, rfl⟩
            go_wp2
            go_ret
            exact ⟨by simp, bel_trans K5 (bel_alloc _ _)⟩
        · clear HBk HEa
          have hx0 : 0 < x := by omega
          go_wp2_with fail
          refine (implDueAt_any a b x w6).mono ?_
          rw [hdu]
          rintro e w8 ⟨rfl, hb8⟩
          have k8 := bel_trans k6 hb8
          clear k6 hb8 hdu
          have K := k8
          clear k8
          go_wp2_with fail
          refine (implTickText_any a _ (Fin.out _ K).1).mono ?_
          rintro e v1 ⟨rfl, hv1⟩
          have K1 := bel_trans K hv1
          clear K hv1
          go_wp2_with fail
          refine (implParseTick_any _ v1 Hlen.out (Fin.out _ K1).1 (Fin.out _ K1).2).mono ?_
          rintro e v2 ⟨v, ok, rfl, hok, hv2⟩
          obtain ⟨rfl, rfl⟩ := HP.out.det hok
          have K2 := bel_trans K1 hv2
          clear K1 hv2 hok HP Fin Hlen
          go_wp2_with fail
          refine (implSumTicks_any _ 3 3 [a, b, 1] _ rfl (by omega) (ints_new v2 [a, b, 1] _)).mono ?_
          rw [H3.out]
          rintro e v3 ⟨rfl, hv3⟩
          have K3 := bel_trans (bel_trans K2 (bel_alloc _ _)) hv3
          clear K2 hv3
          go_wp2_with fail
          refine (implAddTick_any x 1 v3).mono ?_
          rintro e v4 ⟨rfl, hv4⟩
          have K4 := bel_trans K3 hv4
          clear K3 hv4
          go_wp2_with fail
          refine (implSoonestOf_any _ 3 3 [-1, a, b] _ rfl (by omega) (ints_new v4 [-1, a, b] _)).mono ?_
          rw [H2.out]
          rintro e v5 ⟨rfl, hv5⟩
          have K5 := bel_trans (bel_trans K4 (bel_alloc _ _)) hv5
          clear K4 hv5
          go_wp2_with fail
          refine (specSoonestOf_any _ 2 2 [a, b] _ rfl (by omega) (ints_new v5 [a, b] _)).mono ?_
          rintro e v6 ⟨rfl, rfl⟩
          go_wp2
          go_ret
          exact ⟨by simp, bel_trans K5 (bel_alloc _ _)⟩
    · have hq : (isT a && isT b) = false := by
        cases h1 : isT a <;> cases h2 : isT b <;> simp_all
      clear hab
      cases h1 : isT a
      · go_wp2_with (first | (go_at_call 8; with_reducible refine (specTickOk_any _ _).mono ?_; rintro e w' ⟨rfl, rfl⟩) | (go_at_call 9; with_reducible refine (implAddTick_any _ _ _).mono ?_; rintro e w2 ⟨rfl, hb2⟩) | (go_at_call 10; with_reducible refine (specAddTick_any _ _ _).mono ?_; rintro e w' ⟨rfl, rfl⟩))
        go_ret
        exact ⟨by simp, bel_trans hb1 hb2⟩
      · have h2 : isT b = false := by rw [h1] at hq; simpa using hq
        go_wp2_with (first | (go_at_call 8; with_reducible refine (specTickOk_any _ _).mono ?_; rintro e w' ⟨rfl, rfl⟩) | (go_at_call 9; with_reducible refine (implAddTick_any _ _ _).mono ?_; rintro e w2 ⟨rfl, hb2⟩) | (go_at_call 10; with_reducible refine (specAddTick_any _ _ _).mono ?_; rintro e w' ⟨rfl, rfl⟩))
        go_ret
        exact ⟨by simp, bel_trans hb1 hb2⟩
end Go.Proofs.YtjlebljcglicfaaDoor.Num
