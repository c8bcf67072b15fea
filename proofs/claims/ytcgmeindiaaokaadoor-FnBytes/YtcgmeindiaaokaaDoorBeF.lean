/- The law on bytes walked: decoding an encoded log returns it; of a truncated one the complete events come. -/
import Derived.Test.YtcgmeindiaaokaaDoorBeL
import Derived.Test.YtcgmeindiaaokaaDoorBdP
namespace Go.Proofs.YtcgmeindiaaokaaDoor.By
open Go.RowKit Go.Deep Base Rw

theorem drawPutLog_any (A : Option Addr) (n cap : Nat) (zs : List Int) (w : World) (hn : zs.length = n) (hs : n ≤ 1048576) (hb : isB zs) (h : BI w A zs) :
    Calls Tryd.prog 9 #[.slice A n cap] w (DrawnL w) := by
  have HD := Lib.hid (drawLog_any A n cap zs w hn hs hb h)
  clear hn hb h
  go_enter Tryd.func9, Tryd.ntmps9
  go_wp2_with fail
  refine HD.out.mono ?_
  rintro e w1 ⟨es, A1, c1, rfl, hv, hl, hc, hb⟩
  have HV := Lib.hid hv
  have HB := Lib.hid hb
  clear hv hb
  go_wp2
  go_ret
  exact ⟨es, A1, c1, rfl, HV.out, hl, hc, HB.out⟩

theorem EndL.none' {w w' : World} {log : List Ev} {e : Ending} (h : EndL w log e w') (hp : putL log = none) : ∃ A cap, e = .returned (.tuple #[.slice A 0 cap, .bool false]) ∧ Below w.heap.size w w' := by
  obtain ⟨A, cap, rfl, _, hb⟩ := h
  rw [hp]
  exact ⟨A, cap, rfl, hb⟩
theorem EndL.some' {w w' : World} {log : List Ev} {b : List Int} {e : Ending} (h : EndL w log e w') (hp : putL log = some b) : ∃ A cap, e = .returned (.tuple #[.slice A b.length cap, .bool true]) ∧ BV w' w.heap.size w'.heap.size A b ∧ Below w.heap.size w w' := by
  obtain ⟨A, cap, rfl, hv, hb⟩ := h
  rw [hp] at hv ⊢
  exact ⟨A, cap, rfl, hv, hb⟩
theorem EndC.some' {w w' : World} {log : List Ev} {b : List Int} {e : Ending} (h : EndC w log e w') (hp : putL log = some b) : ∃ A cap, e = .returned (.tuple #[.slice A b.length cap, .bool true]) ∧ BV w' w.heap.size w'.heap.size A b ∧ Below w.heap.size w w' ∧ b.length ≤ cap ∧ cap ≤ 9223372036854775807 := by
  obtain ⟨A, cap, rfl, hv, hb⟩ := h.1.some' hp
  exact ⟨A, cap, rfl, hv, hb, h.2 _ _ _ _ rfl⟩
theorem EndT.some' {w w' : World} {zs : List Int} {es : List Ev} {e : Ending} (h : EndT w zs e w') (hp : takeLog zs = some es) : ∃ A cap, e = .returned (.tuple #[.slice A es.length cap, .bool true]) ∧ EV w' w.heap.size w'.heap.size A es ∧ Below w.heap.size w w' := by
  obtain ⟨A, cap, rfl, hv, hb⟩ := h
  rw [hp] at hv ⊢
  exact ⟨A, cap, rfl, hv, hb⟩
theorem EndM.eq' {w w' : World} {zs : List Int} {es : List Ev} {m : Int} {e : Ending} (h : EndM w zs e w') (hp : most zs = (es, m)) : ∃ A cap, e = .returned (.tuple #[.slice A es.length cap, .int .i64 m]) ∧ EV w' w.heap.size w'.heap.size A es ∧ Below w.heap.size w w' := by
  obtain ⟨A, cap, rfl, hv, hb⟩ := h
  rw [hp] at hv ⊢
  exact ⟨A, cap, rfl, hv, hb⟩
theorem BI.take {w : World} {A : Option Addr} {zs : List Int} (h : BI w A zs) (k : Nat) : BI w A (zs.take k) := by
  intro hp
  rw [List.length_take] at hp
  obtain ⟨b, off, rfl, hc⟩ := h (by omega)
  refine ⟨b, off, rfl, fun i hi => ?_⟩
  rw [List.length_take] at hi
  rw [hc i (by omega)]
  simp [List.getD_eq_getElem?_getD, show i < k by omega]
theorem EI.take {w : World} {A : Option Addr} {es : List Ev} (h : EI w A es) (k : Nat) : EI w A (es.take k) := by
  intro hp
  rw [List.length_take] at hp
  obtain ⟨b, off, rfl, hc⟩ := h (by omega)
  refine ⟨b, off, rfl, fun i hi => ?_⟩
  rw [List.length_take] at hi
  have e : atE (es.take k) i = atE es i := by simp [atE, List.getD_eq_getElem?_getD, show i < k by omega]
  rw [e]
  exact hc i (by omega)
theorem add_none (a : Addr) : a.add 0 = a := by
  obtain ⟨b, o, s⟩ := a
  unfold Addr.add
  split <;> simp_all
theorem map_none (A : Option Addr) : A.map (fun x => x.add 0) = A := by
  cases A <;> simp [add_none]

set_option maxRecDepth 100000 in
set_option maxHeartbeats 8000000 in
theorem lawBytes (a0 : Option Addr) (len0 cap0 : Nat) (zs : List Int) (w : World) (hn : zs.length = len0) (hm : len0 ≤ 9223372036854775807) (hb : isB zs) (h : BI w a0 zs) (hs : ∃ pA pN pF, Snt pA pN pF w) :
    Calls Tryd.prog 3 #[.slice a0 len0 cap0] w fun e w' => e = .returned (.bool true) ∧ Below w.heap.size w w' := by
  obtain ⟨pA, pN, pF, hs⟩ := hs
  by_cases hbig : 1048576 < len0
  · clear h hs hb hn
    go_enter Tryd.func3, Tryd.ntmps3
    go_wp2_with fail
    refine (big_any a0 len0 cap0 w hm).mono ?_
    rw [decide_eq_true hbig]
    rintro e _ ⟨rfl, rfl⟩
    go_wp2
    go_ret
    exact ⟨rfl, Below.refl _ _⟩
  · have hm' : len0 ≤ 1048576 := by omega
    have HD := Lib.hid (drawPutLog_any a0 len0 cap0 zs w hn hm' hb h)
    have HA : Hid (∀ k W, k ≤ 1000 → BI W a0 zs → Calls Tryd.prog 17 #[.slice a0 len0 cap0, .int .i64 (k : Nat)] W fun e w' => (∃ x, e = .returned (.int .i64 x) ∧ 0 ≤ x ∧ x ≤ 255) ∧ W = w') := fun k W hk h => at_any a0 len0 cap0 zs k hk W hn hm' hb h
    have E0 := Lib.hid h
    have S0 := Lib.hid hs
    clear h hs hb hn
    go_enter Tryd.func3, Tryd.ntmps3
    go_wp2_with fail
    refine (big_any a0 len0 cap0 w hm).mono ?_
    rw [decide_eq_false hbig]
    rintro e _ ⟨rfl, rfl⟩
    go_wp2_with fail
    refine HD.out.mono ?_
    rintro e w1 ⟨es, AL, cL, rfl, vl, hl, hcl, b1⟩
    have B := Lib.hid b1
    have VL := Lib.hid vl.ei
    have z1 := b1.size
    obtain ⟨hcl0, hcl1⟩ := hcl
    clear HD b1 vl
    cases hp : putL es with
    | none =>
      have HPs := Lib.hid hp
      clear hp
      go_wp2_with fail
      refine (specPutLog_any AL es.length cL es w1 rfl (by omega) VL.out).mono ?_
      rintro e w2 he
      obtain ⟨A1, c1, rfl, b2⟩ := he.none' HPs.out
      have B2 := Lib.hid (bel_trans B.out b2)
      have V2 := Lib.hid (VL.out.below b2)
      clear he b2
      go_wp2_with fail
      refine (implPutLog_any AL es.length cL es w2 rfl (by omega) V2.out).mono ?_
      rintro e w3 he
      obtain ⟨A2, c2, rfl, b3⟩ := he.none' HPs.out
      have B3 := Lib.hid (bel_trans B2.out b3)
      have V3 := Lib.hid (V2.out.below b3)
      clear he b3
      go_wp2_with fail
      refine (sameB_any A2 A1 0 c2 c1 [] w3 rfl (by omega) (BI.nil _ _) (BI.nil _ _)).mono ?_
      rintro e w4 ⟨rfl, b4⟩
      have B4 := Lib.hid (bel_trans B3.out b4)
      have V4 := Lib.hid (V3.out.below b4)
      clear b4
      go_wp2_with fail
      refine (implSum_any AL es.length cL es w4 rfl (by omega) V4.out).mono ?_
      rintro e w5 ⟨rfl, b5⟩
      have B5 := Lib.hid (bel_trans B4.out b5)
      have V5 := Lib.hid (V4.out.below b5)
      clear b5
      go_wp2_with fail
      refine (specSum_any AL es.length cL es w5 rfl (by omega) V5.out).mono ?_
      rintro e w6 ⟨rfl, b6⟩
      have B6 := Lib.hid (bel_trans B5.out b6)
      clear b6
      generalize sumL es = sm
      go_wp2
      go_ret
      exact ⟨rfl, B6.out⟩
    | some b =>
      have HPs := Lib.hid hp
      have hb8 := (putL_some hp).2.2.1
      have HBb : Hid (isB b) := by show isB b; rw [(putL_some hp).1]; exact cat_bytes es
      clear hp
      go_wp2_with fail
      refine (specPutLog_any AL es.length cL es w1 rfl (by omega) VL.out).mono ?_
      rintro e w2 he
      obtain ⟨A1, c1, rfl, v, b2⟩ := he.some' HPs.out
      have B2 := Lib.hid (bel_trans B.out b2)
      have V2 := Lib.hid (VL.out.below b2)
      have Y2 := Lib.hid v.bi
      clear he b2 v
      go_wp2_with fail
      refine (implPutLogC_any AL es.length cL es w2 rfl (by omega) V2.out).mono ?_
      rintro e w3 he
      obtain ⟨A2, c2, rfl, v, b3, hc2, hc3⟩ := he.some' HPs.out
      have B3 := Lib.hid (bel_trans B2.out b3)
      have V3 := Lib.hid (V2.out.below b3)
      have Y3 := Lib.hid (Y2.out.below b3)
      have X3 := Lib.hid v.bi
      clear he b3 v
      go_wp2_with fail
      refine (sameB_any A2 A1 b.length c2 c1 b w3 rfl (by omega) X3.out Y3.out).mono ?_
      rintro e w4 ⟨rfl, b4⟩
      have B4 := Lib.hid (bel_trans B3.out b4)
      have V4 := Lib.hid (V3.out.below b4)
      have X4 := Lib.hid (X3.out.below b4)
      clear b4 Y2 Y3
      go_wp2_with fail
      refine (implSum_any AL es.length cL es w4 rfl (by omega) V4.out).mono ?_
      rintro e w5 ⟨rfl, b5⟩
      have B5 := Lib.hid (bel_trans B4.out b5)
      have V5 := Lib.hid (V4.out.below b5)
      have X5 := Lib.hid (X4.out.below b5)
      clear b5
      go_wp2_with fail
      refine (specSum_any AL es.length cL es w5 rfl (by omega) V5.out).mono ?_
      rintro e w6 ⟨rfl, b6⟩
      have B6 := Lib.hid (bel_trans B5.out b6)
      have V6 := Lib.hid (V5.out.below b6)
      have X6 := Lib.hid (X5.out.below b6)
      clear b6 V2 V3 V4 V5 X3 X4 X5 B2 B3 B4 B5
      generalize sumL es = sm
      go_wp2_with fail
      refine (implTakeLog_any A2 b.length c2 b pA pN pF w6 rfl (by omega) hc2 hc3 HBb.out X6.out (S0.out.below B6.out)).mono ?_
      rintro e w7 he
      obtain ⟨A3, c7, rfl, v, b7⟩ := he.some' (back HPs.out).2
      have B7 := Lib.hid (bel_trans B6.out b7)
      have V7 := Lib.hid (V6.out.below b7)
      have X7 := Lib.hid (X6.out.below b7)
      have Z7 := Lib.hid v.ei
      clear he b7 v
      go_wp2_with fail
      refine (sameE_any A3 AL es.length c7 cL es w7 rfl (by omega) Z7.out V7.out).mono ?_
      rintro e w8 ⟨rfl, b8⟩
      have B8 := Lib.hid (bel_trans B7.out b8)
      have V8 := Lib.hid (V7.out.below b8)
      have X8 := Lib.hid (X7.out.below b8)
      clear b8 Z7 V6 V7 X6 X7 B6 B7
      go_wp2_with fail
      refine (HA.out 0 _ (by omega) (E0.out.below B8.out)).mono ?_
      rintro e _ ⟨⟨x, rfl, x0, x1⟩, rfl⟩
      go_wp2_with fail
      refine (HA.out 1 _ (by omega) (E0.out.below B8.out)).mono ?_
      rintro e _ ⟨⟨y, rfl, y0, y1⟩, rfl⟩
      have hxy0 : 0 ≤ x * (1 + y) := Int.mul_nonneg x0 (by omega)
      have hxy1 : x * (1 + y) ≤ 255 * 256 := Int.mul_le_mul x1 (by omega) (by omega) (by omega)
      obtain ⟨kk, hkk⟩ : ∃ kk : Nat, x * (1 + y) % ((b.length : Int) + 1) = (kk : Int) := ⟨(x * (1 + y) % ((b.length : Int) + 1)).toNat, by
        have := Int.emod_nonneg (x * (1 + y)) (show (b.length : Int) + 1 ≠ 0 by omega)
        omega⟩
      have hkl : kk ≤ b.length := by
        have := Int.emod_lt_of_pos (x * (1 + y)) (show (0 : Int) < (b.length : Int) + 1 by omega)
        omega
      have hkt : (x * (1 + y)).tmod ((b.length : Int) + 1) = (kk : Int) := by rw [Int.tmod_eq_emod_of_nonneg hxy0, hkk]
      have hm2 := map_none A2
      have hm3 := map_none AL
      go_wp2_with fail
      clear hxy0 hxy1 hkk hkt x0 x1 y0 y1
      have HB' : Hid (isB (b.take kk)) := HBb.out.take kk
      refine (implMost_any A2 kk c2 (b.take kk) pA pN pF w8 (by rw [List.length_take]; omega) (by omega) (by omega) hc3 HB'.out (X8.out.take kk) (S0.out.below B8.out)).mono ?_
      rintro e w9 he
      obtain ⟨j, hj, hmo, hjc, hje, hpj⟩ := cut_back HPs.out hkl
      obtain ⟨A4, c9, rfl, v, b9⟩ := he.eq' hmo
      have B9 := Lib.hid (bel_trans B8.out b9)
      have V9 := Lib.hid (V8.out.below b9)
      have Z9 := Lib.hid v.ei
      have hjl : (es.take j).length = j := by rw [List.length_take]; omega
      have HPj := Lib.hid hpj
      have HVj : Hid (∀ W, EI W AL es → EI W AL (es.take j)) := fun W h => h.take j
      clear he b9 v hmo hpj X8 B8 V8 HB'
      generalize hjs : es.take j = js at hjc hje HPj HVj Z9 hjl
      generalize hcj : (cat js).length = nj at hjc hje
      have Hcj := Lib.hid hcj
      clear hjs hcj
      rw [hjl]
      have h1 : ¬ ((es.length : Int) < (j : Int)) := by omega
      have h2 : ¬ ((kk : Int) < (nj : Int)) := by omega
      go_wp2_with fail
      refine (sameE_any A4 AL j c9 cL js w9 hjl (by omega) Z9.out (HVj.out _ V9.out)).mono ?_
      rintro e w10 ⟨rfl, b10⟩
      have B10 := Lib.hid (bel_trans B9.out b10)
      have Z10 := Lib.hid (Z9.out.below b10)
      clear b10 B9 V9 Z9
      go_wp2_with fail
      refine (implPutLog_any A4 j c9 js w10 hjl (by omega) Z10.out).mono ?_
      rintro e w11 he
      obtain ⟨A5, c11, rfl, v, b11⟩ := he.some' HPj.out
      have B11 := Lib.hid (bel_trans B10.out b11)
      clear he b11 v
      rw [Hcj.out]
      by_cases hje' : j = es.length
      · have h3 : ((j : Int) == (es.length : Int)) = true := by simp [hje']
        clear hje hje'
        go_wp2
        go_ret
        exact ⟨rfl, B11.out⟩
      · have h3 : ((j : Int) == (es.length : Int)) = false := by simp; omega
        have h4 : (kk : Int) - (nj : Int) < 11 := by omega
        clear hje
        go_wp2
        go_ret
        exact ⟨rfl, B11.out⟩
end Go.Proofs.YtcgmeindiaaokaaDoor.By
