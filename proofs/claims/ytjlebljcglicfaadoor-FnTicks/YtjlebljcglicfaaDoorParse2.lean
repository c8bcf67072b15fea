/- The model's ParseTick owes and gives the same as the program's; the law of ParseTick. -/
import Derived.Test.YtjlebljcglicfaaDoorParse1
import Derived.Test.YtjlebljcglicfaaDoorParts1
import Derived.Test.YtjlebljcglicfaaDoorRead1
namespace Go.Proofs.YtjlebljcglicfaaDoor.Num
open Go.RowKit Base Tick Parts

theorem parts_none (c : UInt8) (l : List UInt8) (h : ∀ b ∈ l, b ≠ c) : parts c l = [l] := by
  induction l with
  | nil => rfl
  | cons b r ih =>
    unfold parts
    rw [if_neg (h b (by simp)), ih (fun x hx => h x (by simp [hx]))]
    rfl

theorem parts_two (c : UInt8) (l r : List UInt8) (hl : ∀ b ∈ l, b ≠ c) (hr : ∀ b ∈ r, b ≠ c) : parts c (l ++ c :: r) = [l, r] := by
  induction l with
  | nil =>
    show parts c (c :: r) = [[], r]
    unfold parts
    rw [if_pos rfl, parts_none c r hr]
  | cons b t ih =>
    show parts c (b :: (t ++ c :: r)) = [b :: t, r]
    unfold parts
    rw [if_neg (hl b (by simp)), ih (fun x hx => hl x (by simp [hx]))]
    rfl

theorem digit_ne {b : UInt8} (h : 48 ≤ b.toNat ∧ b.toNat ≤ 57) : b ≠ 46 := by
  rintro rfl; revert h; decide

theorem parts_tick (m : Nat) : parts 46 (tickL m) = [Lib.decDigits (m / 1000), frac (m % 1000)] :=
  parts_two 46 _ _ (fun b hb => digit_ne (digits_mem _ b hb)) (fun b hb => digit_ne (frac_mem _ (by omega) b hb))

theorem readT_digits (q : Nat) (h : q ≤ 1000000) : readT (Lib.decDigits q) = ((q : Int), true) := by
  have hp := digits_len_pos q
  have hl := digits_len_le 6 q (by simp only [Nat.reduceAdd, Nat.reducePow]; omega)
  have hh : (Lib.decDigits q).head? ≠ some 45 := by
    intro h
    have hm := List.mem_of_head? h
    have := digits_mem q 45 hm
    revert this; decide
  have hu : unsign (Lib.decDigits q) = Lib.decDigits q := if_neg hh
  have hs : signed (Lib.decDigits q) q = (q : Int) := if_neg hh
  rw [readT_some (m := q) (by rw [hu]; omega) (by rw [hu]; omega) (by rw [hu]; exact decFrom_digits q), hs, Lib.itoa_nonneg]
  simp

theorem readT_bd (l : List UInt8) : -10000000000 < (readT l).1 ∧ (readT l).1 < 10000000000 := by
  unfold readT
  split
  · split
    · simp
    · next h _ m hm =>
      have := decFrom_lt10 hm h.2
      unfold signed
      split <;> simp <;> omega
  · simp

theorem two_of_parts {l : List UInt8} {ss : List ByteArray} (hp : ss.map (·.data.toList) = parts 46 l) {m : Nat} (h : tickL m = l) :
    ∃ p0 p1, ss = [p0, p1] ∧ p0.data.toList = Lib.decDigits (m / 1000) ∧ p1.data.toList = frac (m % 1000) := by
  rw [← h, parts_tick] at hp
  have hl : ss.length = 2 := by simpa using congrArg List.length hp
  match ss, hl, hp with
  | [p0, p1], _, hp =>
    simp only [List.map_cons, List.map_nil, List.cons.injEq, and_true] at hp
    exact ⟨p0, p1, rfl, hp.1, hp.2⟩

theorem tick_sum {hi : Int} {m q : Nat} (h1 : hi = ((q / 1000 : Nat) : Int)) (h3 : 0 * 1000 + q % 1000 = m) : 1000 * hi + (m : Int) = (q : Int) := by
  rw [Nat.zero_mul, Nat.zero_add] at h3
  have h4 := Nat.div_add_mod q 1000
  rw [h3] at h4
  generalize q / 1000 = d at h1 h4
  omega

theorem parts_len (c : UInt8) (l : List UInt8) : ∀ p ∈ parts c l, p.length ≤ l.length := by
  induction l with
  | nil => intro p hp; simp [parts] at hp; subst hp; simp
  | cons b r ih =>
    intro p hp
    unfold parts at hp
    split at hp
    · rcases List.mem_cons.1 hp with rfl | hp
      · simp
      · have := ih p hp; simp; omega
    · cases h : parts c r with
      | nil => exact absurd h (parts_ne c r)
      | cons q qs =>
        rw [h] at hp
        rcases List.mem_cons.1 hp with rfl | hp
        · have := ih q (by rw [h]; simp); simp; omega
        · have := ih p (by rw [h]; simp [hp]); simp; omega

theorem ParseOk.no {l : List UInt8} (h : ∀ m : Nat, m ≤ 1000000000 → tickL m ≠ l) : ParseOk l 0 false := .inr ⟨rfl, rfl, h⟩

set_option maxHeartbeats 1600000 in
theorem specParseTick_any (s : ByteArray) (w : World) (hs : s.size ≤ 1048576) : Calls Tryd.prog 20 #[.string s] w (Pair w (ParseOk s.data.toList)) := by
  by_cases h12 : 12 < s.size
  · have HP : Hid (ParseOk s.data.toList 0 false) := ParseOk.no_len (.inr (by rw [Array.length_toList]; show 11 < s.size; omega))
    go_enter Tryd.func20, Tryd.ntmps20
    go_wp2
    go_ret2
    exact ⟨0, false, rfl, HP.out, Below.refl _ _⟩
  · have hd12 : decide (12 < (s.size : Int)) = false := by simp; omega
    go_enter Tryd.func20, Tryd.ntmps20
    go_wp2_with fail
    refine (parts_any s 46 46 w rfl hs).mono ?_
    rintro e w1 ⟨A, n, cap, ss, rfl, hn, hnl, hS, hp, hb1⟩
    have HS := Lib.hid hS
    have HN := Lib.hid hn
    have HPp := Lib.hid hp
    clear hS hn hp
    by_cases hn2 : n = 2
    · obtain ⟨p0, p1, rfl⟩ : ∃ p0 p1, ss = [p0, p1] := by
        have := HN.out
        match ss, (show ss.length = 2 by omega) with
        | [p0, p1], _ => exact ⟨p0, p1, rfl⟩
      subst hn2
      have HT : Hid (∀ m : Nat, tickL m = s.data.toList → p0.data.toList = Lib.decDigits (m / 1000) ∧ p1.data.toList = frac (m % 1000)) := fun m h => by
        obtain ⟨q0, q1, e, h0, h1⟩ := two_of_parts HPp.out h
        injection e with e0 e1
        injection e1 with e1 _
        subst e0 e1
        exact ⟨h0, h1⟩
      have hpos : 0 < s.data.toList.length := by
        rcases Nat.eq_zero_or_pos s.data.toList.length with h | h
        · have h2 := HPp.out
          rw [List.eq_nil_of_length_eq_zero h] at h2
          simp [parts] at h2
        · exact h
      have hz0 : p0.size ≤ 1048576 := by
        have hm : p0.data.toList ∈ parts 46 s.data.toList := by rw [← HPp.out]; simp
        have h1 := parts_len 46 _ _ hm
        rw [Array.length_toList, Array.length_toList] at h1
        have h2 : p0.data.size = p0.size := rfl
        have h3 : s.data.size = s.size := rfl
        omega
      have Hpos := Lib.hid hpos
      clear hpos
      obtain ⟨g, off, rfl, hc⟩ := HS.out (by simp)
      have hc0 : w1.cell? ⟨g, off, none⟩ = some (.string p0) := hc 0 (by simp)
      have hc1 : w1.cell? ⟨g, off + 1, none⟩ = some (.string p1) := hc 1 (by simp)
      clear hc HS HN HPp hnl
      by_cases h3 : p1.size = 3
      · go_wp2_with fail
        refine (read_any p0 w1 hz0).mono ?_
        rintro e w2 ⟨rfl, hb2⟩
        have hbd := readT_bd p0.data.toList
        obtain ⟨bd0, bd1⟩ := hbd
        have hc1' : w2.cell? ⟨g, off + 1, none⟩ = some (.string p1) := (hb2.cell (World.block_lt_of_cell? _ _ hc1)).trans hc1
        clear hc0 hc1
        have HH : Hid (∀ m : Nat, m ≤ 1000000000 → tickL m = s.data.toList → (readT p0.data.toList).1 = ((m / 1000 : Nat) : Int) ∧ (readT p0.data.toList).2 = true) := fun m hm h => by
          rw [(HT.out m h).1, readT_digits _ (by omega)]
          exact ⟨rfl, rfl⟩
        generalize (readT p0.data.toList).1 = hi at bd0 bd1 HH ⊢
        generalize (readT p0.data.toList).2 = ok at HH ⊢
        cases ok
        · have HP : Hid (ParseOk s.data.toList 0 false) := ParseOk.no fun m hm h => by
            have := (HH.out m hm h).2
            cases this
          go_wp2
          go_ret2
          exact ⟨0, false, rfl, HP.out, bel_trans hb1 hb2⟩
        · go_wp2
          go_loop [7, 8] (fun x i => ∃ k m : Nat, k ≤ 3 ∧ i = .int .i64 k ∧ x = .int .i64 m ∧ m < 10000000000 ∧ Lib.decFrom 0 (p1.data.toList.take k) = some m) (fun _ i => 3 - (intOf i).toNat)
          case atStart => exact ⟨0, 0, Nat.zero_le _, rfl, rfl, by omega, rfl⟩
          case round =>
            obtain ⟨k, m, hk, rfl, rfl, hm, hdec⟩ := hrel
            have Hdec := Lib.hid hdec
            clear hdec
            by_cases hlt : k < 3
            · have hkp : k < p1.size := by omega
              have hkl : k < p1.data.toList.length := by rw [Array.length_toList]; exact hkp
              have Hg : Hid (p1.data.toList[k] = p1[k]) := rfl
              have hbad : Hid (p1.data.toList[k].toNat < 48 ∨ 57 < p1.data.toList[k].toNat → ParseOk s.data.toList 0 false) := fun hb => ParseOk.no fun q hq h => by
                have h1 := decFrom_bad hkl hb
                rw [(HT.out q h).2, decFrom_frac _ _ (by omega)] at h1
                cases h1
              by_cases h0 : (p1[k].toNat : Int) < 48
              · go_wp2
                go_ret2
                exact ⟨0, false, rfl, hbad.out (by rw [Hg.out]; omega), bel_trans hb1 hb2⟩
              · by_cases h1 : 57 < (p1[k].toNat : Int)
                · go_wp2
                  go_ret2
                  exact ⟨0, false, rfl, hbad.out (by rw [Hg.out]; omega), bel_trans hb1 hb2⟩
                · have HS : Hid (Lib.decFrom 0 (p1.data.toList.take (k + 1)) = some (m * 10 + (p1[k].toNat - 48))) := by
                    have := decFrom_next hkl Hdec.out (by rw [Hg.out]; omega) (by rw [Hg.out]; omega)
                    rw [Hg.out] at this
                    exact this
                  have HB := Lib.hid (decFrom_lt10 HS.out (by rw [List.length_take]; omega))
                  have h2 : (p1[k].toNat : Int) ≤ 57 := by omega
                  have h3 : 48 ≤ (p1[k].toNat : Int) := by omega
                  go_wp2
                  go_round
                  case rel => exact ⟨k + 1, m * 10 + (p1[k].toNat - 48), by omega, by go_num, val_eq (by omega), HB.out, HS.out⟩
                  case measure => simp [intOf]; omega
            · have hfull : p1.data.toList.take k = p1.data.toList := List.take_of_length_le (by rw [Array.length_toList]; show p1.size ≤ k; omega)
              have HD : Hid (Lib.decFrom 0 p1.data.toList = some m) := by
                have := Hdec.out
                rw [hfull] at this
                exact this
              clear hfull
              have HE : Hid (∀ q : Nat, q ≤ 1000000000 → tickL q = s.data.toList → textT (1000 * hi + (m : Int)) = s.data.toList) := fun q hq h => by
                have h1 := (HH.out q hq h).1
                have h2 := HD.out
                rw [(HT.out q h).2, decFrom_frac _ _ (by omega)] at h2
                have h3 : 0 * 1000 + q % 1000 = m := Option.some.inj h2
                have h4 := tick_sum h1 h3
                rw [h4, textT_nat q hq, h]
              have Hc := Lib.hid (specTickText_any (1000 * hi + (m : Int)) w2)
              have hlen := textT_len (1000 * hi + (m : Int))
              by_cases hx : textT (1000 * hi + (m : Int)) = s.data.toList
              · have HP : Hid (ParseOk s.data.toList (1000 * hi + (m : Int)) true) := by
                  have := textT_tick hx Hpos.out
                  exact .inl ⟨rfl, this.1, this.2⟩
                generalize textT (1000 * hi + (m : Int)) = X at hx Hc hlen HE
                subst hx
                go_wp2_with fail
                refine Hc.out.mono ?_
                rintro e w3 ⟨rfl, hb3⟩
                go_wp2
                go_ret2
                exact ⟨_, true, rfl, HP.out, bel_trans (bel_trans hb1 hb2) hb3⟩
              · have HP : Hid (ParseOk s.data.toList 0 false) := ParseOk.no fun q hq h => hx (HE.out q hq h)
                have hx1 : (textT (1000 * hi + (m : Int)) == s.toList) = false := by rw [ByteArray.toList_eq, beq_eq_false_iff_ne]; exact hx
                clear hx HE
                generalize textT (1000 * hi + (m : Int)) = X at hx1 Hc hlen
                go_wp2_with fail
                refine Hc.out.mono ?_
                rintro e w3 ⟨rfl, hb3⟩
                go_wp2
                go_ret2
                exact ⟨0, false, rfl, HP.out, bel_trans (bel_trans hb1 hb2) hb3⟩
      · have HP : Hid (ParseOk s.data.toList 0 false) := ParseOk.no fun m _ h => by
          have := congrArg List.length (HT.out m h).2
          rw [frac_len, Array.length_toList] at this
          exact h3 this
        have hne3 : ((p1.size : Int) == 3) = false := by simp; omega
        clear h3
        go_wp2
        go_ret2
        exact ⟨0, false, rfl, HP.out, hb1⟩
    · have HP : Hid (ParseOk s.data.toList 0 false) := ParseOk.no fun m _ h => by
        obtain ⟨q0, q1, e, _, _⟩ := two_of_parts HPp.out h
        have := HN.out
        rw [e] at this
        exact hn2 this.symm
      have hne2 : ((n : Int) == 2) = false := by simp; omega
      have hne2' : ((n : Int) != 2) = true := by simp; omega
      clear hn2
      go_wp2
      go_ret2
      exact ⟨0, false, rfl, HP.out, hb1⟩

theorem lawParseTick (s : ByteArray) (w : World) (hm : s.size ≤ maxLen) (ht : Tab w) (he : Es w) : Calls Tryd.prog 5 #[.string s] w fun e w' => e = .returned (.bool true) ∧ Below w.heap.size w w' := by
  have Ht := Lib.hid ht
  have He := Lib.hid he
  have Hm := Lib.hid hm
  unfold maxLen at hm
  clear ht he
  by_cases hs : 1048576 < s.size
  · go_enter Tryd.func5, Tryd.ntmps5
    go_wp2
    go_ret
    exact ⟨rfl, Below.refl _ _⟩
  · go_enter Tryd.func5, Tryd.ntmps5
    go_wp2_with fail
    refine (specParseTick_any s w (by omega)).mono ?_
    rintro e w1 ⟨v, b, rfl, hv, hb1⟩
    have HV := Lib.hid hv
    clear hv
    go_wp2_with fail
    refine (implParseTick_any s w1 Hm.out (Ht.out.below hb1) (He.out.below hb1)).mono ?_
    rintro e w2 ⟨v', b', rfl, hv', hb2⟩
    obtain ⟨rfl, rfl⟩ := HV.out.det hv'
    clear hv' HV
    cases b
    all_goals
      go_wp2
      go_ret
      exact ⟨rfl, bel_trans hb1 hb2⟩
end Go.Proofs.YtjlebljcglicfaaDoor.Num
