/- The program's moveDown. -/
import Derived.Test.YtnmhdbfemobhkaaUp4
import Derived.Test.YtnmhdbfemobhkaaUp2
namespace Go.Proofs.Ytnmhdbfemobhkaa.Hp
open Go.RowKit Go.Deep Base

theorem before_iff {a b : Du} : before a b = true ↔ a.at < b.at ∨ a.at = b.at ∧ a.seq < b.seq := by simp [before]
theorem before_trans {a b c : Du} (h1 : before a b = true) (h2 : before b c = true) : before a c = true := by rw [before_iff] at *; omega
theorem before_neg {a b c : Du} (h1 : before a b = false) (h2 : before b c = false) : before a c = false := by
  rw [← Bool.not_eq_true, before_iff] at *; omega

/-- The least of place k and its first i children. -/
def lstD (es : List Du) (k : Nat) : Nat → Nat
  | 0 => k
  | i + 1 => if before (es.getD (2 * k + 1 + i) zDu) (es.getD (lstD es k i) zDu) = true then 2 * k + 1 + i else lstD es k i
theorem lstD_lt {es : List Du} {k : Nat} (hk : k < es.length) : ∀ i, (i = 0 ∨ 2 * k + i < es.length) → lstD es k i < es.length
  | 0, _ => hk
  | i + 1, h => by
    unfold lstD
    split
    · omega
    · exact lstD_lt hk i (by omega)
theorem lstD_end {es : List Du} {k i : Nat} (hi : i ≤ 2) (h1 : i = 0 ∨ 2 * k + i < es.length) (h2 : i = 2 ∨ es.length ≤ 2 * k + 1 + i) :
    lstD es k i = if mustD es k = true then kid es k else k := by
  have hi' : i = 0 ∨ i = 1 ∨ i = 2 := by omega
  rcases hi' with rfl | rfl | rfl
  · have : mustD es k = false := by unfold mustD; rw [decide_eq_false (by omega)]; rfl
    rw [this]; rfl
  · have hk1 : kid es k = 2 * k + 1 := by unfold kid; rw [decide_eq_false (by omega)]; rfl
    have hm : mustD es k = before (es.getD (2 * k + 1) zDu) (es.getD k zDu) := by unfold mustD; rw [hk1, decide_eq_true (by omega)]; rfl
    rw [hm, hk1]
    rfl
  · have hk1 : kid es k = if before (es.getD (2 * k + 2) zDu) (es.getD (2 * k + 1) zDu) = true then 2 * k + 2 else 2 * k + 1 := by unfold kid; rw [decide_eq_true (by omega)]; rfl
    have hm : mustD es k = before (es.getD (kid es k) zDu) (es.getD k zDu) := by unfold mustD; rw [decide_eq_true (by omega)]; rfl
    rw [hm, hk1]
    show (if before (es.getD (2 * k + 1 + 1) zDu) (es.getD (if before (es.getD (2 * k + 1 + 0) zDu) (es.getD k zDu) = true then 2 * k + 1 + 0 else k) zDu) = true then 2 * k + 1 + 1 else (if before (es.getD (2 * k + 1 + 0) zDu) (es.getD k zDu) = true then 2 * k + 1 + 0 else k)) = _
    rw [show 2 * k + 1 + 1 = 2 * k + 2 from rfl, show 2 * k + 1 + 0 = 2 * k + 1 from rfl]
    cases h1 : before (es.getD (2 * k + 1) zDu) (es.getD k zDu)
    · simp only [Bool.false_eq_true, if_false]
      cases h2 : before (es.getD (2 * k + 2) zDu) (es.getD (2 * k + 1) zDu)
      · simp only [Bool.false_eq_true, if_false]
        rw [before_neg h2 h1, h1]
        rfl
      · simp only [if_true]
    · simp only [if_true]
      cases h2 : before (es.getD (2 * k + 2) zDu) (es.getD (2 * k + 1) zDu)
      · simp only [Bool.false_eq_true, if_false]
        rw [h1]
        rfl
      · simp only [if_true]
        rw [before_trans h2 h1]
        rfl

theorem kid_gt (es : List Du) (k : Nat) : k < kid es k := by unfold kid; split <;> omega
theorem kid_lt {es : List Du} {k : Nat} (h : mustD es k = true) : kid es k < es.length := by
  unfold mustD at h
  simp only [Bool.and_eq_true, decide_eq_true_eq] at h
  unfold kid
  split
  · next e => simp only [Bool.and_eq_true, decide_eq_true_eq] at e; exact e.1
  · exact h.1

set_option maxRecDepth 100000 in
set_option maxHeartbeats 2000000 in
theorem moveDown_any (b g n cap k0 : Nat) (ds : List Du) (w : World) (hn : ds.length = n) (hm : n ≤ 1048576) (hk : k0 < n) (ht : Tr w b (some ⟨g, 0, none⟩) n cap) (h : Rd w g ds) (hg : g < w.heap.size) (hbg : b ≠ g) :
    Calls Try.prog 87 #[.pointer (some ⟨b, 0, none⟩), .int .i64 (k0 : Int)] w fun e w' => e = .returned (.tuple #[]) ∧ Rd w' g (downD n ds k0) ∧ Tn g (g + 1) w w' := by
  have Hn := Lib.hid hn
  have HI := Lib.hid h
  have HT := Lib.hid ht
  clear hn h ht
  go_enter Try.func87, Try.ntmps87
  go_wp2
  go_loopw [1] (fun i wr => ∃ (k F : Nat) (es : List Du), i = .int .i64 k ∧ k < n ∧ n ≤ F + k ∧ downD n ds k0 = downD F es k ∧ es.length = n ∧ Rd wr g es ∧ Tn g (g + 1) w wr) (fun i _ => n - (intOf i).toNat)
  case atStart => exact ⟨k0, n, ds, rfl, hk, by omega, rfl, Hn.out, HI.out, Tn.of_below (Below.refl _ _)⟩
  case round =>
    obtain ⟨k, F, es, rfl, hkn, hkF, heq, hel, hrd, ht⟩ := hrel
    obtain ⟨wo, rfl⟩ : ∃ wo, wo = wr := ⟨_, rfl⟩
    have Heq := Lib.hid heq
    have Hel := Lib.hid hel
    have Hrd := Lib.hid hrd
    have Ht := Lib.hid ht
    clear heq hel hrd ht
    have hgr : g < wo.heap.size := Nat.lt_of_lt_of_le hg Ht.out.size
    have HTr := Lib.hid (HT.out.tn Ht.out hbg)
    have hk0' : (0 : Int) ≤ (k : Int) := by omega
    have hk1 : (k : Int) < (n : Int) := by omega
    have hwa : IntKind.i64.wrap (2 * (k : Int)) = 2 * (k : Int) := IntWalk.i64_in _ (by omega)
    obtain ⟨c1, hc1⟩ : ∃ c1 : Nat, 2 * k + 1 = c1 := ⟨_, rfl⟩
    have hc1i : 2 * (k : Int) + 1 = (c1 : Int) := by omega
    have hc2i : 2 * (k : Int) + 2 = ((c1 + 1 : Nat) : Int) := by omega
    have hwb : IntKind.i64.wrap (c1 : Int) = (c1 : Int) := IntWalk.i64_in _ (by omega)
    have hwc : IntKind.i64.wrap ((c1 + 1 : Nat) : Int) = ((c1 + 1 : Nat) : Int) := IntWalk.i64_in _ (by omega)
    have hc1b : c1 ≤ 2097153 := by omega
    have Hc1 := Lib.hid hc1
    clear hc1
    go_wp2_with fail
    go_loopw [4, 5] (fun l c wz => ∃ i : Nat, i ≤ 2 ∧ (i = 0 ∨ 2 * k + i < n) ∧ c = .int .i64 ((c1 + i : Nat) : Int) ∧ l = .int .i64 (lstD es k i) ∧ Below wo.heap.size wo wz) (fun _ c _ => c1 + 2 - (intOf c).toNat)
    case atStart => exact ⟨0, by omega, .inl rfl, rfl, rfl, Below.refl _ _⟩
    case round =>
      obtain ⟨i, hi2, hin, rfl, rfl, hb⟩ := hrel
      have Hb := Lib.hid hb
      clear hb
      have HTz := Lib.hid (HTr.out.below Hb.out)
      obtain ⟨t0, t1, _⟩ := HTz.out.cells
      have hbl := HTz.out.lt
      have hgz : g < wr.heap.size := Nat.lt_of_lt_of_le hgr Hb.out.size
      obtain ⟨j, hj⟩ : ∃ j : Nat, c1 + i = j := ⟨_, rfl⟩
      rw [hj]
      have hj0 : (0 : Int) ≤ (j : Int) := by omega
      have hll := lstD_lt (es := es) (k := k) (by rw [Hel.out]; exact hkn) i (by rw [Hel.out]; exact hin)
      rw [Hel.out] at hll
      by_cases hgo : i < 2 ∧ j < n
      · have hj1 : (j : Int) < (n : Int) := by omega
        have hjc : (j : Int) ≤ ((c1 + 1 : Nat) : Int) := by omega
        have hjd : decide ((j : Int) ≤ ((c1 + 1 : Nat) : Int)) = true := by simpa using hjc
        have hjd2 : decide (j ≤ c1 + 1) = true := by simp; omega
        have Hgo := Lib.hid hgo
        have Hj := Lib.hid hj
        have Hls : Hid (lstD es k (i + 1) = if before (es.getD j zDu) (es.getD (lstD es k i) zDu) = true then j else lstD es k i) := by
          show lstD es k (i + 1) = _
          conv => lhs; unfold lstD
          rw [Hc1.out, hj]
        clear hgo hj hin
        obtain ⟨l, hl⟩ : ∃ l, lstD es k i = l := ⟨_, rfl⟩
        rw [hl] at hll Hls ⊢
        clear hl
        have hl0 : (0 : Int) ≤ (l : Int) := by omega
        have hl1 : (l : Int) < (n : Int) := by omega
        have RZ := Lib.hid (Hrd.out.of_block (Hb.out.block g hgr))
        obtain ⟨q0, q1, q2, qf⟩ := RZ.out j (by have := Hel.out; omega)
        obtain ⟨r0, r1, r2, rf⟩ := RZ.out l (by have := Hel.out; omega)
        obtain ⟨dat, dseq, did, hd⟩ : ∃ a b c, es.getD j zDu = ⟨a, b, c⟩ := ⟨_, _, _, rfl⟩
        obtain ⟨pat, pseq, pid, hpd⟩ : ∃ a b c, es.getD l zDu = ⟨a, b, c⟩ := ⟨_, _, _, rfl⟩
        rw [hd] at q0 q1 q2 Hls
        rw [hpd] at r0 r1 r2 Hls
        dsimp only at q0 q1 q2 r0 r1 r2
        clear hd hpd
        have Hjw : Hid (((c1 + (i + 1) : Nat) : Int) = (j : Int) + 1) := by show ((c1 + (i + 1) : Nat) : Int) = (j : Int) + 1; have := Hj.out; omega
        go_wp2_with fail
        go_still_tail 18, (by kernel_rfl)
        change wpList _ _ _ _ _ wr.drew
        go_wp2_with fail
        refine (sooner_any dat dseq did pat pseq pid _).mono ?_
        rintro e w5 ⟨rfl, b5⟩
        have B5 := Lib.hid (bel_trans Hb.out (bel_of_drew b5))
        clear b5
        cases hbf : before ⟨dat, dseq, did⟩ ⟨pat, pseq, pid⟩
        · have Hl : Hid (lstD es k (i + 1) = l) := by rw [Hls.out, hbf]; rfl
          clear hbf
          go_wp2
          go_roundw
          case rel => exact ⟨i + 1, by have := Hgo.out; omega, .inr (by have := Hgo.out; have := Hj.out; have := Hc1.out; omega), by rw [Hjw.out], by rw [Hl.out], B5.out⟩
          case measure => have := Hgo.out; have := Hj.out; simp [intOf]; omega
        · have Hl : Hid (lstD es k (i + 1) = j) := by rw [Hls.out, hbf]; rfl
          clear hbf
          go_wp2
          go_roundw
          case rel => exact ⟨i + 1, by have := Hgo.out; omega, .inr (by have := Hgo.out; have := Hj.out; have := Hc1.out; omega), by rw [Hjw.out], by rw [Hl.out], B5.out⟩
          case measure => have := Hgo.out; have := Hj.out; simp [intOf]; omega
      · have Hend := Lib.hid (lstD_end (es := es) (k := k) hi2 (by rw [Hel.out]; exact hin) (by rw [Hel.out]; have := Hc1.out; omega))
        obtain ⟨l, hl⟩ : ∃ l, lstD es k i = l := ⟨_, rfl⟩
        rw [hl] at hll Hend ⊢
        clear hl
        have hl0 : (0 : Int) ≤ (l : Int) := by omega
        have hl1 : (l : Int) < (n : Int) := by omega
        have hstop : Hid (n ≤ j ∨ c1 + 1 < j) := by show n ≤ j ∨ c1 + 1 < j; omega
        clear hgo hj
        obtain ⟨hA, hB⟩ : ((decide ((j : Int) ≤ ((c1 + 1 : Nat) : Int)) = true ∧ ¬ (j : Int) < (n : Int)) ∨ (decide ((j : Int) ≤ ((c1 + 1 : Nat) : Int)) = false)) ∧ True := by
          have := hstop.out
          refine ⟨?_, trivial⟩
          by_cases hx : (j : Int) ≤ ((c1 + 1 : Nat) : Int)
          · exact .inl ⟨by simpa using hx, by omega⟩
          · exact .inr (by simpa using hx)
        clear hB
        cases hmu : mustD es k
        · have hlk : l = k := by have := Hend.out; rw [hmu] at this; exact this
          subst hlk
          have Hmu := Lib.hid hmu
          clear hmu
          rcases hA with ⟨hA1, hA2⟩ | hA
          · have hA3 : (j : Int) ≤ ((c1 + 1 : Nat) : Int) := by simpa using hA1
            go_wp2
            refine bodyPost_ret (results_none rfl _ _ _) rfl ?_
            exact ⟨rfl, by rw [Heq.out, downD_stop Hmu.out]; exact Hrd.out.of_block (Hb.out.block g hgr), Ht.out.trans (Tn.of_below Hb.out)⟩
          · have hA3 : ¬ (j : Int) ≤ ((c1 + 1 : Nat) : Int) := by simpa using hA
            go_wp2
            refine bodyPost_ret (results_none rfl _ _ _) rfl ?_
            exact ⟨rfl, by rw [Heq.out, downD_stop Hmu.out]; exact Hrd.out.of_block (Hb.out.block g hgr), Ht.out.trans (Tn.of_below Hb.out)⟩
        · have hlk : l = kid es k := by have := Hend.out; rw [hmu] at this; exact this
          have hkl : k < l := by rw [hlk]; exact kid_gt es k
          have Hlk := Lib.hid hlk
          have Hmu := Lib.hid hmu
          clear hmu hlk
          have hne : ((l : Int) == (k : Int)) = false := by simp; omega
          have hne2 : ¬ (l : Int) = (k : Int) := by omega
          have HX : Hid (∀ W, Below wr.heap.size wr W → Calls Try.prog 85 #[.pointer (some ⟨b, 0, none⟩), .int .i64 (k : Int), .int .i64 (l : Int)] W fun e w' => e = .returned (.tuple #[]) ∧ Rd w' g (swapD es k l) ∧ Tn g (g + 1) W w') := fun W hW =>
            exchange_any b g n cap k l es W Hel.out hkn (by omega) (HTz.out.below hW) ((Hrd.out.of_block (Hb.out.block g hgr)).of_block (hW.block g hgz)) hbg
          rcases hA with ⟨hA1, hA2⟩ | hA
          · have hA3 : (j : Int) ≤ ((c1 + 1 : Nat) : Int) := by simpa using hA1
            go_wp2_with fail
            refine (HX.out _ (Below.refl _ _)).mono ?_
            rintro e w6 ⟨rfl, rd6, t6⟩
            have R6 := Lib.hid rd6
            have T6 := Lib.hid ((Ht.out.trans (Tn.of_below Hb.out)).trans t6)
            clear rd6 t6
            go_wp2
            go_roundw
            case rel =>
              obtain ⟨F', rfl⟩ : ∃ F', F = F' + 1 := ⟨F - 1, by omega⟩
              exact ⟨l, F', swapD es k l, rfl, by omega, by omega, by rw [Heq.out, downD_go Hmu.out, Hlk.out], by rw [swapD_len]; exact Hel.out, R6.out, T6.out⟩
            case measure => simp [intOf]; omega
          · have hA3 : ¬ (j : Int) ≤ ((c1 + 1 : Nat) : Int) := by simpa using hA
            go_wp2_with fail
            refine (HX.out _ (Below.refl _ _)).mono ?_
            rintro e w6 ⟨rfl, rd6, t6⟩
            have R6 := Lib.hid rd6
            have T6 := Lib.hid ((Ht.out.trans (Tn.of_below Hb.out)).trans t6)
            clear rd6 t6
            go_wp2
            go_roundw
            case rel =>
              obtain ⟨F', rfl⟩ : ∃ F', F = F' + 1 := ⟨F - 1, by omega⟩
              exact ⟨l, F', swapD es k l, rfl, by omega, by omega, by rw [Heq.out, downD_go Hmu.out, Hlk.out], by rw [swapD_len]; exact Hel.out, R6.out, T6.out⟩
            case measure => simp [intOf]; omega
end Go.Proofs.Ytnmhdbfemobhkaa.Hp
