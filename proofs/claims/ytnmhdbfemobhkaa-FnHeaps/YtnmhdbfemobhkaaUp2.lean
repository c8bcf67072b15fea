/- An item moved down: the mathematics, and the reference's walk. -/
import Derived.Test.YtnmhdbfemobhkaaUp1
namespace Go.Proofs.Ytnmhdbfemobhkaa.Hp
open Go.RowKit Go.Deep Base

/-- The child that comes first. -/
def kid (es : List Du) (k : Nat) : Nat := if (decide (2 * k + 2 < es.length) && before (es.getD (2 * k + 2) zDu) (es.getD (2 * k + 1) zDu)) = true then 2 * k + 2 else 2 * k + 1
def mustD (es : List Du) (k : Nat) : Bool := decide (2 * k + 1 < es.length) && before (es.getD (kid es k) zDu) (es.getD k zDu)
/-- The item at k moved down, with fuel. -/
def downD : Nat → List Du → Nat → List Du
  | 0, es, _ => es
  | F + 1, es, k => if mustD es k = true then downD F (swapD es k (kid es k)) (kid es k) else es
theorem downD_stop {F : Nat} {es : List Du} {k : Nat} (h : mustD es k = false) : downD F es k = es := by
  cases F with
  | zero => rfl
  | succ F => unfold downD; rw [if_neg (by rw [h]; simp)]
theorem downD_go {F : Nat} {es : List Du} {k : Nat} (h : mustD es k = true) : downD (F + 1) es k = downD F (swapD es k (kid es k)) (kid es k) := by
  conv => lhs; unfold downD
  rw [if_pos h]
theorem downD_len : ∀ (F : Nat) (es : List Du) (k : Nat), (downD F es k).length = es.length
  | 0, _, _ => rfl
  | F + 1, es, k => by
    unfold downD
    split
    · rw [downD_len F, swapD_len]
    · rfl

set_option maxRecDepth 100000 in
set_option maxHeartbeats 2000000 in
theorem specDown_any (g n cap k0 : Nat) (ds : List Du) (w : World) (hn : ds.length = n) (hm : n ≤ 1048576) (hk : k0 < n) (h : Rd w g ds) (hg : g < w.heap.size) :
    Calls Try.prog 71 #[.slice (some ⟨g, 0, none⟩) n cap, .int .i64 (k0 : Int)] w fun e w' => e = .returned (.tuple #[]) ∧ Rd w' g (downD n ds k0) ∧ Tn g (g + 1) w w' := by
  have Hn := Lib.hid hn
  have HI := Lib.hid h
  clear hn h
  go_enter Try.func71, Try.ntmps71
  go_wp2
  go_loopw [1] (fun i wr => ∃ (k F : Nat) (es : List Du), i = .int .i64 k ∧ k < n ∧ n ≤ F + k ∧ downD n ds k0 = downD F es k ∧ es.length = n ∧ Rd wr g es ∧ Tn g (g + 1) w wr) (fun i _ => n - (intOf i).toNat)
  case atStart => exact ⟨k0, n, ds, rfl, hk, by omega, rfl, Hn.out, HI.out, Tn.of_below (Below.refl _ _)⟩
  case round =>
    obtain ⟨k, F, es, rfl, hkn, hkF, heq, hel, hrd, ht⟩ := hrel
    have Heq := Lib.hid heq
    have Hel := Lib.hid hel
    have Hrd := Lib.hid hrd
    have Ht := Lib.hid ht
    clear heq hel hrd ht
    have hgr : g < wr.heap.size := Nat.lt_of_lt_of_le hg Ht.out.size
    have hk0' : (0 : Int) ≤ (k : Int) := by omega
    have hk1 : (k : Int) < (n : Int) := by omega
    have hwa : IntKind.i64.wrap (2 * (k : Int)) = 2 * (k : Int) := IntWalk.i64_in _ (by omega)
    obtain ⟨c1, hc1⟩ : ∃ c1 : Nat, 2 * k + 1 = c1 := ⟨_, rfl⟩
    have hc1i : 2 * (k : Int) + 1 = (c1 : Int) := by omega
    have hwb : IntKind.i64.wrap (c1 : Int) = (c1 : Int) := IntWalk.i64_in _ (by omega)
    have Hc1 := Lib.hid hc1
    clear hc1
    by_cases hlt : c1 < n
    · have hc1n : ¬ (n : Int) ≤ (c1 : Int) := by omega
      have hkl : k < c1 := by have := Hc1.out; omega
      obtain ⟨c2, hc2⟩ : ∃ c2 : Nat, c1 + 1 = c2 := ⟨_, rfl⟩
      have hc2i : (c1 : Int) + 1 = (c2 : Int) := by omega
      have hwc : IntKind.i64.wrap (c2 : Int) = (c2 : Int) := IntWalk.i64_in _ (by omega)
      have Hc2 := Lib.hid hc2
      have hkl2 : k < c2 := by omega
      clear hc2
      have hci0 : (0 : Int) ≤ (c1 : Int) := by omega
      have hci1 : (c1 : Int) < (n : Int) := by omega
      by_cases hl2 : c2 < n
      · have hl2d : decide ((c2 : Int) < (n : Int)) = true := by simp; omega
        have hdi0 : (0 : Int) ≤ (c2 : Int) := by omega
        have hdi1 : (c2 : Int) < (n : Int) := by omega
        obtain ⟨a0, a1, a2, _⟩ := Hrd.out c1 (by have := Hel.out; omega)
        obtain ⟨b0, b1, b2, _⟩ := Hrd.out c2 (by have := Hel.out; omega)
        obtain ⟨xat, xseq, xid, hx⟩ : ∃ a b c, es.getD c1 zDu = ⟨a, b, c⟩ := ⟨_, _, _, rfl⟩
        obtain ⟨yat, yseq, yid, hy⟩ : ∃ a b c, es.getD c2 zDu = ⟨a, b, c⟩ := ⟨_, _, _, rfl⟩
        rw [hx] at a0 a1 a2
        rw [hy] at b0 b1 b2
        dsimp only at a0 a1 a2 b0 b1 b2
        have Hx := Lib.hid hx
        have Hy := Lib.hid hy
        clear hx hy
        go_wp2_with fail
        refine wp_region_still_tail 15 (by kernel_rfl) (by kernel_rfl) ?_
        simp only [List.take_succ_cons, List.take_zero, List.drop_succ_cons, List.drop_zero]
        repeat still_step
        refine wpStill_nil ?_
        change wpList _ _ _ _ _ wr.drew
        go_wp2_with fail
        refine (specBefore_any yat yseq yid xat xseq xid _).mono ?_
        rintro e w4 ⟨rfl, b4⟩
        have B4 := Lib.hid (bel_of_drew b4)
        clear b4 a0 a1 a2 b0 b1 b2
        cases hbb : before ⟨yat, yseq, yid⟩ ⟨xat, xseq, xid⟩
        · have Hkd : Hid (kid es k = c1) := by
            show kid es k = c1
            unfold kid
            rw [show 2 * k + 2 = c2 from by have := Hc1.out; have := Hc2.out; omega, Hc1.out, Hx.out, Hy.out, hbb]; simp
          clear hbb
          go_wp2_with fail
          obtain ⟨WW, hWW⟩ : ∃ WW, w4 = WW := ⟨_, rfl⟩
          have BW : Hid (Below wr.heap.size wr WW) := by rw [← hWW]; exact B4.out
          have Hkid : Hid (kid es k = c1) := Hkd.out
          rw [hWW]
          clear hWW
          have hzw : wr.heap.size ≤ WW.heap.size := BW.out.size
          have RW := Lib.hid (Hrd.out.of_block (BW.out.block g hgr))
          obtain ⟨k0c, k1c, k2c, kf⟩ := RW.out k (by have := Hel.out; omega)
          obtain ⟨m0c, m1c, m2c, _⟩ := RW.out c1 (by have := Hel.out; omega)
          obtain ⟨dat, dseq, did, hd⟩ : ∃ a b c, es.getD k zDu = ⟨a, b, c⟩ := ⟨_, _, _, rfl⟩
          obtain ⟨pat, pseq, pid, hpd⟩ : ∃ a b c, es.getD c1 zDu = ⟨a, b, c⟩ := ⟨_, _, _, rfl⟩
          rw [hd] at k0c k1c k2c
          rw [hpd] at m0c m1c m2c
          dsimp only at k0c k1c k2c m0c m1c m2c
          have Hd := Lib.hid hd
          have Hpd := Lib.hid hpd
          clear hd hpd
          have hmi0 : (0 : Int) ≤ (c1 : Int) := by omega
          have hmi1 : (c1 : Int) < (n : Int) := by omega
          go_wp2_with fail
          refine wp_region_still_tail 8 (by kernel_rfl) (by kernel_rfl) ?_
          simp only [List.take_succ_cons, List.take_zero, List.drop_succ_cons, List.drop_zero]
          repeat still_step
          refine wpStill_nil ?_
          change wpList _ _ _ _ _ WW.drew
          go_wp2_with fail
          refine (specBefore_any pat pseq pid dat dseq did _).mono ?_
          rintro e w5 ⟨rfl, b5⟩
          have B5 := Lib.hid (bel_trans BW.out (bel_of_drew b5))
          have hz5 : wr.heap.size ≤ w5.heap.size := B5.out.size
          clear b5 k0c k1c k2c kf m0c m1c m2c
          cases hbf : before ⟨pat, pseq, pid⟩ ⟨dat, dseq, did⟩
          · have Hst : Hid (mustD es k = false) := by
              show mustD es k = false
              unfold mustD
              rw [Hkid.out, Hd.out, Hpd.out, hbf]; simp
            clear hbf
            go_wp2
            refine bodyPost_ret (results_none rfl _ _ _) rfl ?_
            exact ⟨rfl, by rw [Heq.out, downD_stop Hst.out]; exact Hrd.out.of_block (B5.out.block g hgr), Ht.out.trans (Tn.of_below B5.out)⟩
          · have Hst : Hid (mustD es k = true) := by
              show mustD es k = true
              unfold mustD
              rw [Hkid.out, Hd.out, Hpd.out, hbf, Hel.out, decide_eq_true (by omega)]; rfl
            clear hbf
            have R5 := Lib.hid (Hrd.out.of_block (B5.out.block g hgr))
            obtain ⟨k0c, k1c, k2c, kf⟩ := R5.out k (by have := Hel.out; omega)
            obtain ⟨m0c, m1c, m2c, _⟩ := R5.out c1 (by have := Hel.out; omega)
            rw [Hd.out] at k0c k1c k2c
            rw [Hpd.out] at m0c m1c m2c
            dsimp only at k0c k1c k2c m0c m1c m2c
            have hg5 : g < w5.heap.size := by omega
            have f0 : c1 * 3 ≠ k * 3 := by omega
            have f1 : c1 * 3 ≠ k * 3 + 1 := by omega
            have f2 : c1 * 3 ≠ k * 3 + 2 := by omega
            have f3 : c1 * 3 + 1 ≠ k * 3 := by omega
            have f5 : c1 * 3 + 1 ≠ k * 3 + 2 := by omega
            have f6 : c1 * 3 + 2 ≠ k * 3 := by omega
            have f7 : c1 * 3 + 2 ≠ k * 3 + 1 := by omega
            have f8 : c1 ≠ k := by omega
            have f0' : k * 3 ≠ c1 * 3 := by omega
            have f1' : k * 3 + 1 ≠ c1 * 3 := by omega
            have f2' : k * 3 + 2 ≠ c1 * 3 := by omega
            have f3' : k * 3 ≠ c1 * 3 + 1 := by omega
            have f5' : k * 3 + 2 ≠ c1 * 3 + 1 := by omega
            have f6' : k * 3 ≠ c1 * 3 + 2 := by omega
            have f7' : k * 3 + 1 ≠ c1 * 3 + 2 := by omega
            have f8' : k ≠ c1 := by omega
            go_wp2
            go_roundw
            case rel =>
              obtain ⟨F', rfl⟩ : ∃ F', F = F' + 1 := ⟨F - 1, by omega⟩
              refine ⟨c1, F', swapD es k c1, rfl, by omega, by omega, by rw [Heq.out, downD_go Hst.out, Hkid.out], by rw [swapD_len]; exact Hel.out, ?_, ?_⟩
              · have h1 := (R5.out.set3 k ⟨pat, pseq, pid⟩).set3 c1 ⟨dat, dseq, did⟩
                have h2 : swapD es k c1 = (es.set k ⟨pat, pseq, pid⟩).set c1 ⟨dat, dseq, did⟩ := by unfold swapD; rw [Hd.out, Hpd.out]
                rw [h2]
                exact h1.of_block (Below.heap_alloc _ _ _ (by simp [World.setCell]; omega))
              · refine Tn.alloc ?_ _
                have h1 := ((Ht.out.trans (Tn.of_below B5.out)).set3 (Nat.le_refl _) (Nat.lt_succ_self _) k ⟨pat, pseq, pid⟩).set3 (Nat.le_refl _) (Nat.lt_succ_self _) c1 ⟨dat, dseq, did⟩
                exact h1
            case measure => simp [intOf]; omega
        · have Hkd : Hid (kid es k = c2) := by
            show kid es k = c2
            unfold kid
            rw [show 2 * k + 2 = c2 from by have := Hc1.out; have := Hc2.out; omega, Hc1.out, Hx.out, Hy.out, hbb, Hel.out, decide_eq_true hl2]; simp
          clear hbb
          go_wp2_with fail
          obtain ⟨WW, hWW⟩ : ∃ WW, w4 = WW := ⟨_, rfl⟩
          have BW : Hid (Below wr.heap.size wr WW) := by rw [← hWW]; exact B4.out
          have Hkid : Hid (kid es k = c2) := Hkd.out
          rw [hWW]
          clear hWW
          have hzw : wr.heap.size ≤ WW.heap.size := BW.out.size
          have RW := Lib.hid (Hrd.out.of_block (BW.out.block g hgr))
          obtain ⟨k0c, k1c, k2c, kf⟩ := RW.out k (by have := Hel.out; omega)
          obtain ⟨m0c, m1c, m2c, _⟩ := RW.out c2 (by have := Hel.out; omega)
          obtain ⟨dat, dseq, did, hd⟩ : ∃ a b c, es.getD k zDu = ⟨a, b, c⟩ := ⟨_, _, _, rfl⟩
          obtain ⟨pat, pseq, pid, hpd⟩ : ∃ a b c, es.getD c2 zDu = ⟨a, b, c⟩ := ⟨_, _, _, rfl⟩
          rw [hd] at k0c k1c k2c
          rw [hpd] at m0c m1c m2c
          dsimp only at k0c k1c k2c m0c m1c m2c
          have Hd := Lib.hid hd
          have Hpd := Lib.hid hpd
          clear hd hpd
          have hmi0 : (0 : Int) ≤ (c2 : Int) := by omega
          have hmi1 : (c2 : Int) < (n : Int) := by omega
          go_wp2_with fail
          refine wp_region_still_tail 8 (by kernel_rfl) (by kernel_rfl) ?_
          simp only [List.take_succ_cons, List.take_zero, List.drop_succ_cons, List.drop_zero]
          repeat still_step
          refine wpStill_nil ?_
          change wpList _ _ _ _ _ WW.drew
          go_wp2_with fail
          refine (specBefore_any pat pseq pid dat dseq did _).mono ?_
          rintro e w5 ⟨rfl, b5⟩
          have B5 := Lib.hid (bel_trans BW.out (bel_of_drew b5))
          have hz5 : wr.heap.size ≤ w5.heap.size := B5.out.size
          clear b5 k0c k1c k2c kf m0c m1c m2c
          cases hbf : before ⟨pat, pseq, pid⟩ ⟨dat, dseq, did⟩
          · have Hst : Hid (mustD es k = false) := by
              show mustD es k = false
              unfold mustD
              rw [Hkid.out, Hd.out, Hpd.out, hbf]; simp
            clear hbf
            go_wp2
            refine bodyPost_ret (results_none rfl _ _ _) rfl ?_
            exact ⟨rfl, by rw [Heq.out, downD_stop Hst.out]; exact Hrd.out.of_block (B5.out.block g hgr), Ht.out.trans (Tn.of_below B5.out)⟩
          · have Hst : Hid (mustD es k = true) := by
              show mustD es k = true
              unfold mustD
              rw [Hkid.out, Hd.out, Hpd.out, hbf, Hel.out, decide_eq_true (by omega)]; rfl
            clear hbf
            have R5 := Lib.hid (Hrd.out.of_block (B5.out.block g hgr))
            obtain ⟨k0c, k1c, k2c, kf⟩ := R5.out k (by have := Hel.out; omega)
            obtain ⟨m0c, m1c, m2c, _⟩ := R5.out c2 (by have := Hel.out; omega)
            rw [Hd.out] at k0c k1c k2c
            rw [Hpd.out] at m0c m1c m2c
            dsimp only at k0c k1c k2c m0c m1c m2c
            have hg5 : g < w5.heap.size := by omega
            have f0 : c2 * 3 ≠ k * 3 := by omega
            have f1 : c2 * 3 ≠ k * 3 + 1 := by omega
            have f2 : c2 * 3 ≠ k * 3 + 2 := by omega
            have f3 : c2 * 3 + 1 ≠ k * 3 := by omega
            have f5 : c2 * 3 + 1 ≠ k * 3 + 2 := by omega
            have f6 : c2 * 3 + 2 ≠ k * 3 := by omega
            have f7 : c2 * 3 + 2 ≠ k * 3 + 1 := by omega
            have f8 : c2 ≠ k := by omega
            have f0' : k * 3 ≠ c2 * 3 := by omega
            have f1' : k * 3 + 1 ≠ c2 * 3 := by omega
            have f2' : k * 3 + 2 ≠ c2 * 3 := by omega
            have f3' : k * 3 ≠ c2 * 3 + 1 := by omega
            have f5' : k * 3 + 2 ≠ c2 * 3 + 1 := by omega
            have f6' : k * 3 ≠ c2 * 3 + 2 := by omega
            have f7' : k * 3 + 1 ≠ c2 * 3 + 2 := by omega
            have f8' : k ≠ c2 := by omega
            go_wp2
            go_roundw
            case rel =>
              obtain ⟨F', rfl⟩ : ∃ F', F = F' + 1 := ⟨F - 1, by omega⟩
              refine ⟨c2, F', swapD es k c2, rfl, by omega, by omega, by rw [Heq.out, downD_go Hst.out, Hkid.out], by rw [swapD_len]; exact Hel.out, ?_, ?_⟩
              · have h1 := (R5.out.set3 k ⟨pat, pseq, pid⟩).set3 c2 ⟨dat, dseq, did⟩
                have h2 : swapD es k c2 = (es.set k ⟨pat, pseq, pid⟩).set c2 ⟨dat, dseq, did⟩ := by unfold swapD; rw [Hd.out, Hpd.out]
                rw [h2]
                exact h1.of_block (Below.heap_alloc _ _ _ (by simp [World.setCell]; omega))
              · refine Tn.alloc ?_ _
                have h1 := ((Ht.out.trans (Tn.of_below B5.out)).set3 (Nat.le_refl _) (Nat.lt_succ_self _) k ⟨pat, pseq, pid⟩).set3 (Nat.le_refl _) (Nat.lt_succ_self _) c2 ⟨dat, dseq, did⟩
                exact h1
            case measure => simp [intOf]; omega
      · have hl2d : decide ((c2 : Int) < (n : Int)) = false := by simp; omega
        have hl2d2 : decide (c2 < n) = false := by simp; omega
        have Hkd : Hid (kid es k = c1) := by
          show kid es k = c1
          unfold kid
          rw [show 2 * k + 2 = c2 from by have := Hc1.out; have := Hc2.out; omega, Hel.out, hl2d2, Hc1.out]; simp
        go_wp2_with fail
        go_quiet (fail)
        go_wp2_with fail
        obtain ⟨WW, hWW⟩ : ∃ WW, (wr.drewN nq) = WW := ⟨_, rfl⟩
        have BW : Hid (Below wr.heap.size wr WW) := by rw [← hWW]; exact (below_drewN (Below.refl _ _) nq)
        have Hkid : Hid (kid es k = c1) := Hkd.out
        rw [hWW]
        clear hWW
        have hzw : wr.heap.size ≤ WW.heap.size := BW.out.size
        have RW := Lib.hid (Hrd.out.of_block (BW.out.block g hgr))
        obtain ⟨k0c, k1c, k2c, kf⟩ := RW.out k (by have := Hel.out; omega)
        obtain ⟨m0c, m1c, m2c, _⟩ := RW.out c1 (by have := Hel.out; omega)
        obtain ⟨dat, dseq, did, hd⟩ : ∃ a b c, es.getD k zDu = ⟨a, b, c⟩ := ⟨_, _, _, rfl⟩
        obtain ⟨pat, pseq, pid, hpd⟩ : ∃ a b c, es.getD c1 zDu = ⟨a, b, c⟩ := ⟨_, _, _, rfl⟩
        rw [hd] at k0c k1c k2c
        rw [hpd] at m0c m1c m2c
        dsimp only at k0c k1c k2c m0c m1c m2c
        have Hd := Lib.hid hd
        have Hpd := Lib.hid hpd
        clear hd hpd
        have hmi0 : (0 : Int) ≤ (c1 : Int) := by omega
        have hmi1 : (c1 : Int) < (n : Int) := by omega
        go_wp2_with fail
        refine wp_region_still_tail 8 (by kernel_rfl) (by kernel_rfl) ?_
        simp only [List.take_succ_cons, List.take_zero, List.drop_succ_cons, List.drop_zero]
        repeat still_step
        refine wpStill_nil ?_
        change wpList _ _ _ _ _ WW.drew
        go_wp2_with fail
        refine (specBefore_any pat pseq pid dat dseq did _).mono ?_
        rintro e w5 ⟨rfl, b5⟩
        have B5 := Lib.hid (bel_trans BW.out (bel_of_drew b5))
        have hz5 : wr.heap.size ≤ w5.heap.size := B5.out.size
        clear b5 k0c k1c k2c kf m0c m1c m2c
        cases hbf : before ⟨pat, pseq, pid⟩ ⟨dat, dseq, did⟩
        · have Hst : Hid (mustD es k = false) := by
            show mustD es k = false
            unfold mustD
            rw [Hkid.out, Hd.out, Hpd.out, hbf]; simp
          clear hbf
          go_wp2
          refine bodyPost_ret (results_none rfl _ _ _) rfl ?_
          exact ⟨rfl, by rw [Heq.out, downD_stop Hst.out]; exact Hrd.out.of_block (B5.out.block g hgr), Ht.out.trans (Tn.of_below B5.out)⟩
        · have Hst : Hid (mustD es k = true) := by
            show mustD es k = true
            unfold mustD
            rw [Hkid.out, Hd.out, Hpd.out, hbf, Hel.out, decide_eq_true (by omega)]; rfl
          clear hbf
          have R5 := Lib.hid (Hrd.out.of_block (B5.out.block g hgr))
          obtain ⟨k0c, k1c, k2c, kf⟩ := R5.out k (by have := Hel.out; omega)
          obtain ⟨m0c, m1c, m2c, _⟩ := R5.out c1 (by have := Hel.out; omega)
          rw [Hd.out] at k0c k1c k2c
          rw [Hpd.out] at m0c m1c m2c
          dsimp only at k0c k1c k2c m0c m1c m2c
          have hg5 : g < w5.heap.size := by omega
          have f0 : c1 * 3 ≠ k * 3 := by omega
          have f1 : c1 * 3 ≠ k * 3 + 1 := by omega
          have f2 : c1 * 3 ≠ k * 3 + 2 := by omega
          have f3 : c1 * 3 + 1 ≠ k * 3 := by omega
          have f5 : c1 * 3 + 1 ≠ k * 3 + 2 := by omega
          have f6 : c1 * 3 + 2 ≠ k * 3 := by omega
          have f7 : c1 * 3 + 2 ≠ k * 3 + 1 := by omega
          have f8 : c1 ≠ k := by omega
          have f0' : k * 3 ≠ c1 * 3 := by omega
          have f1' : k * 3 + 1 ≠ c1 * 3 := by omega
          have f2' : k * 3 + 2 ≠ c1 * 3 := by omega
          have f3' : k * 3 ≠ c1 * 3 + 1 := by omega
          have f5' : k * 3 + 2 ≠ c1 * 3 + 1 := by omega
          have f6' : k * 3 ≠ c1 * 3 + 2 := by omega
          have f7' : k * 3 + 1 ≠ c1 * 3 + 2 := by omega
          have f8' : k ≠ c1 := by omega
          go_wp2
          go_roundw
          case rel =>
            obtain ⟨F', rfl⟩ : ∃ F', F = F' + 1 := ⟨F - 1, by omega⟩
            refine ⟨c1, F', swapD es k c1, rfl, by omega, by omega, by rw [Heq.out, downD_go Hst.out, Hkid.out], by rw [swapD_len]; exact Hel.out, ?_, ?_⟩
            · have h1 := (R5.out.set3 k ⟨pat, pseq, pid⟩).set3 c1 ⟨dat, dseq, did⟩
              have h2 : swapD es k c1 = (es.set k ⟨pat, pseq, pid⟩).set c1 ⟨dat, dseq, did⟩ := by unfold swapD; rw [Hd.out, Hpd.out]
              rw [h2]
              exact h1.of_block (Below.heap_alloc _ _ _ (by simp [World.setCell]; omega))
            · refine Tn.alloc ?_ _
              have h1 := ((Ht.out.trans (Tn.of_below B5.out)).set3 (Nat.le_refl _) (Nat.lt_succ_self _) k ⟨pat, pseq, pid⟩).set3 (Nat.le_refl _) (Nat.lt_succ_self _) c1 ⟨dat, dseq, did⟩
              exact h1
          case measure => simp [intOf]; omega
    · have hc1n : (n : Int) ≤ (c1 : Int) := by omega
      have Hst : Hid (mustD es k = false) := by
        show mustD es k = false
        unfold mustD
        rw [Hel.out, decide_eq_false (by have := Hc1.out; omega)]; rfl
      go_wp2
      refine bodyPost_ret (results_none rfl _ _ _) rfl ?_
      exact ⟨rfl, by rw [Heq.out, downD_stop Hst.out]; exact Hrd.out, Ht.out⟩
end Go.Proofs.Ytnmhdbfemobhkaa.Hp
