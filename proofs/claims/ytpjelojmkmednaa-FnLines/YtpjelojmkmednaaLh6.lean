/- An item moved down: the mathematics, and the reference's walk. The program's moveDown. -/
import Derived.Test.YtpjelojmkmednaaLh5
namespace Go.Proofs.Ytpjelojmkmednaa.Hp
open Go.RowKit Go.Deep Base

/-- The child that comes first. -/
def kid (es : List Du) (k : Nat) : Nat := if (decide (2 * k + 2 < es.length) && before (es.getD (2 * k + 2) zDu) (es.getD (2 * k + 1) zDu)) = true then 2 * k + 2 else 2 * k + 1
def mustD (es : List Du) (k : Nat) : Bool := decide (2 * k + 1 < es.length) && before (es.getD (kid es k) zDu) (es.getD k zDu)
/-- The item at k moved down, with fuel. -/
def downD : Nat → List Du → Nat → List Du
  | 0, es, _ => es
  | F + 1, es, k => if mustD es k = true then downD F (swapD es k (kid es k)) (kid es k) else es
theorem downD_stop {F : Nat} {es : List Du} {k : Nat} (h : mustD es k = false) : downD F es k = es := by
  cases F with
  | zero => rfl
  | succ F => unfold downD; rw [if_neg (by rw [h]; simp)]
theorem downD_go {F : Nat} {es : List Du} {k : Nat} (h : mustD es k = true) : downD (F + 1) es k = downD F (swapD es k (kid es k)) (kid es k) := by
  conv => lhs; unfold downD
  rw [if_pos h]
theorem downD_len : ∀ (F : Nat) (es : List Du) (k : Nat), (downD F es k).length = es.length
  | 0, _, _ => rfl
  | F + 1, es, k => by
    unfold downD
    split
    · rw [downD_len F, swapD_len]
    · rfl

set_option maxRecDepth 100000 in
set_option maxHeartbeats 2000000 in
theorem specDown_any (g n cap k0 : Nat) (ds : List Du) (w : World) (hn : ds.length = n) (hm : n ≤ 1048576) (hk : k0 < n) (h : Rd w g ds) (hg : g < w.heap.size) :
    Calls Try.prog 112 #[.slice (some ⟨g, 0, none⟩) n cap, .int .i64 (k0 : Int)] w fun e w' => e = .returned (.tuple #[]) ∧ Rd w' g (downD n ds k0) ∧ Tn g (g + 1) w w' := by
  have Hn := Lib.hid hn
  have HI := Lib.hid h
  clear hn h
  go_enter Try.func112, Try.ntmps112
  go_wp2
  go_loopw [1] (fun i wr => ∃ (k F : Nat) (es : List Du), i = .int .i64 k ∧ k < n ∧ n ≤ F + k ∧ downD n ds k0 = downD F es k ∧ es.length = n ∧ Rd wr g es ∧ Tn g (g + 1) w wr) (fun i _ => n - (intOf i).toNat)
  case atStart => exact ⟨k0, n, ds, rfl, hk, by omega, rfl, Hn.out, HI.out, Tn.of_below (Below.refl _ _)⟩
  case round =>
    obtain ⟨k, F, es, rfl, hkn, hkF, heq, hel, hrd, ht⟩ := hrel
    have Heq := Lib.hid heq
    have Hel := Lib.hid hel
    have Hrd := Lib.hid hrd
    have Ht := Lib.hid ht
    clear heq hel hrd ht
    have hgr : g < wr.heap.size := Nat.lt_of_lt_of_le hg Ht.out.size
    have hk0' : (0 : Int) ≤ (k : Int) := by omega
    have hk1 : (k : Int) < (n : Int) := by omega
    have hwa : IntKind.i64.wrap (2 * (k : Int)) = 2 * (k : Int) := IntWalk.i64_in _ (by omega)
    obtain ⟨c1, hc1⟩ : ∃ c1 : Nat, 2 * k + 1 = c1 := ⟨_, rfl⟩
    have hc1i : 2 * (k : Int) + 1 = (c1 : Int) := by omega
    have hwb : IntKind.i64.wrap (c1 : Int) = (c1 : Int) := IntWalk.i64_in _ (by omega)
    have Hc1 := Lib.hid hc1
    clear hc1
    by_cases hlt : c1 < n
    · have hc1n : ¬ (n : Int) ≤ (c1 : Int) := by omega
      have hkl : k < c1 := by have := Hc1.out; omega
      obtain ⟨c2, hc2⟩ : ∃ c2 : Nat, c1 + 1 = c2 := ⟨_, rfl⟩
      have hc2i : (c1 : Int) + 1 = (c2 : Int) := by omega
      have hwc : IntKind.i64.wrap (c2 : Int) = (c2 : Int) := IntWalk.i64_in _ (by omega)
      have Hc2 := Lib.hid hc2
      have hkl2 : k < c2 := by omega
      clear hc2
      have hci0 : (0 : Int) ≤ (c1 : Int) := by omega
      have hci1 : (c1 : Int) < (n : Int) := by omega
      by_cases hl2 : c2 < n
      · have hl2d : decide ((c2 : Int) < (n : Int)) = true := by simp; omega
        have hdi0 : (0 : Int) ≤ (c2 : Int) := by omega
        have hdi1 : (c2 : Int) < (n : Int) := by omega
        obtain ⟨a0, a1, a2, _⟩ := Hrd.out c1 (by have := Hel.out; omega)
        obtain ⟨b0, b1, b2, _⟩ := Hrd.out c2 (by have := Hel.out; omega)
        obtain ⟨xat, xseq, xid, hx⟩ : ∃ a b c, es.getD c1 zDu = ⟨a, b, c⟩ := ⟨_, _, _, rfl⟩
        obtain ⟨yat, yseq, yid, hy⟩ : ∃ a b c, es.getD c2 zDu = ⟨a, b, c⟩ := ⟨_, _, _, rfl⟩
        rw [hx] at a0 a1 a2
        rw [hy] at b0 b1 b2
        dsimp only at a0 a1 a2 b0 b1 b2
        have Hx := Lib.hid hx
        have Hy := Lib.hid hy
        clear hx hy
        go_wp2_with fail
        refine wp_region_still_tail 15 (by kernel_rfl) (by kernel_rfl) ?_
        simp only [List.take_succ_cons, List.take_zero, List.drop_succ_cons, List.drop_zero]
        repeat still_step
        refine wpStill_nil ?_
        change wpList _ _ _ _ _ wr.drew
        go_wp2_with fail
        refine (specBefore_any yat yseq yid xat xseq xid _).mono ?_
        rintro e w4 ⟨rfl, b4⟩
        have B4 := Lib.hid (bel_of_drew b4)
        clear b4 a0 a1 a2 b0 b1 b2
        cases hbb : before ⟨yat, yseq, yid⟩ ⟨xat, xseq, xid⟩
        · have Hkd : Hid (kid es k = c1) := by
            show kid es k = c1
            unfold kid
            rw [show 2 * k + 2 = c2 from by have := Hc1.out; have := Hc2.out; omega, Hc1.out, Hx.out, Hy.out, hbb]; simp
          clear hbb
          go_wp2_with fail
          obtain ⟨WW, hWW⟩ : ∃ WW, w4 = WW := ⟨_, rfl⟩
          have BW : Hid (Below wr.heap.size wr WW) := by rw [← hWW]; exact B4.out
          have Hkid : Hid (kid es k = c1) := Hkd.out
          rw [hWW]
          clear hWW
          have hzw : wr.heap.size ≤ WW.heap.size := BW.out.size
          have RW := Lib.hid (Hrd.out.of_block (BW.out.block g hgr))
          obtain ⟨k0c, k1c, k2c, kf⟩ := RW.out k (by have := Hel.out; omega)
          obtain ⟨m0c, m1c, m2c, _⟩ := RW.out c1 (by have := Hel.out; omega)
          obtain ⟨dat, dseq, did, hd⟩ : ∃ a b c, es.getD k zDu = ⟨a, b, c⟩ := ⟨_, _, _, rfl⟩
          obtain ⟨pat, pseq, pid, hpd⟩ : ∃ a b c, es.getD c1 zDu = ⟨a, b, c⟩ := ⟨_, _, _, rfl⟩
          rw [hd] at k0c k1c k2c
          rw [hpd] at m0c m1c m2c
          dsimp only at k0c k1c k2c m0c m1c m2c
          have Hd := Lib.hid hd
          have Hpd := Lib.hid hpd
          clear hd hpd
          have hmi0 : (0 : Int) ≤ (c1 : Int) := by omega
          have hmi1 : (c1 : Int) < (n : Int) := by omega
          go_wp2_with fail
          refine wp_region_still_tail 8 (by kernel_rfl) (by kernel_rfl) ?_
          simp only [List.take_succ_cons, List.take_zero, List.drop_succ_cons, List.drop_zero]
          repeat still_step
          refine wpStill_nil ?_
          change wpList _ _ _ _ _ WW.drew
          go_wp2_with fail
          refine (specBefore_any pat pseq pid dat dseq did _).mono ?_
          rintro e w5 ⟨rfl, b5⟩
          have B5 := Lib.hid (bel_trans BW.out (bel_of_drew b5))
          have hz5 : wr.heap.size ≤ w5.heap.size := B5.out.size
          clear b5 k0c k1c k2c kf m0c m1c m2c
          cases hbf : before ⟨pat, pseq, pid⟩ ⟨dat, dseq, did⟩
          · have Hst : Hid (mustD es k = false) := by
              show mustD es k = false
              unfold mustD
              rw [Hkid.out, Hd.out, Hpd.out, hbf]; simp
            clear hbf
            go_wp2
            refine bodyPost_ret (results_none rfl _ _ _) rfl ?_
            exact ⟨rfl, by rw [Heq.out, downD_stop Hst.out]; exact Hrd.out.of_block (B5.out.block g hgr), Ht.out.trans (Tn.of_below B5.out)⟩
          · have Hst : Hid (mustD es k = true) := by
              show mustD es k = true
              unfold mustD
              rw [Hkid.out, Hd.out, Hpd.out, hbf, Hel.out, decide_eq_true (by omega)]; rfl
            clear hbf
            have R5 := Lib.hid (Hrd.out.of_block (B5.out.block g hgr))
            obtain ⟨k0c, k1c, k2c, kf⟩ := R5.out k (by have := Hel.out; omega)
            obtain ⟨m0c, m1c, m2c, _⟩ := R5.out c1 (by have := Hel.out; omega)
            rw [Hd.out] at k0c k1c k2c
            rw [Hpd.out] at m0c m1c m2c
            dsimp only at k0c k1c k2c m0c m1c m2c
            have hg5 : g < w5.heap.size := by omega
            have f0 : c1 * 3 ≠ k * 3 := by omega
            have f1 : c1 * 3 ≠ k * 3 + 1 := by omega
            have f2 : c1 * 3 ≠ k * 3 + 2 := by omega
            have f3 : c1 * 3 + 1 ≠ k * 3 := by omega
            have f5 : c1 * 3 + 1 ≠ k * 3 + 2 := by omega
            have f6 : c1 * 3 + 2 ≠ k * 3 := by omega
            have f7 : c1 * 3 + 2 ≠ k * 3 + 1 := by omega
            have f8 : c1 ≠ k := by omega
            have f0' : k * 3 ≠ c1 * 3 := by omega
            have f1' : k * 3 + 1 ≠ c1 * 3 := by omega
            have f2' : k * 3 + 2 ≠ c1 * 3 := by omega
            have f3' : k * 3 ≠ c1 * 3 + 1 := by omega
            have f5' : k * 3 + 2 ≠ c1 * 3 + 1 := by omega
            have f6' : k * 3 ≠ c1 * 3 + 2 := by omega
            have f7' : k * 3 + 1 ≠ c1 * 3 + 2 := by omega
            have f8' : k ≠ c1 := by omega
            go_wp2
            go_roundw
            case rel =>
              obtain ⟨F', rfl⟩ : ∃ F', F = F' + 1 := ⟨F - 1, by omega⟩
              refine ⟨c1, F', swapD es k c1, rfl, by omega, by omega, by rw [Heq.out, downD_go Hst.out, Hkid.out], by rw [swapD_len]; exact Hel.out, ?_, ?_⟩
              · have h1 := (R5.out.set3 k ⟨pat, pseq, pid⟩).set3 c1 ⟨dat, dseq, did⟩
                have h2 : swapD es k c1 = (es.set k ⟨pat, pseq, pid⟩).set c1 ⟨dat, dseq, did⟩ := by unfold swapD; rw [Hd.out, Hpd.out]
                rw [h2]
                exact h1.of_block (Below.heap_alloc _ _ _ (by simp [World.setCell]; omega))
              · refine Tn.alloc ?_ _
                have h1 := ((Ht.out.trans (Tn.of_below B5.out)).set3 (Nat.le_refl _) (Nat.lt_succ_self _) k ⟨pat, pseq, pid⟩).set3 (Nat.le_refl _) (Nat.lt_succ_self _) c1 ⟨dat, dseq, did⟩
                exact h1
            case measure => simp [intOf]; omega
        · have Hkd : Hid (kid es k = c2) := by
            show kid es k = c2
            unfold kid
            rw [show 2 * k + 2 = c2 from by have := Hc1.out; have := Hc2.out; omega, Hc1.out, Hx.out, Hy.out, hbb, Hel.out, decide_eq_true hl2]; simp
          clear hbb
          go_wp2_with fail
          obtain ⟨WW, hWW⟩ : ∃ WW, w4 = WW := ⟨_, rfl⟩
          have BW : Hid (Below wr.heap.size wr WW) := by rw [← hWW]; exact B4.out
          have Hkid : Hid (kid es k = c2) := Hkd.out
          rw [hWW]
          clear hWW
          have hzw : wr.heap.size ≤ WW.heap.size := BW.out.size
          have RW := Lib.hid (Hrd.out.of_block (BW.out.block g hgr))
          obtain ⟨k0c, k1c, k2c, kf⟩ := RW.out k (by have := Hel.out; omega)
          obtain ⟨m0c, m1c, m2c, _⟩ := RW.out c2 (by have := Hel.out; omega)
          obtain ⟨dat, dseq, did, hd⟩ : ∃ a b c, es.getD k zDu = ⟨a, b, c⟩ := ⟨_, _, _, rfl⟩
          obtain ⟨pat, pseq, pid, hpd⟩ : ∃ a b c, es.getD c2 zDu = ⟨a, b, c⟩ := ⟨_, _, _, rfl⟩
          rw [hd] at k0c k1c k2c
          rw [hpd] at m0c m1c m2c
          dsimp only at k0c k1c k2c m0c m1c m2c
          have Hd := Lib.hid hd
          have Hpd := Lib.hid hpd
          clear hd hpd
          have hmi0 : (0 : Int) ≤ (c2 : Int) := by omega
          have hmi1 : (c2 : Int) < (n : Int) := by omega
          go_wp2_with fail
          refine wp_region_still_tail 8 (by kernel_rfl) (by kernel_rfl) ?_
          simp only [List.take_succ_cons, List.take_zero, List.drop_succ_cons, List.drop_zero]
          repeat still_step
          refine wpStill_nil ?_
          change wpList _ _ _ _ _ WW.drew
          go_wp2_with fail
          refine (specBefore_any pat pseq pid dat dseq did _).mono ?_
          rintro e w5 ⟨rfl, b5⟩
          have B5 := Lib.hid (bel_trans BW.out (bel_of_drew b5))
          have hz5 : wr.heap.size ≤ w5.heap.size := B5.out.size
          clear b5 k0c k1c k2c kf m0c m1c m2c
          cases hbf : before ⟨pat, pseq, pid⟩ ⟨dat, dseq, did⟩
          · have Hst : Hid (mustD es k = false) := by
              show mustD es k = false
              unfold mustD
              rw [Hkid.out, Hd.out, Hpd.out, hbf]; simp
            clear hbf
            go_wp2
            refine bodyPost_ret (results_none rfl _ _ _) rfl ?_
            exact ⟨rfl, by rw [Heq.out, downD_stop Hst.out]; exact Hrd.out.of_block (B5.out.block g hgr), Ht.out.trans (Tn.of_below B5.out)⟩
          · have Hst : Hid (mustD es k = true) := by
              show mustD es k = true
              unfold mustD
              rw [Hkid.out, Hd.out, Hpd.out, hbf, Hel.out, decide_eq_true (by omega)]; rfl
            clear hbf
            have R5 := Lib.hid (Hrd.out.of_block (B5.out.block g hgr))
            obtain ⟨k0c, k1c, k2c, kf⟩ := R5.out k (by have := Hel.out; omega)
            obtain ⟨m0c, m1c, m2c, _⟩ := R5.out c2 (by have := Hel.out; omega)
            rw [Hd.out] at k0c k1c k2c
            rw [Hpd.out] at m0c m1c m2c
            dsimp only at k0c k1c k2c m0c m1c m2c
            have hg5 : g < w5.heap.size := by omega
            have f0 : c2 * 3 ≠ k * 3 := by omega
            have f1 : c2 * 3 ≠ k * 3 + 1 := by omega
            have f2 : c2 * 3 ≠ k * 3 + 2 := by omega
            have f3 : c2 * 3 + 1 ≠ k * 3 := by omega
            have f5 : c2 * 3 + 1 ≠ k * 3 + 2 := by omega
            have f6 : c2 * 3 + 2 ≠ k * 3 := by omega
            have f7 : c2 * 3 + 2 ≠ k * 3 + 1 := by omega
            have f8 : c2 ≠ k := by omega
            have f0' : k * 3 ≠ c2 * 3 := by omega
            have f1' : k * 3 + 1 ≠ c2 * 3 := by omega
            have f2' : k * 3 + 2 ≠ c2 * 3 := by omega
            have f3' : k * 3 ≠ c2 * 3 + 1 := by omega
            have f5' : k * 3 + 2 ≠ c2 * 3 + 1 := by omega
            have f6' : k * 3 ≠ c2 * 3 + 2 := by omega
            have f7' : k * 3 + 1 ≠ c2 * 3 + 2 := by omega
            have f8' : k ≠ c2 := by omega
            go_wp2
            go_roundw
            case rel =>
              obtain ⟨F', rfl⟩ : ∃ F', F = F' + 1 := ⟨F - 1, by omega⟩
              refine ⟨c2, F', swapD es k c2, rfl, by omega, by omega, by rw [Heq.out, downD_go Hst.out, Hkid.out], by rw [swapD_len]; exact Hel.out, ?_, ?_⟩
              · have h1 := (R5.out.set3 k ⟨pat, pseq, pid⟩).set3 c2 ⟨dat, dseq, did⟩
                have h2 : swapD es k c2 = (es.set k ⟨pat, pseq, pid⟩).set c2 ⟨dat, dseq, did⟩ := by unfold swapD; rw [Hd.out, Hpd.out]
                rw [h2]
                exact h1.of_block (Below.heap_alloc _ _ _ (by simp [World.setCell]; omega))
              · refine Tn.alloc ?_ _
                have h1 := ((Ht.out.trans (Tn.of_below B5.out)).set3 (Nat.le_refl _) (Nat.lt_succ_self _) k ⟨pat, pseq, pid⟩).set3 (Nat.le_refl _) (Nat.lt_succ_self _) c2 ⟨dat, dseq, did⟩
                exact h1
            case measure => simp [intOf]; omega
      · have hl2d : decide ((c2 : Int) < (n : Int)) = false := by simp; omega
        have hl2d2 : decide (c2 < n) = false := by simp; omega
        have Hkd : Hid (kid es k = c1) := by
          show kid es k = c1
          unfold kid
          rw [show 2 * k + 2 = c2 from by have := Hc1.out; have := Hc2.out; omega, Hel.out, hl2d2, Hc1.out]; simp
        go_wp2_with fail
        go_quiet (fail)
        go_wp2_with fail
        obtain ⟨WW, hWW⟩ : ∃ WW, (wr.drewN nq) = WW := ⟨_, rfl⟩
        have BW : Hid (Below wr.heap.size wr WW) := by rw [← hWW]; exact (below_drewN (Below.refl _ _) nq)
        have Hkid : Hid (kid es k = c1) := Hkd.out
        rw [hWW]
        clear hWW
        have hzw : wr.heap.size ≤ WW.heap.size := BW.out.size
        have RW := Lib.hid (Hrd.out.of_block (BW.out.block g hgr))
        obtain ⟨k0c, k1c, k2c, kf⟩ := RW.out k (by have := Hel.out; omega)
        obtain ⟨m0c, m1c, m2c, _⟩ := RW.out c1 (by have := Hel.out; omega)
        obtain ⟨dat, dseq, did, hd⟩ : ∃ a b c, es.getD k zDu = ⟨a, b, c⟩ := ⟨_, _, _, rfl⟩
        obtain ⟨pat, pseq, pid, hpd⟩ : ∃ a b c, es.getD c1 zDu = ⟨a, b, c⟩ := ⟨_, _, _, rfl⟩
        rw [hd] at k0c k1c k2c
        rw [hpd] at m0c m1c m2c
        dsimp only at k0c k1c k2c m0c m1c m2c
        have Hd := Lib.hid hd
        have Hpd := Lib.hid hpd
        clear hd hpd
        have hmi0 : (0 : Int) ≤ (c1 : Int) := by omega
        have hmi1 : (c1 : Int) < (n : Int) := by omega
        go_wp2_with fail
        refine wp_region_still_tail 8 (by kernel_rfl) (by kernel_rfl) ?_
        simp only [List.take_succ_cons, List.take_zero, List.drop_succ_cons, List.drop_zero]
        repeat still_step
        refine wpStill_nil ?_
        change wpList _ _ _ _ _ WW.drew
        go_wp2_with fail
        refine (specBefore_any pat pseq pid dat dseq did _).mono ?_
        rintro e w5 ⟨rfl, b5⟩
        have B5 := Lib.hid (bel_trans BW.out (bel_of_drew b5))
        have hz5 : wr.heap.size ≤ w5.heap.size := B5.out.size
        clear b5 k0c k1c k2c kf m0c m1c m2c
        cases hbf : before ⟨pat, pseq, pid⟩ ⟨dat, dseq, did⟩
        · have Hst : Hid (mustD es k = false) := by
            show mustD es k = false
            unfold mustD
            rw [Hkid.out, Hd.out, Hpd.out, hbf]; simp
          clear hbf
          go_wp2
          refine bodyPost_ret (results_none rfl _ _ _) rfl ?_
          exact ⟨rfl, by rw [Heq.out, downD_stop Hst.out]; exact Hrd.out.of_block (B5.out.block g hgr), Ht.out.trans (Tn.of_below B5.out)⟩
        · have Hst : Hid (mustD es k = true) := by
            show mustD es k = true
            unfold mustD
            rw [Hkid.out, Hd.out, Hpd.out, hbf, Hel.out, decide_eq_true (by omega)]; rfl
          clear hbf
          have R5 := Lib.hid (Hrd.out.of_block (B5.out.block g hgr))
          obtain ⟨k0c, k1c, k2c, kf⟩ := R5.out k (by have := Hel.out; omega)
          obtain ⟨m0c, m1c, m2c, _⟩ := R5.out c1 (by have := Hel.out; omega)
          rw [Hd.out] at k0c k1c k2c
          rw [Hpd.out] at m0c m1c m2c
          dsimp only at k0c k1c k2c m0c m1c m2c
          have hg5 : g < w5.heap.size := by omega
          have f0 : c1 * 3 ≠ k * 3 := by omega
          have f1 : c1 * 3 ≠ k * 3 + 1 := by omega
          have f2 : c1 * 3 ≠ k * 3 + 2 := by omega
          have f3 : c1 * 3 + 1 ≠ k * 3 := by omega
          have f5 : c1 * 3 + 1 ≠ k * 3 + 2 := by omega
          have f6 : c1 * 3 + 2 ≠ k * 3 := by omega
          have f7 : c1 * 3 + 2 ≠ k * 3 + 1 := by omega
          have f8 : c1 ≠ k := by omega
          have f0' : k * 3 ≠ c1 * 3 := by omega
          have f1' : k * 3 + 1 ≠ c1 * 3 := by omega
          have f2' : k * 3 + 2 ≠ c1 * 3 := by omega
          have f3' : k * 3 ≠ c1 * 3 + 1 := by omega
          have f5' : k * 3 + 2 ≠ c1 * 3 + 1 := by omega
          have f6' : k * 3 ≠ c1 * 3 + 2 := by omega
          have f7' : k * 3 + 1 ≠ c1 * 3 + 2 := by omega
          have f8' : k ≠ c1 := by omega
          go_wp2
          go_roundw
          case rel =>
            obtain ⟨F', rfl⟩ : ∃ F', F = F' + 1 := ⟨F - 1, by omega⟩
            refine ⟨c1, F', swapD es k c1, rfl, by omega, by omega, by rw [Heq.out, downD_go Hst.out, Hkid.out], by rw [swapD_len]; exact Hel.out, ?_, ?_⟩
            · have h1 := (R5.out.set3 k ⟨pat, pseq, pid⟩).set3 c1 ⟨dat, dseq, did⟩
              have h2 : swapD es k c1 = (es.set k ⟨pat, pseq, pid⟩).set c1 ⟨dat, dseq, did⟩ := by unfold swapD; rw [Hd.out, Hpd.out]
              rw [h2]
              exact h1.of_block (Below.heap_alloc _ _ _ (by simp [World.setCell]; omega))
            · refine Tn.alloc ?_ _
              have h1 := ((Ht.out.trans (Tn.of_below B5.out)).set3 (Nat.le_refl _) (Nat.lt_succ_self _) k ⟨pat, pseq, pid⟩).set3 (Nat.le_refl _) (Nat.lt_succ_self _) c1 ⟨dat, dseq, did⟩
              exact h1
          case measure => simp [intOf]; omega
    · have hc1n : (n : Int) ≤ (c1 : Int) := by omega
      have Hst : Hid (mustD es k = false) := by
        show mustD es k = false
        unfold mustD
        rw [Hel.out, decide_eq_false (by have := Hc1.out; omega)]; rfl
      go_wp2
      refine bodyPost_ret (results_none rfl _ _ _) rfl ?_
      exact ⟨rfl, by rw [Heq.out, downD_stop Hst.out]; exact Hrd.out, Ht.out⟩
end Go.Proofs.Ytpjelojmkmednaa.Hp

namespace Go.Proofs.Ytpjelojmkmednaa.Hp
open Go.RowKit Go.Deep Base

theorem before_iff {a b : Du} : before a b = true ↔ a.at < b.at ∨ a.at = b.at ∧ a.seq < b.seq := by simp [before]
theorem before_trans {a b c : Du} (h1 : before a b = true) (h2 : before b c = true) : before a c = true := by rw [before_iff] at *; omega
theorem before_neg {a b c : Du} (h1 : before a b = false) (h2 : before b c = false) : before a c = false := by
  rw [← Bool.not_eq_true, before_iff] at *; omega

/-- The least of place k and its first i children. -/
def lstD (es : List Du) (k : Nat) : Nat → Nat
  | 0 => k
  | i + 1 => if before (es.getD (2 * k + 1 + i) zDu) (es.getD (lstD es k i) zDu) = true then 2 * k + 1 + i else lstD es k i
theorem lstD_lt {es : List Du} {k : Nat} (hk : k < es.length) : ∀ i, (i = 0 ∨ 2 * k + i < es.length) → lstD es k i < es.length
  | 0, _ => hk
  | i + 1, h => by
    unfold lstD
    split
    · omega
    · exact lstD_lt hk i (by omega)
theorem lstD_end {es : List Du} {k i : Nat} (hi : i ≤ 2) (h1 : i = 0 ∨ 2 * k + i < es.length) (h2 : i = 2 ∨ es.length ≤ 2 * k + 1 + i) :
    lstD es k i = if mustD es k = true then kid es k else k := by
  have hi' : i = 0 ∨ i = 1 ∨ i = 2 := by omega
  rcases hi' with rfl | rfl | rfl
  · have : mustD es k = false := by unfold mustD; rw [decide_eq_false (by omega)]; rfl
    rw [this]; rfl
  · have hk1 : kid es k = 2 * k + 1 := by unfold kid; rw [decide_eq_false (by omega)]; rfl
    have hm : mustD es k = before (es.getD (2 * k + 1) zDu) (es.getD k zDu) := by unfold mustD; rw [hk1, decide_eq_true (by omega)]; rfl
    rw [hm, hk1]
    rfl
  · have hk1 : kid es k = if before (es.getD (2 * k + 2) zDu) (es.getD (2 * k + 1) zDu) = true then 2 * k + 2 else 2 * k + 1 := by unfold kid; rw [decide_eq_true (by omega)]; rfl
    have hm : mustD es k = before (es.getD (kid es k) zDu) (es.getD k zDu) := by unfold mustD; rw [decide_eq_true (by omega)]; rfl
    rw [hm, hk1]
    show (if before (es.getD (2 * k + 1 + 1) zDu) (es.getD (if before (es.getD (2 * k + 1 + 0) zDu) (es.getD k zDu) = true then 2 * k + 1 + 0 else k) zDu) = true then 2 * k + 1 + 1 else (if before (es.getD (2 * k + 1 + 0) zDu) (es.getD k zDu) = true then 2 * k + 1 + 0 else k)) = _
    rw [show 2 * k + 1 + 1 = 2 * k + 2 from rfl, show 2 * k + 1 + 0 = 2 * k + 1 from rfl]
    cases h1 : before (es.getD (2 * k + 1) zDu) (es.getD k zDu)
    · simp only [Bool.false_eq_true, if_false]
      cases h2 : before (es.getD (2 * k + 2) zDu) (es.getD (2 * k + 1) zDu)
      · simp only [Bool.false_eq_true, if_false]
        rw [before_neg h2 h1, h1]
        rfl
      · simp only [if_true]
    · simp only [if_true]
      cases h2 : before (es.getD (2 * k + 2) zDu) (es.getD (2 * k + 1) zDu)
      · simp only [Bool.false_eq_true, if_false]
        rw [h1]
        rfl
      · simp only [if_true]
        rw [before_trans h2 h1]
        rfl

theorem kid_gt (es : List Du) (k : Nat) : k < kid es k := by unfold kid; split <;> omega
theorem kid_lt {es : List Du} {k : Nat} (h : mustD es k = true) : kid es k < es.length := by
  unfold mustD at h
  simp only [Bool.and_eq_true, decide_eq_true_eq] at h
  unfold kid
  split
  · next e => simp only [Bool.and_eq_true, decide_eq_true_eq] at e; exact e.1
  · exact h.1

set_option maxRecDepth 100000 in
set_option maxHeartbeats 2000000 in
theorem moveDown_any (b g n cap k0 : Nat) (ds : List Du) (w : World) (hn : ds.length = n) (hm : n ≤ 1048576) (hk : k0 < n) (ht : Tr w b (some ⟨g, 0, none⟩) n cap) (h : Rd w g ds) (hg : g < w.heap.size) (hbg : b ≠ g) :
    Calls Try.prog 124 #[.pointer (some ⟨b, 0, none⟩), .int .i64 (k0 : Int)] w fun e w' => e = .returned (.tuple #[]) ∧ Rd w' g (downD n ds k0) ∧ Tn g (g + 1) w w' := by
  have Hn := Lib.hid hn
  have HI := Lib.hid h
  have HT := Lib.hid ht
  clear hn h ht
  go_enter Try.func124, Try.ntmps124
  go_wp2
  go_loopw [1] (fun i wr => ∃ (k F : Nat) (es : List Du), i = .int .i64 k ∧ k < n ∧ n ≤ F + k ∧ downD n ds k0 = downD F es k ∧ es.length = n ∧ Rd wr g es ∧ Tn g (g + 1) w wr) (fun i _ => n - (intOf i).toNat)
  case atStart => exact ⟨k0, n, ds, rfl, hk, by omega, rfl, Hn.out, HI.out, Tn.of_below (Below.refl _ _)⟩
  case round =>
    obtain ⟨k, F, es, rfl, hkn, hkF, heq, hel, hrd, ht⟩ := hrel
    obtain ⟨wo, rfl⟩ : ∃ wo, wo = wr := ⟨_, rfl⟩
    have Heq := Lib.hid heq
    have Hel := Lib.hid hel
    have Hrd := Lib.hid hrd
    have Ht := Lib.hid ht
    clear heq hel hrd ht
    have hgr : g < wo.heap.size := Nat.lt_of_lt_of_le hg Ht.out.size
    have HTr := Lib.hid (HT.out.tn Ht.out hbg)
    have hk0' : (0 : Int) ≤ (k : Int) := by omega
    have hk1 : (k : Int) < (n : Int) := by omega
    have hwa : IntKind.i64.wrap (2 * (k : Int)) = 2 * (k : Int) := IntWalk.i64_in _ (by omega)
    obtain ⟨c1, hc1⟩ : ∃ c1 : Nat, 2 * k + 1 = c1 := ⟨_, rfl⟩
    have hc1i : 2 * (k : Int) + 1 = (c1 : Int) := by omega
    have hc2i : 2 * (k : Int) + 2 = ((c1 + 1 : Nat) : Int) := by omega
    have hwb : IntKind.i64.wrap (c1 : Int) = (c1 : Int) := IntWalk.i64_in _ (by omega)
    have hwc : IntKind.i64.wrap ((c1 + 1 : Nat) : Int) = ((c1 + 1 : Nat) : Int) := IntWalk.i64_in _ (by omega)
    have hc1b : c1 ≤ 2097153 := by omega
    have Hc1 := Lib.hid hc1
    clear hc1
    go_wp2_with fail
    go_loopw [4, 5] (fun l c wz => ∃ i : Nat, i ≤ 2 ∧ (i = 0 ∨ 2 * k + i < n) ∧ c = .int .i64 ((c1 + i : Nat) : Int) ∧ l = .int .i64 (lstD es k i) ∧ Below wo.heap.size wo wz) (fun _ c _ => c1 + 2 - (intOf c).toNat)
    case atStart => exact ⟨0, by omega, .inl rfl, rfl, rfl, Below.refl _ _⟩
    case round =>
      obtain ⟨i, hi2, hin, rfl, rfl, hb⟩ := hrel
      have Hb := Lib.hid hb
      clear hb
      have HTz := Lib.hid (HTr.out.below Hb.out)
      obtain ⟨t0, t1, _⟩ := HTz.out.cells
      have hbl := HTz.out.lt
      have hgz : g < wr.heap.size := Nat.lt_of_lt_of_le hgr Hb.out.size
      obtain ⟨j, hj⟩ : ∃ j : Nat, c1 + i = j := ⟨_, rfl⟩
      rw [hj]
      have hj0 : (0 : Int) ≤ (j : Int) := by omega
      have hll := lstD_lt (es := es) (k := k) (by rw [Hel.out]; exact hkn) i (by rw [Hel.out]; exact hin)
      rw [Hel.out] at hll
      by_cases hgo : i < 2 ∧ j < n
      · have hj1 : (j : Int) < (n : Int) := by omega
        have hjc : (j : Int) ≤ ((c1 + 1 : Nat) : Int) := by omega
        have hjd : decide ((j : Int) ≤ ((c1 + 1 : Nat) : Int)) = true := by simpa using hjc
        have hjd2 : decide (j ≤ c1 + 1) = true := by simp; omega
        have Hgo := Lib.hid hgo
        have Hj := Lib.hid hj
        have Hls : Hid (lstD es k (i + 1) = if before (es.getD j zDu) (es.getD (lstD es k i) zDu) = true then j else lstD es k i) := by
          show lstD es k (i + 1) = _
          conv => lhs; unfold lstD
          rw [Hc1.out, hj]
        clear hgo hj hin
        obtain ⟨l, hl⟩ : ∃ l, lstD es k i = l := ⟨_, rfl⟩
        rw [hl] at hll Hls ⊢
        clear hl
        have hl0 : (0 : Int) ≤ (l : Int) := by omega
        have hl1 : (l : Int) < (n : Int) := by omega
        have RZ := Lib.hid (Hrd.out.of_block (Hb.out.block g hgr))
        obtain ⟨q0, q1, q2, qf⟩ := RZ.out j (by have := Hel.out; omega)
        obtain ⟨r0, r1, r2, rf⟩ := RZ.out l (by have := Hel.out; omega)
        obtain ⟨dat, dseq, did, hd⟩ : ∃ a b c, es.getD j zDu = ⟨a, b, c⟩ := ⟨_, _, _, rfl⟩
        obtain ⟨pat, pseq, pid, hpd⟩ : ∃ a b c, es.getD l zDu = ⟨a, b, c⟩ := ⟨_, _, _, rfl⟩
        rw [hd] at q0 q1 q2 Hls
        rw [hpd] at r0 r1 r2 Hls
        dsimp only at q0 q1 q2 r0 r1 r2
        clear hd hpd
        have Hjw : Hid (((c1 + (i + 1) : Nat) : Int) = (j : Int) + 1) := by show ((c1 + (i + 1) : Nat) : Int) = (j : Int) + 1; have := Hj.out; omega
        go_wp2_with fail
        go_still_tail 18, (by kernel_rfl)
        change wpList _ _ _ _ _ wr.drew
        go_wp2_with fail
        refine (sooner_any dat dseq did pat pseq pid _).mono ?_
        rintro e w5 ⟨rfl, b5⟩
        have B5 := Lib.hid (bel_trans Hb.out (bel_of_drew b5))
        clear b5
        cases hbf : before ⟨dat, dseq, did⟩ ⟨pat, pseq, pid⟩
        · have Hl : Hid (lstD es k (i + 1) = l) := by rw [Hls.out, hbf]; rfl
          clear hbf
          go_wp2
          go_roundw
          case rel => exact ⟨i + 1, by have := Hgo.out; omega, .inr (by have := Hgo.out; have := Hj.out; have := Hc1.out; omega), by rw [Hjw.out], by rw [Hl.out], B5.out⟩
          case measure => have := Hgo.out; have := Hj.out; simp [intOf]; omega
        · have Hl : Hid (lstD es k (i + 1) = j) := by rw [Hls.out, hbf]; rfl
          clear hbf
          go_wp2
          go_roundw
          case rel => exact ⟨i + 1, by have := Hgo.out; omega, .inr (by have := Hgo.out; have := Hj.out; have := Hc1.out; omega), by rw [Hjw.out], by rw [Hl.out], B5.out⟩
          case measure => have := Hgo.out; have := Hj.out; simp [intOf]; omega
      · have Hend := Lib.hid (lstD_end (es := es) (k := k) hi2 (by rw [Hel.out]; exact hin) (by rw [Hel.out]; have := Hc1.out; omega))
        obtain ⟨l, hl⟩ : ∃ l, lstD es k i = l := ⟨_, rfl⟩
        rw [hl] at hll Hend ⊢
        clear hl
        have hl0 : (0 : Int) ≤ (l : Int) := by omega
        have hl1 : (l : Int) < (n : Int) := by omega
        have hstop : Hid (n ≤ j ∨ c1 + 1 < j) := by show n ≤ j ∨ c1 + 1 < j; omega
        clear hgo hj
        obtain ⟨hA, hB⟩ : ((decide ((j : Int) ≤ ((c1 + 1 : Nat) : Int)) = true ∧ ¬ (j : Int) < (n : Int)) ∨ (decide ((j : Int) ≤ ((c1 + 1 : Nat) : Int)) = false)) ∧ True := by
          have := hstop.out
          refine ⟨?_, trivial⟩
          by_cases hx : (j : Int) ≤ ((c1 + 1 : Nat) : Int)
          · exact .inl ⟨by simpa using hx, by omega⟩
          · exact .inr (by simpa using hx)
        clear hB
        cases hmu : mustD es k
        · have hlk : l = k := by have := Hend.out; rw [hmu] at this; exact this
          subst hlk
          have Hmu := Lib.hid hmu
          clear hmu
          rcases hA with ⟨hA1, hA2⟩ | hA
          · have hA3 : (j : Int) ≤ ((c1 + 1 : Nat) : Int) := by simpa using hA1
            go_wp2
            refine bodyPost_ret (results_none rfl _ _ _) rfl ?_
            exact ⟨rfl, by rw [Heq.out, downD_stop Hmu.out]; exact Hrd.out.of_block (Hb.out.block g hgr), Ht.out.trans (Tn.of_below Hb.out)⟩
          · have hA3 : ¬ (j : Int) ≤ ((c1 + 1 : Nat) : Int) := by simpa using hA
            go_wp2
            refine bodyPost_ret (results_none rfl _ _ _) rfl ?_
            exact ⟨rfl, by rw [Heq.out, downD_stop Hmu.out]; exact Hrd.out.of_block (Hb.out.block g hgr), Ht.out.trans (Tn.of_below Hb.out)⟩
        · have hlk : l = kid es k := by have := Hend.out; rw [hmu] at this; exact this
          have hkl : k < l := by rw [hlk]; exact kid_gt es k
          have Hlk := Lib.hid hlk
          have Hmu := Lib.hid hmu
          clear hmu hlk
          have hne : ((l : Int) == (k : Int)) = false := by simp; omega
          have hne2 : ¬ (l : Int) = (k : Int) := by omega
          have HX : Hid (∀ W, Below wr.heap.size wr W → Calls Try.prog 122 #[.pointer (some ⟨b, 0, none⟩), .int .i64 (k : Int), .int .i64 (l : Int)] W fun e w' => e = .returned (.tuple #[]) ∧ Rd w' g (swapD es k l) ∧ Tn g (g + 1) W w') := fun W hW =>
            exchange_any b g n cap k l es W Hel.out hkn (by omega) (HTz.out.below hW) ((Hrd.out.of_block (Hb.out.block g hgr)).of_block (hW.block g hgz)) hbg
          rcases hA with ⟨hA1, hA2⟩ | hA
          · have hA3 : (j : Int) ≤ ((c1 + 1 : Nat) : Int) := by simpa using hA1
            go_wp2_with fail
            refine (HX.out _ (Below.refl _ _)).mono ?_
            rintro e w6 ⟨rfl, rd6, t6⟩
            have R6 := Lib.hid rd6
            have T6 := Lib.hid ((Ht.out.trans (Tn.of_below Hb.out)).trans t6)
            clear rd6 t6
            go_wp2
            go_roundw
            case rel =>
              obtain ⟨F', rfl⟩ : ∃ F', F = F' + 1 := ⟨F - 1, by omega⟩
              exact ⟨l, F', swapD es k l, rfl, by omega, by omega, by rw [Heq.out, downD_go Hmu.out, Hlk.out], by rw [swapD_len]; exact Hel.out, R6.out, T6.out⟩
            case measure => simp [intOf]; omega
          · have hA3 : ¬ (j : Int) ≤ ((c1 + 1 : Nat) : Int) := by simpa using hA
            go_wp2_with fail
            refine (HX.out _ (Below.refl _ _)).mono ?_
            rintro e w6 ⟨rfl, rd6, t6⟩
            have R6 := Lib.hid rd6
            have T6 := Lib.hid ((Ht.out.trans (Tn.of_below Hb.out)).trans t6)
            clear rd6 t6
            go_wp2
            go_roundw
            case rel =>
              obtain ⟨F', rfl⟩ : ∃ F', F = F' + 1 := ⟨F - 1, by omega⟩
              exact ⟨l, F', swapD es k l, rfl, by omega, by omega, by rw [Heq.out, downD_go Hmu.out, Hlk.out], by rw [swapD_len]; exact Hel.out, R6.out, T6.out⟩
            case measure => simp [intOf]; omega
end Go.Proofs.Ytpjelojmkmednaa.Hp
