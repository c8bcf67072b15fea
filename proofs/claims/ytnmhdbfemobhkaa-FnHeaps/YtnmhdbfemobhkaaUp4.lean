/- The program's moveUp. -/
import Derived.Test.YtnmhdbfemobhkaaUp3
namespace Go.Proofs.Ytnmhdbfemobhkaa.Hp
open Go.RowKit Go.Deep Base

theorem tdiv_par' (k : Nat) : ((k : Int) - 1).tdiv 2 = (par k : Int) := by
  by_cases h : 0 < k
  · exact tdiv_par k h
  · obtain rfl : k = 0 := by omega
    rfl

theorem Tr.tn {w w' : World} {b g : Nat} {A : Option Addr} {n cap : Nat} (h : Tr w b A n cap) (t : Tn g (g + 1) w w') (hbg : b ≠ g) : Tr w' b A n cap := h.of_block (t.block b h.lt (by omega))

set_option maxRecDepth 100000 in
set_option maxHeartbeats 1000000 in
theorem moveUp_any (b g n cap k0 : Nat) (ds : List Du) (w : World) (hn : ds.length = n) (hm : n ≤ 1048576) (hk : k0 < n) (ht : Tr w b (some ⟨g, 0, none⟩) n cap) (h : Rd w g ds) (hg : g < w.heap.size) (hbg : b ≠ g) :
    Calls Try.prog 86 #[.pointer (some ⟨b, 0, none⟩), .int .i64 (k0 : Int)] w fun e w' => e = .returned (.tuple #[]) ∧ Rd w' g (upD k0 ds k0) ∧ Tn g (g + 1) w w' := by
  have Hn := Lib.hid hn
  have HI := Lib.hid h
  have HT := Lib.hid ht
  clear hn h ht
  have hk0i : (0 : Int) ≤ (k0 : Int) := by omega
  have hk1i : (k0 : Int) < (n : Int) := by omega
  have htd0 := tdiv_par' k0
  have hpl0 : par k0 ≤ k0 := by unfold par; omega
  obtain ⟨p0, hp0⟩ : ∃ p0, par k0 = p0 := ⟨_, rfl⟩
  rw [hp0] at htd0 hpl0
  have Hp0 := Lib.hid hp0
  clear hp0
  have hw10 : IntKind.i64.wrap ((k0 : Int) - 1) = (k0 : Int) - 1 := IntWalk.i64_in _ (by omega)
  have hw20 : IntKind.i64.wrap (p0 : Int) = (p0 : Int) := IntWalk.i64_in _ (by omega)
  go_enter Try.func86, Try.ntmps86
  go_wp2
  clear hw10 hw20 htd0
  go_loopw [1, 4] (fun i q wr => ∃ (k F : Nat) (es : List Du), i = .int .i64 k ∧ q = .int .i64 (par k) ∧ k < n ∧ k ≤ F ∧ upD k0 ds k0 = upD F es k ∧ es.length = n ∧ Rd wr g es ∧ Tn g (g + 1) w wr) (fun i _ _ => (intOf i).toNat)
  case atStart => exact ⟨k0, k0, ds, rfl, by rw [Hp0.out], hk, Nat.le_refl _, rfl, Hn.out, HI.out, Tn.of_below (Below.refl _ _)⟩
  case round =>
    obtain ⟨k, F, es, rfl, rfl, hkn, hkF, heq, hel, hrd, ht⟩ := hrel
    have Heq := Lib.hid heq
    have Hel := Lib.hid hel
    have Hrd := Lib.hid hrd
    have Ht := Lib.hid ht
    clear heq hel hrd ht hk0i hk1i hpl0
    have hgr : g < wr.heap.size := Nat.lt_of_lt_of_le hg Ht.out.size
    have HTr := Lib.hid (HT.out.tn Ht.out hbg)
    obtain ⟨t0, t1, _⟩ := HTr.out.cells
    have hbl := HTr.out.lt
    have hk0' : (0 : Int) ≤ (k : Int) := by omega
    have hk1 : (k : Int) < (n : Int) := by omega
    obtain ⟨p, hp⟩ : ∃ p, par k = p := ⟨_, rfl⟩
    rw [hp]
    have Hp := Lib.hid hp
    clear hp
    by_cases hk00 : k = 0
    · have hkd : decide (0 < (k : Int)) = false := by simp; omega
      have hkd2 : decide (0 < k) = false := by simp; omega
      have hkn0 : ¬ 0 < k := by omega
      have Hk0 := Lib.hid hk00
      clear hk00
      go_wp2_with fail
      go_quiet (fail)
      go_wp2
      go_end0
      exact ⟨rfl, by rw [Heq.out, upD_stop (by rw [Hk0.out]; rfl)]; exact Hrd.out.of_block rfl, Ht.out.trans (Tn.of_below (below_drewN (Below.refl _ _) _))⟩
    have hkp : 0 < k := by omega
    clear hk00
    have hpl : p < k := by have := Hp.out; unfold par at this; omega
    obtain ⟨c0, c1, c2, _⟩ := Hrd.out k (by have := Hel.out; omega)
    obtain ⟨q0, q1, q2, qf⟩ := Hrd.out p (by have := Hel.out; omega)
    obtain ⟨dat, dseq, did, hd⟩ : ∃ a b c, es.getD k zDu = ⟨a, b, c⟩ := ⟨_, _, _, rfl⟩
    obtain ⟨pat, pseq, pid, hpd⟩ : ∃ a b c, es.getD p zDu = ⟨a, b, c⟩ := ⟨_, _, _, rfl⟩
    rw [hd] at c0 c1 c2
    rw [hpd] at q0 q1 q2
    dsimp only at q0 q1 q2 c0 c1 c2
    have Hd := Lib.hid hd
    have Hpd := Lib.hid hpd
    clear hd hpd
    have hpi0 : (0 : Int) ≤ (p : Int) := by omega
    have hpi1 : (p : Int) < (n : Int) := by omega
    have hkd : decide (0 < (k : Int)) = true := by simp; omega
    go_wp2_with fail
    refine wp_region_still_tail 21 (by kernel_rfl) (by kernel_rfl) ?_
    simp only [List.take_succ_cons, List.take_zero, List.drop_succ_cons, List.drop_zero]
    repeat still_step
    refine wpStill_nil ?_
    change wpList _ _ _ _ _ wr.drew
    go_wp2_with fail
    refine (sooner_any dat dseq did pat pseq pid _).mono ?_
    rintro e w5 ⟨rfl, b5⟩
    have B5 := Lib.hid (bel_of_drew b5)
    have hz5 : wr.heap.size ≤ w5.heap.size := b5.size
    clear b5 c0 c1 c2 q0 q1 q2 qf t0 t1
    cases hbf : before ⟨dat, dseq, did⟩ ⟨pat, pseq, pid⟩
    · have Hst : Hid ((decide (0 < k) && before (es.getD k zDu) (es.getD (par k) zDu)) = false) := by
        show (decide (0 < k) && before (es.getD k zDu) (es.getD (par k) zDu)) = false
        rw [Hp.out, Hd.out, Hpd.out, hbf]; simp
      clear hbf
      go_wp2
      go_end0
      exact ⟨rfl, by rw [Heq.out, upD_stop Hst.out]; exact Hrd.out.of_block (B5.out.block g hgr), Ht.out.trans (Tn.of_below B5.out)⟩
    · have Hst : Hid ((decide (0 < k) && before (es.getD k zDu) (es.getD (par k) zDu)) = true) := by rw [Hp.out, Hd.out, Hpd.out, hbf, decide_eq_true hkp]; rfl
      clear hbf
      go_wp2_with fail
      refine (exchange_any b g n cap k p es w5 Hel.out hkn (by omega) (HTr.out.below B5.out) (Hrd.out.of_block (B5.out.block g hgr)) hbg).mono ?_
      rintro e w6 ⟨rfl, rd6, t6⟩
      have R6 := Lib.hid rd6
      have T6 := Lib.hid ((Ht.out.trans (Tn.of_below B5.out)).trans t6)
      clear rd6 t6
      have htd := tdiv_par' p
      have hppl : par p ≤ p := by unfold par; omega
      obtain ⟨pp, hpp⟩ : ∃ pp, par p = pp := ⟨_, rfl⟩
      rw [hpp] at htd hppl
      have Hpp := Lib.hid hpp
      clear hpp
      have hw1 : IntKind.i64.wrap ((p : Int) - 1) = (p : Int) - 1 := IntWalk.i64_in _ (by omega)
      have hw2 : IntKind.i64.wrap (pp : Int) = (pp : Int) := IntWalk.i64_in _ (by omega)
      go_wp2
      go_roundw
      case rel =>
        obtain ⟨F', rfl⟩ : ∃ F', F = F' + 1 := ⟨F - 1, by omega⟩
        exact ⟨p, F', swapD es k p, rfl, by rw [Hpp.out], by omega, by omega, by rw [Heq.out, upD_go Hst.out, Hp.out], by rw [swapD_len]; exact Hel.out, R6.out, T6.out⟩
      case measure => simp [intOf]; omega
end Go.Proofs.Ytnmhdbfemobhkaa.Hp
