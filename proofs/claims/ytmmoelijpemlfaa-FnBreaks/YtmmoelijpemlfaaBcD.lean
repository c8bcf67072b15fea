/- OnFailure, the reference's. -/
import Derived.Test.YtmmoelijpemlfaaBcC
import Derived.Test.YtmmoelijpemlfaaCfg1
namespace Go.Proofs.Ytmmoelijpemlfaa.Bk
open Go.RowKit Go.Deep Base Rw Tick Cf

set_option maxRecDepth 100000 in
set_option maxHeartbeats 4000000 in
theorem specOnFailure_any (c : Nat → Int) (A : Option Addr) (n cap : Nat) (s u now : Int) (zs : List Int) (w : World) (hn : zs.length = n) (hm : n ≤ 1048576) (h : Ints w A zs) :
    Calls Try.prog 32 #[.agg #[.int .i64 (c 0), .int .i64 (c 1), .int .i64 (c 2), .int .i64 (c 3), .int .i64 (c 4), .int .i64 (c 5), .int .i64 (c 6), .int .i64 (c 7), .int .i64 (c 8), .int .i64 (c 9), .int .i64 (c 10), .int .i64 (c 11), .int .i64 (c 12), .int .i64 (c 13)], .agg #[.int .i64 s, .slice A n cap, .int .i64 u], .int .i64 now] w (BrEnd w (failR c ⟨s, zs, u⟩ now)) := by
  have Hn := Lib.hid hn
  have HI := Lib.hid h
  clear h hn
  have HD := Lib.hid (canF_eq c s u now zs)
  have HF : Hid (fitF c zs now = (okC c && isT now && !(decide (0 < zs.length) && decide (now < zs.getD (zs.length - 1) 0)))) := rfl
  go_enter Try.func32, Try.ntmps32
  go_wp2_with fail
  obtain ⟨W1, hW1⟩ : ∃ W1, ((w.alloc (.cells #[.int .i64 (c 0), .int .i64 (c 1), .int .i64 (c 2), .int .i64 (c 3), .int .i64 (c 4), .int .i64 (c 5), .int .i64 (c 6), .int .i64 (c 7), .int .i64 (c 8), .int .i64 (c 9), .int .i64 (c 10), .int .i64 (c 11), .int .i64 (c 12), .int .i64 (c 13)] 25)).alloc (.cells #[.int .i64 s, .slice A n cap, .int .i64 u] 31)).alloc (.cells #[.int .i64 0, .slice none 0 0, .int .i64 0] 31) = W1 := ⟨_, rfl⟩
  have B : Hid (Below w.heap.size w W1) := by rw [← hW1]; exact bel_trans (bel_two _ _ _) (bel_alloc _ _)
  have K : Hid (W1.heap[w.heap.size]? = some (.cells #[.int .i64 (c 0), .int .i64 (c 1), .int .i64 (c 2), .int .i64 (c 3), .int .i64 (c 4), .int .i64 (c 5), .int .i64 (c 6), .int .i64 (c 7), .int .i64 (c 8), .int .i64 (c 9), .int .i64 (c 10), .int .i64 (c 11), .int .i64 (c 12), .int .i64 (c 13)] 25 (0, 0))) := by rw [← hW1]; exact ((bel_alloc _ _).block _ (by simp; omega)).trans (((bel_alloc _ _).block _ (by simp)).trans (heap_alloc_new w _))
  have X : Hid (PB W1 (w.heap.size + 1) (.int .i64 s) (.slice A n cap) (.int .i64 u)) := by
    rw [← hW1]
    refine PB.below (w := (w.alloc (.cells #[.int .i64 (c 0), .int .i64 (c 1), .int .i64 (c 2), .int .i64 (c 3), .int .i64 (c 4), .int .i64 (c 5), .int .i64 (c 6), .int .i64 (c 7), .int .i64 (c 8), .int .i64 (c 9), .int .i64 (c 10), .int .i64 (c 11), .int .i64 (c 12), .int .i64 (c 13)] 25)).alloc (.cells #[.int .i64 s, .slice A n cap, .int .i64 u] 31)) ?_ (bel_alloc _ _) (by simp)
    have := heap_alloc_new (w.alloc (.cells #[.int .i64 (c 0), .int .i64 (c 1), .int .i64 (c 2), .int .i64 (c 3), .int .i64 (c 4), .int .i64 (c 5), .int .i64 (c 6), .int .i64 (c 7), .int .i64 (c 8), .int .i64 (c 9), .int .i64 (c 10), .int .i64 (c 11), .int .i64 (c 12), .int .i64 (c 13)] 25)) (.cells #[.int .i64 s, .slice A n cap, .int .i64 u] 31)
    simp only [World.size_alloc] at this
    exact this
  have R : Hid (PB W1 (w.heap.size + 1 + 1) (.int .i64 0) (.slice none 0 0) (.int .i64 0)) := by
    rw [← hW1]
    have := heap_alloc_new ((w.alloc (.cells #[.int .i64 (c 0), .int .i64 (c 1), .int .i64 (c 2), .int .i64 (c 3), .int .i64 (c 4), .int .i64 (c 5), .int .i64 (c 6), .int .i64 (c 7), .int .i64 (c 8), .int .i64 (c 9), .int .i64 (c 10), .int .i64 (c 11), .int .i64 (c 12), .int .i64 (c 13)] 25)).alloc (.cells #[.int .i64 s, .slice A n cap, .int .i64 u] 31)) (.cells #[.int .i64 0, .slice none 0 0, .int .i64 0] 31)
    simp only [World.size_alloc] at this
    exact this
  have z1 := R.out.lt
  rw [hW1]
  clear hW1
  refine (copyB_any A n cap s u zs W1 Hn.out hm (HI.out.below B.out)).mono ?_
  rintro e w2 ⟨A2, c2, rfl, v2, b2⟩
  have s12 := b2.size
  have sw := B.out.size
  replace B := Lib.hid (bel_trans B.out b2)
  replace K := Lib.hid ((b2.block _ (by omega)).trans K.out)
  replace X := Lib.hid (X.out.below b2 (by omega))
  replace R := Lib.hid (R.out.below b2 (by omega))
  have V := Lib.hid v2
  clear b2 v2
  have y0 : w2.cell? ⟨w.heap.size, 0, none⟩ = some (.int .i64 (c 0)) := cell_of_row _ _ 0 _ _ (0, 0) K.out
  have y1 : w2.cell? ⟨w.heap.size, 1, none⟩ = some (.int .i64 (c 1)) := cell_of_row _ _ 1 _ _ (0, 0) K.out
  have y2 : w2.cell? ⟨w.heap.size, 2, none⟩ = some (.int .i64 (c 2)) := cell_of_row _ _ 2 _ _ (0, 0) K.out
  have y3 : w2.cell? ⟨w.heap.size, 3, none⟩ = some (.int .i64 (c 3)) := cell_of_row _ _ 3 _ _ (0, 0) K.out
  have y4 : w2.cell? ⟨w.heap.size, 4, none⟩ = some (.int .i64 (c 4)) := cell_of_row _ _ 4 _ _ (0, 0) K.out
  have y5 : w2.cell? ⟨w.heap.size, 5, none⟩ = some (.int .i64 (c 5)) := cell_of_row _ _ 5 _ _ (0, 0) K.out
  have y6 : w2.cell? ⟨w.heap.size, 6, none⟩ = some (.int .i64 (c 6)) := cell_of_row _ _ 6 _ _ (0, 0) K.out
  have y7 : w2.cell? ⟨w.heap.size, 7, none⟩ = some (.int .i64 (c 7)) := cell_of_row _ _ 7 _ _ (0, 0) K.out
  have y8 : w2.cell? ⟨w.heap.size, 8, none⟩ = some (.int .i64 (c 8)) := cell_of_row _ _ 8 _ _ (0, 0) K.out
  have y9 : w2.cell? ⟨w.heap.size, 9, none⟩ = some (.int .i64 (c 9)) := cell_of_row _ _ 9 _ _ (0, 0) K.out
  have y10 : w2.cell? ⟨w.heap.size, 10, none⟩ = some (.int .i64 (c 10)) := cell_of_row _ _ 10 _ _ (0, 0) K.out
  have y11 : w2.cell? ⟨w.heap.size, 11, none⟩ = some (.int .i64 (c 11)) := cell_of_row _ _ 11 _ _ (0, 0) K.out
  have y12 : w2.cell? ⟨w.heap.size, 12, none⟩ = some (.int .i64 (c 12)) := cell_of_row _ _ 12 _ _ (0, 0) K.out
  have y13 : w2.cell? ⟨w.heap.size, 13, none⟩ = some (.int .i64 (c 13)) := cell_of_row _ _ 13 _ _ (0, 0) K.out
  have lA : w.heap.size < w2.heap.size := by omega
  go_wp2_with fail
  obtain ⟨W3, hW3⟩ : ∃ W3, w2.alloc (.cells #[.int .i64 s, .slice A2 zs.length c2, .int .i64 u] 31) = W3 := ⟨_, rfl⟩
  have b3 : Below w2.heap.size w2 W3 := by rw [← hW3]; exact bel_alloc _ _
  have O : Hid (PB W3 w2.heap.size (.int .i64 s) (.slice A2 zs.length c2) (.int .i64 u)) := by rw [← hW3]; exact heap_alloc_new w2 _
  have z3 : w2.heap.size < W3.heap.size := O.out.lt
  replace B := Lib.hid (bel_trans B.out b3)
  replace K := Lib.hid ((b3.block _ (by omega)).trans K.out)
  replace X := Lib.hid (X.out.below b3 (by omega))
  replace R := Lib.hid (R.out.below b3 (by omega))
  replace V := Lib.hid (V.out.below b3 (Nat.le_refl _))
  rw [hW3]
  clear hW3 b3 y0 y1 y2 y3 y4 y5 y6 y7 y8 y9 y10 y11 y12 y13
  refine (specConfigOk_any c W3).mono ?_
  rintro e w4 ⟨rfl, b4⟩
  have s34 := b4.size
  replace B := Lib.hid (bel_trans B.out b4)
  replace K := Lib.hid ((b4.block _ (by omega)).trans K.out)
  replace X := Lib.hid (X.out.below b4 (by omega))
  replace R := Lib.hid (R.out.below b4 (by omega))
  replace O := Lib.hid (O.out.below b4 (by omega))
  replace V := Lib.hid (V.out.below b4 (by omega))
  clear b4
  have ne1 : w2.heap.size ≠ w.heap.size + 1 + 1 := by omega
  have ne2 : w2.heap.size ≠ w.heap.size + 1 := by omega
  have ne3 : w2.heap.size ≠ w.heap.size := by omega
  cases hok : okC c
  · have Hr : Hid (failR c ⟨s, zs, u⟩ now = (⟨s, zs, u⟩, false)) := by show _ = _; unfold failR; rw [HD.out, HF.out, hok]; simp
    clear hok
    obtain ⟨r0, r1, r2, rf⟩ := R.out.cells
    obtain ⟨o0, o1, o2, ofz⟩ := O.out.cells
    go_wp2
    refine bodyPost_ret (v := .tuple #[.agg #[.int .i64 s, .slice A2 (zs).length c2, .int .i64 u], .bool false]) (by simp [results, Try.results32, go_sem, r0, r1, r2]) rfl (brEnd Hr.out ?_ ?_)
    · refine IV.wide (lo := W1.heap.size) (hi := w2.heap.size) ?_ (by omega) (by simp [World.setCell] <;> omega)
      iterate 3 refine iv_set ?_ (by simp <;> omega) _
      exact V.out
    · iterate 3 refine Below.setCell ?_ (by simp <;> omega) _
      exact B.out
  have Hok := Lib.hid hok
  clear hok
  obtain ⟨x0, x1, x2, xf⟩ := X.out.cells
  go_wp2_with fail
  refine (specBreakerOk_any A n cap s u zs w4 Hn.out hm (HI.out.below B.out)).mono ?_
  rintro e w5 ⟨rfl, b5⟩
  have s45 := b5.size
  replace B := Lib.hid (bel_trans B.out b5)
  replace K := Lib.hid ((b5.block _ (by omega)).trans K.out)
  replace X := Lib.hid (X.out.below b5 (by omega))
  replace R := Lib.hid (R.out.below b5 (by omega))
  replace O := Lib.hid (O.out.below b5 (by omega))
  replace V := Lib.hid (V.out.below b5 (by omega))
  clear b5 x0 x1 x2 xf
  cases ho : okB ⟨s, zs, u⟩
  · have Hr : Hid (failR c ⟨s, zs, u⟩ now = (⟨s, zs, u⟩, false)) := by show _ = _; unfold failR; rw [HD.out, ho]; simp
    clear ho
    obtain ⟨r0, r1, r2, rf⟩ := R.out.cells
    obtain ⟨o0, o1, o2, ofz⟩ := O.out.cells
    go_wp2
    refine bodyPost_ret (v := .tuple #[.agg #[.int .i64 s, .slice A2 (zs).length c2, .int .i64 u], .bool false]) (by simp [results, Try.results32, go_sem, r0, r1, r2]) rfl (brEnd Hr.out ?_ ?_)
    · refine IV.wide (lo := W1.heap.size) (hi := w2.heap.size) ?_ (by omega) (by simp [World.setCell] <;> omega)
      iterate 3 refine iv_set ?_ (by simp <;> omega) _
      exact V.out
    · iterate 3 refine Below.setCell ?_ (by simp <;> omega) _
      exact B.out
  have Ho := Lib.hid ho
  clear ho
  go_wp2_with fail
  refine (specTickOk_any now w5).mono ?_
  rintro e w5' ⟨rfl, rfl⟩
  cases ht : isT now
  · have Hr : Hid (failR c ⟨s, zs, u⟩ now = (⟨s, zs, u⟩, false)) := by show _ = _; unfold failR; rw [HD.out, HF.out, ht]; simp
    clear ht
    obtain ⟨r0, r1, r2, rf⟩ := R.out.cells
    obtain ⟨o0, o1, o2, ofz⟩ := O.out.cells
    go_wp2
    refine bodyPost_ret (v := .tuple #[.agg #[.int .i64 s, .slice A2 (zs).length c2, .int .i64 u], .bool false]) (by simp [results, Try.results32, go_sem, r0, r1, r2]) rfl (brEnd Hr.out ?_ ?_)
    · refine IV.wide (lo := W1.heap.size) (hi := w2.heap.size) ?_ (by omega) (by simp [World.setCell] <;> omega)
      iterate 3 refine iv_set ?_ (by simp <;> omega) _
      exact V.out
    · iterate 3 refine Below.setCell ?_ (by simp <;> omega) _
      exact B.out
  have Ht := Lib.hid ht
  clear ht
  obtain ⟨x0, x1, x2, xf⟩ := X.out.cells
  obtain ⟨r0, r1, r2, rf⟩ := R.out.cells
  obtain ⟨o0, o1, o2, ofz⟩ := O.out.cells
  by_cases hlast : 0 < n ∧ now < zs.getD (n - 1) 0
  · obtain ⟨hn0, hz⟩ := hlast
    have Hr : Hid (failR c ⟨s, zs, u⟩ now = (⟨s, zs, u⟩, false)) := by show _ = _; unfold failR; rw [HD.out, HF.out, Hn.out, decide_eq_true hn0, decide_eq_true hz]; simp
    obtain ⟨g, off, rfl, hc⟩ := HI.out.below B.out (by have := Hn.out; omega)
    have hck := hc (n - 1) (by have := Hn.out; omega)
    clear hc
    obtain ⟨m, hm1⟩ : ∃ m, n - 1 = m := ⟨_, rfl⟩
    rw [hm1] at hck hz
    generalize zs.getD m 0 = z at hck hz
    have hw1 : IntKind.i64.wrap ((n : Int) - 1) = (m : Int) := by rw [IntWalk.i64_in _ (by omega)]; omega
    have hm2 : (n : Int) - 1 = (m : Int) := by omega
    have hm3 : (m : Int) < n := by omega
    have hm4 : (0 : Int) ≤ m := by omega
    go_wp2
    refine bodyPost_ret (v := .tuple #[.agg #[.int .i64 s, .slice A2 (zs).length c2, .int .i64 u], .bool false]) (by simp [results, Try.results32, go_sem, r0, r1, r2]) rfl (brEnd Hr.out ?_ ?_)
    · refine IV.wide (lo := W1.heap.size) (hi := w2.heap.size) ?_ (by omega) (by simp [World.setCell] <;> omega)
      iterate 3 refine iv_set ?_ (by simp <;> omega) _
      exact V.out
    · iterate 3 refine Below.setCell ?_ (by simp <;> omega) _
      exact B.out
  have hfit : fitF c zs now = true := by
    rw [HF.out, Hok.out, Ht.out, Hn.out]
    by_cases hn0 : 0 < n
    · rw [decide_eq_true hn0, decide_eq_false (fun hz => hlast ⟨hn0, hz⟩)]; rfl
    · rw [decide_eq_false hn0]; rfl
  have HFY := Lib.hid (failR_yes Ho.out hfit)
  have hrng := okC_iff.1 Hok.out
  have hc10 : 0 ≤ c 10 ∧ c 10 ≤ 1000000000 := by omega
  have hc11 : 0 ≤ c 11 ∧ c 11 ≤ 20 := by omega
  have hnow := isT_iff.1 Ht.out
  have hov := okB_iff.1 Ho.out
  have hst := And.intro hov.s0 hov.s1
  dsimp only at hst
  have hno : s ≠ 0 → zs = [] := hov.none
  have hus : s = 0 → u = 0 := hov.shut
  have hfew : zs.length ≤ 20 := hov.few
  have HDD := Lib.hid (fun V => specAddTick_any now (c 12) V)
  rw [addT_open Hok.out Ht.out] at HDD
  have Hop : Hid (openR c now = ⟨1, [], lim (now + c 12)⟩) := rfl
  generalize lim (now + c 12) = til at HDD Hop
  clear hfit hrng hov
  have x12 : w5.cell? ⟨w.heap.size, 12, none⟩ = some (.int .i64 (c 12)) := cell_of_row _ _ 12 _ _ (0, 0) K.out
  have hs : s = 0 ∨ s = 1 ∨ s = 2 := by omega
  rcases hs with rfl | rfl | rfl
  · obtain rfl := hus rfl
    rw [if_neg (by decide), if_neg (by decide)] at HFY
    obtain ⟨ks, hks⟩ : ∃ ks, zs.filter (inW c now) ++ [now] = ks := ⟨_, rfl⟩
    rw [hks] at HFY
    have hkl : ks.length ≤ 21 := by
      rw [← hks]
      have := List.length_filter_le (inW c now) zs
      simp
      omega
    have Hks := Lib.hid hks
    clear hks
    have Hw : Hid (IntKind.i64.wrap (now - c 10) = now - c 10) := IntWalk.i64_in _ (by omega)
    have Hp : Hid (∀ x, inW c now x = decide (now - c 10 ≤ x)) := fun _ => rfl
    generalize hpp : inW c now = p at Hp Hks
    clear hpp
    obtain ⟨lo, hlo⟩ : ∃ lo, now - c 10 = lo := ⟨_, rfl⟩
    rw [hlo] at Hw Hp
    have Hlo := Lib.hid hlo
    obtain ⟨i0, hi0, hz0, hz1, hz2⟩ := info_parts infoInt
    have Hi0 := Lib.hid hi0
    have Hz0 := Lib.hid hz0
    have Hz1 := Lib.hid hz1
    have Hz2 := Lib.hid hz2
    clear hi0 hz0 hz1 hz2 hlo
    by_cases hn0 : 0 < n
    · obtain ⟨g, off, rfl, hc⟩ := HI.out.below B.out (by have := Hn.out; omega)
      have hck := hc (n - 1) (by have := Hn.out; omega)
      clear hc
      obtain ⟨m, hm1⟩ : ∃ m, n - 1 = m := ⟨_, rfl⟩
      have hz : ¬ now < zs.getD m 0 := fun hz => hlast ⟨hn0, by rw [hm1]; exact hz⟩
      rw [hm1] at hck
      generalize zs.getD m 0 = z at hck hz
      have hw1 : IntKind.i64.wrap ((n : Int) - 1) = (m : Int) := by rw [IntWalk.i64_in _ (by omega)]; omega
      have hm2 : (n : Int) - 1 = (m : Int) := by omega
      have hm3 : (m : Int) < n := by omega
      have hm4 : (0 : Int) ≤ m := by omega
      clear hlast
      go_wp2_with fail
      go_loopw [9, 10] (fun v i wr => ∃ (y : Value) (k : Nat), y = v ∧ k ≤ n ∧ i = .int .i64 k ∧ ListSt w5.heap.size w5 wr y ((zs.take k).filter p)) (fun _ i _ => n - (intOf i).toNat)
      case atStart => exact ⟨_, 0, rfl, Nat.zero_le _, rfl, ListSt.empty w5⟩
      case round =>
        obtain ⟨y, k, rfl, hk, rfl, hst⟩ := hrel
        have zw : w5.heap.size ≤ wr.heap.size := hst.old.size
        have HB := Lib.hid (bel_trans B.out hst.old)
        clear x0 x1 x2 xf r0 r1 r2 rf o0 o1 o2 ofz x12
        have x10 : wr.cell? ⟨w.heap.size, 10, none⟩ = some (.int .i64 (c 10)) := cell_of_row _ _ 10 _ _ (0, 0) ((hst.old.block _ (by omega)).trans K.out)
        obtain ⟨_, x1, _, _⟩ := (X.out.below hst.old (by omega)).cells
        have hfw := filter_few p zs k
        obtain ⟨ts, hts⟩ : ∃ ts, (zs.take k).filter p = ts := ⟨_, rfl⟩
        rw [hts] at hst hfw
        have Hts := Lib.hid hts
        have Hst := Lib.hid hst
        clear hst hts
        by_cases hlt : k < n
        · obtain ⟨g2, off2, hA, hc⟩ := HI.out.below HB.out (by have := Hn.out; omega)
          cases hA
          have hck := hc k (by have := Hn.out; omega)
          clear hc
          have HY := Lib.hid (filter_take_yes (p := p) (zs := zs) (k := k) (by have := Hn.out; omega))
          have HN := Lib.hid (filter_take_no (p := p) (zs := zs) (k := k) (by have := Hn.out; omega))
          rw [Hts.out] at HY HN
          generalize zs.getD k 0 = z at hck HY HN
          have hw1 := Hw.out
          have hlo := Hlo.out
          have hk0 : (0 : Int) ≤ (k : Int) := by omega
          have hk1 : (k : Int) < (n : Int) := by omega
          by_cases hp : lo ≤ z
          · have HY' := Lib.hid (HY.out (by rw [Hp.out]; exact decide_eq_true hp))
            have hpd : decide (lo ≤ z) = true := decide_eq_true hp
            clear HN HY
            go_wp2_with fail
            go_quiet (fail)
            obtain ⟨WD, hWD⟩ : ∃ WD, wr.drewN nq = WD := ⟨_, rfl⟩
            have bD : Below wr.heap.size wr WD := by rw [← hWD]; exact below_drewN (Below.refl _ _) nq
            have zD : wr.heap.size ≤ WD.heap.size := bD.size
            have x1' := bkeep x1 bD
            have hck' := bkeep hck bD
            have HstD := Lib.hid (Hst.out.keep zw bD)
            rw [hWD]
            clear hWD bD x1 hck x10 hpd hp
            go_wp2_with (at_builtin; refine wpList_append_own _ rfl _ _ 29 rfl w5.heap.size 3 i0 (.int .i64 0) 1 8 Try.underlying29 Hi0.out Hz0.out Hz1.out Hz2.out rfl (by decide) _ _ _ rfl (HstD.out.own.alloc _) ⟨WD.heap.size, 0, none⟩ 1 1 [.int .i64 z] rfl rfl ?c1h ?c2h ?c3h ?c4h ?c5h ?_)
            case c1h => exact new_one_at rfl _ _
            case c2h => simp [Value.oneCell']
            case c3h => unfold maxLen; omega
            case c4h => omega
            case c5h => simp; omega
            · intro v' w8 hown hg _
              have hst1 := HstD.out.step rfl hown hg
              rw [← HY'.out] at hst1
              have HQ := Lib.hid hst1
              clear hst1 hown hg
              go_wp2
              go_roundw
              case rel => exact ⟨_, k + 1, rfl, by omega, by go_num, HQ.out⟩
              case measure => simp [intOf]; omega
          · have HN' := Lib.hid (HN.out (by rw [Hp.out]; exact decide_eq_false hp))
            have hpd : decide (lo ≤ z) = false := decide_eq_false hp
            clear HN HY
            go_wp2_with fail
            go_quiet (fail)
            have HstD := Lib.hid (Hst.out.keep zw (below_drewN (Below.refl _ _) nq))
            go_wp2
            go_roundw
            case rel => exact ⟨_, k + 1, rfl, by omega, by go_num, by rw [HN'.out]; exact HstD.out⟩
            case measure => simp [intOf]; omega
        · have hkn : k = n := by omega
          have HT : Hid (zs.filter p = ts) := by have := Hts.out; rwa [show zs.take k = zs from List.take_of_length_le (by have := Hn.out; omega)] at this
          clear x10
          go_wp2_with (at_builtin; refine wpList_append_own _ rfl _ _ 29 rfl w5.heap.size 3 i0 (.int .i64 0) 1 8 Try.underlying29 Hi0.out Hz0.out Hz1.out Hz2.out rfl (by decide) _ _ _ rfl (Hst.out.own.alloc _) ⟨wr.heap.size, 0, none⟩ 1 1 [.int .i64 now] rfl rfl ?c1h ?c2h ?c3h ?c4h ?c5h ?_)
          case c1h => exact new_one_at rfl _ _
          case c2h => simp [Value.oneCell']
          case c3h => unfold maxLen; omega
          case c4h => omega
          case c5h => simp; omega
          · intro v' w8 hown hg _
            have hst1 := Hst.out.step rfl hown hg
            rw [← HT.out, Hks.out] at hst1
            obtain ⟨A', cap', rfl⟩ := owns_form hst1.own
            have HQ := Lib.hid hst1
            have s58 : w5.heap.size ≤ w8.heap.size := hst1.old.size
            replace B := Lib.hid (bel_trans B.out hst1.old)
            replace K := Lib.hid ((hst1.old.block _ (by omega)).trans K.out)
            replace R := Lib.hid (R.out.below hst1.old (by omega))
            replace O := Lib.hid (O.out.below hst1.old (by omega))
            clear hst1 hown hg x1 Hst hkn hlt hfw hk Hts zw
            have x11 : w8.cell? ⟨w.heap.size, 11, none⟩ = some (.int .i64 (c 11)) := cell_of_row _ _ 11 _ _ (0, 0) K.out
            have x12 : w8.cell? ⟨w.heap.size, 12, none⟩ = some (.int .i64 (c 12)) := cell_of_row _ _ 12 _ _ (0, 0) K.out
            obtain ⟨r0, r1, r2, rf⟩ := R.out.cells
            obtain ⟨o0, o1, o2, ofz⟩ := O.out.cells
            by_cases htr : c 11 ≤ ks.length
            · have Hr : Hid (failR c ⟨0, zs, 0⟩ now = (⟨1, [], til⟩, true)) := by show _ = _; rw [HFY.out, if_pos htr, Hop.out]
              go_wp2_with fail
              refine (HDD.out _).mono ?_
              rintro e w9 ⟨rfl, rfl⟩
              go_wp2
              refine bodyPost_ret (v := .tuple #[.agg #[.int .i64 1, .slice none (([] : List Int)).length 0, .int .i64 til], .bool true]) (by simp [results, Try.results32, go_sem, r0, r1, r2]) rfl (brEnd Hr.out ?_ ?_)
              · refine IV.wide (lo := ((w8).heap.size)) (hi := ((w8).heap.size)) ?_ (by omega) (by simp [World.setCell] <;> omega)
                iterate 3 refine iv_set ?_ (by simp <;> omega) _
                exact (IV.nil _ _ _ _)
              · iterate 3 refine Below.setCell ?_ (by simp <;> omega) _
                exact (B.out)
            · have Hr : Hid (failR c ⟨0, zs, 0⟩ now = (⟨0, ks, 0⟩, true)) := by show _ = _; rw [HFY.out, if_neg htr]
              have htr' : (ks.length : Int) < c 11 := by omega
              go_wp2
              refine bodyPost_ret (v := .tuple #[.agg #[.int .i64 0, .slice A' (ks).length cap', .int .i64 0], .bool true]) (by simp [results, Try.results32, go_sem, r0, r1, r2]) rfl (brEnd Hr.out ?_ ?_)
              · refine IV.wide (lo := w5.heap.size) (hi := w8.heap.size) ?_ (by omega) (by simp [World.setCell] <;> omega)
                iterate 4 refine iv_set ?_ (by simp <;> omega) _
                exact (iv_owns HQ.out.own)
              · iterate 4 refine Below.setCell ?_ (by simp <;> omega) _
                exact (B.out)
    · have hn1 : ¬ (0 : Int) < (n : Int) := by omega
      clear hlast
      go_wp2_with fail
      go_loopw [9, 10] (fun v i wr => ∃ (y : Value) (k : Nat), y = v ∧ k ≤ n ∧ i = .int .i64 k ∧ ListSt w5.heap.size w5 wr y ((zs.take k).filter p)) (fun _ i _ => n - (intOf i).toNat)
      case atStart => exact ⟨_, 0, rfl, Nat.zero_le _, rfl, ListSt.empty w5⟩
      case round =>
        obtain ⟨y, k, rfl, hk, rfl, hst⟩ := hrel
        have zw : w5.heap.size ≤ wr.heap.size := hst.old.size
        have HB := Lib.hid (bel_trans B.out hst.old)
        clear x0 x1 x2 xf r0 r1 r2 rf o0 o1 o2 ofz x12
        have x10 : wr.cell? ⟨w.heap.size, 10, none⟩ = some (.int .i64 (c 10)) := cell_of_row _ _ 10 _ _ (0, 0) ((hst.old.block _ (by omega)).trans K.out)
        obtain ⟨_, x1, _, _⟩ := (X.out.below hst.old (by omega)).cells
        have hfw := filter_few p zs k
        obtain ⟨ts, hts⟩ : ∃ ts, (zs.take k).filter p = ts := ⟨_, rfl⟩
        rw [hts] at hst hfw
        have Hts := Lib.hid hts
        have Hst := Lib.hid hst
        clear hst hts
        by_cases hlt : k < n
        · exact absurd hlt (by omega)
        · have hkn : k = n := by omega
          have HT : Hid (zs.filter p = ts) := by have := Hts.out; rwa [show zs.take k = zs from List.take_of_length_le (by have := Hn.out; omega)] at this
          clear x10
          go_wp2_with (at_builtin; refine wpList_append_own _ rfl _ _ 29 rfl w5.heap.size 3 i0 (.int .i64 0) 1 8 Try.underlying29 Hi0.out Hz0.out Hz1.out Hz2.out rfl (by decide) _ _ _ rfl (Hst.out.own.alloc _) ⟨wr.heap.size, 0, none⟩ 1 1 [.int .i64 now] rfl rfl ?c1h ?c2h ?c3h ?c4h ?c5h ?_)
          case c1h => exact new_one_at rfl _ _
          case c2h => simp [Value.oneCell']
          case c3h => unfold maxLen; omega
          case c4h => omega
          case c5h => simp; omega
          · intro v' w8 hown hg _
            have hst1 := Hst.out.step rfl hown hg
            rw [← HT.out, Hks.out] at hst1
            obtain ⟨A', cap', rfl⟩ := owns_form hst1.own
            have HQ := Lib.hid hst1
            have s58 : w5.heap.size ≤ w8.heap.size := hst1.old.size
            replace B := Lib.hid (bel_trans B.out hst1.old)
            replace K := Lib.hid ((hst1.old.block _ (by omega)).trans K.out)
            replace R := Lib.hid (R.out.below hst1.old (by omega))
            replace O := Lib.hid (O.out.below hst1.old (by omega))
            clear hst1 hown hg x1 Hst hkn hlt hfw hk Hts zw
            have x11 : w8.cell? ⟨w.heap.size, 11, none⟩ = some (.int .i64 (c 11)) := cell_of_row _ _ 11 _ _ (0, 0) K.out
            have x12 : w8.cell? ⟨w.heap.size, 12, none⟩ = some (.int .i64 (c 12)) := cell_of_row _ _ 12 _ _ (0, 0) K.out
            obtain ⟨r0, r1, r2, rf⟩ := R.out.cells
            obtain ⟨o0, o1, o2, ofz⟩ := O.out.cells
            by_cases htr : c 11 ≤ ks.length
            · have Hr : Hid (failR c ⟨0, zs, 0⟩ now = (⟨1, [], til⟩, true)) := by show _ = _; rw [HFY.out, if_pos htr, Hop.out]
              go_wp2_with fail
              refine (HDD.out _).mono ?_
              rintro e w9 ⟨rfl, rfl⟩
              go_wp2
              refine bodyPost_ret (v := .tuple #[.agg #[.int .i64 1, .slice none (([] : List Int)).length 0, .int .i64 til], .bool true]) (by simp [results, Try.results32, go_sem, r0, r1, r2]) rfl (brEnd Hr.out ?_ ?_)
              · refine IV.wide (lo := ((w8).heap.size)) (hi := ((w8).heap.size)) ?_ (by omega) (by simp [World.setCell] <;> omega)
                iterate 3 refine iv_set ?_ (by simp <;> omega) _
                exact (IV.nil _ _ _ _)
              · iterate 3 refine Below.setCell ?_ (by simp <;> omega) _
                exact (B.out)
            · have Hr : Hid (failR c ⟨0, zs, 0⟩ now = (⟨0, ks, 0⟩, true)) := by show _ = _; rw [HFY.out, if_neg htr]
              have htr' : (ks.length : Int) < c 11 := by omega
              go_wp2
              refine bodyPost_ret (v := .tuple #[.agg #[.int .i64 0, .slice A' (ks).length cap', .int .i64 0], .bool true]) (by simp [results, Try.results32, go_sem, r0, r1, r2]) rfl (brEnd Hr.out ?_ ?_)
              · refine IV.wide (lo := w5.heap.size) (hi := w8.heap.size) ?_ (by omega) (by simp [World.setCell] <;> omega)
                iterate 4 refine iv_set ?_ (by simp <;> omega) _
                exact (iv_owns HQ.out.own)
              · iterate 4 refine Below.setCell ?_ (by simp <;> omega) _
                exact (B.out)
  · obtain rfl := hno (by decide)
    obtain rfl : n = 0 := by have := Hn.out; simpa using this.symm
    rw [if_neg (by decide), if_pos rfl] at HFY
    have Hr := HFY
    clear hlast
    go_wp2
    refine bodyPost_ret (v := .tuple #[.agg #[.int .i64 1, .slice A2 (([] : List Int)).length c2, .int .i64 u], .bool true]) (by simp [results, Try.results32, go_sem, r0, r1, r2]) rfl (brEnd Hr.out ?_ ?_)
    · refine IV.wide (lo := w5.heap.size) (hi := w5.heap.size) ?_ (by omega) (by simp [World.setCell] <;> omega)
      iterate 3 refine iv_set ?_ (by simp <;> omega) _
      exact (IV.nil _ _ _ _)
    · iterate 3 refine Below.setCell ?_ (by simp <;> omega) _
      exact B.out
  · obtain rfl := hno (by decide)
    obtain rfl : n = 0 := by have := Hn.out; simpa using this.symm
    rw [if_pos rfl, Hop.out] at HFY
    have Hr := HFY
    clear hlast
    go_wp2_with fail
    refine (HDD.out _).mono ?_
    rintro e w9 ⟨rfl, rfl⟩
    go_wp2
    refine bodyPost_ret (v := .tuple #[.agg #[.int .i64 1, .slice none (([] : List Int)).length 0, .int .i64 til], .bool true]) (by simp [results, Try.results32, go_sem, r0, r1, r2]) rfl (brEnd Hr.out ?_ ?_)
    · refine IV.wide (lo := ((w5).heap.size)) (hi := ((w5).heap.size)) ?_ (by omega) (by simp [World.setCell] <;> omega)
      iterate 3 refine iv_set ?_ (by simp <;> omega) _
      exact (IV.nil _ _ _ _)
    · iterate 3 refine Below.setCell ?_ (by simp <;> omega) _
      exact (B.out)
end Go.Proofs.Ytmmoelijpemlfaa.Bk
