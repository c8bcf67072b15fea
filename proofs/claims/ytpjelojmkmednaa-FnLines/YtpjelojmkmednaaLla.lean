/- What the laws on lines share: the boxes of the kept copy and of the argument; the law of LineOk walked. -/
import Derived.Test.YtpjelojmkmednaaLok
import Derived.Test.YtpjelojmkmednaaLv1
namespace Go.Proofs.Ytpjelojmkmednaa.Ln
open Go.RowKit Go.Deep Base

/-- At the laws' last comparison: the box of the kept copy and that of the argument. -/
structure Tw (g a : Nat) (vs us : Array Value) (V : World) : Prop where
  x : Bx V g 31 vs
  a : Bx V a 53 us
theorem Tw.below {g a : Nat} {vs us : Array Value} {V W : World} (h : Tw g a vs us V) (hb : Below V.heap.size V W) : Tw g a vs us W := ⟨h.x.below hb, h.a.below hb⟩

set_option maxRecDepth 100000 in
set_option maxHeartbeats 2000000 in
theorem lawLineOk (A : Option Addr) (ca : Nat) (x : Lx) (B : Option Addr) (cb : Nat) (w : World) (hn : x.s.ss.length ≤ 9223372036854775807) (hm : x.ds.length ≤ 9223372036854775807) (h : Que.LSl w A x.s.ss) (k : Hp.LD w B x.ds) :
    Calls Try.prog 4 #[.agg #[.slice A x.s.ss.length ca, .int .i64 x.s.f, .int .i64 x.s.l, .int .i64 x.s.r, .int .i64 x.s.c, .slice B x.ds.length cb, .int .i64 x.q]] w fun e w' => e = .returned (.bool true) ∧ Below w.heap.size w w' := by
  have HA := Lib.hid h
  have HB := Lib.hid k
  clear h k
  go_enter Try.func4, Try.ntmps4
  go_wp2_with fail
  refine (szLine_any A ca x B cb 1048576 _ hn hm (by omega) (by omega)).mono ?_
  rintro e w1 ⟨rfl, b1⟩
  have K : Hid (Bx w1 w.heap.size 53 #[.slice A x.s.ss.length ca, .int .i64 x.s.f, .int .i64 x.s.l, .int .i64 x.s.r, .int .i64 x.s.c, .slice B x.ds.length cb, .int .i64 x.q]) := (Bx.new w _ _).below b1
  have B1 := Lib.hid (bel_trans (bel_alloc w _) b1)
  have z1 : w.heap.size < w1.heap.size := K.out.lt
  clear b1
  by_cases hl : (1048576 : Int) < x.s.ss.length + x.ds.length
  · rw [if_pos hl]
    clear hl
    go_wp2
    go_ret
    exact ⟨rfl, B1.out⟩
  rw [if_neg hl]
  have hl1 : ¬ (1048576 : Int) - x.s.ss.length - x.ds.length < 0 := by omega
  have hn' : x.s.ss.length ≤ 1048576 := by omega
  have hm' : x.ds.length ≤ 1048576 := by omega
  clear hl
  obtain ⟨a0, a1, a2, a3, a4, a5, a6, af⟩ := K.out.cells7
  go_wp2_with fail
  refine (toLine_any A ca x B cb w1 hn' hm' (HA.out.below B1.out) (HB.out.below B1.out)).mono ?_
  rintro e w2 ⟨R2, A2, c2, E2, d2, rfl, v2, r2, b2⟩
  have s12 := b2.size
  replace K := Lib.hid (K.out.below b2)
  replace B1 := Lib.hid (bel_trans B1.out b2)
  have V2 := Lib.hid v2
  clear b2 v2 a0 a1 a2 a3 a4 a5 a6 af
  go_wp2_with fail
  refine (specLineOk_any A2 c2 x E2 d2 R2 w2 hn' hm' V2.out (r2.wide (Nat.zero_le _) (Nat.le_refl _))).mono ?_
  rintro e w3 ⟨rfl, b3⟩
  have s23 := b3.size
  replace K := Lib.hid (K.out.below b3)
  replace B1 := Lib.hid (bel_trans B1.out b3)
  clear b3 V2 r2
  obtain ⟨ok, hok⟩ : ∃ ok, okL x = ok := ⟨_, rfl⟩
  rw [hok]
  have Hok := Lib.hid hok
  clear hok
  obtain ⟨a0, a1, a2, a3, a4, a5, a6, af⟩ := K.out.cells7
  go_wp2_with fail
  refine (toLine_any A ca x B cb w3 hn' hm' (HA.out.below B1.out) (HB.out.below B1.out)).mono ?_
  rintro e w4 ⟨R4, A4, c4, E4, d4, rfl, v4, r4, b4⟩
  have s34 := b4.size
  replace K := Lib.hid ((K.out.below b4).alloc (.cells #[.slice A4 x.s.ss.length c4, .int .i64 x.s.f, .int .i64 x.s.l, .int .i64 x.s.r, .int .i64 x.s.c, .slice E4 x.ds.length d4, .int .i64 x.q] 31))
  have X : Hid (Bx (w4.alloc _) w4.heap.size 31 #[.slice A4 x.s.ss.length c4, .int .i64 x.s.f, .int .i64 x.s.l, .int .i64 x.s.r, .int .i64 x.s.c, .slice E4 x.ds.length d4, .int .i64 x.q]) := Bx.new w4 _ _
  replace B1 := Lib.hid (bel_trans (bel_trans B1.out b4) (bel_alloc w4 (.cells #[.slice A4 x.s.ss.length c4, .int .i64 x.s.f, .int .i64 x.s.l, .int .i64 x.s.r, .int .i64 x.s.c, .slice E4 x.ds.length d4, .int .i64 x.q] 31)))
  have V4 := Lib.hid (v4.below (bel_alloc w4 (.cells #[.slice A4 x.s.ss.length c4, .int .i64 x.s.f, .int .i64 x.s.l, .int .i64 x.s.r, .int .i64 x.s.c, .slice E4 x.ds.length d4, .int .i64 x.q] 31)) r4)
  clear b4 v4 a0 a1 a2 a3 a4 a5 a6 af
  go_wp2_with fail
  refine (implLineOk_any A4 c4 x E4 d4 R4 _ hm' V4.out (r4.wide (Nat.zero_le _) (by simp))).mono ?_
  rintro e w5 ⟨rfl, b5⟩
  have s45 : w4.heap.size < w5.heap.size := by have := b5.size; rw [World.size_alloc] at this; omega
  replace K := Lib.hid (K.out.below b5)
  replace X := Lib.hid (X.out.below b5)
  replace B1 := Lib.hid (bel_trans B1.out b5)
  replace V4 := Lib.hid (V4.out.below b5 (r4.wide (Nat.le_refl _) (by simp)))
  clear b5
  rw [Hok.out]
  go_wp2_with fail
  have HT : Hid (Tw w4.heap.size w.heap.size #[.slice A4 x.s.ss.length c4, .int .i64 x.s.f, .int .i64 x.s.l, .int .i64 x.s.r, .int .i64 x.s.c, .slice E4 x.ds.length d4, .int .i64 x.q] #[.slice A x.s.ss.length ca, .int .i64 x.s.f, .int .i64 x.s.l, .int .i64 x.s.r, .int .i64 x.s.c, .slice B x.ds.length cb, .int .i64 x.q] w5.drew) := ⟨X.out, K.out⟩
  refine wp_region_held_drew (S := Tw w4.heap.size w.heap.size #[.slice A4 x.s.ss.length c4, .int .i64 x.s.f, .int .i64 x.s.l, .int .i64 x.s.r, .int .i64 x.s.c, .slice E4 x.ds.length d4, .int .i64 x.q] #[.slice A x.s.ss.length ca, .int .i64 x.s.f, .int .i64 x.s.l, .int .i64 x.s.r, .int .i64 x.s.c, .slice B x.ds.length cb, .int .i64 x.q]) (by kernel_rfl) HT.out (fun _ => ?_)
  refine wpAnyH_take (i := 0) (v := .agg #[.slice A4 x.s.ss.length c4, .int .i64 x.s.f, .int .i64 x.s.l, .int .i64 x.s.r, .int .i64 x.s.c, .slice E4 x.ds.length d4, .int .i64 x.q]) rfl (by kernel_rfl) (by kernel_rfl) (by kernel_rfl) (fun _ _ _ h => h) (.inl ⟨rfl, fun V hS => ?y0⟩) HT.out ?_
  case y0 =>
    obtain ⟨s0, s1, s2, s3, s4, s5, s6, s7⟩ := hS.x.cells7
    clear hS s7
    go_simp
  go_simp
  refine wpAnyH_take (i := 1) (v := .agg #[.slice A x.s.ss.length ca, .int .i64 x.s.f, .int .i64 x.s.l, .int .i64 x.s.r, .int .i64 x.s.c, .slice B x.ds.length cb, .int .i64 x.q]) rfl (by kernel_rfl) (by kernel_rfl) (by kernel_rfl) (fun _ _ _ h => h) (.inl ⟨rfl, fun V hS => ?y1⟩) HT.out ?_
  case y1 =>
    obtain ⟨s0, s1, s2, s3, s4, s5, s6, s7⟩ := hS.a.cells7
    clear hS s7
    go_simp
  go_simp
  refine wpAnyH_ready (rs := [2]) (by kernel_rfl) (by simp) (AllReadyH.cons rfl (fun J hJ => ?_) AllReadyH.nil)
  go_simp
  refine (toLine_any A ca x B cb w5.drew hn' hm' (HA.out.below B1.out.drew) (HB.out.below B1.out.drew)).mono ?_
  rintro e w6 ⟨R6, A6, c6, E6, d6, rfl, v6, r6, b6⟩
  have V6 := Lib.hid v6
  have b56 := bel_of_drew b6
  have s56 := b56.size
  replace V4 := Lib.hid (V4.out.below b56 (r4.wide (Nat.le_refl _) (Nat.le_of_lt s45)))
  replace B1 := Lib.hid (bel_trans B1.out b56)
  have HT6 : Hid (Tw w4.heap.size w.heap.size #[.slice A4 x.s.ss.length c4, .int .i64 x.s.f, .int .i64 x.s.l, .int .i64 x.s.r, .int .i64 x.s.c, .slice E4 x.ds.length d4, .int .i64 x.q] #[.slice A x.s.ss.length ca, .int .i64 x.s.f, .int .i64 x.s.l, .int .i64 x.s.r, .int .i64 x.s.c, .slice B x.ds.length cb, .int .i64 x.q] w6) := HT.out.below b6
  clear b6 b56 v6
  refine hJ.out _ _ HT6.out (fun _ => ?_)
  go_simp
  refine wpAnyH_ready (rs := [3]) (by kernel_rfl) (by simp) (AllReadyH.cons rfl (fun J hJ => ?_) AllReadyH.nil)
  go_simp
  refine (eqLine_same A4 c4 x E4 d4 A6 c6 E6 d6 R4 R6 w6 hn' hm' V4.out V6.out (r4.wide (Nat.zero_le _) (by omega)) (r6.wide (Nat.zero_le _) (Nat.le_refl _))).mono ?_
  rintro e w7 ⟨rfl, b7⟩
  replace B1 := Lib.hid (bel_trans B1.out b7)
  have HT7 := Lib.hid (HT6.out.below b7)
  clear b7
  refine hJ.out _ _ HT7.out (fun _ => ?_)
  go_simp
  refine wpAnyH_ready (rs := [4]) (by kernel_rfl) (by simp) (AllReadyH.cons rfl (fun J hJ => ?_) AllReadyH.nil)
  go_simp
  refine hJ.out _ _ HT7.out (fun _ => ?_)
  refine wpAnyH_done (by kernel_rfl) ?_ _
  go_wp2
  go_ret
  exact ⟨rfl, B1.out⟩
end Go.Proofs.Ytpjelojmkmednaa.Ln
