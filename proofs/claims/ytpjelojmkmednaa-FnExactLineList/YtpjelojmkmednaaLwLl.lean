/- The law of LineList on lines walked. -/
import Derived.Test.YtpjelojmkmednaaLll
import Derived.Test.YtpjelojmkmednaaLlx
namespace Go.Proofs.Ytpjelojmkmednaa.Ln
open Go.RowKit Go.Deep Base

theorem ll_few (x : Lx) : (llA x).length ≤ 60 := by
  unfold llA
  split
  · next h => exact (Qx.ids_facts (okL_iff.1 h).ok).2.2.1
  · exact Nat.zero_le _

set_option maxRecDepth 100000 in
set_option maxHeartbeats 40000000 in
theorem lawLineList (A : Option Addr) (ca : Nat) (x : Lx) (B : Option Addr) (cb : Nat) (w : World) (hn : x.s.ss.length ≤ 9223372036854775807) (hm : x.ds.length ≤ 9223372036854775807) (h : Que.LSl w A x.s.ss) (k : Hp.LD w B x.ds) :
    Calls Try.prog 10 #[.agg #[.slice A x.s.ss.length ca, .int .i64 x.s.f, .int .i64 x.s.l, .int .i64 x.s.r, .int .i64 x.s.c, .slice B x.ds.length cb, .int .i64 x.q]] w fun e w' => e = .returned (.bool true) ∧ Below w.heap.size w w' := by
  have HA := Lib.hid h
  have HB := Lib.hid k
  clear h k
  obtain ⟨zs, hzs⟩ : ∃ zs, llA x = zs := ⟨_, rfl⟩
  have ZL : Hid (zs.length ≤ 60) := by show zs.length ≤ 60; rw [← hzs]; exact ll_few x
  have HSp : Hid (∀ A ca B cb R W, x.s.ss.length ≤ 1048576 → x.ds.length ≤ 1048576 → LnV W R A B x → R.In 0 W.heap.size → Calls Try.prog 38 #[.agg #[.slice A x.s.ss.length ca, .int .i64 x.s.f, .int .i64 x.s.l, .int .i64 x.s.r, .int .i64 x.s.c, .slice B x.ds.length cb, .int .i64 x.q]] W (Que.NewI W zs)) := fun A ca B cb R W h1 h2 h3 h4 => by
    rw [← hzs]
    exact specList_any A ca x B cb R W h1 h2 h3 h4
  have HIm : Hid (∀ A ca B cb R W, x.s.ss.length ≤ 1048576 → x.ds.length ≤ 1048576 → LnV W R A B x → R.In 0 W.heap.size → Calls Try.prog 21 #[.agg #[.slice A x.s.ss.length ca, .int .i64 x.s.f, .int .i64 x.s.l, .int .i64 x.s.r, .int .i64 x.s.c, .slice B x.ds.length cb, .int .i64 x.q]] W (Que.NewI W zs)) := fun A ca B cb R W h1 h2 h3 h4 => by
    rw [← hzs]
    exact implList_any A ca x B cb R W h1 h2 h3 h4
  clear hzs
  go_enter Try.func10, Try.ntmps10
  go_wp2_with fail
  refine (szLine_any A ca x B cb 1048576 _ hn hm (by omega) (by omega)).mono ?_
  rintro e w1 ⟨rfl, b1⟩
  have K : Hid (Bx w1 w.heap.size 53 #[.slice A x.s.ss.length ca, .int .i64 x.s.f, .int .i64 x.s.l, .int .i64 x.s.r, .int .i64 x.s.c, .slice B x.ds.length cb, .int .i64 x.q]) := (Bx.new w _ _).below b1
  have B1 := Lib.hid (bel_trans (bel_alloc w _) b1)
  have s1 : w.heap.size < w1.heap.size := K.out.lt
  clear b1
  by_cases hl : (1048576 : Int) < x.s.ss.length + x.ds.length
  · rw [if_pos hl]
    clear hl
    go_wp2
    go_ret
    exact ⟨rfl, B1.out⟩
  rw [if_neg hl]
  have hl1 : ¬ (1048576 : Int) - x.s.ss.length - x.ds.length < 0 := by omega
  have hn' : x.s.ss.length ≤ 1048576 := by omega
  have hm' : x.ds.length ≤ 1048576 := by omega
  have zl := ZL.out
  clear hl
  obtain ⟨ka0, ka1, ka2, ka3, ka4, ka5, ka6, kaf⟩ := K.out.cells7
  go_wp2_with fail
  refine (toLine_any A ca x B cb w1 hn' hm' (HA.out.below B1.out) (HB.out.below B1.out)).mono ?_
  rintro e w2 ⟨R2, A2, c2, E2, d2, rfl, v2, r2, b2⟩
  have s2 := b2.size
  clear ka0 ka1 ka2 ka3 ka4 ka5 ka6 kaf
  replace K := Lib.hid (K.out.below b2)
  replace B1 := Lib.hid (bel_trans B1.out b2)
  clear b2
  have V2 := Lib.hid v2
  clear v2
  go_wp2_with fail
  refine (HSp.out A2 c2 E2 d2 R2 w2 hn' hm' V2.out (r2.wide (Nat.zero_le _) (Nat.le_refl _))).mono ?_
  rintro e w3 ⟨C3, c3, rfl, v3, b3⟩
  have s3 := b3.size
  clear V2 r2
  replace K := Lib.hid (K.out.below b3)
  replace B1 := Lib.hid (bel_trans B1.out b3)
  clear b3
  have VW := Lib.hid v3
  clear v3
  obtain ⟨ka0, ka1, ka2, ka3, ka4, ka5, ka6, kaf⟩ := K.out.cells7
  go_wp2_with fail
  refine (toLine_any A ca x B cb w3 hn' hm' (HA.out.below B1.out) (HB.out.below B1.out)).mono ?_
  rintro e w4 ⟨R4, A4, c4, E4, d4, rfl, v4, r4, b4⟩
  have s4 := b4.size
  clear ka0 ka1 ka2 ka3 ka4 ka5 ka6 kaf
  replace K := Lib.hid (K.out.below b4)
  replace VW := Lib.hid (VW.out.below b4 (by omega))
  replace B1 := Lib.hid (bel_trans B1.out b4)
  clear b4
  have VX := Lib.hid v4
  clear v4
  obtain ⟨w4a, hw4a⟩ : ∃ w4a, w4.alloc (.cells #[.slice A4 x.s.ss.length c4, .int .i64 x.s.f, .int .i64 x.s.l, .int .i64 x.s.r, .int .i64 x.s.c, .slice E4 x.ds.length d4, .int .i64 x.q] 31) = w4a := ⟨_, rfl⟩
  have ba : Below w4.heap.size w4 w4a := by rw [← hw4a]; exact bel_alloc _ _
  have KX : Hid (Bx w4a w4.heap.size 31 #[.slice A4 x.s.ss.length c4, .int .i64 x.s.f, .int .i64 x.s.l, .int .i64 x.s.r, .int .i64 x.s.c, .slice E4 x.ds.length d4, .int .i64 x.q]) := by rw [← hw4a]; exact Bx.new _ _ _
  have sw4a : w4.heap.size < w4a.heap.size := KX.out.lt
  replace K := Lib.hid (K.out.below ba)
  replace VX := Lib.hid (VX.out.below ba (r4.wide (Nat.zero_le _) (by omega)))
  replace VW := Lib.hid (VW.out.below ba (by omega))
  replace B1 := Lib.hid (bel_trans B1.out ba)
  clear ba
  obtain ⟨kx0, kx1, kx2, kx3, kx4, kx5, kx6, kxf⟩ := KX.out.cells7
  go_wp2_with fail
  refine (HIm.out A4 c4 E4 d4 R4 w4a hn' hm' VX.out (r4.wide (Nat.zero_le _) (by omega))).mono ?_
  rintro e w5 ⟨C5, c5, rfl, v5, b5⟩
  have s5 := b5.size
  clear kx0 kx1 kx2 kx3 kx4 kx5 kx6 kxf
  clear hw4a
  replace K := Lib.hid (K.out.below b5)
  replace KX := Lib.hid (KX.out.below b5)
  replace VX := Lib.hid (VX.out.below b5 (r4.wide (Nat.zero_le _) (by omega)))
  replace VW := Lib.hid (VW.out.below b5 (by omega))
  replace B1 := Lib.hid (bel_trans B1.out b5)
  clear b5
  have VG := Lib.hid v5
  clear v5
  go_wp2_with fail
  refine (Que.eqInts_same C5 C3 _ c5 c3 zs w5 rfl (by omega) VG.out.ints VW.out.ints).mono ?_
  rintro e w6 ⟨rfl, b6⟩
  have s6 := b6.size
  replace K := Lib.hid (K.out.below b6)
  replace KX := Lib.hid (KX.out.below b6)
  replace VX := Lib.hid (VX.out.below b6 (r4.wide (Nat.zero_le _) (by omega)))
  replace VW := Lib.hid (VW.out.below b6 (by omega))
  replace VG := Lib.hid (VG.out.below b6 (by omega))
  replace B1 := Lib.hid (bel_trans B1.out b6)
  clear b6
  go_wp2_with fail
  have HT : Hid (Tw w4.heap.size w.heap.size #[.slice A4 x.s.ss.length c4, .int .i64 x.s.f, .int .i64 x.s.l, .int .i64 x.s.r, .int .i64 x.s.c, .slice E4 x.ds.length d4, .int .i64 x.q] #[.slice A x.s.ss.length ca, .int .i64 x.s.f, .int .i64 x.s.l, .int .i64 x.s.r, .int .i64 x.s.c, .slice B x.ds.length cb, .int .i64 x.q] w6.drew) := ⟨KX.out, K.out⟩
  refine wp_region_held_drew (S := Tw w4.heap.size w.heap.size #[.slice A4 x.s.ss.length c4, .int .i64 x.s.f, .int .i64 x.s.l, .int .i64 x.s.r, .int .i64 x.s.c, .slice E4 x.ds.length d4, .int .i64 x.q] #[.slice A x.s.ss.length ca, .int .i64 x.s.f, .int .i64 x.s.l, .int .i64 x.s.r, .int .i64 x.s.c, .slice B x.ds.length cb, .int .i64 x.q]) (by kernel_rfl) HT.out (fun _ => ?_)
  refine wpAnyH_take (i := 0) (v := .agg #[.slice A4 x.s.ss.length c4, .int .i64 x.s.f, .int .i64 x.s.l, .int .i64 x.s.r, .int .i64 x.s.c, .slice E4 x.ds.length d4, .int .i64 x.q]) rfl (by kernel_rfl) (by kernel_rfl) (by kernel_rfl) (fun _ _ _ h => h) (.inl ⟨rfl, fun V hS => ?y0⟩) HT.out ?_
  case y0 =>
    obtain ⟨s0, s1, s2, s3, s4, s5, s6, s7⟩ := hS.x.cells7
    clear hS s7
    go_simp
  go_simp
  refine wpAnyH_take (i := 1) (v := .agg #[.slice A x.s.ss.length ca, .int .i64 x.s.f, .int .i64 x.s.l, .int .i64 x.s.r, .int .i64 x.s.c, .slice B x.ds.length cb, .int .i64 x.q]) rfl (by kernel_rfl) (by kernel_rfl) (by kernel_rfl) (fun _ _ _ h => h) (.inl ⟨rfl, fun V hS => ?y1⟩) HT.out ?_
  case y1 =>
    obtain ⟨s0, s1, s2, s3, s4, s5, s6, s7⟩ := hS.a.cells7
    clear hS s7
    go_simp
  go_simp
  refine wpAnyH_ready (rs := [2]) (by kernel_rfl) (by simp) (AllReadyH.cons rfl (fun J hJ => ?_) AllReadyH.nil)
  go_simp
  refine (toLine_any A ca x B cb w6.drew hn' hm' (HA.out.below B1.out.drew) (HB.out.below B1.out.drew)).mono ?_
  rintro e w7 ⟨R7, A7, c7, E7, d7, rfl, v7, r7, b7'⟩
  have V7 := Lib.hid v7
  have b7 := bel_of_drew b7'
  have s7 := b7.size
  have HT7 := Lib.hid (HT.out.below b7')
  replace K := Lib.hid (K.out.below b7)
  replace KX := Lib.hid (KX.out.below b7)
  replace VX := Lib.hid (VX.out.below b7 (r4.wide (Nat.zero_le _) (by omega)))
  replace VW := Lib.hid (VW.out.below b7 (by omega))
  replace VG := Lib.hid (VG.out.below b7 (by omega))
  replace B1 := Lib.hid (bel_trans B1.out b7)
  clear b7 b7' v7 HT
  refine hJ.out _ _ HT7.out (fun _ => ?_)
  go_simp
  refine wpAnyH_ready (rs := [3]) (by kernel_rfl) (by simp) (AllReadyH.cons rfl (fun J hJ => ?_) AllReadyH.nil)
  go_simp
  refine (eqLine_same A4 c4 x E4 d4 A7 c7 E7 d7 R4 R7 w7 hn' hm' VX.out V7.out (r4.wide (Nat.zero_le _) (by omega)) (r7.wide (Nat.zero_le _) (Nat.le_refl _))).mono ?_
  rintro e w8 ⟨rfl, b8⟩
  have s8 := b8.size
  have HT8 := Lib.hid (HT7.out.below b8)
  replace K := Lib.hid (K.out.below b8)
  replace KX := Lib.hid (KX.out.below b8)
  replace VX := Lib.hid (VX.out.below b8 (r4.wide (Nat.zero_le _) (by omega)))
  replace VW := Lib.hid (VW.out.below b8 (by omega))
  replace VG := Lib.hid (VG.out.below b8 (by omega))
  replace B1 := Lib.hid (bel_trans B1.out b8)
  clear b8 V7 HT7 r7
  refine hJ.out _ _ HT8.out (fun _ => ?_)
  go_simp
  refine wpAnyH_ready (rs := [4]) (by kernel_rfl) (by simp) (AllReadyH.cons rfl (fun J hJ => ?_) AllReadyH.nil)
  go_simp
  refine hJ.out _ _ HT8.out (fun _ => ?_)
  refine wpAnyH_done (by kernel_rfl) ?_ _
  clear HT8
  obtain ⟨kx0, kx1, kx2, kx3, kx4, kx5, kx6, kxf⟩ := KX.out.cells7
  go_wp2_with fail
  refine (markLine_any A4 c4 x E4 d4 R4 1 w8 hn' hm' (by omega) (by omega) VX.out (r4.wide (Nat.zero_le _) (by omega))).mono ?_
  rintro e w9 ⟨rfl, vm9, t9⟩
  have s9 := t9.size
  clear kx0 kx1 kx2 kx3 kx4 kx5 kx6 kxf
  clear vm9
  clear VX KX
  replace K := Lib.hid (K.out.turn t9 r4 (by omega))
  replace VW := Lib.hid (by obtain ⟨_, _, _, _⟩ := r4; exact iv_tz VW.out t9 (by omega) (by omega) (by omega))
  replace VG := Lib.hid (by obtain ⟨_, _, _, _⟩ := r4; exact iv_tz VG.out t9 (by omega) (by omega) (by omega))
  replace B1 := Lib.hid (B1.out.trans (t9.below (r4.wide (by omega) (Nat.le_refl _)) (by omega)))
  clear t9
  have hk : ¬ 1 + 4 * (x.s.ss.length : Int) + 3 * (x.ds.length : Int) < 0 := by omega
  go_wp2_with fail
  refine (Que.eqInts_same C5 C3 _ c5 c3 zs w9 rfl (by omega) VG.out.ints VW.out.ints).mono ?_
  rintro e w10 ⟨rfl, b10⟩
  have s10 := b10.size
  clear hk
  replace K := Lib.hid (K.out.below b10)
  replace VW := Lib.hid (VW.out.below b10 (by omega))
  replace VG := Lib.hid (VG.out.below b10 (by omega))
  replace B1 := Lib.hid (bel_trans B1.out b10)
  clear b10
  go_wp2_with fail
  refine (Que.markInts_any C5 _ c5 _ _ 1 zs w10 rfl (by omega) (by omega) (by omega) VG.out).mono ?_
  rintro e w11 ⟨rfl, v11, t11⟩
  have s11 := t11.size
  replace K := Lib.hid (bx_turns K.out t11 (by omega))
  replace VW := Lib.hid (VW.out.turns t11 (by omega) (by omega))
  replace B1 := Lib.hid (B1.out.trans (t11.below (by omega) (by omega)))
  replace VG := Lib.hid v11
  clear v11 t11
  go_wp2_with fail
  refine (Que.heldInts_any C5 _ c5 _ _ 1 w11 (by omega) (by omega) (by omega) VG.out).mono ?_
  rintro e w' ⟨rfl, rfl⟩
  have hk2 : ¬ 1 + (zs.length : Int) < 0 := by omega
  obtain ⟨ka0, ka1, ka2, ka3, ka4, ka5, ka6, kaf⟩ := K.out.cells7
  go_wp2_with fail
  refine (toLine_any A ca x B cb w11 hn' hm' (HA.out.below B1.out) (HB.out.below B1.out)).mono ?_
  rintro e w13 ⟨R13, A13, c13, E13, d13, rfl, v13, r13, b13⟩
  have s13 := b13.size
  clear ka0 ka1 ka2 ka3 ka4 ka5 ka6 kaf
  clear K
  replace VW := Lib.hid (VW.out.below b13 (by omega))
  replace VG := Lib.hid (VG.out.below b13 (by omega))
  replace B1 := Lib.hid (bel_trans B1.out b13)
  clear b13
  have V13 := Lib.hid v13
  clear v13
  go_wp2_with fail
  refine (HIm.out A13 c13 E13 d13 R13 w13 hn' hm' V13.out (r13.wide (Nat.zero_le _) (Nat.le_refl _))).mono ?_
  rintro e w14 ⟨C14, c14, rfl, v14, b14⟩
  have s14 := b14.size
  clear V13 r13
  replace VW := Lib.hid (VW.out.below b14 (by omega))
  replace VG := Lib.hid (VG.out.below b14 (by omega))
  replace B1 := Lib.hid (bel_trans B1.out b14)
  clear b14
  have V14 := Lib.hid v14
  clear v14
  go_wp2_with fail
  refine (Que.eqInts_same C14 C3 _ c14 c3 zs w14 rfl (by omega) V14.out.ints VW.out.ints).mono ?_
  rintro e w15 ⟨rfl, b15⟩
  have s15 := b15.size
  replace VW := Lib.hid (VW.out.below b15 (by omega))
  replace VG := Lib.hid (VG.out.below b15 (by omega))
  replace V14 := Lib.hid (V14.out.below b15 (by omega))
  replace B1 := Lib.hid (bel_trans B1.out b15)
  clear b15
  go_wp2_with fail
  refine (Que.heldInts_any C5 _ c5 _ _ 1 w15 (by omega) (by omega) (by omega) VG.out).mono ?_
  rintro e w' ⟨rfl, rfl⟩
  go_wp2
  go_ret
  exact ⟨rfl, B1.out⟩
end Go.Proofs.Ytpjelojmkmednaa.Ln
