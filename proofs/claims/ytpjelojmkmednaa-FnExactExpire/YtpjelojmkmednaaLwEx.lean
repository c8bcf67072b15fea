/- The law of Expire on lines walked. -/
import Derived.Test.YtpjelojmkmednaaLex
import Derived.Test.YtpjelojmkmednaaLex2
import Derived.Test.YtpjelojmkmednaaLlx
namespace Go.Proofs.Ytpjelojmkmednaa.Ln
open Go.RowKit Go.Deep Base

set_option maxRecDepth 100000 in
set_option maxHeartbeats 40000000 in
theorem lawExpire (A : Option Addr) (ca : Nat) (x : Lx) (B : Option Addr) (cb : Nat) (t : Int) (w : World) (hn : x.s.ss.length ≤ 9223372036854775807) (hm : x.ds.length ≤ 9223372036854775807) (h : Que.LSl w A x.s.ss) (k : Hp.LD w B x.ds) :
    Calls Try.prog 9 #[.agg #[.slice A x.s.ss.length ca, .int .i64 x.s.f, .int .i64 x.s.l, .int .i64 x.s.r, .int .i64 x.s.c, .slice B x.ds.length cb, .int .i64 x.q], .int .i64 t] w fun e w' => e = .returned (.bool true) ∧ Below w.heap.size w w' := by
  have HA := Lib.hid h
  have HB := Lib.hid k
  clear h k
  obtain ⟨y, hy⟩ : ∃ y, exX x t = y := ⟨_, rfl⟩
  obtain ⟨zs, hzs⟩ : ∃ zs, exL x t = zs := ⟨_, rfl⟩
  have YL : Hid (y.s.ss.length = x.s.ss.length) := by show y.s.ss.length = _; rw [← hy]; exact exX_len x t
  have YF : Hid (y.ds.length ≤ x.ds.length) := by show y.ds.length ≤ _; rw [← hy]; exact exX_few x t
  have ZL : Hid (zs.length ≤ x.ds.length) := by show zs.length ≤ _; rw [← hzs]; exact exL_few x t
  have HSp : Hid (∀ A ca B cb R W, x.s.ss.length ≤ 1048576 → x.ds.length ≤ 1048576 → LnV W R A B x → R.In 0 W.heap.size → Calls Try.prog 34 #[.agg #[.slice A x.s.ss.length ca, .int .i64 x.s.f, .int .i64 x.s.l, .int .i64 x.s.r, .int .i64 x.s.c, .slice B x.ds.length cb, .int .i64 x.q], .int .i64 t] W (NewLI W y zs)) := fun A ca B cb R W h1 h2 h3 h4 => by
    rw [← hy, ← hzs]
    exact specExpire_any A ca x B cb t R W h1 h2 h3 h4
  have HIm : Hid (∀ A ca B cb R W, x.s.ss.length ≤ 1048576 → x.ds.length ≤ 1048576 → LnV W R A B x → R.In 0 W.heap.size → Calls Try.prog 17 #[.agg #[.slice A x.s.ss.length ca, .int .i64 x.s.f, .int .i64 x.s.l, .int .i64 x.s.r, .int .i64 x.s.c, .slice B x.ds.length cb, .int .i64 x.q], .int .i64 t] W (NewLI W y zs)) := fun A ca B cb R W h1 h2 h3 h4 => by
    rw [← hy, ← hzs]
    exact implExpire_any A ca x B cb t R W h1 h2 h3 h4
  clear hy hzs
  go_enter Try.func9, Try.ntmps9
  go_wp2_with fail
  refine (szLine_any A ca x B cb 1048576 _ hn hm (by omega) (by omega)).mono ?_
  rintro e w1 ⟨rfl, b1⟩
  have K : Hid (Bx w1 w.heap.size 53 #[.slice A x.s.ss.length ca, .int .i64 x.s.f, .int .i64 x.s.l, .int .i64 x.s.r, .int .i64 x.s.c, .slice B x.ds.length cb, .int .i64 x.q]) := (Bx.new w _ _).below b1
  have B1 := Lib.hid (bel_trans (bel_alloc w _) b1)
  have s1 : w.heap.size < w1.heap.size := K.out.lt
  clear b1
  by_cases hl : (1048576 : Int) < x.s.ss.length + x.ds.length
  · rw [if_pos hl]
    clear hl
    go_wp2
    go_ret
    exact ⟨rfl, B1.out⟩
  rw [if_neg hl]
  have hl1 : ¬ (1048576 : Int) - x.s.ss.length - x.ds.length < 0 := by omega
  have hn' : x.s.ss.length ≤ 1048576 := by omega
  have hm' : x.ds.length ≤ 1048576 := by omega
  have yn : y.s.ss.length ≤ 1048576 := by rw [YL.out]; exact hn'
  have ym : y.ds.length ≤ 1048576 := Nat.le_trans YF.out hm'
  have zl : zs.length ≤ 1048576 := Nat.le_trans ZL.out hm'
  clear hl
  obtain ⟨ka0, ka1, ka2, ka3, ka4, ka5, ka6, kaf⟩ := K.out.cells7
  go_wp2_with fail
  refine (toLine_any A ca x B cb w1 hn' hm' (HA.out.below B1.out) (HB.out.below B1.out)).mono ?_
  rintro e w2 ⟨R2, A2, c2, E2, d2, rfl, v2, r2, b2⟩
  have s2 := b2.size
  clear ka0 ka1 ka2 ka3 ka4 ka5 ka6 kaf
  replace K := Lib.hid (K.out.below b2)
  replace B1 := Lib.hid (bel_trans B1.out b2)
  clear b2
  have V2 := Lib.hid v2
  clear v2
  go_wp2_with fail
  refine (HSp.out A2 c2 E2 d2 R2 w2 hn' hm' V2.out (r2.wide (Nat.zero_le _) (Nat.le_refl _))).mono ?_
  rintro e w3 ⟨R3, A3, c3, E3, d3, C3, f3, l3, h3, rfl, v3, r3, i3, q3, p3, _, _, b3⟩
  have s3 := b3.size
  clear V2 r2
  replace K := Lib.hid (K.out.below b3)
  replace B1 := Lib.hid (bel_trans B1.out b3)
  clear b3
  have VW := Lib.hid v3
  clear v3
  have IW := Lib.hid i3
  clear i3
  obtain ⟨w3a, hw3a⟩ : ∃ w3a, w3.alloc (.cells #[.slice A3 y.s.ss.length c3, .int .i64 y.s.f, .int .i64 y.s.l, .int .i64 y.s.r, .int .i64 y.s.c, .slice E3 y.ds.length d3, .int .i64 y.q] 31) = w3a := ⟨_, rfl⟩
  have ba : Below w3.heap.size w3 w3a := by rw [← hw3a]; exact bel_alloc _ _
  have KW : Hid (Bx w3a w3.heap.size 31 #[.slice A3 y.s.ss.length c3, .int .i64 y.s.f, .int .i64 y.s.l, .int .i64 y.s.r, .int .i64 y.s.c, .slice E3 y.ds.length d3, .int .i64 y.q]) := by rw [← hw3a]; exact Bx.new _ _ _
  have sw3a : w3.heap.size < w3a.heap.size := KW.out.lt
  replace K := Lib.hid (K.out.below ba)
  replace VW := Lib.hid (VW.out.below ba (r3.wide (Nat.zero_le _) (by omega)))
  replace IW := Lib.hid (IW.out.below ba (by omega))
  replace B1 := Lib.hid (bel_trans B1.out ba)
  clear ba
  obtain ⟨ka0, ka1, ka2, ka3, ka4, ka5, ka6, kaf⟩ := K.out.cells7
  go_wp2_with fail
  refine (toLine_any A ca x B cb w3a hn' hm' (HA.out.below B1.out) (HB.out.below B1.out)).mono ?_
  rintro e w4 ⟨R4, A4, c4, E4, d4, rfl, v4, r4, b4⟩
  have s4 := b4.size
  clear ka0 ka1 ka2 ka3 ka4 ka5 ka6 kaf
  clear hw3a
  replace K := Lib.hid (K.out.below b4)
  replace KW := Lib.hid (KW.out.below b4)
  replace VW := Lib.hid (VW.out.below b4 (r3.wide (Nat.zero_le _) (by omega)))
  replace IW := Lib.hid (IW.out.below b4 (by omega))
  replace B1 := Lib.hid (bel_trans B1.out b4)
  clear b4
  have VX := Lib.hid v4
  clear v4
  obtain ⟨w4a, hw4a⟩ : ∃ w4a, w4.alloc (.cells #[.slice A4 x.s.ss.length c4, .int .i64 x.s.f, .int .i64 x.s.l, .int .i64 x.s.r, .int .i64 x.s.c, .slice E4 x.ds.length d4, .int .i64 x.q] 31) = w4a := ⟨_, rfl⟩
  have ba : Below w4.heap.size w4 w4a := by rw [← hw4a]; exact bel_alloc _ _
  have KX : Hid (Bx w4a w4.heap.size 31 #[.slice A4 x.s.ss.length c4, .int .i64 x.s.f, .int .i64 x.s.l, .int .i64 x.s.r, .int .i64 x.s.c, .slice E4 x.ds.length d4, .int .i64 x.q]) := by rw [← hw4a]; exact Bx.new _ _ _
  have sw4a : w4.heap.size < w4a.heap.size := KX.out.lt
  replace K := Lib.hid (K.out.below ba)
  replace KW := Lib.hid (KW.out.below ba)
  replace VW := Lib.hid (VW.out.below ba (r3.wide (Nat.zero_le _) (by omega)))
  replace VX := Lib.hid (VX.out.below ba (r4.wide (Nat.zero_le _) (by omega)))
  replace IW := Lib.hid (IW.out.below ba (by omega))
  replace B1 := Lib.hid (bel_trans B1.out ba)
  clear ba
  obtain ⟨kx0, kx1, kx2, kx3, kx4, kx5, kx6, kxf⟩ := KX.out.cells7
  go_wp2_with fail
  refine (HIm.out A4 c4 E4 d4 R4 w4a hn' hm' VX.out (r4.wide (Nat.zero_le _) (by omega))).mono ?_
  rintro e w5 ⟨R5, A5, c5, E5, d5, C5, f5, l5, h5, rfl, v5, r5, i5, q5, p5, ap1, ap2, b5⟩
  have s5 := b5.size
  clear kx0 kx1 kx2 kx3 kx4 kx5 kx6 kxf
  clear hw4a
  replace K := Lib.hid (K.out.below b5)
  replace KW := Lib.hid (KW.out.below b5)
  replace KX := Lib.hid (KX.out.below b5)
  replace VW := Lib.hid (VW.out.below b5 (r3.wide (Nat.zero_le _) (by omega)))
  replace VX := Lib.hid (VX.out.below b5 (r4.wide (Nat.zero_le _) (by omega)))
  replace IW := Lib.hid (IW.out.below b5 (by omega))
  replace B1 := Lib.hid (bel_trans B1.out b5)
  clear b5
  have VG := Lib.hid v5
  clear v5
  have IG := Lib.hid i5
  clear i5
  obtain ⟨w5a, hw5a⟩ : ∃ w5a, w5.alloc (.cells #[.slice A5 y.s.ss.length c5, .int .i64 y.s.f, .int .i64 y.s.l, .int .i64 y.s.r, .int .i64 y.s.c, .slice E5 y.ds.length d5, .int .i64 y.q] 31) = w5a := ⟨_, rfl⟩
  have ba : Below w5.heap.size w5 w5a := by rw [← hw5a]; exact bel_alloc _ _
  have KG : Hid (Bx w5a w5.heap.size 31 #[.slice A5 y.s.ss.length c5, .int .i64 y.s.f, .int .i64 y.s.l, .int .i64 y.s.r, .int .i64 y.s.c, .slice E5 y.ds.length d5, .int .i64 y.q]) := by rw [← hw5a]; exact Bx.new _ _ _
  have sw5a : w5.heap.size < w5a.heap.size := KG.out.lt
  replace K := Lib.hid (K.out.below ba)
  replace KW := Lib.hid (KW.out.below ba)
  replace KX := Lib.hid (KX.out.below ba)
  replace VW := Lib.hid (VW.out.below ba (r3.wide (Nat.zero_le _) (by omega)))
  replace VX := Lib.hid (VX.out.below ba (r4.wide (Nat.zero_le _) (by omega)))
  replace VG := Lib.hid (VG.out.below ba (r5.wide (Nat.zero_le _) (by omega)))
  replace IW := Lib.hid (IW.out.below ba (by omega))
  replace IG := Lib.hid (IG.out.below ba (by omega))
  replace B1 := Lib.hid (bel_trans B1.out ba)
  clear ba
  obtain ⟨kg0, kg1, kg2, kg3, kg4, kg5, kg6, kgf⟩ := KG.out.cells7
  obtain ⟨kw0, kw1, kw2, kw3, kw4, kw5, kw6, kwf⟩ := KW.out.cells7
  go_wp2_with fail
  refine (eqLine_same A5 c5 y E5 d5 A3 c3 E3 d3 R5 R3 w5a yn ym VG.out VW.out (r5.wide (Nat.zero_le _) (by omega)) (r3.wide (Nat.zero_le _) (by omega))).mono ?_
  rintro e w6 ⟨rfl, b6⟩
  have s6 := b6.size
  clear kg0 kg1 kg2 kg3 kg4 kg5 kg6 kgf kw0 kw1 kw2 kw3 kw4 kw5 kw6 kwf
  clear hw5a
  replace K := Lib.hid (K.out.below b6)
  replace KW := Lib.hid (KW.out.below b6)
  replace KX := Lib.hid (KX.out.below b6)
  replace KG := Lib.hid (KG.out.below b6)
  replace VW := Lib.hid (VW.out.below b6 (r3.wide (Nat.zero_le _) (by omega)))
  replace VX := Lib.hid (VX.out.below b6 (r4.wide (Nat.zero_le _) (by omega)))
  replace VG := Lib.hid (VG.out.below b6 (r5.wide (Nat.zero_le _) (by omega)))
  replace IW := Lib.hid (IW.out.below b6 (by omega))
  replace IG := Lib.hid (IG.out.below b6 (by omega))
  replace B1 := Lib.hid (bel_trans B1.out b6)
  clear b6
  go_wp2_with fail
  refine (Que.eqInts_same C5 C3 _ f5 f3 zs w6 rfl (by omega) IG.out.ints IW.out.ints).mono ?_
  rintro e w6b ⟨rfl, b6b⟩
  have s6b := b6b.size
  replace K := Lib.hid (K.out.below b6b)
  replace KW := Lib.hid (KW.out.below b6b)
  replace KX := Lib.hid (KX.out.below b6b)
  replace KG := Lib.hid (KG.out.below b6b)
  replace VW := Lib.hid (VW.out.below b6b (r3.wide (Nat.zero_le _) (by omega)))
  replace VX := Lib.hid (VX.out.below b6b (r4.wide (Nat.zero_le _) (by omega)))
  replace VG := Lib.hid (VG.out.below b6b (r5.wide (Nat.zero_le _) (by omega)))
  replace IW := Lib.hid (IW.out.below b6b (by omega))
  replace IG := Lib.hid (IG.out.below b6b (by omega))
  replace B1 := Lib.hid (bel_trans B1.out b6b)
  clear b6b
  go_wp2_with fail
  have HT : Hid (Tw w4.heap.size w.heap.size #[.slice A4 x.s.ss.length c4, .int .i64 x.s.f, .int .i64 x.s.l, .int .i64 x.s.r, .int .i64 x.s.c, .slice E4 x.ds.length d4, .int .i64 x.q] #[.slice A x.s.ss.length ca, .int .i64 x.s.f, .int .i64 x.s.l, .int .i64 x.s.r, .int .i64 x.s.c, .slice B x.ds.length cb, .int .i64 x.q] w6b.drew) := ⟨KX.out, K.out⟩
  refine wp_region_held_drew (S := Tw w4.heap.size w.heap.size #[.slice A4 x.s.ss.length c4, .int .i64 x.s.f, .int .i64 x.s.l, .int .i64 x.s.r, .int .i64 x.s.c, .slice E4 x.ds.length d4, .int .i64 x.q] #[.slice A x.s.ss.length ca, .int .i64 x.s.f, .int .i64 x.s.l, .int .i64 x.s.r, .int .i64 x.s.c, .slice B x.ds.length cb, .int .i64 x.q]) (by kernel_rfl) HT.out (fun _ => ?_)
  refine wpAnyH_take (i := 0) (v := .agg #[.slice A4 x.s.ss.length c4, .int .i64 x.s.f, .int .i64 x.s.l, .int .i64 x.s.r, .int .i64 x.s.c, .slice E4 x.ds.length d4, .int .i64 x.q]) rfl (by kernel_rfl) (by kernel_rfl) (by kernel_rfl) (fun _ _ _ h => h) (.inl ⟨rfl, fun V hS => ?y0⟩) HT.out ?_
  case y0 =>
    obtain ⟨s0, s1, s2, s3, s4, s5, s6, s7⟩ := hS.x.cells7
    clear hS s7
    go_simp
  go_simp
  refine wpAnyH_take (i := 1) (v := .agg #[.slice A x.s.ss.length ca, .int .i64 x.s.f, .int .i64 x.s.l, .int .i64 x.s.r, .int .i64 x.s.c, .slice B x.ds.length cb, .int .i64 x.q]) rfl (by kernel_rfl) (by kernel_rfl) (by kernel_rfl) (fun _ _ _ h => h) (.inl ⟨rfl, fun V hS => ?y1⟩) HT.out ?_
  case y1 =>
    obtain ⟨s0, s1, s2, s3, s4, s5, s6, s7⟩ := hS.a.cells7
    clear hS s7
    go_simp
  go_simp
  refine wpAnyH_ready (rs := [2]) (by kernel_rfl) (by simp) (AllReadyH.cons rfl (fun J hJ => ?_) AllReadyH.nil)
  go_simp
  refine (toLine_any A ca x B cb w6b.drew hn' hm' (HA.out.below B1.out.drew) (HB.out.below B1.out.drew)).mono ?_
  rintro e w7 ⟨R7, A7, c7, E7, d7, rfl, v7, r7, b7'⟩
  have V7 := Lib.hid v7
  have b7 := bel_of_drew b7'
  have s7 := b7.size
  have HT7 := Lib.hid (HT.out.below b7')
  replace K := Lib.hid (K.out.below b7)
  replace KW := Lib.hid (KW.out.below b7)
  replace KX := Lib.hid (KX.out.below b7)
  replace KG := Lib.hid (KG.out.below b7)
  replace VW := Lib.hid (VW.out.below b7 (r3.wide (Nat.zero_le _) (by omega)))
  replace VX := Lib.hid (VX.out.below b7 (r4.wide (Nat.zero_le _) (by omega)))
  replace VG := Lib.hid (VG.out.below b7 (r5.wide (Nat.zero_le _) (by omega)))
  replace IW := Lib.hid (IW.out.below b7 (by omega))
  replace IG := Lib.hid (IG.out.below b7 (by omega))
  replace B1 := Lib.hid (bel_trans B1.out b7)
  clear b7 b7' v7 HT
  refine hJ.out _ _ HT7.out (fun _ => ?_)
  go_simp
  refine wpAnyH_ready (rs := [3]) (by kernel_rfl) (by simp) (AllReadyH.cons rfl (fun J hJ => ?_) AllReadyH.nil)
  go_simp
  refine (eqLine_same A4 c4 x E4 d4 A7 c7 E7 d7 R4 R7 w7 hn' hm' VX.out V7.out (r4.wide (Nat.zero_le _) (by omega)) (r7.wide (Nat.zero_le _) (Nat.le_refl _))).mono ?_
  rintro e w8 ⟨rfl, b8⟩
  have s8 := b8.size
  have HT8 := Lib.hid (HT7.out.below b8)
  replace K := Lib.hid (K.out.below b8)
  replace KW := Lib.hid (KW.out.below b8)
  replace KX := Lib.hid (KX.out.below b8)
  replace KG := Lib.hid (KG.out.below b8)
  replace VW := Lib.hid (VW.out.below b8 (r3.wide (Nat.zero_le _) (by omega)))
  replace VX := Lib.hid (VX.out.below b8 (r4.wide (Nat.zero_le _) (by omega)))
  replace VG := Lib.hid (VG.out.below b8 (r5.wide (Nat.zero_le _) (by omega)))
  replace IW := Lib.hid (IW.out.below b8 (by omega))
  replace IG := Lib.hid (IG.out.below b8 (by omega))
  replace B1 := Lib.hid (bel_trans B1.out b8)
  clear b8 V7 HT7 r7
  refine hJ.out _ _ HT8.out (fun _ => ?_)
  go_simp
  refine wpAnyH_ready (rs := [4]) (by kernel_rfl) (by simp) (AllReadyH.cons rfl (fun J hJ => ?_) AllReadyH.nil)
  go_simp
  refine hJ.out _ _ HT8.out (fun _ => ?_)
  refine wpAnyH_done (by kernel_rfl) ?_ _
  clear HT8
  obtain ⟨kx0, kx1, kx2, kx3, kx4, kx5, kx6, kxf⟩ := KX.out.cells7
  go_wp2_with fail
  refine (markLine_any A4 c4 x E4 d4 R4 1 w8 hn' hm' (by omega) (by omega) VX.out (r4.wide (Nat.zero_le _) (by omega))).mono ?_
  rintro e w9 ⟨rfl, vm9, t9⟩
  have s9 := t9.size
  clear kx0 kx1 kx2 kx3 kx4 kx5 kx6 kxf
  clear vm9
  clear VX KX
  replace K := Lib.hid (K.out.turn t9 r4 (by omega))
  replace KW := Lib.hid (KW.out.turn t9 r4 (by omega))
  replace KG := Lib.hid (KG.out.turn t9 r4 (by omega))
  replace VW := Lib.hid (VW.out.turn t9 r3 (r4.wide (Nat.le_refl _) (by omega)) (by omega) (by omega))
  replace VG := Lib.hid (VG.out.turn' t9 r5 r4 (by omega) (by omega))
  replace IW := Lib.hid (by obtain ⟨_, _, _, _⟩ := r4; exact iv_tz IW.out t9 (by omega) (by omega) (by omega))
  replace IG := Lib.hid (by obtain ⟨_, _, _, _⟩ := r4; exact iv_tz IG.out t9 (by omega) (by omega) (by omega))
  replace B1 := Lib.hid (B1.out.trans (t9.below (r4.wide (by omega) (Nat.le_refl _)) (by omega)))
  clear t9
  have hk : ¬ 1 + 4 * (x.s.ss.length : Int) + 3 * (x.ds.length : Int) < 0 := by omega
  obtain ⟨kg0, kg1, kg2, kg3, kg4, kg5, kg6, kgf⟩ := KG.out.cells7
  obtain ⟨kw0, kw1, kw2, kw3, kw4, kw5, kw6, kwf⟩ := KW.out.cells7
  go_wp2_with fail
  refine (eqLine_same A5 c5 y E5 d5 A3 c3 E3 d3 R5 R3 w9 yn ym VG.out VW.out (r5.wide (Nat.zero_le _) (by omega)) (r3.wide (Nat.zero_le _) (by omega))).mono ?_
  rintro e w10 ⟨rfl, b10⟩
  have s10 := b10.size
  clear kg0 kg1 kg2 kg3 kg4 kg5 kg6 kgf kw0 kw1 kw2 kw3 kw4 kw5 kw6 kwf
  replace K := Lib.hid (K.out.below b10)
  replace KW := Lib.hid (KW.out.below b10)
  replace KG := Lib.hid (KG.out.below b10)
  replace VW := Lib.hid (VW.out.below b10 (r3.wide (Nat.zero_le _) (by omega)))
  replace VG := Lib.hid (VG.out.below b10 (r5.wide (Nat.zero_le _) (by omega)))
  replace IW := Lib.hid (IW.out.below b10 (by omega))
  replace IG := Lib.hid (IG.out.below b10 (by omega))
  replace B1 := Lib.hid (bel_trans B1.out b10)
  clear b10
  go_wp2_with fail
  refine (Que.eqInts_same C5 C3 _ f5 f3 zs w10 rfl (by omega) IG.out.ints IW.out.ints).mono ?_
  rintro e w10b ⟨rfl, b10b⟩
  have s10b := b10b.size
  clear hk
  replace K := Lib.hid (K.out.below b10b)
  replace KW := Lib.hid (KW.out.below b10b)
  replace KG := Lib.hid (KG.out.below b10b)
  replace VW := Lib.hid (VW.out.below b10b (r3.wide (Nat.zero_le _) (by omega)))
  replace VG := Lib.hid (VG.out.below b10b (r5.wide (Nat.zero_le _) (by omega)))
  replace IW := Lib.hid (IW.out.below b10b (by omega))
  replace IG := Lib.hid (IG.out.below b10b (by omega))
  replace B1 := Lib.hid (bel_trans B1.out b10b)
  clear b10b
  obtain ⟨kg0, kg1, kg2, kg3, kg4, kg5, kg6, kgf⟩ := KG.out.cells7
  go_wp2_with fail
  refine (markLine_any A5 c5 y E5 d5 R5 1 w10b yn ym (by omega) (by omega) VG.out (r5.wide (Nat.zero_le _) (by omega))).mono ?_
  rintro e w11 ⟨rfl, vm11, t11⟩
  have s11 := t11.size
  clear kg0 kg1 kg2 kg3 kg4 kg5 kg6 kgf
  replace K := Lib.hid (K.out.turn t11 r5 (by omega))
  replace KW := Lib.hid (KW.out.turn t11 r5 (by omega))
  replace KG := Lib.hid (KG.out.turn t11 r5 (by omega))
  replace VW := Lib.hid (VW.out.turn t11 r3 (r5.wide (Nat.le_refl _) (by omega)) (by omega) (by omega))
  replace IW := Lib.hid (by obtain ⟨_, _, _, _⟩ := r5; exact iv_tz IW.out t11 (by omega) (by omega) (by omega))
  replace IG := Lib.hid (by obtain ⟨_, _, _, _⟩ := r5; exact iv_tz IG.out t11 (by omega) (by omega) (by omega))
  replace B1 := Lib.hid (B1.out.trans (t11.below (r5.wide (by omega) (Nat.le_refl _)) (by omega)))
  clear t11 VG
  have VG := Lib.hid vm11
  clear vm11
  go_wp2_with fail
  refine (Que.markInts_any C5 _ f5 _ _ (1 + 4 * y.s.ss.length + 3 * y.ds.length) zs w11 rfl (by omega) (by omega) (by omega) IG.out).mono ?_
  rintro e w11b ⟨rfl, v11, t11b⟩
  have s11b := t11b.size
  replace K := Lib.hid (bx_turns K.out t11b (by omega))
  replace KW := Lib.hid (bx_turns KW.out t11b (by omega))
  replace KG := Lib.hid (bx_turns KG.out t11b (by omega))
  replace IW := Lib.hid (IW.out.turns t11b (by omega) (by omega))
  replace VW := Lib.hid (by have rr := r3; obtain ⟨_, _, _, _⟩ := rr; exact ln_turns VW.out t11b (r3.wide (Nat.le_refl _) (by omega)) (by omega) (by omega))
  replace VG := Lib.hid (ln_turns VG.out t11b (r5.wide (Nat.le_refl _) (by omega)) ap1 ap2)
  replace B1 := Lib.hid (B1.out.trans (t11b.below (by omega) (by omega)))
  replace IG := Lib.hid v11
  clear v11 t11b
  have hq : ¬ 1 + 4 * (y.s.ss.length : Int) + 3 * (y.ds.length : Int) < 0 := by omega
  have hq2 : ¬ 1 + 4 * (y.s.ss.length : Int) + 3 * (y.ds.length : Int) + (zs.length : Int) < 0 := by omega
  obtain ⟨kg0, kg1, kg2, kg3, kg4, kg5, kg6, kgf⟩ := KG.out.cells7
  go_wp2_with fail
  refine (heldLine_any A5 c5 y E5 d5 R5 1 w11b yn ym (by omega) (by omega) VG.out (r5.wide (Nat.zero_le _) (by omega))).mono ?_
  rintro e w12 ⟨rfl, b12⟩
  have s12 := b12.size
  clear kg0 kg1 kg2 kg3 kg4 kg5 kg6 kgf
  replace K := Lib.hid (K.out.below b12)
  replace KW := Lib.hid (KW.out.below b12)
  replace KG := Lib.hid (KG.out.below b12)
  replace VW := Lib.hid (VW.out.below b12 (r3.wide (Nat.zero_le _) (by omega)))
  replace VG := Lib.hid (VG.out.below b12 (r5.wide (Nat.zero_le _) (by omega)))
  replace IW := Lib.hid (IW.out.below b12 (by omega))
  replace IG := Lib.hid (IG.out.below b12 (by omega))
  replace B1 := Lib.hid (bel_trans B1.out b12)
  clear b12
  go_wp2_with fail
  refine (Que.heldInts_any C5 _ f5 _ _ (1 + 4 * y.s.ss.length + 3 * y.ds.length) w12 (by omega) (by omega) (by omega) IG.out).mono ?_
  rintro e w' ⟨rfl, rfl⟩
  obtain ⟨ka0, ka1, ka2, ka3, ka4, ka5, ka6, kaf⟩ := K.out.cells7
  go_wp2_with fail
  refine (toLine_any A ca x B cb w12 hn' hm' (HA.out.below B1.out) (HB.out.below B1.out)).mono ?_
  rintro e w13 ⟨R13, A13, c13, E13, d13, rfl, v13, r13, b13⟩
  have s13 := b13.size
  clear ka0 ka1 ka2 ka3 ka4 ka5 ka6 kaf
  clear K
  replace KW := Lib.hid (KW.out.below b13)
  replace KG := Lib.hid (KG.out.below b13)
  replace VW := Lib.hid (VW.out.below b13 (r3.wide (Nat.zero_le _) (by omega)))
  replace VG := Lib.hid (VG.out.below b13 (r5.wide (Nat.zero_le _) (by omega)))
  replace IW := Lib.hid (IW.out.below b13 (by omega))
  replace IG := Lib.hid (IG.out.below b13 (by omega))
  replace B1 := Lib.hid (bel_trans B1.out b13)
  clear b13
  have V13 := Lib.hid v13
  clear v13
  go_wp2_with fail
  refine (HIm.out A13 c13 E13 d13 R13 w13 hn' hm' V13.out (r13.wide (Nat.zero_le _) (Nat.le_refl _))).mono ?_
  rintro e w14 ⟨R14, A14, c14, E14, d14, C14, f14, l14, h14, rfl, v14, r14, i14, q14, p14, _, _, b14⟩
  have s14 := b14.size
  clear V13 r13
  replace KW := Lib.hid (KW.out.below b14)
  replace KG := Lib.hid (KG.out.below b14)
  replace VW := Lib.hid (VW.out.below b14 (r3.wide (Nat.zero_le _) (by omega)))
  replace VG := Lib.hid (VG.out.below b14 (r5.wide (Nat.zero_le _) (by omega)))
  replace IW := Lib.hid (IW.out.below b14 (by omega))
  replace IG := Lib.hid (IG.out.below b14 (by omega))
  replace B1 := Lib.hid (bel_trans B1.out b14)
  clear b14
  have V14 := Lib.hid v14
  clear v14
  have I14 := Lib.hid i14
  clear i14
  obtain ⟨w14a, hw14a⟩ : ∃ w14a, w14.alloc (.cells #[.slice A14 y.s.ss.length c14, .int .i64 y.s.f, .int .i64 y.s.l, .int .i64 y.s.r, .int .i64 y.s.c, .slice E14 y.ds.length d14, .int .i64 y.q] 31) = w14a := ⟨_, rfl⟩
  have ba : Below w14.heap.size w14 w14a := by rw [← hw14a]; exact bel_alloc _ _
  have KH : Hid (Bx w14a w14.heap.size 31 #[.slice A14 y.s.ss.length c14, .int .i64 y.s.f, .int .i64 y.s.l, .int .i64 y.s.r, .int .i64 y.s.c, .slice E14 y.ds.length d14, .int .i64 y.q]) := by rw [← hw14a]; exact Bx.new _ _ _
  have sw14a : w14.heap.size < w14a.heap.size := KH.out.lt
  replace KW := Lib.hid (KW.out.below ba)
  replace KG := Lib.hid (KG.out.below ba)
  replace VW := Lib.hid (VW.out.below ba (r3.wide (Nat.zero_le _) (by omega)))
  replace VG := Lib.hid (VG.out.below ba (r5.wide (Nat.zero_le _) (by omega)))
  replace V14 := Lib.hid (V14.out.below ba (r14.wide (Nat.zero_le _) (by omega)))
  replace IW := Lib.hid (IW.out.below ba (by omega))
  replace IG := Lib.hid (IG.out.below ba (by omega))
  replace I14 := Lib.hid (I14.out.below ba (by omega))
  replace B1 := Lib.hid (bel_trans B1.out ba)
  clear ba
  obtain ⟨kh0, kh1, kh2, kh3, kh4, kh5, kh6, khf⟩ := KH.out.cells7
  obtain ⟨kw0, kw1, kw2, kw3, kw4, kw5, kw6, kwf⟩ := KW.out.cells7
  go_wp2_with fail
  refine (eqLine_same A14 c14 y E14 d14 A3 c3 E3 d3 R14 R3 w14a yn ym V14.out VW.out (r14.wide (Nat.zero_le _) (by omega)) (r3.wide (Nat.zero_le _) (by omega))).mono ?_
  rintro e w15 ⟨rfl, b15⟩
  have s15 := b15.size
  clear kh0 kh1 kh2 kh3 kh4 kh5 kh6 khf kw0 kw1 kw2 kw3 kw4 kw5 kw6 kwf
  clear hw14a KH
  replace KW := Lib.hid (KW.out.below b15)
  replace KG := Lib.hid (KG.out.below b15)
  replace VW := Lib.hid (VW.out.below b15 (r3.wide (Nat.zero_le _) (by omega)))
  replace VG := Lib.hid (VG.out.below b15 (r5.wide (Nat.zero_le _) (by omega)))
  replace V14 := Lib.hid (V14.out.below b15 (r14.wide (Nat.zero_le _) (by omega)))
  replace IW := Lib.hid (IW.out.below b15 (by omega))
  replace IG := Lib.hid (IG.out.below b15 (by omega))
  replace I14 := Lib.hid (I14.out.below b15 (by omega))
  replace B1 := Lib.hid (bel_trans B1.out b15)
  clear b15
  go_wp2_with fail
  refine (Que.eqInts_same C14 C3 _ f14 f3 zs w15 rfl (by omega) I14.out.ints IW.out.ints).mono ?_
  rintro e w15b ⟨rfl, b15b⟩
  have s15b := b15b.size
  replace KW := Lib.hid (KW.out.below b15b)
  replace KG := Lib.hid (KG.out.below b15b)
  replace VW := Lib.hid (VW.out.below b15b (r3.wide (Nat.zero_le _) (by omega)))
  replace VG := Lib.hid (VG.out.below b15b (r5.wide (Nat.zero_le _) (by omega)))
  replace V14 := Lib.hid (V14.out.below b15b (r14.wide (Nat.zero_le _) (by omega)))
  replace IW := Lib.hid (IW.out.below b15b (by omega))
  replace IG := Lib.hid (IG.out.below b15b (by omega))
  replace I14 := Lib.hid (I14.out.below b15b (by omega))
  replace B1 := Lib.hid (bel_trans B1.out b15b)
  clear b15b
  obtain ⟨kg0, kg1, kg2, kg3, kg4, kg5, kg6, kgf⟩ := KG.out.cells7
  go_wp2_with fail
  refine (heldLine_any A5 c5 y E5 d5 R5 1 w15b yn ym (by omega) (by omega) VG.out (r5.wide (Nat.zero_le _) (by omega))).mono ?_
  rintro e w16 ⟨rfl, b16⟩
  have s16 := b16.size
  clear kg0 kg1 kg2 kg3 kg4 kg5 kg6 kgf
  replace KW := Lib.hid (KW.out.below b16)
  replace KG := Lib.hid (KG.out.below b16)
  replace VW := Lib.hid (VW.out.below b16 (r3.wide (Nat.zero_le _) (by omega)))
  replace VG := Lib.hid (VG.out.below b16 (r5.wide (Nat.zero_le _) (by omega)))
  replace V14 := Lib.hid (V14.out.below b16 (r14.wide (Nat.zero_le _) (by omega)))
  replace IW := Lib.hid (IW.out.below b16 (by omega))
  replace IG := Lib.hid (IG.out.below b16 (by omega))
  replace I14 := Lib.hid (I14.out.below b16 (by omega))
  replace B1 := Lib.hid (bel_trans B1.out b16)
  clear b16
  go_wp2_with fail
  refine (Que.heldInts_any C5 _ f5 _ _ (1 + 4 * y.s.ss.length + 3 * y.ds.length) w16 (by omega) (by omega) (by omega) IG.out).mono ?_
  rintro e w' ⟨rfl, rfl⟩
  go_wp2
  go_ret
  exact ⟨rfl, B1.out⟩
end Go.Proofs.Ytpjelojmkmednaa.Ln
