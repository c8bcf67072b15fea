/- The laws of OnDial and OnSuccess walked. -/
import Derived.Test.YtmmoelijpemlfaaBcC
import Derived.Test.YtmmoelijpemlfaaLawB1
namespace Go.Proofs.Ytmmoelijpemlfaa.Bk
open Go.RowKit Go.Deep Base Rw Tick

theorem LB.turns {w w' : World} {g lo hi : Nat} {v0 v1 v2 : Value} (h : LB w g v0 v1 v2) (t : Turns lo hi w w') (h1 : g < w.heap.size) (h2 : g < lo ∨ hi ≤ g) : LB w' g v0 v1 v2 := (t.block g h1 h2).trans h
theorem PB.turns {w w' : World} {g lo hi : Nat} {v0 v1 v2 : Value} (h : PB w g v0 v1 v2) (t : Turns lo hi w w') (h1 : g < w.heap.size) (h2 : g < lo ∨ hi ≤ g) : PB w' g v0 v1 v2 := (t.block g h1 h2).trans h
theorem dial_len (b : Br) (now : Int) : (dialR b now).1.fails.length = b.fails.length := by
  unfold dialR
  split
  · split <;> rfl
  · rfl
theorem succ_len (b : Br) : (succR b).1.fails.length ≤ b.fails.length := by
  unfold succR
  split
  · split
    · exact Nat.zero_le _
    · exact Nat.le_refl _
  · exact Nat.le_refl _

set_option maxRecDepth 100000 in
set_option maxHeartbeats 4000000 in
theorem lawOnDial (A : Option Addr) (n cap : Nat) (s u now : Int) (zs : List Int) (w : World) (hn : zs.length = n) (hm : n ≤ maxLen) (h : Ints w A zs) :
    Calls Try.prog 6 #[.agg #[.int .i64 s, .slice A n cap, .int .i64 u], .int .i64 now] w fun e w' => e = .returned (.bool true) ∧ Below w.heap.size w w' := by
  unfold maxLen at hm
  have Hn := Lib.hid hn
  have HA := Lib.hid h
  clear h hn
  go_enter Try.func6, Try.ntmps6
  go_wp2_with fail
  obtain ⟨w1, hw1⟩ : ∃ W', w.alloc (.cells #[.int .i64 s, .slice A n cap, .int .i64 u] 42) = W' := ⟨_, rfl⟩
  have B : Hid (Below w.heap.size w w1) := by rw [← hw1]; exact bel_alloc _ _
  have K : Hid (LB w1 w.heap.size (.int .i64 s) (.slice A n cap) (.int .i64 u)) := by rw [← hw1]; exact heap_alloc_new w _
  have z1 : w.heap.size < w1.heap.size := K.out.lt
  rw [hw1]
  clear hw1
  refine (szBreaker_any A n cap s u 1048576 _ (by omega) (by omega) (by omega)).mono ?_
  rintro e w2 ⟨rfl, b2⟩
  have z2 : w1.heap.size ≤ w2.heap.size := b2.size
  replace B := Lib.hid (bel_trans B.out b2)
  replace K := Lib.hid (K.out.below b2 (by omega))
  clear b2
  by_cases hl : (1048576 : Int) < n
  · rw [if_pos hl]
    clear hl
    go_wp2
    go_ret
    exact ⟨rfl, B.out⟩
  rw [if_neg hl]
  have hl0 : 0 ≤ (1048576 : Int) - n := by omega
  have hl1 : ¬ (1048576 : Int) - n < 0 := by omega
  have hm' : n ≤ 1048576 := by omega
  clear hl
  obtain ⟨r, hr⟩ : ∃ r, dialR ⟨s, zs, u⟩ now = r := ⟨_, rfl⟩
  have hfew : r.1.fails.length ≤ 1048576 := by rw [← hr]; exact (by rw [dial_len]; have := Hn.out; dsimp only; omega)
  have HSP := Lib.hid (fun A' c' W hI => specOnDial_any A' n c' s u now zs W Hn.out hm' hI)
  have HIM := Lib.hid (fun A' c' W hI => implOnDial_any A' n c' s u now zs W Hn.out hm' hI)
  rw [hr] at HSP HIM
  clear hr
  obtain ⟨⟨s', zs', u'⟩, bb⟩ := r
  dsimp only at hfew
  obtain ⟨q00, q01, q02⟩ := K.out.cells
  have q04 := K.out.lt
  go_wp2_with fail
  clear q00 q01 q02 q04
  refine (toBreaker_any A n cap zs s u _ Hn.out hm' (HA.out.below B.out)).mono ?_
  rintro e w3 ⟨A3, c3, rfl, v3, b3⟩
  have z3 : w2.heap.size ≤ w3.heap.size := b3.size
  replace B := Lib.hid (bel_trans B.out b3)
  replace K := Lib.hid (K.out.below b3 (by omega))
  clear b3
  have V0 := Lib.hid v3
  clear v3
  rw [Hn.out]
  go_wp2_with fail
  refine (HSP.out A3 c3 _ V0.out.ints).mono ?_
  rintro e w4 ⟨Aw, cw, rfl, v4, b4⟩
  have z4 : w3.heap.size ≤ w4.heap.size := b4.size
  clear V0
  replace B := Lib.hid (bel_trans B.out b4)
  replace K := Lib.hid (K.out.below b4 (by omega))
  clear b4
  have VW := Lib.hid v4
  clear v4
  dsimp only at VW ⊢
  obtain ⟨q00, q01, q02⟩ := K.out.cells
  have q04 := K.out.lt
  go_wp2_with fail
  clear q00 q01 q02 q04
  obtain ⟨w5, hw5⟩ : ∃ W', w4.alloc (.cells #[.int .i64 s', .slice Aw zs'.length cw, .int .i64 u'] 31) = W' := ⟨_, rfl⟩
  have b5 : Below w4.heap.size w4 w5 := by rw [← hw5]; exact bel_alloc _ _
  have PW : Hid (PB w5 w4.heap.size (.int .i64 s') (.slice Aw zs'.length cw) (.int .i64 u')) := by rw [← hw5]; exact heap_alloc_new w4 _
  have z5 : w4.heap.size < w5.heap.size := PW.out.lt
  rw [hw5]
  clear hw5
  replace B := Lib.hid (bel_trans B.out b5)
  replace K := Lib.hid (K.out.below b5 (by omega))
  replace VW := Lib.hid (VW.out.below b5 (by omega))
  clear b5
  refine (toBreaker_any A n cap zs s u _ Hn.out hm' (HA.out.below B.out)).mono ?_
  rintro e w6 ⟨Ax, cx, rfl, v6, b6⟩
  have z6 : w5.heap.size ≤ w6.heap.size := b6.size
  replace B := Lib.hid (bel_trans B.out b6)
  replace K := Lib.hid (K.out.below b6 (by omega))
  replace VW := Lib.hid (VW.out.below b6 (by omega))
  replace PW := Lib.hid (PW.out.below b6 (by omega))
  clear b6
  have VX := Lib.hid v6
  clear v6
  rw [Hn.out]
  obtain ⟨q00, q01, q02⟩ := K.out.cells
  have q04 := K.out.lt
  go_wp2_with fail
  clear q00 q01 q02 q04
  obtain ⟨w7, hw7⟩ : ∃ W', w6.alloc (.cells #[.int .i64 s, .slice Ax n cx, .int .i64 u] 31) = W' := ⟨_, rfl⟩
  have b7 : Below w6.heap.size w6 w7 := by rw [← hw7]; exact bel_alloc _ _
  have PX : Hid (PB w7 w6.heap.size (.int .i64 s) (.slice Ax n cx) (.int .i64 u)) := by rw [← hw7]; exact heap_alloc_new w6 _
  have z7 : w6.heap.size < w7.heap.size := PX.out.lt
  rw [hw7]
  clear hw7
  replace B := Lib.hid (bel_trans B.out b7)
  replace K := Lib.hid (K.out.below b7 (by omega))
  replace VW := Lib.hid (VW.out.below b7 (by omega))
  replace PW := Lib.hid (PW.out.below b7 (by omega))
  replace VX := Lib.hid (VX.out.below b7 (by omega))
  clear b7
  refine (HIM.out Ax cx _ VX.out.ints).mono ?_
  rintro e w8 ⟨Ag, cg, rfl, v8, b8⟩
  have z8 : w7.heap.size ≤ w8.heap.size := b8.size
  replace B := Lib.hid (bel_trans B.out b8)
  replace K := Lib.hid (K.out.below b8 (by omega))
  replace VW := Lib.hid (VW.out.below b8 (by omega))
  replace PW := Lib.hid (PW.out.below b8 (by omega))
  replace VX := Lib.hid (VX.out.below b8 (by omega))
  replace PX := Lib.hid (PX.out.below b8 (by omega))
  clear b8
  have VG := Lib.hid v8
  clear v8
  dsimp only at VG ⊢
  obtain ⟨q00, q01, q02, q03⟩ := PW.out.cells
  have q04 := PW.out.lt
  obtain ⟨q10, q11, q12, q13⟩ := PX.out.cells
  have q14 := PX.out.lt
  go_wp2_with fail
  clear q00 q01 q02 q04 q03 q10 q11 q12 q14 q13
  obtain ⟨w9, hw9⟩ : ∃ W', w8.alloc (.cells #[.int .i64 s', .slice Ag zs'.length cg, .int .i64 u'] 31) = W' := ⟨_, rfl⟩
  have b9 : Below w8.heap.size w8 w9 := by rw [← hw9]; exact bel_alloc _ _
  have PG : Hid (PB w9 w8.heap.size (.int .i64 s') (.slice Ag zs'.length cg) (.int .i64 u')) := by rw [← hw9]; exact heap_alloc_new w8 _
  have z9 : w8.heap.size < w9.heap.size := PG.out.lt
  rw [hw9]
  clear hw9
  replace B := Lib.hid (bel_trans B.out b9)
  replace K := Lib.hid (K.out.below b9 (by omega))
  replace VW := Lib.hid (VW.out.below b9 (by omega))
  replace PW := Lib.hid (PW.out.below b9 (by omega))
  replace VX := Lib.hid (VX.out.below b9 (by omega))
  replace PX := Lib.hid (PX.out.below b9 (by omega))
  replace VG := Lib.hid (VG.out.below b9 (by omega))
  clear b9
  refine (eqBreaker_same Ag Aw _ cg cw zs' s' u' _ rfl hfew VG.out.ints VW.out.ints).mono ?_
  rintro e w10 ⟨rfl, b10⟩
  have z10 : w9.heap.size ≤ w10.heap.size := b10.size
  replace B := Lib.hid (bel_trans B.out b10)
  replace K := Lib.hid (K.out.below b10 (by omega))
  replace VW := Lib.hid (VW.out.below b10 (by omega))
  replace PW := Lib.hid (PW.out.below b10 (by omega))
  replace VX := Lib.hid (VX.out.below b10 (by omega))
  replace PX := Lib.hid (PX.out.below b10 (by omega))
  replace VG := Lib.hid (VG.out.below b10 (by omega))
  replace PG := Lib.hid (PG.out.below b10 (by omega))
  clear b10
  go_wp2_with fail
  have HT : Hid (Pair w6.heap.size w.heap.size (.int .i64 s) (.slice Ax n cx) (.int .i64 u) (.int .i64 s) (.slice A n cap) (.int .i64 u) w10.drew) := ⟨PX.out, K.out⟩
  refine wp_region_held_drew (S := Pair w6.heap.size w.heap.size (.int .i64 s) (.slice Ax n cx) (.int .i64 u) (.int .i64 s) (.slice A n cap) (.int .i64 u)) (by kernel_rfl) HT.out (fun _ => ?_)
  refine wpAnyH_take (i := 0) (v := .agg #[.int .i64 s, .slice Ax n cx, .int .i64 u]) rfl (by kernel_rfl) (by kernel_rfl) (by kernel_rfl) (fun _ _ _ h => h) (.inl ⟨rfl, fun V hS => ?y0⟩) HT.out ?_
  case y0 =>
    obtain ⟨s0, s1, s2, s5⟩ := hS.1.cells
    clear hS s5
    go_simp
  go_simp
  refine wpAnyH_take (i := 1) (v := .agg #[.int .i64 s, .slice A n cap, .int .i64 u]) rfl (by kernel_rfl) (by kernel_rfl) (by kernel_rfl) (fun _ _ _ h => h) (.inl ⟨rfl, fun V hS => ?y1⟩) HT.out ?_
  case y1 =>
    obtain ⟨s0, s1, s2⟩ := hS.2.cells
    clear hS
    go_simp
  go_simp
  refine wpAnyH_ready (rs := [2]) (by kernel_rfl) (by simp) (AllReadyH.cons rfl (fun J hJ => ?_) AllReadyH.nil)
  go_simp
  obtain ⟨w11, hw11⟩ : ∃ W', w10.drew = W' := ⟨_, rfl⟩
  have b11 : Below w10.heap.size w10 w11 := by rw [← hw11]; exact (Below.refl _ _).drew
  have z11 : w10.heap.size ≤ w11.heap.size := b11.size
  rw [hw11]
  clear hw11
  replace B := Lib.hid (bel_trans B.out b11)
  replace K := Lib.hid (K.out.below b11 (by omega))
  replace VW := Lib.hid (VW.out.below b11 (by omega))
  replace PW := Lib.hid (PW.out.below b11 (by omega))
  replace VX := Lib.hid (VX.out.below b11 (by omega))
  replace PX := Lib.hid (PX.out.below b11 (by omega))
  replace VG := Lib.hid (VG.out.below b11 (by omega))
  replace PG := Lib.hid (PG.out.below b11 (by omega))
  clear b11 HT
  refine (toBreaker_any A n cap zs s u _ Hn.out hm' (HA.out.below B.out)).mono ?_
  rintro e w12 ⟨A12, c12, rfl, v12, b12⟩
  have z12 : w11.heap.size ≤ w12.heap.size := b12.size
  replace B := Lib.hid (bel_trans B.out b12)
  replace K := Lib.hid (K.out.below b12 (by omega))
  replace VW := Lib.hid (VW.out.below b12 (by omega))
  replace PW := Lib.hid (PW.out.below b12 (by omega))
  replace VX := Lib.hid (VX.out.below b12 (by omega))
  replace PX := Lib.hid (PX.out.below b12 (by omega))
  replace VG := Lib.hid (VG.out.below b12 (by omega))
  replace PG := Lib.hid (PG.out.below b12 (by omega))
  clear b12
  have V0 := Lib.hid v12
  clear v12
  rw [Hn.out]
  refine hJ.out _ _ ⟨PX.out, K.out⟩ (fun _ => ?_)
  clear hJ J
  go_simp
  refine wpAnyH_ready (rs := [3]) (by kernel_rfl) (by simp) (AllReadyH.cons rfl (fun J hJ => ?_) AllReadyH.nil)
  go_simp
  refine (eqBreaker_same Ax A12 n cx c12 zs s u _ Hn.out hm' VX.out.ints V0.out.ints).mono ?_
  rintro e w13 ⟨rfl, b13⟩
  have z13 : w12.heap.size ≤ w13.heap.size := b13.size
  replace B := Lib.hid (bel_trans B.out b13)
  replace K := Lib.hid (K.out.below b13 (by omega))
  replace VW := Lib.hid (VW.out.below b13 (by omega))
  replace PW := Lib.hid (PW.out.below b13 (by omega))
  replace VX := Lib.hid (VX.out.below b13 (by omega))
  replace PX := Lib.hid (PX.out.below b13 (by omega))
  replace VG := Lib.hid (VG.out.below b13 (by omega))
  replace PG := Lib.hid (PG.out.below b13 (by omega))
  replace V0 := Lib.hid (V0.out.below b13 (by omega))
  clear b13
  clear V0
  refine hJ.out _ _ ⟨PX.out, K.out⟩ (fun _ => ?_)
  clear hJ J
  go_simp
  refine wpAnyH_ready (rs := [4]) (by kernel_rfl) (by simp) (AllReadyH.cons rfl (fun J hJ => ?_) AllReadyH.nil)
  go_simp
  refine hJ.out _ _ ⟨PX.out, K.out⟩ (fun _ => ?_)
  clear hJ J
  refine wpAnyH_done (by kernel_rfl) ?_ _
  obtain ⟨q00, q01, q02, q03⟩ := PX.out.cells
  have q04 := PX.out.lt
  go_wp2_with fail
  clear q00 q01 q02 q04 q03
  refine (markBreaker_any Ax n cx _ _ 1 s u zs _ Hn.out hm' (by omega) (by omega) VX.out (by omega)).mono ?_
  rintro e w14 ⟨rfl, _, t14⟩
  have z14 : w13.heap.size ≤ w14.heap.size := t14.size
  clear VX
  replace B := Lib.hid (B.out.trans (t14.below (by omega) (by omega)))
  replace K := Lib.hid (K.out.turns t14 (by omega) (by omega))
  replace VW := Lib.hid (VW.out.turns t14 (by omega) (by omega))
  replace PW := Lib.hid (PW.out.turns t14 (by omega) (by omega))
  replace PX := Lib.hid (PX.out.turns t14 (by omega) (by omega))
  replace VG := Lib.hid (VG.out.turns t14 (by omega) (by omega))
  replace PG := Lib.hid (PG.out.turns t14 (by omega) (by omega))
  clear t14
  have hk : ¬ 1 + (n : Int) < 0 := by omega
  obtain ⟨q00, q01, q02, q03⟩ := PG.out.cells
  have q04 := PG.out.lt
  obtain ⟨q10, q11, q12, q13⟩ := PW.out.cells
  have q14 := PW.out.lt
  go_wp2_with fail
  clear q00 q01 q02 q04 q03 q10 q11 q12 q14 q13
  refine (eqBreaker_same Ag Aw _ cg cw zs' s' u' _ rfl hfew VG.out.ints VW.out.ints).mono ?_
  rintro e w15 ⟨rfl, b15⟩
  have z15 : w14.heap.size ≤ w15.heap.size := b15.size
  replace B := Lib.hid (bel_trans B.out b15)
  replace K := Lib.hid (K.out.below b15 (by omega))
  replace VW := Lib.hid (VW.out.below b15 (by omega))
  replace PW := Lib.hid (PW.out.below b15 (by omega))
  replace PX := Lib.hid (PX.out.below b15 (by omega))
  replace VG := Lib.hid (VG.out.below b15 (by omega))
  replace PG := Lib.hid (PG.out.below b15 (by omega))
  clear b15
  obtain ⟨q00, q01, q02, q03⟩ := PG.out.cells
  have q04 := PG.out.lt
  go_wp2_with fail
  clear q00 q01 q02 q04 q03
  refine (markBreaker_any Ag _ cg _ _ 1 s' u' zs' _ rfl hfew (by omega) (by omega) VG.out (by omega)).mono ?_
  rintro e w16 ⟨rfl, v16, t16⟩
  have z16 : w15.heap.size ≤ w16.heap.size := t16.size
  clear VG
  replace B := Lib.hid (B.out.trans (t16.below (by omega) (by omega)))
  replace K := Lib.hid (K.out.turns t16 (by omega) (by omega))
  replace VW := Lib.hid (VW.out.turns t16 (by omega) (by omega))
  replace PW := Lib.hid (PW.out.turns t16 (by omega) (by omega))
  replace PX := Lib.hid (PX.out.turns t16 (by omega) (by omega))
  replace PG := Lib.hid (PG.out.turns t16 (by omega) (by omega))
  clear t16
  have VM := Lib.hid v16
  clear v16
  obtain ⟨q00, q01, q02, q03⟩ := PG.out.cells
  have q04 := PG.out.lt
  go_wp2_with fail
  clear q00 q01 q02 q04 q03
  refine (heldBreaker_any Ag _ cg _ _ 1 s' u' _ hfew (by omega) (by omega) VM.out (by omega)).mono ?_
  rintro e w17 ⟨rfl, b17⟩
  have z17 : w16.heap.size ≤ w17.heap.size := b17.size
  replace B := Lib.hid (bel_trans B.out b17)
  replace K := Lib.hid (K.out.below b17 (by omega))
  replace VW := Lib.hid (VW.out.below b17 (by omega))
  replace PW := Lib.hid (PW.out.below b17 (by omega))
  replace PX := Lib.hid (PX.out.below b17 (by omega))
  replace PG := Lib.hid (PG.out.below b17 (by omega))
  replace VM := Lib.hid (VM.out.below b17 (by omega))
  clear b17
  have hk2 : ¬ 1 + (zs'.length : Int) < 0 := by omega
  obtain ⟨q00, q01, q02⟩ := K.out.cells
  have q04 := K.out.lt
  go_wp2_with fail
  clear q00 q01 q02 q04
  refine (toBreaker_any A n cap zs s u _ Hn.out hm' (HA.out.below B.out)).mono ?_
  rintro e w18 ⟨A18, c18, rfl, v18, b18⟩
  have z18 : w17.heap.size ≤ w18.heap.size := b18.size
  replace B := Lib.hid (bel_trans B.out b18)
  replace K := Lib.hid (K.out.below b18 (by omega))
  replace VW := Lib.hid (VW.out.below b18 (by omega))
  replace PW := Lib.hid (PW.out.below b18 (by omega))
  replace PX := Lib.hid (PX.out.below b18 (by omega))
  replace PG := Lib.hid (PG.out.below b18 (by omega))
  replace VM := Lib.hid (VM.out.below b18 (by omega))
  clear b18
  have V0 := Lib.hid v18
  clear v18
  rw [Hn.out]
  go_wp2_with fail
  refine (HIM.out A18 c18 _ V0.out.ints).mono ?_
  rintro e w19 ⟨Ah, ch, rfl, v19, b19⟩
  have z19 : w18.heap.size ≤ w19.heap.size := b19.size
  clear V0
  replace B := Lib.hid (bel_trans B.out b19)
  replace K := Lib.hid (K.out.below b19 (by omega))
  replace VW := Lib.hid (VW.out.below b19 (by omega))
  replace PW := Lib.hid (PW.out.below b19 (by omega))
  replace PX := Lib.hid (PX.out.below b19 (by omega))
  replace PG := Lib.hid (PG.out.below b19 (by omega))
  replace VM := Lib.hid (VM.out.below b19 (by omega))
  clear b19
  have VH := Lib.hid v19
  clear v19
  dsimp only at VH ⊢
  obtain ⟨q00, q01, q02, q03⟩ := PW.out.cells
  have q04 := PW.out.lt
  go_wp2_with fail
  clear q00 q01 q02 q04 q03
  obtain ⟨w20, hw20⟩ : ∃ W', w19.alloc (.cells #[.int .i64 s', .slice Ah zs'.length ch, .int .i64 u'] 31) = W' := ⟨_, rfl⟩
  have b20 : Below w19.heap.size w19 w20 := by rw [← hw20]; exact bel_alloc _ _
  have PH : Hid (PB w20 w19.heap.size (.int .i64 s') (.slice Ah zs'.length ch) (.int .i64 u')) := by rw [← hw20]; exact heap_alloc_new w19 _
  have z20 : w19.heap.size < w20.heap.size := PH.out.lt
  rw [hw20]
  clear hw20
  replace B := Lib.hid (bel_trans B.out b20)
  replace K := Lib.hid (K.out.below b20 (by omega))
  replace VW := Lib.hid (VW.out.below b20 (by omega))
  replace PW := Lib.hid (PW.out.below b20 (by omega))
  replace PX := Lib.hid (PX.out.below b20 (by omega))
  replace PG := Lib.hid (PG.out.below b20 (by omega))
  replace VM := Lib.hid (VM.out.below b20 (by omega))
  replace VH := Lib.hid (VH.out.below b20 (by omega))
  clear b20
  refine (eqBreaker_same Ah Aw _ ch cw zs' s' u' _ rfl hfew VH.out.ints VW.out.ints).mono ?_
  rintro e w21 ⟨rfl, b21⟩
  have z21 : w20.heap.size ≤ w21.heap.size := b21.size
  replace B := Lib.hid (bel_trans B.out b21)
  replace K := Lib.hid (K.out.below b21 (by omega))
  replace VW := Lib.hid (VW.out.below b21 (by omega))
  replace PW := Lib.hid (PW.out.below b21 (by omega))
  replace PX := Lib.hid (PX.out.below b21 (by omega))
  replace PG := Lib.hid (PG.out.below b21 (by omega))
  replace VM := Lib.hid (VM.out.below b21 (by omega))
  replace VH := Lib.hid (VH.out.below b21 (by omega))
  replace PH := Lib.hid (PH.out.below b21 (by omega))
  clear b21
  obtain ⟨q00, q01, q02, q03⟩ := PG.out.cells
  have q04 := PG.out.lt
  go_wp2_with fail
  clear q00 q01 q02 q04 q03
  refine (heldBreaker_any Ag _ cg _ _ 1 s' u' _ hfew (by omega) (by omega) VM.out (by omega)).mono ?_
  rintro e w22 ⟨rfl, b22⟩
  have z22 : w21.heap.size ≤ w22.heap.size := b22.size
  replace B := Lib.hid (bel_trans B.out b22)
  replace K := Lib.hid (K.out.below b22 (by omega))
  replace VW := Lib.hid (VW.out.below b22 (by omega))
  replace PW := Lib.hid (PW.out.below b22 (by omega))
  replace PX := Lib.hid (PX.out.below b22 (by omega))
  replace PG := Lib.hid (PG.out.below b22 (by omega))
  replace VM := Lib.hid (VM.out.below b22 (by omega))
  replace VH := Lib.hid (VH.out.below b22 (by omega))
  replace PH := Lib.hid (PH.out.below b22 (by omega))
  clear b22
  go_wp2
  go_ret
  exact ⟨rfl, B.out⟩

set_option maxRecDepth 100000 in
set_option maxHeartbeats 4000000 in
theorem lawOnSuccess (A : Option Addr) (n cap : Nat) (s u : Int) (zs : List Int) (w : World) (hn : zs.length = n) (hm : n ≤ maxLen) (h : Ints w A zs) :
    Calls Try.prog 8 #[.agg #[.int .i64 s, .slice A n cap, .int .i64 u]] w fun e w' => e = .returned (.bool true) ∧ Below w.heap.size w w' := by
  unfold maxLen at hm
  have Hn := Lib.hid hn
  have HA := Lib.hid h
  clear h hn
  go_enter Try.func8, Try.ntmps8
  go_wp2_with fail
  obtain ⟨w1, hw1⟩ : ∃ W', w.alloc (.cells #[.int .i64 s, .slice A n cap, .int .i64 u] 42) = W' := ⟨_, rfl⟩
  have B : Hid (Below w.heap.size w w1) := by rw [← hw1]; exact bel_alloc _ _
  have K : Hid (LB w1 w.heap.size (.int .i64 s) (.slice A n cap) (.int .i64 u)) := by rw [← hw1]; exact heap_alloc_new w _
  have z1 : w.heap.size < w1.heap.size := K.out.lt
  rw [hw1]
  clear hw1
  refine (szBreaker_any A n cap s u 1048576 _ (by omega) (by omega) (by omega)).mono ?_
  rintro e w2 ⟨rfl, b2⟩
  have z2 : w1.heap.size ≤ w2.heap.size := b2.size
  replace B := Lib.hid (bel_trans B.out b2)
  replace K := Lib.hid (K.out.below b2 (by omega))
  clear b2
  by_cases hl : (1048576 : Int) < n
  · rw [if_pos hl]
    clear hl
    go_wp2
    go_ret
    exact ⟨rfl, B.out⟩
  rw [if_neg hl]
  have hl0 : 0 ≤ (1048576 : Int) - n := by omega
  have hl1 : ¬ (1048576 : Int) - n < 0 := by omega
  have hm' : n ≤ 1048576 := by omega
  clear hl
  obtain ⟨r, hr⟩ : ∃ r, succR ⟨s, zs, u⟩ = r := ⟨_, rfl⟩
  have hfew : r.1.fails.length ≤ 1048576 := by rw [← hr]; exact (Nat.le_trans (succ_len _) (by have := Hn.out; dsimp only; omega))
  have HSP := Lib.hid (fun A' c' W hI => specOnSuccess_any A' n c' s u zs W Hn.out hm' hI)
  have HIM := Lib.hid (fun A' c' W hI => implOnSuccess_any A' n c' s u zs W Hn.out hm' hI)
  rw [hr] at HSP HIM
  clear hr
  obtain ⟨⟨s', zs', u'⟩, bb⟩ := r
  dsimp only at hfew
  obtain ⟨q00, q01, q02⟩ := K.out.cells
  have q04 := K.out.lt
  go_wp2_with fail
  clear q00 q01 q02 q04
  refine (toBreaker_any A n cap zs s u _ Hn.out hm' (HA.out.below B.out)).mono ?_
  rintro e w3 ⟨A3, c3, rfl, v3, b3⟩
  have z3 : w2.heap.size ≤ w3.heap.size := b3.size
  replace B := Lib.hid (bel_trans B.out b3)
  replace K := Lib.hid (K.out.below b3 (by omega))
  clear b3
  have V0 := Lib.hid v3
  clear v3
  rw [Hn.out]
  go_wp2_with fail
  refine (HSP.out A3 c3 _ V0.out.ints).mono ?_
  rintro e w4 ⟨Aw, cw, rfl, v4, b4⟩
  have z4 : w3.heap.size ≤ w4.heap.size := b4.size
  clear V0
  replace B := Lib.hid (bel_trans B.out b4)
  replace K := Lib.hid (K.out.below b4 (by omega))
  clear b4
  have VW := Lib.hid v4
  clear v4
  dsimp only at VW ⊢
  obtain ⟨q00, q01, q02⟩ := K.out.cells
  have q04 := K.out.lt
  go_wp2_with fail
  clear q00 q01 q02 q04
  obtain ⟨w5, hw5⟩ : ∃ W', w4.alloc (.cells #[.int .i64 s', .slice Aw zs'.length cw, .int .i64 u'] 31) = W' := ⟨_, rfl⟩
  have b5 : Below w4.heap.size w4 w5 := by rw [← hw5]; exact bel_alloc _ _
  have PW : Hid (PB w5 w4.heap.size (.int .i64 s') (.slice Aw zs'.length cw) (.int .i64 u')) := by rw [← hw5]; exact heap_alloc_new w4 _
  have z5 : w4.heap.size < w5.heap.size := PW.out.lt
  rw [hw5]
  clear hw5
  replace B := Lib.hid (bel_trans B.out b5)
  replace K := Lib.hid (K.out.below b5 (by omega))
  replace VW := Lib.hid (VW.out.below b5 (by omega))
  clear b5
  refine (toBreaker_any A n cap zs s u _ Hn.out hm' (HA.out.below B.out)).mono ?_
  rintro e w6 ⟨Ax, cx, rfl, v6, b6⟩
  have z6 : w5.heap.size ≤ w6.heap.size := b6.size
  replace B := Lib.hid (bel_trans B.out b6)
  replace K := Lib.hid (K.out.below b6 (by omega))
  replace VW := Lib.hid (VW.out.below b6 (by omega))
  replace PW := Lib.hid (PW.out.below b6 (by omega))
  clear b6
  have VX := Lib.hid v6
  clear v6
  rw [Hn.out]
  obtain ⟨q00, q01, q02⟩ := K.out.cells
  have q04 := K.out.lt
  go_wp2_with fail
  clear q00 q01 q02 q04
  obtain ⟨w7, hw7⟩ : ∃ W', w6.alloc (.cells #[.int .i64 s, .slice Ax n cx, .int .i64 u] 31) = W' := ⟨_, rfl⟩
  have b7 : Below w6.heap.size w6 w7 := by rw [← hw7]; exact bel_alloc _ _
  have PX : Hid (PB w7 w6.heap.size (.int .i64 s) (.slice Ax n cx) (.int .i64 u)) := by rw [← hw7]; exact heap_alloc_new w6 _
  have z7 : w6.heap.size < w7.heap.size := PX.out.lt
  rw [hw7]
  clear hw7
  replace B := Lib.hid (bel_trans B.out b7)
  replace K := Lib.hid (K.out.below b7 (by omega))
  replace VW := Lib.hid (VW.out.below b7 (by omega))
  replace PW := Lib.hid (PW.out.below b7 (by omega))
  replace VX := Lib.hid (VX.out.below b7 (by omega))
  clear b7
  refine (HIM.out Ax cx _ VX.out.ints).mono ?_
  rintro e w8 ⟨Ag, cg, rfl, v8, b8⟩
  have z8 : w7.heap.size ≤ w8.heap.size := b8.size
  replace B := Lib.hid (bel_trans B.out b8)
  replace K := Lib.hid (K.out.below b8 (by omega))
  replace VW := Lib.hid (VW.out.below b8 (by omega))
  replace PW := Lib.hid (PW.out.below b8 (by omega))
  replace VX := Lib.hid (VX.out.below b8 (by omega))
  replace PX := Lib.hid (PX.out.below b8 (by omega))
  clear b8
  have VG := Lib.hid v8
  clear v8
  dsimp only at VG ⊢
  obtain ⟨q00, q01, q02, q03⟩ := PW.out.cells
  have q04 := PW.out.lt
  obtain ⟨q10, q11, q12, q13⟩ := PX.out.cells
  have q14 := PX.out.lt
  go_wp2_with fail
  clear q00 q01 q02 q04 q03 q10 q11 q12 q14 q13
  obtain ⟨w9, hw9⟩ : ∃ W', w8.alloc (.cells #[.int .i64 s', .slice Ag zs'.length cg, .int .i64 u'] 31) = W' := ⟨_, rfl⟩
  have b9 : Below w8.heap.size w8 w9 := by rw [← hw9]; exact bel_alloc _ _
  have PG : Hid (PB w9 w8.heap.size (.int .i64 s') (.slice Ag zs'.length cg) (.int .i64 u')) := by rw [← hw9]; exact heap_alloc_new w8 _
  have z9 : w8.heap.size < w9.heap.size := PG.out.lt
  rw [hw9]
  clear hw9
  replace B := Lib.hid (bel_trans B.out b9)
  replace K := Lib.hid (K.out.below b9 (by omega))
  replace VW := Lib.hid (VW.out.below b9 (by omega))
  replace PW := Lib.hid (PW.out.below b9 (by omega))
  replace VX := Lib.hid (VX.out.below b9 (by omega))
  replace PX := Lib.hid (PX.out.below b9 (by omega))
  replace VG := Lib.hid (VG.out.below b9 (by omega))
  clear b9
  refine (eqBreaker_same Ag Aw _ cg cw zs' s' u' _ rfl hfew VG.out.ints VW.out.ints).mono ?_
  rintro e w10 ⟨rfl, b10⟩
  have z10 : w9.heap.size ≤ w10.heap.size := b10.size
  replace B := Lib.hid (bel_trans B.out b10)
  replace K := Lib.hid (K.out.below b10 (by omega))
  replace VW := Lib.hid (VW.out.below b10 (by omega))
  replace PW := Lib.hid (PW.out.below b10 (by omega))
  replace VX := Lib.hid (VX.out.below b10 (by omega))
  replace PX := Lib.hid (PX.out.below b10 (by omega))
  replace VG := Lib.hid (VG.out.below b10 (by omega))
  replace PG := Lib.hid (PG.out.below b10 (by omega))
  clear b10
  go_wp2_with fail
  have HT : Hid (Pair w6.heap.size w.heap.size (.int .i64 s) (.slice Ax n cx) (.int .i64 u) (.int .i64 s) (.slice A n cap) (.int .i64 u) w10.drew) := ⟨PX.out, K.out⟩
  refine wp_region_held_drew (S := Pair w6.heap.size w.heap.size (.int .i64 s) (.slice Ax n cx) (.int .i64 u) (.int .i64 s) (.slice A n cap) (.int .i64 u)) (by kernel_rfl) HT.out (fun _ => ?_)
  refine wpAnyH_take (i := 0) (v := .agg #[.int .i64 s, .slice Ax n cx, .int .i64 u]) rfl (by kernel_rfl) (by kernel_rfl) (by kernel_rfl) (fun _ _ _ h => h) (.inl ⟨rfl, fun V hS => ?y0⟩) HT.out ?_
  case y0 =>
    obtain ⟨s0, s1, s2, s5⟩ := hS.1.cells
    clear hS s5
    go_simp
  go_simp
  refine wpAnyH_take (i := 1) (v := .agg #[.int .i64 s, .slice A n cap, .int .i64 u]) rfl (by kernel_rfl) (by kernel_rfl) (by kernel_rfl) (fun _ _ _ h => h) (.inl ⟨rfl, fun V hS => ?y1⟩) HT.out ?_
  case y1 =>
    obtain ⟨s0, s1, s2⟩ := hS.2.cells
    clear hS
    go_simp
  go_simp
  refine wpAnyH_ready (rs := [2]) (by kernel_rfl) (by simp) (AllReadyH.cons rfl (fun J hJ => ?_) AllReadyH.nil)
  go_simp
  obtain ⟨w11, hw11⟩ : ∃ W', w10.drew = W' := ⟨_, rfl⟩
  have b11 : Below w10.heap.size w10 w11 := by rw [← hw11]; exact (Below.refl _ _).drew
  have z11 : w10.heap.size ≤ w11.heap.size := b11.size
  rw [hw11]
  clear hw11
  replace B := Lib.hid (bel_trans B.out b11)
  replace K := Lib.hid (K.out.below b11 (by omega))
  replace VW := Lib.hid (VW.out.below b11 (by omega))
  replace PW := Lib.hid (PW.out.below b11 (by omega))
  replace VX := Lib.hid (VX.out.below b11 (by omega))
  replace PX := Lib.hid (PX.out.below b11 (by omega))
  replace VG := Lib.hid (VG.out.below b11 (by omega))
  replace PG := Lib.hid (PG.out.below b11 (by omega))
  clear b11 HT
  refine (toBreaker_any A n cap zs s u _ Hn.out hm' (HA.out.below B.out)).mono ?_
  rintro e w12 ⟨A12, c12, rfl, v12, b12⟩
  have z12 : w11.heap.size ≤ w12.heap.size := b12.size
  replace B := Lib.hid (bel_trans B.out b12)
  replace K := Lib.hid (K.out.below b12 (by omega))
  replace VW := Lib.hid (VW.out.below b12 (by omega))
  replace PW := Lib.hid (PW.out.below b12 (by omega))
  replace VX := Lib.hid (VX.out.below b12 (by omega))
  replace PX := Lib.hid (PX.out.below b12 (by omega))
  replace VG := Lib.hid (VG.out.below b12 (by omega))
  replace PG := Lib.hid (PG.out.below b12 (by omega))
  clear b12
  have V0 := Lib.hid v12
  clear v12
  rw [Hn.out]
  refine hJ.out _ _ ⟨PX.out, K.out⟩ (fun _ => ?_)
  clear hJ J
  go_simp
  refine wpAnyH_ready (rs := [3]) (by kernel_rfl) (by simp) (AllReadyH.cons rfl (fun J hJ => ?_) AllReadyH.nil)
  go_simp
  refine (eqBreaker_same Ax A12 n cx c12 zs s u _ Hn.out hm' VX.out.ints V0.out.ints).mono ?_
  rintro e w13 ⟨rfl, b13⟩
  have z13 : w12.heap.size ≤ w13.heap.size := b13.size
  replace B := Lib.hid (bel_trans B.out b13)
  replace K := Lib.hid (K.out.below b13 (by omega))
  replace VW := Lib.hid (VW.out.below b13 (by omega))
  replace PW := Lib.hid (PW.out.below b13 (by omega))
  replace VX := Lib.hid (VX.out.below b13 (by omega))
  replace PX := Lib.hid (PX.out.below b13 (by omega))
  replace VG := Lib.hid (VG.out.below b13 (by omega))
  replace PG := Lib.hid (PG.out.below b13 (by omega))
  replace V0 := Lib.hid (V0.out.below b13 (by omega))
  clear b13
  clear V0
  refine hJ.out _ _ ⟨PX.out, K.out⟩ (fun _ => ?_)
  clear hJ J
  go_simp
  refine wpAnyH_ready (rs := [4]) (by kernel_rfl) (by simp) (AllReadyH.cons rfl (fun J hJ => ?_) AllReadyH.nil)
  go_simp
  refine hJ.out _ _ ⟨PX.out, K.out⟩ (fun _ => ?_)
  clear hJ J
  refine wpAnyH_done (by kernel_rfl) ?_ _
  obtain ⟨q00, q01, q02, q03⟩ := PX.out.cells
  have q04 := PX.out.lt
  go_wp2_with fail
  clear q00 q01 q02 q04 q03
  refine (markBreaker_any Ax n cx _ _ 1 s u zs _ Hn.out hm' (by omega) (by omega) VX.out (by omega)).mono ?_
  rintro e w14 ⟨rfl, _, t14⟩
  have z14 : w13.heap.size ≤ w14.heap.size := t14.size
  clear VX
  replace B := Lib.hid (B.out.trans (t14.below (by omega) (by omega)))
  replace K := Lib.hid (K.out.turns t14 (by omega) (by omega))
  replace VW := Lib.hid (VW.out.turns t14 (by omega) (by omega))
  replace PW := Lib.hid (PW.out.turns t14 (by omega) (by omega))
  replace PX := Lib.hid (PX.out.turns t14 (by omega) (by omega))
  replace VG := Lib.hid (VG.out.turns t14 (by omega) (by omega))
  replace PG := Lib.hid (PG.out.turns t14 (by omega) (by omega))
  clear t14
  have hk : ¬ 1 + (n : Int) < 0 := by omega
  obtain ⟨q00, q01, q02, q03⟩ := PG.out.cells
  have q04 := PG.out.lt
  obtain ⟨q10, q11, q12, q13⟩ := PW.out.cells
  have q14 := PW.out.lt
  go_wp2_with fail
  clear q00 q01 q02 q04 q03 q10 q11 q12 q14 q13
  refine (eqBreaker_same Ag Aw _ cg cw zs' s' u' _ rfl hfew VG.out.ints VW.out.ints).mono ?_
  rintro e w15 ⟨rfl, b15⟩
  have z15 : w14.heap.size ≤ w15.heap.size := b15.size
  replace B := Lib.hid (bel_trans B.out b15)
  replace K := Lib.hid (K.out.below b15 (by omega))
  replace VW := Lib.hid (VW.out.below b15 (by omega))
  replace PW := Lib.hid (PW.out.below b15 (by omega))
  replace PX := Lib.hid (PX.out.below b15 (by omega))
  replace VG := Lib.hid (VG.out.below b15 (by omega))
  replace PG := Lib.hid (PG.out.below b15 (by omega))
  clear b15
  obtain ⟨q00, q01, q02, q03⟩ := PG.out.cells
  have q04 := PG.out.lt
  go_wp2_with fail
  clear q00 q01 q02 q04 q03
  refine (markBreaker_any Ag _ cg _ _ 1 s' u' zs' _ rfl hfew (by omega) (by omega) VG.out (by omega)).mono ?_
  rintro e w16 ⟨rfl, v16, t16⟩
  have z16 : w15.heap.size ≤ w16.heap.size := t16.size
  clear VG
  replace B := Lib.hid (B.out.trans (t16.below (by omega) (by omega)))
  replace K := Lib.hid (K.out.turns t16 (by omega) (by omega))
  replace VW := Lib.hid (VW.out.turns t16 (by omega) (by omega))
  replace PW := Lib.hid (PW.out.turns t16 (by omega) (by omega))
  replace PX := Lib.hid (PX.out.turns t16 (by omega) (by omega))
  replace PG := Lib.hid (PG.out.turns t16 (by omega) (by omega))
  clear t16
  have VM := Lib.hid v16
  clear v16
  obtain ⟨q00, q01, q02, q03⟩ := PG.out.cells
  have q04 := PG.out.lt
  go_wp2_with fail
  clear q00 q01 q02 q04 q03
  refine (heldBreaker_any Ag _ cg _ _ 1 s' u' _ hfew (by omega) (by omega) VM.out (by omega)).mono ?_
  rintro e w17 ⟨rfl, b17⟩
  have z17 : w16.heap.size ≤ w17.heap.size := b17.size
  replace B := Lib.hid (bel_trans B.out b17)
  replace K := Lib.hid (K.out.below b17 (by omega))
  replace VW := Lib.hid (VW.out.below b17 (by omega))
  replace PW := Lib.hid (PW.out.below b17 (by omega))
  replace PX := Lib.hid (PX.out.below b17 (by omega))
  replace PG := Lib.hid (PG.out.below b17 (by omega))
  replace VM := Lib.hid (VM.out.below b17 (by omega))
  clear b17
  have hk2 : ¬ 1 + (zs'.length : Int) < 0 := by omega
  obtain ⟨q00, q01, q02⟩ := K.out.cells
  have q04 := K.out.lt
  go_wp2_with fail
  clear q00 q01 q02 q04
  refine (toBreaker_any A n cap zs s u _ Hn.out hm' (HA.out.below B.out)).mono ?_
  rintro e w18 ⟨A18, c18, rfl, v18, b18⟩
  have z18 : w17.heap.size ≤ w18.heap.size := b18.size
  replace B := Lib.hid (bel_trans B.out b18)
  replace K := Lib.hid (K.out.below b18 (by omega))
  replace VW := Lib.hid (VW.out.below b18 (by omega))
  replace PW := Lib.hid (PW.out.below b18 (by omega))
  replace PX := Lib.hid (PX.out.below b18 (by omega))
  replace PG := Lib.hid (PG.out.below b18 (by omega))
  replace VM := Lib.hid (VM.out.below b18 (by omega))
  clear b18
  have V0 := Lib.hid v18
  clear v18
  rw [Hn.out]
  go_wp2_with fail
  refine (HIM.out A18 c18 _ V0.out.ints).mono ?_
  rintro e w19 ⟨Ah, ch, rfl, v19, b19⟩
  have z19 : w18.heap.size ≤ w19.heap.size := b19.size
  clear V0
  replace B := Lib.hid (bel_trans B.out b19)
  replace K := Lib.hid (K.out.below b19 (by omega))
  replace VW := Lib.hid (VW.out.below b19 (by omega))
  replace PW := Lib.hid (PW.out.below b19 (by omega))
  replace PX := Lib.hid (PX.out.below b19 (by omega))
  replace PG := Lib.hid (PG.out.below b19 (by omega))
  replace VM := Lib.hid (VM.out.below b19 (by omega))
  clear b19
  have VH := Lib.hid v19
  clear v19
  dsimp only at VH ⊢
  obtain ⟨q00, q01, q02, q03⟩ := PW.out.cells
  have q04 := PW.out.lt
  go_wp2_with fail
  clear q00 q01 q02 q04 q03
  obtain ⟨w20, hw20⟩ : ∃ W', w19.alloc (.cells #[.int .i64 s', .slice Ah zs'.length ch, .int .i64 u'] 31) = W' := ⟨_, rfl⟩
  have b20 : Below w19.heap.size w19 w20 := by rw [← hw20]; exact bel_alloc _ _
  have PH : Hid (PB w20 w19.heap.size (.int .i64 s') (.slice Ah zs'.length ch) (.int .i64 u')) := by rw [← hw20]; exact heap_alloc_new w19 _
  have z20 : w19.heap.size < w20.heap.size := PH.out.lt
  rw [hw20]
  clear hw20
  replace B := Lib.hid (bel_trans B.out b20)
  replace K := Lib.hid (K.out.below b20 (by omega))
  replace VW := Lib.hid (VW.out.below b20 (by omega))
  replace PW := Lib.hid (PW.out.below b20 (by omega))
  replace PX := Lib.hid (PX.out.below b20 (by omega))
  replace PG := Lib.hid (PG.out.below b20 (by omega))
  replace VM := Lib.hid (VM.out.below b20 (by omega))
  replace VH := Lib.hid (VH.out.below b20 (by omega))
  clear b20
  refine (eqBreaker_same Ah Aw _ ch cw zs' s' u' _ rfl hfew VH.out.ints VW.out.ints).mono ?_
  rintro e w21 ⟨rfl, b21⟩
  have z21 : w20.heap.size ≤ w21.heap.size := b21.size
  replace B := Lib.hid (bel_trans B.out b21)
  replace K := Lib.hid (K.out.below b21 (by omega))
  replace VW := Lib.hid (VW.out.below b21 (by omega))
  replace PW := Lib.hid (PW.out.below b21 (by omega))
  replace PX := Lib.hid (PX.out.below b21 (by omega))
  replace PG := Lib.hid (PG.out.below b21 (by omega))
  replace VM := Lib.hid (VM.out.below b21 (by omega))
  replace VH := Lib.hid (VH.out.below b21 (by omega))
  replace PH := Lib.hid (PH.out.below b21 (by omega))
  clear b21
  obtain ⟨q00, q01, q02, q03⟩ := PG.out.cells
  have q04 := PG.out.lt
  go_wp2_with fail
  clear q00 q01 q02 q04 q03
  refine (heldBreaker_any Ag _ cg _ _ 1 s' u' _ hfew (by omega) (by omega) VM.out (by omega)).mono ?_
  rintro e w22 ⟨rfl, b22⟩
  have z22 : w21.heap.size ≤ w22.heap.size := b22.size
  replace B := Lib.hid (bel_trans B.out b22)
  replace K := Lib.hid (K.out.below b22 (by omega))
  replace VW := Lib.hid (VW.out.below b22 (by omega))
  replace PW := Lib.hid (PW.out.below b22 (by omega))
  replace PX := Lib.hid (PX.out.below b22 (by omega))
  replace PG := Lib.hid (PG.out.below b22 (by omega))
  replace VM := Lib.hid (VM.out.below b22 (by omega))
  replace VH := Lib.hid (VH.out.below b22 (by omega))
  replace PH := Lib.hid (PH.out.below b22 (by omega))
  clear b22
  go_wp2
  go_ret
  exact ⟨rfl, B.out⟩

end Go.Proofs.Ytmmoelijpemlfaa.Bk
