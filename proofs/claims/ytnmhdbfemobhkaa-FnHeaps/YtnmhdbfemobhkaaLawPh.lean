/- The law of PlayHeap walked. -/
import Derived.Test.YtnmhdbfemobhkaaPh4
import Derived.Test.YtnmhdbfemobhkaaHpM
namespace Go.Proofs.Ytnmhdbfemobhkaa.Hp
open Go.RowKit Go.Deep Base

theorem ply_few : ∀ (zss : List (List Int)) (ds : List Du) (q : Int), ds.length ≤ 100 → (ply zss ds q).1.length ≤ 100 ∧ (ply zss ds q).2.2.length ≤ 101 * zss.length
  | [], ds, q, h => ⟨h, by simp [ply]⟩
  | op :: r, ds, q, h => by
    have h1 := ply_few r (stpD ds q op) (stpQ ds q op) (stpD_few h)
    have h2 := stpL_few (ds := ds) (q := q) (op := op)
    refine ⟨h1.1, ?_⟩
    show (stpL ds q op ++ (ply r (stpD ds q op) (stpQ ds q op)).2.2).length ≤ _
    rw [List.length_append, List.length_cons]
    omega
theorem plyA_few (zss : List (List Int)) : (plyA zss).1.length ≤ 100 ∧ (plyA zss).2.2.length ≤ 30300 := by
  unfold plyA
  split
  · simp
  · next h =>
    have := ply_few zss [] 0 (by simp)
    exact ⟨this.1, by omega⟩

/-- What PlayHeap leaves: the heap's block and the list's are two. -/
def PlayCut (w : World) (ds' : List Du) (q' : Int) (ids : List Int) (e : Ending) (w' : World) : Prop :=
  ∃ A cap A2 c2 l1 h1 l2 h2, e = .returned (.tuple #[.agg #[.slice A ds'.length cap, .int .i64 q'], .slice A2 ids.length c2]) ∧ w.heap.size ≤ l1 ∧ h1 ≤ w'.heap.size ∧ w.heap.size ≤ l2 ∧ h2 ≤ w'.heap.size ∧ (h1 ≤ l2 ∨ h2 ≤ l1) ∧ DV w' l1 h1 A ds' ∧ IV w' l2 h2 A2 ids ∧ Below w.heap.size w w'
theorem PlayEnd.cut {w : World} {r : List Du × Int × List Int} {e : Ending} {w' : World} (h : PlayEnd w r e w') : PlayCut w r.1 r.2.1 r.2.2 e w' := by
  obtain ⟨A, cap, A2, c2, h1, h2, h3, h4⟩ := h
  have hz := h4.size
  have h5 := iv_owns h3
  by_cases hp : 0 < r.1.length
  · obtain ⟨g, rfl, g1, g2, g3, g4⟩ := h2 hp
    by_cases hq : 0 < r.2.2.length
    · obtain ⟨s, rfl, s1, s2, s3⟩ := h5 hq
      have hne : g ≠ s := fun e => g4 (by rw [e]; rfl)
      exact ⟨_, cap, _, c2, g, g + 1, s, s + 1, h1, g1, by omega, s1, by omega, by omega, fun _ => ⟨g, rfl, Nat.le_refl _, Nat.lt_succ_self _, g3⟩, fun _ => ⟨s, rfl, Nat.le_refl _, Nat.lt_succ_self _, s3⟩, h4⟩
    · exact ⟨_, cap, _, c2, g, g + 1, w.heap.size, w.heap.size, h1, g1, by omega, Nat.le_refl _, hz, .inr g1, fun _ => ⟨g, rfl, Nat.le_refl _, Nat.lt_succ_self _, g3⟩, fun h => absurd h hq, h4⟩
  · exact ⟨_, cap, _, c2, w.heap.size, w.heap.size, w.heap.size, w'.heap.size, h1, Nat.le_refl _, hz, Nat.le_refl _, Nat.le_refl _, .inl (Nat.le_refl _), fun h => absurd h hp, h5, h4⟩

set_option maxRecDepth 100000 in
set_option maxHeartbeats 4000000 in
theorem lawPlayHeap (A : Option Addr) (n cap : Nat) (zss : List (List Int)) (w : World) (hn : zss.length = n) (hm : n ≤ 9223372036854775807) (hi : ∀ i, i < n → (zss.getD i []).length ≤ 9223372036854775807) (h : IntsS w A zss) :
    Calls Try.prog 11 #[.slice A n cap] w fun e w' => e = .returned (.bool true) ∧ Below w.heap.size w w' := by
  have HS : Hid (∀ g2 c2 lo hi B W, n ≤ 1048576 → (∀ i, i < n → (zss.getD i []).length ≤ 1048576) → SS W lo hi g2 B zss → hi ≤ W.heap.size → Calls Try.prog 14 #[.slice (some ⟨g2, 0, none⟩) n c2] W (PlayCut W (plyA zss).1 (plyA zss).2.1 (plyA zss).2.2)) := fun g2 c2 lo hi' B W h1 h2 h3 h4 => (specPlay_any g2 n c2 lo hi' B zss W hn h1 h2 h3 h4).mono fun _ _ h => h.cut
  have HG : Hid (∀ g2 c2 lo hi B W, n ≤ 1048576 → (∀ i, i < n → (zss.getD i []).length ≤ 1048576) → SS W lo hi g2 B zss → hi ≤ W.heap.size → Calls Try.prog 15 #[.slice (some ⟨g2, 0, none⟩) n c2] W (PlayCut W (plyA zss).1 (plyA zss).2.1 (plyA zss).2.2)) := fun g2 c2 lo hi' B W h1 h2 h3 h4 => (implPlay_any g2 n c2 lo hi' B zss W hn h1 h2 h3 h4).mono fun _ _ h => h.cut
  have hf1 := (plyA_few zss).1
  have hf2 := (plyA_few zss).2
  generalize (plyA zss).1 = ds' at HS HG hf1
  generalize (plyA zss).2.1 = q' at HS HG
  generalize (plyA zss).2.2 = ids at HS HG hf2
  obtain ⟨n', hn'⟩ : ∃ n', ds'.length = n' := ⟨_, rfl⟩
  obtain ⟨k', hk'⟩ : ∃ k', ids.length = k' := ⟨_, rfl⟩
  rw [hn'] at hf1
  rw [hk'] at hf2
  have hm2 : n' ≤ 1048576 := by omega
  have hm3 : k' ≤ 1048576 := by omega
  have Hn := Lib.hid hn
  have Hn' := Lib.hid hn'
  have Hk' := Lib.hid hk'
  have HA := Lib.hid h
  have Hi := Lib.hid hi
  clear h hn hn' hk' hi
  go_enter Try.func11, Try.ntmps11
  go_wp2_with fail
  refine (szIntSS_any A n cap zss w Hn.out hm Hi.out HA.out).mono ?_
  rintro e w' ⟨r, rfl, rfl, hr⟩
  by_cases hl : r < 0
  · clear hr
    go_wp2
    go_ret
    exact ⟨rfl, Below.refl _ _⟩
  have hr0 : 0 ≤ r := by omega
  have hsum : r + n + tot zss = 1048576 := by rcases hr with h | h <;> omega
  have hm' : n ≤ 1048576 := by omega
  have htot : tot zss ≤ 1048576 := by omega
  have Hin : Hid (∀ i, i < n → (zss.getD i []).length ≤ 1048576) := fun i hi => Nat.le_trans (tot_le (by have := Hn.out; omega)) htot
  clear hr hsum
  go_wp2_with fail
  refine (toIntSS_any A n cap zss w Hn.out hm' Hin.out HA.out).mono ?_
  rintro e w2 ⟨B2, rfl, ss2, b2⟩
  have B := Lib.hid b2
  have S2 := Lib.hid ss2
  have z2 := b2.size
  clear b2 ss2
  go_wp2_with fail
  refine (HS.out _ _ _ _ _ w2 hm' Hin.out S2.out (Nat.le_refl _)).mono ?_
  rintro e w3 ⟨A3, c3, I3, j3, l3, h3, m3, p3, rfl, q1, q2, q3, q4, q5, v3, i3, b3⟩
  rw [Hn'.out, Hk'.out]
  have s23 := b3.size
  have bx := bel_trans b3 (bel_alloc w3 (.cells #[.slice A3 n' c3, .int .i64 q'] 28))
  have KW : Hid (Blk2 (w3.alloc _) w3.heap.size (.slice A3 n' c3) (.int .i64 q')) := heap_alloc_new w3 _
  replace B := Lib.hid (bel_trans B.out bx)
  have VW := Lib.hid (v3.below (bel_alloc w3 (.cells #[.slice A3 n' c3, .int .i64 q'] 28)) q2)
  have IW := Lib.hid (i3.below (bel_alloc w3 (.cells #[.slice A3 n' c3, .int .i64 q'] 28)) q4)
  clear b3 v3 i3 bx S2
  go_wp2_with fail
  refine (toIntSS_any A n cap zss _ Hn.out hm' Hin.out (HA.out.below B.out)).mono ?_
  rintro e w4 ⟨B4, rfl, ss4, b4⟩
  rw [World.size_alloc] at ss4
  have s34 : w3.heap.size < w4.heap.size := by have := b4.size; rw [World.size_alloc] at this; omega
  replace KW := Lib.hid (KW.out.below b4)
  replace B := Lib.hid (bel_trans B.out b4)
  replace VW := Lib.hid (VW.out.below b4 (by rw [World.size_alloc]; omega))
  replace IW := Lib.hid (IW.out.below b4 (by rw [World.size_alloc]; omega))
  have SX := Lib.hid ss4
  clear b4 ss4
  go_wp2_with fail
  refine (HG.out _ _ _ _ _ w4 hm' Hin.out SX.out (Nat.le_refl _)).mono ?_
  rintro e w5 ⟨A5, c5, I5, j5, l5, h5, m5, p5, rfl, q6, q7, q8, q9, q10, v5, i5, b5⟩
  rw [Hn'.out, Hk'.out]
  have s45 : w4.heap.size ≤ w5.heap.size := b5.size
  have b5' := bel_trans b5 (bel_alloc w5 (.cells #[.slice A5 n' c5, .int .i64 q'] 28))
  replace KW := Lib.hid (KW.out.below b5')
  have KG : Hid (Blk2 (w5.alloc _) w5.heap.size (.slice A5 n' c5) (.int .i64 q')) := heap_alloc_new w5 _
  replace B := Lib.hid (bel_trans B.out b5')
  replace VW := Lib.hid (VW.out.below b5' (by omega))
  replace IW := Lib.hid (IW.out.below b5' (by omega))
  replace SX := Lib.hid (SX.out.below b5' (Nat.le_refl _))
  have VG := Lib.hid (v5.below (bel_alloc w5 (.cells #[.slice A5 n' c5, .int .i64 q'] 28)) q7)
  have IG := Lib.hid (i5.below (bel_alloc w5 (.cells #[.slice A5 n' c5, .int .i64 q'] 28)) q9)
  clear b5 b5' v5 i5
  obtain ⟨d0, d1, df⟩ := KW.out.cells
  have hkw : w3.heap.size < w5.heap.size := by omega
  go_wp2_with fail
  refine (eqHeap_same A5 A3 n' c5 c3 _ _ _ _ ds' q' _ Hn'.out hm2 VG.out VW.out (by rw [World.size_alloc]; omega) (by rw [World.size_alloc]; omega)).mono ?_
  rintro e w6 ⟨rfl, b6⟩
  have s56 : w5.heap.size < w6.heap.size := by have := b6.size; rw [World.size_alloc] at this; omega
  replace KW := Lib.hid (KW.out.below b6)
  replace KG := Lib.hid (KG.out.below b6)
  replace B := Lib.hid (bel_trans B.out b6)
  replace VW := Lib.hid (VW.out.below b6 (by rw [World.size_alloc]; omega))
  replace IW := Lib.hid (IW.out.below b6 (by rw [World.size_alloc]; omega))
  replace SX := Lib.hid (SX.out.below b6 (by rw [World.size_alloc]; omega))
  replace VG := Lib.hid (VG.out.below b6 (by rw [World.size_alloc]; omega))
  replace IG := Lib.hid (IG.out.below b6 (by rw [World.size_alloc]; omega))
  clear b6 d0 d1 df
  go_wp2_with fail
  refine (eqInts_same I5 I3 k' j5 j3 ids w6 Hk'.out hm3 IG.out.ints IW.out.ints).mono ?_
  rintro e w7 ⟨rfl, b7⟩
  have s67 : w6.heap.size ≤ w7.heap.size := b7.size
  replace KW := Lib.hid (KW.out.below b7)
  replace KG := Lib.hid (KG.out.below b7)
  replace B := Lib.hid (bel_trans B.out b7)
  replace VW := Lib.hid (VW.out.below b7 (by omega))
  replace IW := Lib.hid (IW.out.below b7 (by omega))
  replace SX := Lib.hid (SX.out.below b7 (by omega))
  replace VG := Lib.hid (VG.out.below b7 (by omega))
  replace IG := Lib.hid (IG.out.below b7 (by omega))
  clear b7
  go_wp2_with fail
  refine (toIntSS_any A n cap zss w7 Hn.out hm' Hin.out (HA.out.below B.out)).mono ?_
  rintro e w8 ⟨B8, rfl, ss8, b8⟩
  have s78 : w7.heap.size ≤ w8.heap.size := b8.size
  replace KW := Lib.hid (KW.out.below b8)
  replace KG := Lib.hid (KG.out.below b8)
  replace B := Lib.hid (bel_trans B.out b8)
  replace VW := Lib.hid (VW.out.below b8 (by omega))
  replace IW := Lib.hid (IW.out.below b8 (by omega))
  replace SX := Lib.hid (SX.out.below b8 (by omega))
  replace VG := Lib.hid (VG.out.below b8 (by omega))
  replace IG := Lib.hid (IG.out.below b8 (by omega))
  have S8 := Lib.hid ss8
  clear b8 ss8
  go_wp2_with fail
  refine (eqIntSS_same _ _ n _ _ _ _ _ _ _ _ zss w8 Hn.out hm' Hin.out SX.out S8.out (by omega) (Nat.le_refl _)).mono ?_
  rintro e w9 ⟨rfl, b9⟩
  have s89 : w8.heap.size ≤ w9.heap.size := b9.size
  replace KW := Lib.hid (KW.out.below b9)
  replace KG := Lib.hid (KG.out.below b9)
  replace B := Lib.hid (bel_trans B.out b9)
  replace VW := Lib.hid (VW.out.below b9 (by omega))
  replace IW := Lib.hid (IW.out.below b9 (by omega))
  replace SX := Lib.hid (SX.out.below b9 (by omega))
  replace VG := Lib.hid (VG.out.below b9 (by omega))
  replace IG := Lib.hid (IG.out.below b9 (by omega))
  clear b9 S8
  go_wp2_with fail
  refine (markIntSS_any _ n _ _ _ _ zss 1 w9 Hn.out htot (by omega) (by omega) hm' SX.out (by omega)).mono ?_
  rintro e w10 ⟨rfl, t10⟩
  have s910 : w9.heap.size ≤ w10.heap.size := t10.size
  replace KW := Lib.hid (KW.out.of_block (t10.block _ (by omega) (by omega)))
  replace KG := Lib.hid (KG.out.of_block (t10.block _ (by omega) (by omega)))
  replace B := Lib.hid (B.out.trans (t10.toTurns.below (B := w.heap.size) (by omega) (by omega)))
  replace VW := Lib.hid (VW.out.of_block fun g a1 a2 => t10.block g (by omega) (by omega))
  replace IW := Lib.hid (IW.out.of_block fun g a1 a2 => t10.block g (by omega) (by omega))
  replace VG := Lib.hid (VG.out.of_block fun g a1 a2 => t10.block g (by omega) (by omega))
  replace IG := Lib.hid (IG.out.of_block fun g a1 a2 => t10.block g (by omega) (by omega))
  clear t10 SX
  have hk : ¬ 1 + (tot zss : Int) < 0 := by omega
  obtain ⟨d0, d1, df⟩ := KG.out.cells
  obtain ⟨x0, x1, xf⟩ := KW.out.cells
  generalize tot zss = tz at hk htot
  go_wp2_with fail
  refine (eqHeap_same A5 A3 n' c5 c3 _ _ _ _ ds' q' w10 Hn'.out hm2 VG.out VW.out (by omega) (by omega)).mono ?_
  rintro e w11 ⟨rfl, b11⟩
  have s1011 : w10.heap.size ≤ w11.heap.size := b11.size
  replace KW := Lib.hid (KW.out.below b11)
  replace KG := Lib.hid (KG.out.below b11)
  replace B := Lib.hid (bel_trans B.out b11)
  replace VW := Lib.hid (VW.out.below b11 (by omega))
  replace IW := Lib.hid (IW.out.below b11 (by omega))
  replace VG := Lib.hid (VG.out.below b11 (by omega))
  replace IG := Lib.hid (IG.out.below b11 (by omega))
  clear b11 d0 d1 df x0 x1 xf
  go_wp2_with fail
  refine (eqInts_same I5 I3 k' j5 j3 ids w11 Hk'.out hm3 IG.out.ints IW.out.ints).mono ?_
  rintro e w12 ⟨rfl, b12⟩
  have s1112 : w11.heap.size ≤ w12.heap.size := b12.size
  replace KW := Lib.hid (KW.out.below b12)
  replace KG := Lib.hid (KG.out.below b12)
  replace B := Lib.hid (bel_trans B.out b12)
  replace VW := Lib.hid (VW.out.below b12 (by omega))
  replace IW := Lib.hid (IW.out.below b12 (by omega))
  replace VG := Lib.hid (VG.out.below b12 (by omega))
  replace IG := Lib.hid (IG.out.below b12 (by omega))
  clear b12
  obtain ⟨d0, d1, df⟩ := KG.out.cells
  go_wp2_with fail
  refine (markHeap_any A5 n' c5 _ _ 1 _ ds' w12 Hn'.out (by omega) (by omega) (by omega) VG.out (by omega)).mono ?_
  rintro e w13 ⟨rfl, v13, t13⟩
  have s1213 : w12.heap.size ≤ w13.heap.size := t13.size
  replace KW := Lib.hid (KW.out.of_block (t13.block _ (by omega) (by omega)))
  replace KG := Lib.hid (KG.out.of_block (t13.block _ (by omega) (by omega)))
  replace B := Lib.hid (B.out.trans (t13.toTurns.below (B := w.heap.size) (by omega) (by omega)))
  replace VW := Lib.hid (VW.out.of_block fun g a1 a2 => t13.block g (by omega) (by omega))
  replace IW := Lib.hid (IW.out.of_block fun g a1 a2 => t13.block g (by omega) (by omega))
  replace IG := Lib.hid (IG.out.of_block fun g a1 a2 => t13.block g (by omega) (by omega))
  replace VG := Lib.hid v13
  clear v13 t13 d0 d1 df
  go_wp2_with fail
  refine (markInts_any I5 k' j5 _ _ (1 + 3 * (n' : Int)) ids w13 Hk'.out hm3 (by omega) (by omega) IG.out).mono ?_
  rintro e w14 ⟨rfl, i14, t14⟩
  have s1314 : w13.heap.size ≤ w14.heap.size := t14.size
  replace KW := Lib.hid (KW.out.of_block (t14.block _ (by omega) (by omega)))
  replace KG := Lib.hid (KG.out.of_block (t14.block _ (by omega) (by omega)))
  replace B := Lib.hid (B.out.trans (t14.toTurns.below (B := w.heap.size) (by omega) (by omega)))
  replace VW := Lib.hid (VW.out.of_block fun g a1 a2 => t14.block g (by omega) (by omega))
  replace IW := Lib.hid (IW.out.of_block fun g a1 a2 => t14.block g (by omega) (by omega))
  replace VG := Lib.hid (VG.out.of_block fun g a1 a2 => t14.block g (by omega) (by omega))
  replace IG := Lib.hid i14
  clear i14 t14
  obtain ⟨d0, d1, df⟩ := KG.out.cells
  have hk2 : ¬ 1 + 3 * (n' : Int) < 0 := by omega
  have hk3 : ¬ 1 + 3 * (n' : Int) + (k' : Int) < 0 := by omega
  go_wp2_with fail
  refine (heldHeap_any A5 n' c5 _ _ 1 _ w14 (by omega) (by omega) (by omega) VG.out (by omega)).mono ?_
  rintro e w15 ⟨rfl, b15⟩
  have s1415 : w14.heap.size ≤ w15.heap.size := b15.size
  replace KW := Lib.hid (KW.out.below b15)
  replace KG := Lib.hid (KG.out.below b15)
  replace B := Lib.hid (bel_trans B.out b15)
  replace VW := Lib.hid (VW.out.below b15 (by omega))
  replace IW := Lib.hid (IW.out.below b15 (by omega))
  replace VG := Lib.hid (VG.out.below b15 (by omega))
  replace IG := Lib.hid (IG.out.below b15 (by omega))
  clear b15 d0 d1 df
  go_wp2_with fail
  refine (heldInts_any I5 k' j5 _ _ (1 + 3 * (n' : Int)) w15 hm3 (by omega) (by omega) IG.out).mono ?_
  rintro e w' ⟨rfl, rfl⟩
  go_wp2_with fail
  refine (toIntSS_any A n cap zss w15 Hn.out hm' Hin.out (HA.out.below B.out)).mono ?_
  rintro e w16 ⟨B16, rfl, ss16, b16⟩
  have s1516 : w15.heap.size ≤ w16.heap.size := b16.size
  replace KW := Lib.hid (KW.out.below b16)
  replace KG := Lib.hid (KG.out.below b16)
  replace B := Lib.hid (bel_trans B.out b16)
  replace VW := Lib.hid (VW.out.below b16 (by omega))
  replace IW := Lib.hid (IW.out.below b16 (by omega))
  replace VG := Lib.hid (VG.out.below b16 (by omega))
  replace IG := Lib.hid (IG.out.below b16 (by omega))
  have S16 := Lib.hid ss16
  clear b16 ss16
  go_wp2_with fail
  refine (HG.out _ _ _ _ _ w16 hm' Hin.out S16.out (Nat.le_refl _)).mono ?_
  rintro e w17 ⟨A17, c17, I17, j17, l17, h17, m17, p17, rfl, u1, u2, u3, u4, u5, v17, i17, b17⟩
  rw [Hn'.out, Hk'.out]
  have s1617 : w16.heap.size ≤ w17.heap.size := b17.size
  have b17' := bel_trans b17 (bel_alloc w17 (.cells #[.slice A17 n' c17, .int .i64 q'] 28))
  replace KW := Lib.hid (KW.out.below b17')
  replace KG := Lib.hid (KG.out.below b17')
  replace B := Lib.hid (bel_trans B.out b17')
  replace VW := Lib.hid (VW.out.below b17' (by omega))
  replace IW := Lib.hid (IW.out.below b17' (by omega))
  replace VG := Lib.hid (VG.out.below b17' (by omega))
  replace IG := Lib.hid (IG.out.below b17' (by omega))
  have V17 := Lib.hid (v17.below (bel_alloc w17 (.cells #[.slice A17 n' c17, .int .i64 q'] 28)) u2)
  have I17' := Lib.hid (i17.below (bel_alloc w17 (.cells #[.slice A17 n' c17, .int .i64 q'] 28)) u4)
  clear b17 b17' v17 i17 S16
  obtain ⟨x0, x1, xf⟩ := KW.out.cells
  have hkw2 : w3.heap.size < w17.heap.size := by omega
  go_wp2_with fail
  refine (eqHeap_same A17 A3 n' c17 c3 _ _ _ _ ds' q' _ Hn'.out hm2 V17.out VW.out (by rw [World.size_alloc]; omega) (by rw [World.size_alloc]; omega)).mono ?_
  rintro e w18 ⟨rfl, b18⟩
  have s1718 : w17.heap.size < w18.heap.size := by have := b18.size; rw [World.size_alloc] at this; omega
  replace KG := Lib.hid (KG.out.below b18)
  replace B := Lib.hid (bel_trans B.out b18)
  replace IW := Lib.hid (IW.out.below b18 (by rw [World.size_alloc]; omega))
  replace VG := Lib.hid (VG.out.below b18 (by rw [World.size_alloc]; omega))
  replace IG := Lib.hid (IG.out.below b18 (by rw [World.size_alloc]; omega))
  replace I17' := Lib.hid (I17'.out.below b18 (by rw [World.size_alloc]; omega))
  clear b18 x0 x1 xf V17 VW KW
  go_wp2_with fail
  refine (eqInts_same I17 I3 k' j17 j3 ids w18 Hk'.out hm3 I17'.out.ints IW.out.ints).mono ?_
  rintro e w19 ⟨rfl, b19⟩
  have s1819 : w18.heap.size ≤ w19.heap.size := b19.size
  replace KG := Lib.hid (KG.out.below b19)
  replace B := Lib.hid (bel_trans B.out b19)
  replace VG := Lib.hid (VG.out.below b19 (by omega))
  replace IG := Lib.hid (IG.out.below b19 (by omega))
  clear b19
  obtain ⟨d0, d1, df⟩ := KG.out.cells
  go_wp2_with fail
  refine (heldHeap_any A5 n' c5 _ _ 1 _ w19 (by omega) (by omega) (by omega) VG.out (by omega)).mono ?_
  rintro e w20 ⟨rfl, b20⟩
  have s1920 : w19.heap.size ≤ w20.heap.size := b20.size
  replace B := Lib.hid (bel_trans B.out b20)
  replace IG := Lib.hid (IG.out.below b20 (by omega))
  clear b20
  go_wp2_with fail
  refine (heldInts_any I5 k' j5 _ _ (1 + 3 * (n' : Int)) w20 hm3 (by omega) (by omega) IG.out).mono ?_
  rintro e w' ⟨rfl, rfl⟩
  go_wp2
  go_ret
  exact ⟨rfl, B.out⟩
end Go.Proofs.Ytnmhdbfemobhkaa.Hp
