/- The law of PlayConn walked. -/
import Derived.Test.YtbmfleakldhabaaDoorKnI
import Derived.Test.YtbmfleakldhabaaDoorHsN
namespace Go.Proofs.YtbmfleakldhabaaDoor.Kn
open Go.RowKit Go.Deep Base Tick Rw

theorem ss_intss {w : World} {lo hi g : Nat} {B : Nat → Nat} {zss : List (List Int)} (h : SS w lo hi g B zss) : IntsS w (some ⟨g, 0, none⟩) zss := fun _ =>
  ⟨g, 0, rfl, fun i hi => ⟨some ⟨B i, 0, none⟩, _, by rw [Nat.zero_add]; exact h.row i hi, RI.ints (h.inner i hi)⟩⟩

set_option maxRecDepth 100000 in
set_option maxHeartbeats 2000000 in
theorem lawPlayConn (id : Int) (A : Option Addr) (n cap : Nat) (zss : List (List Int)) (w : World) (hn : zss.length = n) (hm : n ≤ 9223372036854775807) (hi : ∀ i, i < n → (zss.getD i []).length ≤ 9223372036854775807) (h : IntsS w A zss) (he : ∃ p, Er p w) :
    Calls Tryd.prog 5 #[.int .i64 id, .slice A n cap] w fun e w' => e = .returned (.bool true) ∧ Below w.heap.size w w' := by
  obtain ⟨p, he⟩ := he
  have HSP : Hid (∀ g2 c2 lo hi B W, n ≤ 1048576 → (∀ i, i < n → (zss.getD i []).length ≤ 1048576) → SS W lo hi g2 B zss → hi ≤ W.heap.size → Calls Tryd.prog 9 #[.int .i64 id, .slice (some ⟨g2, 0, none⟩) n c2] W (PlEnd id zss W)) := fun g2 c2 lo hi' B W h1 h2 h3 _ => specPlay_any id _ n c2 zss W hn h1 h2 (ss_intss h3)
  have HIM : Hid (∀ g2 c2 lo hi B W, n ≤ 1048576 → (∀ i, i < n → (zss.getD i []).length ≤ 1048576) → SS W lo hi g2 B zss → hi ≤ W.heap.size → Er p W → Calls Tryd.prog 10 #[.int .i64 id, .slice (some ⟨g2, 0, none⟩) n c2] W (PlEnd id zss W)) := fun g2 c2 lo hi' B W h1 h2 h3 _ h5 => implPlay_any id _ n c2 zss p W hn h1 h2 (ss_intss h3) h5
  have HQ := Lib.hid (fun W => eqConn_same (finP id zss).1 (finP id zss).2 W)
  have hf2 := tol_few id zss
  unfold PlEnd at HSP HIM
  generalize (finP id zss).1 = fk at HSP HIM HQ
  generalize (finP id zss).2 = ft at HSP HIM HQ
  generalize tolP id zss = ids at HSP HIM hf2
  obtain ⟨k', hk'⟩ : ∃ k', ids.length = k' := ⟨_, rfl⟩
  rw [hk'] at hf2
  have hm3 : k' ≤ 1048576 := by omega
  have Hn := Lib.hid hn
  have Hk' := Lib.hid hk'
  have HA := Lib.hid h
  have Hi := Lib.hid hi
  have HE := Lib.hid he
  clear h hn hk' hi he
  go_enter Tryd.func5, Tryd.ntmps5
  go_wp2_with fail
  refine (szIntSS_any A n cap zss w Hn.out hm Hi.out HA.out).mono ?_
  rintro e w' ⟨r, rfl, rfl, hr⟩
  by_cases hl : r < 0
  · clear hr
    go_wp2
    go_ret
    exact ⟨rfl, Below.refl _ _⟩
  have hr0 : 0 ≤ r := by omega
  have hsum : r + n + tot zss = 1048576 := by rcases hr with h | h <;> omega
  have hm' : n ≤ 1048576 := by omega
  have htot : tot zss ≤ 1048576 := by omega
  have Hin : Hid (∀ i, i < n → (zss.getD i []).length ≤ 1048576) := fun i hi => Nat.le_trans (tot_le (by have := Hn.out; omega)) htot
  clear hr hsum
  have B : Hid (Below w.heap.size w w) := Lib.hid (Below.refl _ _)
  go_wp2_with fail
  refine (toIntSS_any A n cap zss _ Hn.out hm' Hin.out (HA.out.below B.out)).mono ?_
  rintro e w1 ⟨BS1, rfl, ss, bb⟩
  have z1 : w.heap.size ≤ w1.heap.size := bb.size
  replace B := Lib.hid (bel_trans B.out bb)
  clear bb
  have S1 := Lib.hid ss
  clear ss
  go_wp2_with fail
  refine (HSP.out _ _ _ _ _ _ hm' Hin.out S1.out (Nat.le_refl _)).mono ?_
  rintro e w2 ⟨AIW, cIW, rfl, iv, bb⟩
  have z2 : w1.heap.size ≤ w2.heap.size := bb.size
  replace B := Lib.hid (bel_trans B.out bb)
  replace S1 := Lib.hid (S1.out.below bb (by omega))
  clear bb
  have IW := Lib.hid iv
  clear iv
  rw [Hk'.out]
  clear S1
  have bb := bel_alloc w2 (.cells #[.int .i64 (fk 0), .int .i64 (fk 1), .int .i64 (fk 2), .int .i64 (fk 3), .int .i64 (fk 4), .bool ft] 28)
  have KW := Lib.hid (KC.new fk ft w2 28)
  have zb : w2.heap.size < (w2.alloc (.cells #[.int .i64 (fk 0), .int .i64 (fk 1), .int .i64 (fk 2), .int .i64 (fk 3), .int .i64 (fk 4), .bool ft] 28)).heap.size := by simp
  replace B := Lib.hid (bel_trans B.out bb)
  replace IW := Lib.hid (IW.out.below bb (by omega))
  clear bb
  go_wp2_with fail
  refine (toIntSS_any A n cap zss _ Hn.out hm' Hin.out (HA.out.below B.out)).mono ?_
  rintro e w4 ⟨BSX, rfl, ss, bb⟩
  have z4 : (w2.alloc (.cells #[.int .i64 (fk 0), .int .i64 (fk 1), .int .i64 (fk 2), .int .i64 (fk 3), .int .i64 (fk 4), .bool ft] 28)).heap.size ≤ w4.heap.size := bb.size
  replace B := Lib.hid (bel_trans B.out bb)
  replace IW := Lib.hid (IW.out.below bb (by omega))
  replace KW := Lib.hid (KW.out.below bb)
  clear bb
  rw [World.size_alloc] at ss
  have SX := Lib.hid ss
  clear ss
  clear zb
  have zKW : w2.heap.size < w4.heap.size := KW.out.lt
  go_wp2_with fail
  refine (HIM.out _ _ _ _ _ _ hm' Hin.out SX.out (Nat.le_refl _) (HE.out.below B.out)).mono ?_
  rintro e w5 ⟨AIG, cIG, rfl, iv, bb⟩
  have z5 : w4.heap.size ≤ w5.heap.size := bb.size
  replace B := Lib.hid (bel_trans B.out bb)
  replace IW := Lib.hid (IW.out.below bb (by omega))
  replace KW := Lib.hid (KW.out.below bb)
  replace SX := Lib.hid (SX.out.below bb (by omega))
  clear bb
  have IG := Lib.hid iv
  clear iv
  rw [Hk'.out]
  have bb := bel_alloc w5 (.cells #[.int .i64 (fk 0), .int .i64 (fk 1), .int .i64 (fk 2), .int .i64 (fk 3), .int .i64 (fk 4), .bool ft] 28)
  have KG := Lib.hid (KC.new fk ft w5 28)
  have zb : w5.heap.size < (w5.alloc (.cells #[.int .i64 (fk 0), .int .i64 (fk 1), .int .i64 (fk 2), .int .i64 (fk 3), .int .i64 (fk 4), .bool ft] 28)).heap.size := by simp
  replace B := Lib.hid (bel_trans B.out bb)
  replace IW := Lib.hid (IW.out.below bb (by omega))
  replace KW := Lib.hid (KW.out.below bb)
  replace SX := Lib.hid (SX.out.below bb (by omega))
  replace IG := Lib.hid (IG.out.below bb (by omega))
  clear bb
  have zKW2 : w2.heap.size < w5.heap.size := by omega
  obtain ⟨kw0, kw1, kw2, kw3, kw4, kw5⟩ := KW.out
  go_wp2_with fail
  refine (HQ.out _).mono ?_
  rintro e w7 ⟨rfl, bb⟩
  clear kw0 kw1 kw2 kw3 kw4 kw5
  have z7 : (w5.alloc (.cells #[.int .i64 (fk 0), .int .i64 (fk 1), .int .i64 (fk 2), .int .i64 (fk 3), .int .i64 (fk 4), .bool ft] 28)).heap.size ≤ w7.heap.size := bb.size
  replace B := Lib.hid (bel_trans B.out bb)
  replace IW := Lib.hid (IW.out.below bb (by omega))
  replace KW := Lib.hid (KW.out.below bb)
  replace SX := Lib.hid (SX.out.below bb (by omega))
  replace IG := Lib.hid (IG.out.below bb (by omega))
  replace KG := Lib.hid (KG.out.below bb)
  clear bb
  clear zb
  have zKG : w5.heap.size < w7.heap.size := KG.out.lt
  go_wp2_with fail
  refine (eqInts_same AIG AIW k' cIG cIW ids _ Hk'.out hm3 IG.out.ints IW.out.ints).mono ?_
  rintro e w8 ⟨rfl, bb⟩
  have z8 : w7.heap.size ≤ w8.heap.size := bb.size
  replace B := Lib.hid (bel_trans B.out bb)
  replace IW := Lib.hid (IW.out.below bb (by omega))
  replace KW := Lib.hid (KW.out.below bb)
  replace SX := Lib.hid (SX.out.below bb (by omega))
  replace IG := Lib.hid (IG.out.below bb (by omega))
  replace KG := Lib.hid (KG.out.below bb)
  clear bb
  go_wp2_with fail
  refine (toIntSS_any A n cap zss _ Hn.out hm' Hin.out (HA.out.below B.out)).mono ?_
  rintro e w9 ⟨BS8, rfl, ss, bb⟩
  have z9 : w8.heap.size ≤ w9.heap.size := bb.size
  replace B := Lib.hid (bel_trans B.out bb)
  replace IW := Lib.hid (IW.out.below bb (by omega))
  replace KW := Lib.hid (KW.out.below bb)
  replace SX := Lib.hid (SX.out.below bb (by omega))
  replace IG := Lib.hid (IG.out.below bb (by omega))
  replace KG := Lib.hid (KG.out.below bb)
  clear bb
  have S8 := Lib.hid ss
  clear ss
  go_wp2_with fail
  refine (eqIntSS_same _ _ n _ _ _ _ _ _ _ _ zss _ Hn.out hm' Hin.out SX.out S8.out (by omega) (Nat.le_refl _)).mono ?_
  rintro e w10 ⟨rfl, bb⟩
  have z10 : w9.heap.size ≤ w10.heap.size := bb.size
  replace B := Lib.hid (bel_trans B.out bb)
  replace IW := Lib.hid (IW.out.below bb (by omega))
  replace KW := Lib.hid (KW.out.below bb)
  replace SX := Lib.hid (SX.out.below bb (by omega))
  replace IG := Lib.hid (IG.out.below bb (by omega))
  replace KG := Lib.hid (KG.out.below bb)
  replace S8 := Lib.hid (S8.out.below bb (by omega))
  clear bb
  clear S8
  go_wp2_with fail
  refine (markIntSS_any _ n _ _ _ _ zss 1 _ Hn.out htot (by omega) (by omega) hm' SX.out (by omega)).mono ?_
  rintro e w11 ⟨rfl, tt⟩
  have z11 : w10.heap.size ≤ w11.heap.size := tt.size
  have zKW4 := KW.out.lt
  have zKG4 := KG.out.lt
  replace KW := Lib.hid (KW.out.of_block (tt.block _ zKW4 (by omega)))
  replace KG := Lib.hid (KG.out.of_block (tt.block _ zKG4 (by omega)))
  replace B := Lib.hid (B.out.trans (tt.below (B := w.heap.size) (by omega) (by omega)))
  replace IW := Lib.hid (IW.out.of_block fun g a1 a2 => tt.block g (by omega) (by omega))
  replace IG := Lib.hid (IG.out.of_block fun g a1 a2 => tt.block g (by omega) (by omega))
  clear tt zKW4 zKG4
  clear SX
  have hk : ¬ 1 + (tot zss : Int) < 0 := by omega
  generalize tot zss = tz at hk htot
  have zKG3 : w5.heap.size < w11.heap.size := KG.out.lt
  have zKW3 : w2.heap.size < w11.heap.size := KW.out.lt
  obtain ⟨kw0, kw1, kw2, kw3, kw4, kw5⟩ := KW.out
  obtain ⟨kg0, kg1, kg2, kg3, kg4, kg5⟩ := KG.out
  go_wp2_with fail
  refine (HQ.out _).mono ?_
  rintro e w12 ⟨rfl, bb⟩
  clear kw0 kw1 kw2 kw3 kw4 kw5
  clear kg0 kg1 kg2 kg3 kg4 kg5
  have z12 : w11.heap.size ≤ w12.heap.size := bb.size
  replace B := Lib.hid (bel_trans B.out bb)
  replace IW := Lib.hid (IW.out.below bb (by omega))
  replace KW := Lib.hid (KW.out.below bb)
  replace IG := Lib.hid (IG.out.below bb (by omega))
  replace KG := Lib.hid (KG.out.below bb)
  clear bb
  go_wp2_with fail
  refine (eqInts_same AIG AIW k' cIG cIW ids _ Hk'.out hm3 IG.out.ints IW.out.ints).mono ?_
  rintro e w13 ⟨rfl, bb⟩
  have z13 : w12.heap.size ≤ w13.heap.size := bb.size
  replace B := Lib.hid (bel_trans B.out bb)
  replace IW := Lib.hid (IW.out.below bb (by omega))
  replace KW := Lib.hid (KW.out.below bb)
  replace IG := Lib.hid (IG.out.below bb (by omega))
  replace KG := Lib.hid (KG.out.below bb)
  clear bb
  go_wp2_with fail
  refine (markInts_any AIG k' cIG _ _ 1 ids _ Hk'.out hm3 (by omega) (by omega) IG.out).mono ?_
  rintro e w14 ⟨rfl, iv, tt⟩
  have z14 : w13.heap.size ≤ w14.heap.size := tt.size
  have zKW4 := KW.out.lt
  replace KW := Lib.hid (KW.out.of_block (tt.block _ zKW4 (by omega)))
  replace B := Lib.hid (B.out.trans (tt.below (B := w.heap.size) (by omega) (by omega)))
  replace IW := Lib.hid (IW.out.of_block fun g a1 a2 => tt.block g (by omega) (by omega))
  replace IG := Lib.hid iv
  clear tt iv zKW4
  clear KG
  have hk2 : ¬ 1 + (k' : Int) < 0 := by omega
  go_wp2_with fail
  refine (heldInts_any AIG k' cIG _ _ 1 _ hm3 (by omega) (by omega) IG.out).mono ?_
  rintro e w' ⟨rfl, rfl⟩
  go_wp2_with fail
  refine (toIntSS_any A n cap zss _ Hn.out hm' Hin.out (HA.out.below B.out)).mono ?_
  rintro e w15 ⟨BS16, rfl, ss, bb⟩
  have z15 : w14.heap.size ≤ w15.heap.size := bb.size
  replace B := Lib.hid (bel_trans B.out bb)
  replace IW := Lib.hid (IW.out.below bb (by omega))
  replace KW := Lib.hid (KW.out.below bb)
  replace IG := Lib.hid (IG.out.below bb (by omega))
  clear bb
  have S16 := Lib.hid ss
  clear ss
  go_wp2_with fail
  refine (HIM.out _ _ _ _ _ _ hm' Hin.out S16.out (Nat.le_refl _) (HE.out.below B.out)).mono ?_
  rintro e w16 ⟨AIH, cIH, rfl, iv, bb⟩
  have z16 : w15.heap.size ≤ w16.heap.size := bb.size
  replace B := Lib.hid (bel_trans B.out bb)
  replace IW := Lib.hid (IW.out.below bb (by omega))
  replace KW := Lib.hid (KW.out.below bb)
  replace IG := Lib.hid (IG.out.below bb (by omega))
  replace S16 := Lib.hid (S16.out.below bb (by omega))
  clear bb
  have IH := Lib.hid iv
  clear iv
  rw [Hk'.out]
  clear S16
  have zKW5 : w2.heap.size < w16.heap.size := KW.out.lt
  have bb := bel_alloc w16 (.cells #[.int .i64 (fk 0), .int .i64 (fk 1), .int .i64 (fk 2), .int .i64 (fk 3), .int .i64 (fk 4), .bool ft] 28)
  have KH := Lib.hid (KC.new fk ft w16 28)
  have zb : w16.heap.size < (w16.alloc (.cells #[.int .i64 (fk 0), .int .i64 (fk 1), .int .i64 (fk 2), .int .i64 (fk 3), .int .i64 (fk 4), .bool ft] 28)).heap.size := by simp
  replace B := Lib.hid (bel_trans B.out bb)
  replace IW := Lib.hid (IW.out.below bb (by omega))
  replace KW := Lib.hid (KW.out.below bb)
  replace IG := Lib.hid (IG.out.below bb (by omega))
  replace IH := Lib.hid (IH.out.below bb (by omega))
  clear bb
  obtain ⟨kw0, kw1, kw2, kw3, kw4, kw5⟩ := KW.out
  go_wp2_with fail
  refine (HQ.out _).mono ?_
  rintro e w18 ⟨rfl, bb⟩
  clear kw0 kw1 kw2 kw3 kw4 kw5
  have z18 : (w16.alloc (.cells #[.int .i64 (fk 0), .int .i64 (fk 1), .int .i64 (fk 2), .int .i64 (fk 3), .int .i64 (fk 4), .bool ft] 28)).heap.size ≤ w18.heap.size := bb.size
  replace B := Lib.hid (bel_trans B.out bb)
  replace IW := Lib.hid (IW.out.below bb (by omega))
  replace KW := Lib.hid (KW.out.below bb)
  replace IG := Lib.hid (IG.out.below bb (by omega))
  replace IH := Lib.hid (IH.out.below bb (by omega))
  replace KH := Lib.hid (KH.out.below bb)
  clear bb
  have zKH : w16.heap.size < w18.heap.size := KH.out.lt
  go_wp2_with fail
  refine (eqInts_same AIH AIW k' cIH cIW ids _ Hk'.out hm3 IH.out.ints IW.out.ints).mono ?_
  rintro e w19 ⟨rfl, bb⟩
  have z19 : w18.heap.size ≤ w19.heap.size := bb.size
  replace B := Lib.hid (bel_trans B.out bb)
  replace IW := Lib.hid (IW.out.below bb (by omega))
  replace KW := Lib.hid (KW.out.below bb)
  replace IG := Lib.hid (IG.out.below bb (by omega))
  replace IH := Lib.hid (IH.out.below bb (by omega))
  replace KH := Lib.hid (KH.out.below bb)
  clear bb
  go_wp2_with fail
  refine (heldInts_any AIG k' cIG _ _ 1 _ hm3 (by omega) (by omega) IG.out).mono ?_
  rintro e w' ⟨rfl, rfl⟩
  go_wp2
  go_ret
  exact ⟨rfl, B.out⟩
end Go.Proofs.YtbmfleakldhabaaDoor.Kn
