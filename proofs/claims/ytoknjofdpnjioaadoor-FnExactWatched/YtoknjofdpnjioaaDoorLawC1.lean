/- The laws of PlayChannel and Watched walked. -/
import Derived.Test.YtoknjofdpnjioaaDoorCn7
namespace Go.Proofs.YtoknjofdpnjioaaDoor.Cn
open Go.RowKit Go.Deep Base Rw

set_option maxRecDepth 100000 in
set_option maxHeartbeats 4000000 in
theorem lawPlayChannel (A : Option Addr) (n cap : Nat) (es : List Int) (w : World) (hn : es.length = n) (hm : n ≤ maxLen) (h : Ints w A es) (hmv : Mvs w) :
    Calls Tryd.prog 5 #[.slice A n cap] w fun e w' => e = .returned (.bool true) ∧ Below w.heap.size w w' := by
  unfold maxLen at hm
  have Hn := Lib.hid hn
  have HA := Lib.hid h
  have HM := Lib.hid hmv
  clear h hn hmv
  go_enter Tryd.func5, Tryd.ntmps5
  by_cases hl : (1048576 : Int) < n
  · go_wp2
    go_ret
    exact ⟨rfl, Below.refl _ _⟩
  have hm' : n ≤ 1048576 := by omega
  have B : Hid (Below w.heap.size w w) := Lib.hid (Below.refl _ _)
  have HSP := Lib.hid (fun A' c' W hI => specPlay_any A' n c' es W Hn.out hI)
  have HIM := Lib.hid (fun A' c' W hM hI => implPlay_any A' n c' es W hM Hn.out hI)
  unfold PlayEnd at HSP HIM
  have hfew : (playR es).length ≤ 1048576 := by have := playR_few es; omega
  generalize playR es = zs at HSP HIM hfew
  generalize playS es = sn at HSP HIM
  go_wp2_with fail
  refine (toIntS_iv A n cap es _ Hn.out hm' (HA.out.below B.out)).mono ?_
  rintro e w1 ⟨rfl, v1, b1⟩
  have z1 : w.heap.size ≤ w1.heap.size := b1.size
  replace B := Lib.hid (bel_trans B.out b1)
  clear b1
  have E0 := Lib.hid v1
  clear v1
  go_wp2_with fail
  refine (HSP.out _ _ _ E0.out.ints).mono ?_
  rintro e w2 ⟨Aw, cw, rfl, v2, b2⟩
  have z2 : w1.heap.size ≤ w2.heap.size := b2.size
  clear E0
  replace B := Lib.hid (bel_trans B.out b2)
  clear b2
  have VW := Lib.hid v2
  clear v2
  go_wp2_with fail
  refine (toIntS_iv A n cap es _ Hn.out hm' (HA.out.below B.out)).mono ?_
  rintro e w3 ⟨rfl, v3, b3⟩
  have z3 : w2.heap.size ≤ w3.heap.size := b3.size
  replace B := Lib.hid (bel_trans B.out b3)
  replace VW := Lib.hid (VW.out.below b3 (by omega))
  clear b3
  have EX := Lib.hid v3
  clear v3
  go_wp2_with fail
  refine (HIM.out _ _ _ (HM.out.below B.out) EX.out.ints).mono ?_
  rintro e w4 ⟨Ag, cg, rfl, v4, b4⟩
  have z4 : w3.heap.size ≤ w4.heap.size := b4.size
  replace B := Lib.hid (bel_trans B.out b4)
  replace VW := Lib.hid (VW.out.below b4 (by omega))
  replace EX := Lib.hid (EX.out.below b4 (by omega))
  clear b4
  have VG := Lib.hid v4
  clear v4
  go_wp2_with fail
  refine (eqInts_same Ag Aw _ cg cw zs _ rfl hfew VG.out.ints VW.out.ints).mono ?_
  rintro e w5 ⟨rfl, b5⟩
  have z5 : w4.heap.size ≤ w5.heap.size := b5.size
  replace B := Lib.hid (bel_trans B.out b5)
  replace VW := Lib.hid (VW.out.below b5 (by omega))
  replace EX := Lib.hid (EX.out.below b5 (by omega))
  replace VG := Lib.hid (VG.out.below b5 (by omega))
  clear b5
  go_wp2_with fail
  refine (toIntS_iv A n cap es _ Hn.out hm' (HA.out.below B.out)).mono ?_
  rintro e w6 ⟨rfl, v6, b6⟩
  have z6 : w5.heap.size ≤ w6.heap.size := b6.size
  replace B := Lib.hid (bel_trans B.out b6)
  replace VW := Lib.hid (VW.out.below b6 (by omega))
  replace EX := Lib.hid (EX.out.below b6 (by omega))
  replace VG := Lib.hid (VG.out.below b6 (by omega))
  clear b6
  have E0 := Lib.hid v6
  clear v6
  go_wp2_with fail
  refine (eqInts_same _ _ n _ _ es _ Hn.out hm' EX.out.ints E0.out.ints).mono ?_
  rintro e w7 ⟨rfl, b7⟩
  have z7 : w6.heap.size ≤ w7.heap.size := b7.size
  replace B := Lib.hid (bel_trans B.out b7)
  replace VW := Lib.hid (VW.out.below b7 (by omega))
  replace EX := Lib.hid (EX.out.below b7 (by omega))
  replace VG := Lib.hid (VG.out.below b7 (by omega))
  replace E0 := Lib.hid (E0.out.below b7 (by omega))
  clear b7
  clear E0
  go_wp2_with fail
  refine (markInts_any _ n _ _ _ 1 es _ Hn.out hm' (by omega) (by omega) EX.out).mono ?_
  rintro e w8 ⟨rfl, -, t8⟩
  have z8 : w7.heap.size ≤ w8.heap.size := t8.size
  clear EX
  replace B := Lib.hid (B.out.trans (t8.below (by omega) (by omega)))
  replace VW := Lib.hid (VW.out.turns t8 (by omega) (by omega))
  replace VG := Lib.hid (VG.out.turns t8 (by omega) (by omega))
  clear t8
  have hk : ¬ 1 + (n : Int) < 0 := by omega
  go_wp2_with fail
  refine (eqInts_same Ag Aw _ cg cw zs _ rfl hfew VG.out.ints VW.out.ints).mono ?_
  rintro e w9 ⟨rfl, b9⟩
  have z9 : w8.heap.size ≤ w9.heap.size := b9.size
  replace B := Lib.hid (bel_trans B.out b9)
  replace VW := Lib.hid (VW.out.below b9 (by omega))
  replace VG := Lib.hid (VG.out.below b9 (by omega))
  clear b9
  go_wp2_with fail
  refine (markO_any Ag _ cg _ _ 1 zs _ rfl hfew (by omega) (by omega) VG.out).mono ?_
  rintro e w10 ⟨rfl, v10, t10⟩
  have z10 : w9.heap.size ≤ w10.heap.size := t10.size
  clear VG
  replace B := Lib.hid (B.out.trans (t10.below (by omega) (by omega)))
  replace VW := Lib.hid (VW.out.turns t10 (by omega) (by omega))
  clear t10
  have VM := Lib.hid v10
  clear v10
  go_wp2_with fail
  refine (heldO_any Ag _ cg _ _ 1 _ hfew (by omega) (by omega) VM.out).mono ?_
  rintro e w' ⟨rfl, rfl⟩
  have hk2 : ¬ 1 + (zs.length : Int) < 0 := by omega
  go_wp2_with fail
  refine (toIntS_iv A n cap es _ Hn.out hm' (HA.out.below B.out)).mono ?_
  rintro e w11 ⟨rfl, v11, b11⟩
  have z11 : w10.heap.size ≤ w11.heap.size := b11.size
  replace B := Lib.hid (bel_trans B.out b11)
  replace VW := Lib.hid (VW.out.below b11 (by omega))
  replace VM := Lib.hid (VM.out.below b11 (by omega))
  clear b11
  have E0 := Lib.hid v11
  clear v11
  go_wp2_with fail
  refine (HIM.out _ _ _ (HM.out.below B.out) E0.out.ints).mono ?_
  rintro e w12 ⟨Ah, ch, rfl, v12, b12⟩
  have z12 : w11.heap.size ≤ w12.heap.size := b12.size
  clear E0
  replace B := Lib.hid (bel_trans B.out b12)
  replace VW := Lib.hid (VW.out.below b12 (by omega))
  replace VM := Lib.hid (VM.out.below b12 (by omega))
  clear b12
  have VH := Lib.hid v12
  clear v12
  go_wp2_with fail
  refine (eqInts_same Ah Aw _ ch cw zs _ rfl hfew VH.out.ints VW.out.ints).mono ?_
  rintro e w13 ⟨rfl, b13⟩
  have z13 : w12.heap.size ≤ w13.heap.size := b13.size
  replace B := Lib.hid (bel_trans B.out b13)
  replace VW := Lib.hid (VW.out.below b13 (by omega))
  replace VM := Lib.hid (VM.out.below b13 (by omega))
  replace VH := Lib.hid (VH.out.below b13 (by omega))
  clear b13
  go_wp2_with fail
  refine (heldO_any Ag _ cg _ _ 1 _ hfew (by omega) (by omega) VM.out).mono ?_
  rintro e w' ⟨rfl, rfl⟩
  go_wp2
  go_ret
  exact ⟨rfl, B.out⟩

set_option maxRecDepth 100000 in
set_option maxHeartbeats 4000000 in
theorem lawWatched (A : Option Addr) (n cap : Nat) (es : List Int) (s : Int) (w : World) (hn : es.length = n) (hm : n ≤ maxLen) (h : Ints w A es) (hmv : Mvs w) :
    Calls Tryd.prog 9 #[.slice A n cap, .int .i64 s] w fun e w' => e = .returned (.bool true) ∧ Below w.heap.size w w' := by
  unfold maxLen at hm
  have Hn := Lib.hid hn
  have HA := Lib.hid h
  have HM := Lib.hid hmv
  clear h hn hmv
  go_enter Tryd.func9, Tryd.ntmps9
  by_cases hl : (1048576 : Int) < n
  · go_wp2
    go_ret
    exact ⟨rfl, Below.refl _ _⟩
  have hm' : n ≤ 1048576 := by omega
  have B : Hid (Below w.heap.size w w) := Lib.hid (Below.refl _ _)
  have HSP := Lib.hid (fun A' c' W hI => specWatched_any A' n c' es s W Hn.out hI)
  have HIM := Lib.hid (fun A' c' W hM hI => implWatched_any A' n c' es s W hM Hn.out hI)
  unfold NewI at HSP HIM
  have hfew : (watR es s).length ≤ 1048576 := by have := watR_few es s; omega
  generalize watR es s = zs at HSP HIM hfew
  go_wp2_with fail
  refine (toIntS_iv A n cap es _ Hn.out hm' (HA.out.below B.out)).mono ?_
  rintro e w1 ⟨rfl, v1, b1⟩
  have z1 : w.heap.size ≤ w1.heap.size := b1.size
  replace B := Lib.hid (bel_trans B.out b1)
  clear b1
  have E0 := Lib.hid v1
  clear v1
  go_wp2_with fail
  refine (HSP.out _ _ _ E0.out.ints).mono ?_
  rintro e w2 ⟨Aw, cw, rfl, v2, b2⟩
  have z2 : w1.heap.size ≤ w2.heap.size := b2.size
  clear E0
  replace B := Lib.hid (bel_trans B.out b2)
  clear b2
  have VW := Lib.hid v2
  clear v2
  go_wp2_with fail
  refine (toIntS_iv A n cap es _ Hn.out hm' (HA.out.below B.out)).mono ?_
  rintro e w3 ⟨rfl, v3, b3⟩
  have z3 : w2.heap.size ≤ w3.heap.size := b3.size
  replace B := Lib.hid (bel_trans B.out b3)
  replace VW := Lib.hid (VW.out.below b3 (by omega))
  clear b3
  have EX := Lib.hid v3
  clear v3
  go_wp2_with fail
  refine (HIM.out _ _ _ (HM.out.below B.out) EX.out.ints).mono ?_
  rintro e w4 ⟨Ag, cg, rfl, v4, b4⟩
  have z4 : w3.heap.size ≤ w4.heap.size := b4.size
  replace B := Lib.hid (bel_trans B.out b4)
  replace VW := Lib.hid (VW.out.below b4 (by omega))
  replace EX := Lib.hid (EX.out.below b4 (by omega))
  clear b4
  have VG := Lib.hid v4
  clear v4
  go_wp2_with fail
  refine (eqInts_same Ag Aw _ cg cw zs _ rfl hfew VG.out.ints VW.out.ints).mono ?_
  rintro e w5 ⟨rfl, b5⟩
  have z5 : w4.heap.size ≤ w5.heap.size := b5.size
  replace B := Lib.hid (bel_trans B.out b5)
  replace VW := Lib.hid (VW.out.below b5 (by omega))
  replace EX := Lib.hid (EX.out.below b5 (by omega))
  replace VG := Lib.hid (VG.out.below b5 (by omega))
  clear b5
  go_wp2_with fail
  refine (toIntS_iv A n cap es _ Hn.out hm' (HA.out.below B.out)).mono ?_
  rintro e w6 ⟨rfl, v6, b6⟩
  have z6 : w5.heap.size ≤ w6.heap.size := b6.size
  replace B := Lib.hid (bel_trans B.out b6)
  replace VW := Lib.hid (VW.out.below b6 (by omega))
  replace EX := Lib.hid (EX.out.below b6 (by omega))
  replace VG := Lib.hid (VG.out.below b6 (by omega))
  clear b6
  have E0 := Lib.hid v6
  clear v6
  go_wp2_with fail
  refine (eqInts_same _ _ n _ _ es _ Hn.out hm' EX.out.ints E0.out.ints).mono ?_
  rintro e w7 ⟨rfl, b7⟩
  have z7 : w6.heap.size ≤ w7.heap.size := b7.size
  replace B := Lib.hid (bel_trans B.out b7)
  replace VW := Lib.hid (VW.out.below b7 (by omega))
  replace EX := Lib.hid (EX.out.below b7 (by omega))
  replace VG := Lib.hid (VG.out.below b7 (by omega))
  replace E0 := Lib.hid (E0.out.below b7 (by omega))
  clear b7
  clear E0
  go_wp2_with fail
  refine (markInts_any _ n _ _ _ 1 es _ Hn.out hm' (by omega) (by omega) EX.out).mono ?_
  rintro e w8 ⟨rfl, -, t8⟩
  have z8 : w7.heap.size ≤ w8.heap.size := t8.size
  clear EX
  replace B := Lib.hid (B.out.trans (t8.below (by omega) (by omega)))
  replace VW := Lib.hid (VW.out.turns t8 (by omega) (by omega))
  replace VG := Lib.hid (VG.out.turns t8 (by omega) (by omega))
  clear t8
  have hk : ¬ 1 + (n : Int) < 0 := by omega
  go_wp2_with fail
  refine (eqInts_same Ag Aw _ cg cw zs _ rfl hfew VG.out.ints VW.out.ints).mono ?_
  rintro e w9 ⟨rfl, b9⟩
  have z9 : w8.heap.size ≤ w9.heap.size := b9.size
  replace B := Lib.hid (bel_trans B.out b9)
  replace VW := Lib.hid (VW.out.below b9 (by omega))
  replace VG := Lib.hid (VG.out.below b9 (by omega))
  clear b9
  go_wp2_with fail
  refine (markInts_any Ag _ cg _ _ 1 zs _ rfl hfew (by omega) (by omega) VG.out).mono ?_
  rintro e w10 ⟨rfl, v10, t10⟩
  have z10 : w9.heap.size ≤ w10.heap.size := t10.size
  clear VG
  replace B := Lib.hid (B.out.trans (t10.below (by omega) (by omega)))
  replace VW := Lib.hid (VW.out.turns t10 (by omega) (by omega))
  clear t10
  have VM := Lib.hid v10
  clear v10
  go_wp2_with fail
  refine (heldInts_any Ag _ cg _ _ 1 _ hfew (by omega) (by omega) VM.out).mono ?_
  rintro e w' ⟨rfl, rfl⟩
  have hk2 : ¬ 1 + (zs.length : Int) < 0 := by omega
  go_wp2_with fail
  refine (toIntS_iv A n cap es _ Hn.out hm' (HA.out.below B.out)).mono ?_
  rintro e w11 ⟨rfl, v11, b11⟩
  have z11 : w10.heap.size ≤ w11.heap.size := b11.size
  replace B := Lib.hid (bel_trans B.out b11)
  replace VW := Lib.hid (VW.out.below b11 (by omega))
  replace VM := Lib.hid (VM.out.below b11 (by omega))
  clear b11
  have E0 := Lib.hid v11
  clear v11
  go_wp2_with fail
  refine (HIM.out _ _ _ (HM.out.below B.out) E0.out.ints).mono ?_
  rintro e w12 ⟨Ah, ch, rfl, v12, b12⟩
  have z12 : w11.heap.size ≤ w12.heap.size := b12.size
  clear E0
  replace B := Lib.hid (bel_trans B.out b12)
  replace VW := Lib.hid (VW.out.below b12 (by omega))
  replace VM := Lib.hid (VM.out.below b12 (by omega))
  clear b12
  have VH := Lib.hid v12
  clear v12
  go_wp2_with fail
  refine (eqInts_same Ah Aw _ ch cw zs _ rfl hfew VH.out.ints VW.out.ints).mono ?_
  rintro e w13 ⟨rfl, b13⟩
  have z13 : w12.heap.size ≤ w13.heap.size := b13.size
  replace B := Lib.hid (bel_trans B.out b13)
  replace VW := Lib.hid (VW.out.below b13 (by omega))
  replace VM := Lib.hid (VM.out.below b13 (by omega))
  replace VH := Lib.hid (VH.out.below b13 (by omega))
  clear b13
  go_wp2_with fail
  refine (heldInts_any Ag _ cg _ _ 1 _ hfew (by omega) (by omega) VM.out).mono ?_
  rintro e w' ⟨rfl, rfl⟩
  go_wp2
  go_ret
  exact ⟨rfl, B.out⟩

end Go.Proofs.YtoknjofdpnjioaaDoor.Cn
