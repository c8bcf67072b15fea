/- The law of NewLine on lines walked. -/
import Derived.Test.YtpjelojmkmednaaLll
import Derived.Test.YtpjelojmkmednaaLlx
namespace Go.Proofs.Ytpjelojmkmednaa.Ln
open Go.RowKit Go.Deep Base

set_option maxRecDepth 100000 in
set_option maxHeartbeats 40000000 in
theorem lawNewLine (w : World) : Calls Try.prog 5 #[] w fun e w' => e = .returned (.bool true) ∧ Below w.heap.size w w' := by
  obtain ⟨y, hy⟩ : ∃ y, nlX = y := ⟨_, rfl⟩
  have yn : y.s.ss.length ≤ 1048576 := by rw [← hy]; show Que.newS.length ≤ 1048576; rw [Que.newS_len]; omega
  have ym : y.ds.length ≤ 1048576 := by rw [← hy]; exact Nat.zero_le _
  have HSp : Hid (∀ W, Calls Try.prog 27 #[] W (NewL W y)) := fun W => by rw [← hy]; exact specNewLine_any W
  have HIm : Hid (∀ W, Calls Try.prog 13 #[] W (NewL W y)) := fun W => by rw [← hy]; exact implNewLine_any W
  clear hy
  have B1 : Hid (Below w.heap.size w w) := Below.refl _ _
  go_enter Try.func5, Try.ntmps5
  go_wp2_with fail
  refine (HSp.out w).mono ?_
  rintro e w3 ⟨R3, A3, c3, E3, d3, rfl, v3, r3, b3⟩
  have s3 := b3.size
  replace B1 := Lib.hid (bel_trans B1.out b3)
  clear b3
  have VW := Lib.hid v3
  clear v3
  obtain ⟨w3a, hw3a⟩ : ∃ w3a, w3.alloc (.cells #[.slice A3 y.s.ss.length c3, .int .i64 y.s.f, .int .i64 y.s.l, .int .i64 y.s.r, .int .i64 y.s.c, .slice E3 y.ds.length d3, .int .i64 y.q] 31) = w3a := ⟨_, rfl⟩
  have ba : Below w3.heap.size w3 w3a := by rw [← hw3a]; exact bel_alloc _ _
  have KW : Hid (Bx w3a w3.heap.size 31 #[.slice A3 y.s.ss.length c3, .int .i64 y.s.f, .int .i64 y.s.l, .int .i64 y.s.r, .int .i64 y.s.c, .slice E3 y.ds.length d3, .int .i64 y.q]) := by rw [← hw3a]; exact Bx.new _ _ _
  have sw3a : w3.heap.size < w3a.heap.size := KW.out.lt
  replace VW := Lib.hid (VW.out.below ba (r3.wide (Nat.zero_le _) (by omega)))
  replace B1 := Lib.hid (bel_trans B1.out ba)
  clear ba
  go_wp2_with fail
  refine (HIm.out w3a).mono ?_
  rintro e w5 ⟨R5, A5, c5, E5, d5, rfl, v5, r5, b5⟩
  have s5 := b5.size
  clear hw3a
  replace KW := Lib.hid (KW.out.below b5)
  replace VW := Lib.hid (VW.out.below b5 (r3.wide (Nat.zero_le _) (by omega)))
  replace B1 := Lib.hid (bel_trans B1.out b5)
  clear b5
  have VG := Lib.hid v5
  clear v5
  obtain ⟨w5a, hw5a⟩ : ∃ w5a, w5.alloc (.cells #[.slice A5 y.s.ss.length c5, .int .i64 y.s.f, .int .i64 y.s.l, .int .i64 y.s.r, .int .i64 y.s.c, .slice E5 y.ds.length d5, .int .i64 y.q] 31) = w5a := ⟨_, rfl⟩
  have ba : Below w5.heap.size w5 w5a := by rw [← hw5a]; exact bel_alloc _ _
  have KG : Hid (Bx w5a w5.heap.size 31 #[.slice A5 y.s.ss.length c5, .int .i64 y.s.f, .int .i64 y.s.l, .int .i64 y.s.r, .int .i64 y.s.c, .slice E5 y.ds.length d5, .int .i64 y.q]) := by rw [← hw5a]; exact Bx.new _ _ _
  have sw5a : w5.heap.size < w5a.heap.size := KG.out.lt
  replace KW := Lib.hid (KW.out.below ba)
  replace VW := Lib.hid (VW.out.below ba (r3.wide (Nat.zero_le _) (by omega)))
  replace VG := Lib.hid (VG.out.below ba (r5.wide (Nat.zero_le _) (by omega)))
  replace B1 := Lib.hid (bel_trans B1.out ba)
  clear ba
  obtain ⟨kg0, kg1, kg2, kg3, kg4, kg5, kg6, kgf⟩ := KG.out.cells7
  obtain ⟨kw0, kw1, kw2, kw3, kw4, kw5, kw6, kwf⟩ := KW.out.cells7
  go_wp2_with fail
  refine (eqLine_same A5 c5 y E5 d5 A3 c3 E3 d3 R5 R3 w5a yn ym VG.out VW.out (r5.wide (Nat.zero_le _) (by omega)) (r3.wide (Nat.zero_le _) (by omega))).mono ?_
  rintro e w6 ⟨rfl, b6⟩
  have s6 := b6.size
  clear kg0 kg1 kg2 kg3 kg4 kg5 kg6 kgf kw0 kw1 kw2 kw3 kw4 kw5 kw6 kwf
  clear hw5a
  replace KW := Lib.hid (KW.out.below b6)
  replace KG := Lib.hid (KG.out.below b6)
  replace VW := Lib.hid (VW.out.below b6 (r3.wide (Nat.zero_le _) (by omega)))
  replace VG := Lib.hid (VG.out.below b6 (r5.wide (Nat.zero_le _) (by omega)))
  replace B1 := Lib.hid (bel_trans B1.out b6)
  clear b6
  obtain ⟨kg0, kg1, kg2, kg3, kg4, kg5, kg6, kgf⟩ := KG.out.cells7
  go_wp2_with fail
  refine (markLine_any A5 c5 y E5 d5 R5 1 w6 yn ym (by omega) (by omega) VG.out (r5.wide (Nat.zero_le _) (by omega))).mono ?_
  rintro e w11 ⟨rfl, vm11, t11⟩
  have s11 := t11.size
  clear kg0 kg1 kg2 kg3 kg4 kg5 kg6 kgf
  replace KW := Lib.hid (KW.out.turn t11 r5 (by omega))
  replace KG := Lib.hid (KG.out.turn t11 r5 (by omega))
  replace VW := Lib.hid (VW.out.turn t11 r3 (r5.wide (Nat.le_refl _) (by omega)) (by omega) (by omega))
  replace B1 := Lib.hid (B1.out.trans (t11.below (r5.wide (by omega) (Nat.le_refl _)) (by omega)))
  clear t11 VG
  have VG := Lib.hid vm11
  clear vm11
  have hq : ¬ 1 + 4 * (y.s.ss.length : Int) + 3 * (y.ds.length : Int) < 0 := by omega
  obtain ⟨kg0, kg1, kg2, kg3, kg4, kg5, kg6, kgf⟩ := KG.out.cells7
  go_wp2_with fail
  refine (heldLine_any A5 c5 y E5 d5 R5 1 w11 yn ym (by omega) (by omega) VG.out (r5.wide (Nat.zero_le _) (by omega))).mono ?_
  rintro e w12 ⟨rfl, b12⟩
  have s12 := b12.size
  clear kg0 kg1 kg2 kg3 kg4 kg5 kg6 kgf
  replace KW := Lib.hid (KW.out.below b12)
  replace KG := Lib.hid (KG.out.below b12)
  replace VW := Lib.hid (VW.out.below b12 (r3.wide (Nat.zero_le _) (by omega)))
  replace VG := Lib.hid (VG.out.below b12 (r5.wide (Nat.zero_le _) (by omega)))
  replace B1 := Lib.hid (bel_trans B1.out b12)
  clear b12
  go_wp2_with fail
  refine (HIm.out w12).mono ?_
  rintro e w14 ⟨R14, A14, c14, E14, d14, rfl, v14, r14, b14⟩
  have s14 := b14.size
  replace KW := Lib.hid (KW.out.below b14)
  replace KG := Lib.hid (KG.out.below b14)
  replace VW := Lib.hid (VW.out.below b14 (r3.wide (Nat.zero_le _) (by omega)))
  replace VG := Lib.hid (VG.out.below b14 (r5.wide (Nat.zero_le _) (by omega)))
  replace B1 := Lib.hid (bel_trans B1.out b14)
  clear b14
  have V14 := Lib.hid v14
  clear v14
  obtain ⟨w14a, hw14a⟩ : ∃ w14a, w14.alloc (.cells #[.slice A14 y.s.ss.length c14, .int .i64 y.s.f, .int .i64 y.s.l, .int .i64 y.s.r, .int .i64 y.s.c, .slice E14 y.ds.length d14, .int .i64 y.q] 31) = w14a := ⟨_, rfl⟩
  have ba : Below w14.heap.size w14 w14a := by rw [← hw14a]; exact bel_alloc _ _
  have KH : Hid (Bx w14a w14.heap.size 31 #[.slice A14 y.s.ss.length c14, .int .i64 y.s.f, .int .i64 y.s.l, .int .i64 y.s.r, .int .i64 y.s.c, .slice E14 y.ds.length d14, .int .i64 y.q]) := by rw [← hw14a]; exact Bx.new _ _ _
  have sw14a : w14.heap.size < w14a.heap.size := KH.out.lt
  replace KW := Lib.hid (KW.out.below ba)
  replace KG := Lib.hid (KG.out.below ba)
  replace VW := Lib.hid (VW.out.below ba (r3.wide (Nat.zero_le _) (by omega)))
  replace VG := Lib.hid (VG.out.below ba (r5.wide (Nat.zero_le _) (by omega)))
  replace V14 := Lib.hid (V14.out.below ba (r14.wide (Nat.zero_le _) (by omega)))
  replace B1 := Lib.hid (bel_trans B1.out ba)
  clear ba
  obtain ⟨kh0, kh1, kh2, kh3, kh4, kh5, kh6, khf⟩ := KH.out.cells7
  obtain ⟨kw0, kw1, kw2, kw3, kw4, kw5, kw6, kwf⟩ := KW.out.cells7
  go_wp2_with fail
  refine (eqLine_same A14 c14 y E14 d14 A3 c3 E3 d3 R14 R3 w14a yn ym V14.out VW.out (r14.wide (Nat.zero_le _) (by omega)) (r3.wide (Nat.zero_le _) (by omega))).mono ?_
  rintro e w15 ⟨rfl, b15⟩
  have s15 := b15.size
  clear kh0 kh1 kh2 kh3 kh4 kh5 kh6 khf kw0 kw1 kw2 kw3 kw4 kw5 kw6 kwf
  clear hw14a KH
  replace KW := Lib.hid (KW.out.below b15)
  replace KG := Lib.hid (KG.out.below b15)
  replace VW := Lib.hid (VW.out.below b15 (r3.wide (Nat.zero_le _) (by omega)))
  replace VG := Lib.hid (VG.out.below b15 (r5.wide (Nat.zero_le _) (by omega)))
  replace V14 := Lib.hid (V14.out.below b15 (r14.wide (Nat.zero_le _) (by omega)))
  replace B1 := Lib.hid (bel_trans B1.out b15)
  clear b15
  obtain ⟨kg0, kg1, kg2, kg3, kg4, kg5, kg6, kgf⟩ := KG.out.cells7
  go_wp2_with fail
  refine (heldLine_any A5 c5 y E5 d5 R5 1 w15 yn ym (by omega) (by omega) VG.out (r5.wide (Nat.zero_le _) (by omega))).mono ?_
  rintro e w16 ⟨rfl, b16⟩
  replace B1 := Lib.hid (bel_trans B1.out b16)
  clear b16
  go_wp2
  go_ret
  exact ⟨rfl, B1.out⟩
end Go.Proofs.Ytpjelojmkmednaa.Ln
