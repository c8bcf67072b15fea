/- The law of PutLog walked. -/
import Derived.Test.YtcgmeindiaaokaaByT
namespace Go.Proofs.Ytcgmeindiaaokaa.By
open Go.RowKit Go.Deep Base Rw


set_option maxRecDepth 100000 in
set_option maxHeartbeats 4000000 in
theorem lawPutLog (a0 : Option Addr) (len0 cap0 : Nat) (es : List Ev) (w : World) (hn : es.length = len0) (hm : len0 ≤ 9223372036854775807) (he : EI w a0 es) :
    Calls Try.prog 5 #[.slice a0 len0 cap0] w fun e w' => e = .returned (.bool true) ∧ Below w.heap.size w w' := by
  by_cases hbig : (1048576 : Int) < len0
  · have Hm := Lib.hid hm
    go_enter Try.func5, Try.ntmps5
    go_wp2_with fail
    refine (szE_any a0 len0 cap0 1048576 w Hm.out (by omega) (by omega)).mono ?_
    rw [if_pos hbig]
    rintro e w1 ⟨rfl, rfl⟩
    go_wp2
    go_ret
    exact ⟨rfl, Below.refl _ _⟩
  · have hm' : len0 ≤ 1048576 := by omega
    have hl : ¬ ((1048576 : Int) - len0 < 0) := by omega
    have HS : Hid (∀ A c W, EI W A es → Calls Try.prog 16 #[.slice A len0 c] W (EndL W es)) := fun A c W h => specPutLog_any A len0 c es W hn hm' h
    have HI : Hid (∀ A c W, EI W A es → Calls Try.prog 18 #[.slice A len0 c] W (EndL W es)) := fun A c W h => implPutLog_any A len0 c es W hn hm' h
    have HT : Hid (∀ W, EI W a0 es → Calls Try.prog 17 #[.slice a0 len0 cap0] W (CopyE W len0 es)) := fun W h => toEs_any a0 len0 cap0 es W hn hm' h
    have HQ : Hid (∀ A1 A2 c1 c2 W, EI W A1 es → EI W A2 es → Calls Try.prog 19 #[.slice A1 len0 c1, .slice A2 len0 c2] W fun e w' => e = .returned (.bool true) ∧ Below W.heap.size W w') := fun A1 A2 c1 c2 W h1 h2 => eqEs_same A1 A2 len0 c1 c2 es W hn hm' h1 h2
    have HM : Hid (∀ A c lo hi W, EV W lo hi A es → Calls Try.prog 20 #[.slice A len0 c, .int .i64 1] W fun e w' => e = .returned (.int .i64 (1 + 3 * len0)) ∧ EV w' lo hi A (mkE 1 len0) ∧ Turns lo hi W w') := fun A c lo hi W h => markEs_any A len0 c lo hi 1 es W hn hm' (by omega) (by omega) h
    have HL : Hid (((putL es).getD []).length ≤ 1048576) := by
      show _ ≤ _
      cases e : putL es with
      | none => simp
      | some b => have := (putL_some e).2.2.1; simp; omega
    have E0 := Lib.hid he
    clear he hn hm
    unfold EndL at HS HI
    generalize (putL es).getD [] = zs at HS HI HL
    generalize (putL es).isSome = ok at HS HI
    cases ok
    all_goals
      go_enter Try.func5, Try.ntmps5
      go_wp2_with fail
      refine (szE_any a0 len0 cap0 1048576 w (by omega) (by omega) (by omega)).mono ?_
      rw [if_neg (by omega)]
      rintro e _ ⟨rfl, rfl⟩
      go_wp2_with fail
      refine (HT.out _ E0.out).mono ?_
      rintro e w1 ⟨rfl, v, b⟩
      have z1 := b.size
      have B := Lib.hid b
      have X1 := Lib.hid v
      clear b
      clear v
      go_wp2_with fail
      refine (HS.out _ _ _ X1.out.ei).mono ?_
      rintro e w2 ⟨A1, c1, rfl, v, b⟩
      clear X1
      have z2 := b.size
      replace B := Lib.hid (bel_trans B.out b)
      have V1 := Lib.hid v
      clear b
      clear v
      go_wp2_with fail
      refine (HT.out _ (E0.out.below B.out)).mono ?_
      rintro e w3 ⟨rfl, v, b⟩
      have z3 := b.size
      replace V1 := Lib.hid (V1.out.below b (by omega))
      replace B := Lib.hid (bel_trans B.out b)
      have X0 := Lib.hid v
      clear b
      clear v
      go_wp2_with fail
      refine (HI.out _ _ _ X0.out.ei).mono ?_
      rintro e w4 ⟨A2, c2, rfl, v, b⟩
      have z4 := b.size
      replace V1 := Lib.hid (V1.out.below b (by omega))
      replace X0 := Lib.hid (X0.out.below b (by omega))
      replace B := Lib.hid (bel_trans B.out b)
      have V2 := Lib.hid v
      clear b
      clear v
      go_wp2_with fail
      refine (eqY_same A2 A1 _ _ _ zs _ rfl HL.out V2.out.bi V1.out.bi).mono ?_
      rintro e w5 ⟨rfl, b⟩
      have z5 := b.size
      replace V1 := Lib.hid (V1.out.below b (by omega))
      replace X0 := Lib.hid (X0.out.below b (by omega))
      replace V2 := Lib.hid (V2.out.below b (by omega))
      replace B := Lib.hid (bel_trans B.out b)
      clear b
      go_wp2_with fail
      refine (HT.out _ (E0.out.below B.out)).mono ?_
      rintro e w6 ⟨rfl, v, b⟩
      have z6 := b.size
      replace V1 := Lib.hid (V1.out.below b (by omega))
      replace X0 := Lib.hid (X0.out.below b (by omega))
      replace V2 := Lib.hid (V2.out.below b (by omega))
      replace B := Lib.hid (bel_trans B.out b)
      have X1 := Lib.hid v
      clear b
      clear v
      go_wp2_with fail
      refine (HQ.out _ _ _ _ _ X0.out.ei X1.out.ei).mono ?_
      rintro e w7 ⟨rfl, b⟩
      clear X1
      have z7 := b.size
      replace V1 := Lib.hid (V1.out.below b (by omega))
      replace X0 := Lib.hid (X0.out.below b (by omega))
      replace V2 := Lib.hid (V2.out.below b (by omega))
      replace B := Lib.hid (bel_trans B.out b)
      clear b
      go_wp2_with fail
      refine (HM.out _ _ _ _ _ X0.out).mono ?_
      rintro e w8 ⟨rfl, v, t⟩
      clear X0 v
      have z8 := t.size
      replace V1 := Lib.hid (V1.out.turns t (by omega) (by omega))
      replace V2 := Lib.hid (V2.out.turns t (by omega) (by omega))
      replace B := Lib.hid (B.out.trans (t.below (by omega) (by omega)))
      clear t
      have hp : ¬ (1 + 3 * (len0 : Int) < 0) := by omega
      go_wp2_with fail
      refine (eqY_same A2 A1 _ _ _ zs _ rfl HL.out V2.out.bi V1.out.bi).mono ?_
      rintro e w9 ⟨rfl, b⟩
      have z9 := b.size
      replace V1 := Lib.hid (V1.out.below b (by omega))
      replace V2 := Lib.hid (V2.out.below b (by omega))
      replace B := Lib.hid (bel_trans B.out b)
      clear b
      go_wp2_with fail
      refine (markY_any A2 _ _ w3.heap.size w4.heap.size 1 zs _ rfl HL.out (by omega) (by omega) V2.out).mono ?_
      rintro e w10 ⟨rfl, v, t⟩
      have z10 := t.size
      replace V1 := Lib.hid (V1.out.turns t (by omega) (by omega))
      replace B := Lib.hid (B.out.trans (t.below (by omega) (by omega)))
      clear t
      replace V2 := Lib.hid v
      clear v
      go_wp2_with fail
      refine (heldY_any A2 _ _ w3.heap.size w4.heap.size 1 _ HL.out (by omega) (by omega) V2.out).mono ?_
      rintro e w11 ⟨rfl, b⟩
      have z11 := b.size
      replace V1 := Lib.hid (V1.out.below b (by omega))
      replace V2 := Lib.hid (V2.out.below b (by omega))
      replace B := Lib.hid (bel_trans B.out b)
      clear b
      have hq : ¬ (1 + (zs.length : Int) < 0) := by omega
      go_wp2_with fail
      refine (HT.out _ (E0.out.below B.out)).mono ?_
      rintro e w12 ⟨rfl, v, b⟩
      have z12 := b.size
      replace V1 := Lib.hid (V1.out.below b (by omega))
      replace V2 := Lib.hid (V2.out.below b (by omega))
      replace B := Lib.hid (bel_trans B.out b)
      have X1 := Lib.hid v
      clear b
      clear v
      go_wp2_with fail
      refine (HI.out _ _ _ X1.out.ei).mono ?_
      rintro e w13 ⟨A3, c3, rfl, v, b⟩
      clear X1
      have z13 := b.size
      replace V1 := Lib.hid (V1.out.below b (by omega))
      replace V2 := Lib.hid (V2.out.below b (by omega))
      replace B := Lib.hid (bel_trans B.out b)
      have V3 := Lib.hid v
      clear b
      clear v
      go_wp2_with fail
      refine (eqY_same A3 A1 _ _ _ zs _ rfl HL.out V3.out.bi V1.out.bi).mono ?_
      rintro e w14 ⟨rfl, b⟩
      have z14 := b.size
      replace V1 := Lib.hid (V1.out.below b (by omega))
      replace V2 := Lib.hid (V2.out.below b (by omega))
      replace V3 := Lib.hid (V3.out.below b (by omega))
      replace B := Lib.hid (bel_trans B.out b)
      clear b
      go_wp2_with fail
      refine (heldY_any A2 _ _ w3.heap.size w4.heap.size 1 _ HL.out (by omega) (by omega) V2.out).mono ?_
      rintro e w15 ⟨rfl, b⟩
      have z15 := b.size
      replace V1 := Lib.hid (V1.out.below b (by omega))
      replace V2 := Lib.hid (V2.out.below b (by omega))
      replace V3 := Lib.hid (V3.out.below b (by omega))
      replace B := Lib.hid (bel_trans B.out b)
      clear b
      go_wp2
      go_ret
      exact ⟨rfl, B.out⟩
end Go.Proofs.Ytcgmeindiaaokaa.By
