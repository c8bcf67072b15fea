/- The law of TakeLog walked. -/
import Derived.Test.YtcgmeindiaaokaaDoorBdP
namespace Go.Proofs.YtcgmeindiaaokaaDoor.By
open Go.RowKit Go.Deep Base Rw


set_option maxRecDepth 100000 in
set_option maxHeartbeats 4000000 in
theorem lawTakeLog (a0 : Option Addr) (len0 cap0 : Nat) (zs : List Int) (w : World) (hn : zs.length = len0) (hm : len0 ≤ 9223372036854775807) (hb : isB zs) (h : BI w a0 zs) (hs : ∃ pA pN pF, Snt pA pN pF w) :
    Calls Tryd.prog 6 #[.slice a0 len0 cap0] w fun e w' => e = .returned (.bool true) ∧ Below w.heap.size w w' := by
  obtain ⟨pA, pN, pF, hs⟩ := hs
  by_cases hbig : (1048576 : Int) < len0
  · clear h hs
    go_enter Tryd.func6, Tryd.ntmps6
    go_wp2
    go_ret
    exact ⟨rfl, Below.refl _ _⟩
  · have hm' : len0 ≤ 1048576 := by omega
    have HT : Hid (∀ W, BI W a0 zs → Calls Tryd.prog 20 #[.slice a0 len0 cap0] W (CopyY W len0 zs)) := fun W h => toY_any a0 len0 cap0 zs W hn hm' h
    have HS : Hid (∀ A W, BI W A zs → Calls Tryd.prog 26 #[.slice A len0 len0] W (EndT W zs)) := fun A W h => specTakeLog_any A len0 len0 zs W hn hm' hb h
    have HI : Hid (∀ A W, BI W A zs → Snt pA pN pF W → Calls Tryd.prog 15 #[.slice A len0 len0] W (EndT W zs)) := fun A W h hs => implTakeLog_any A len0 len0 zs pA pN pF W hn hm' (Nat.le_refl _) hm hb h hs
    have HQ : Hid (∀ A1 A2 W, BI W A1 zs → BI W A2 zs → Calls Tryd.prog 22 #[.slice A1 len0 len0, .slice A2 len0 len0] W fun e w' => e = .returned (.bool true) ∧ Below W.heap.size W w') := fun A1 A2 W h1 h2 => eqY_same A1 A2 len0 len0 len0 zs W hn hm' h1 h2
    have HM : Hid (∀ A lo hi W, BV W lo hi A zs → Calls Tryd.prog 28 #[.slice A len0 len0, .int .i64 1] W fun e w' => e = .returned (.int .i64 (1 + len0)) ∧ BV w' lo hi A (mkY 1 len0) ∧ Turns lo hi W w') := fun A lo hi W h => markY_any A len0 len0 lo hi 1 zs W hn hm' (by omega) (by omega) h
    have HL : Hid (((takeLog zs).getD []).length ≤ 1048576) := by
      show _ ≤ _
      have h0 : (most zs).1.length ≤ 2000 := by
        unfold most
        split
        · simp
        · exact (mostF_ge 2000 zs 0 (by omega) (by omega)).2.2
      unfold takeLog
      split
      · simp; omega
      · simp
    have E0 := Lib.hid h
    have S0 := Lib.hid hs
    clear h hs hn hb hm
    unfold EndT at HS HI
    generalize (takeLog zs).getD [] = es at HS HI HL
    generalize (takeLog zs).isSome = ok at HS HI
    cases ok
    all_goals
      go_enter Tryd.func6, Tryd.ntmps6
      go_wp2_with fail
      refine (HT.out _ E0.out).mono ?_
      rintro e w1 ⟨rfl, v, b⟩
      have z1 := b.size
      have B := Lib.hid b
      have X1 := Lib.hid v
      clear b
      clear v
      go_wp2_with fail
      refine (HS.out _ _ X1.out.bi).mono ?_
      rintro e w2 ⟨A1, c1, rfl, v, b⟩
      clear X1
      have z2 := b.size
      replace B := Lib.hid (bel_trans B.out b)
      have V1 := Lib.hid v
      clear b
      clear v
      go_wp2_with fail
      refine (HT.out _ (E0.out.below B.out)).mono ?_
      rintro e w3 ⟨rfl, v, b⟩
      have z3 := b.size
      replace V1 := Lib.hid (V1.out.below b (by omega))
      replace B := Lib.hid (bel_trans B.out b)
      have X0 := Lib.hid v
      clear b
      clear v
      go_wp2_with fail
      refine (HI.out _ _ X0.out.bi (S0.out.below B.out)).mono ?_
      rintro e w4 ⟨A2, c2, rfl, v, b⟩
      have z4 := b.size
      replace V1 := Lib.hid (V1.out.below b (by omega))
      replace X0 := Lib.hid (X0.out.below b (by omega))
      replace B := Lib.hid (bel_trans B.out b)
      have V2 := Lib.hid v
      clear b
      clear v
      go_wp2_with fail
      refine (eqEs_same A2 A1 _ _ _ es _ rfl HL.out V2.out.ei V1.out.ei).mono ?_
      rintro e w5 ⟨rfl, b⟩
      have z5 := b.size
      replace V1 := Lib.hid (V1.out.below b (by omega))
      replace X0 := Lib.hid (X0.out.below b (by omega))
      replace V2 := Lib.hid (V2.out.below b (by omega))
      replace B := Lib.hid (bel_trans B.out b)
      clear b
      go_wp2_with fail
      refine (HT.out _ (E0.out.below B.out)).mono ?_
      rintro e w6 ⟨rfl, v, b⟩
      have z6 := b.size
      replace V1 := Lib.hid (V1.out.below b (by omega))
      replace X0 := Lib.hid (X0.out.below b (by omega))
      replace V2 := Lib.hid (V2.out.below b (by omega))
      replace B := Lib.hid (bel_trans B.out b)
      have X1 := Lib.hid v
      clear b
      clear v
      go_wp2_with fail
      refine (HQ.out _ _ _ X0.out.bi X1.out.bi).mono ?_
      rintro e w7 ⟨rfl, b⟩
      clear X1
      have z7 := b.size
      replace V1 := Lib.hid (V1.out.below b (by omega))
      replace X0 := Lib.hid (X0.out.below b (by omega))
      replace V2 := Lib.hid (V2.out.below b (by omega))
      replace B := Lib.hid (bel_trans B.out b)
      clear b
      go_wp2_with fail
      refine (HM.out _ _ _ _ X0.out).mono ?_
      rintro e w8 ⟨rfl, v, t⟩
      clear X0
      clear v
      have z8 := t.size
      replace V1 := Lib.hid (V1.out.turns t (by omega) (by omega))
      replace V2 := Lib.hid (V2.out.turns t (by omega) (by omega))
      replace B := Lib.hid (B.out.trans (t.below (by omega) (by omega)))
      clear t
      have hp : ¬ (1 + (len0 : Int) < 0) := by omega
      go_wp2_with fail
      refine (eqEs_same A2 A1 _ _ _ es _ rfl HL.out V2.out.ei V1.out.ei).mono ?_
      rintro e w9 ⟨rfl, b⟩
      have z9 := b.size
      replace V1 := Lib.hid (V1.out.below b (by omega))
      replace V2 := Lib.hid (V2.out.below b (by omega))
      replace B := Lib.hid (bel_trans B.out b)
      clear b
      go_wp2_with fail
      refine (markEs_any A2 _ _ w3.heap.size w4.heap.size 1 es _ rfl HL.out (by omega) (by omega) V2.out).mono ?_
      rintro e w10 ⟨rfl, v, t⟩
      have z10 := t.size
      replace V1 := Lib.hid (V1.out.turns t (by omega) (by omega))
      replace B := Lib.hid (B.out.trans (t.below (by omega) (by omega)))
      clear t
      replace V2 := Lib.hid v
      clear v
      go_wp2_with fail
      refine (heldEs_any A2 _ _ w3.heap.size w4.heap.size 1 _ HL.out (by omega) (by omega) V2.out).mono ?_
      rintro e w11 ⟨rfl, b⟩
      have z11 := b.size
      replace V1 := Lib.hid (V1.out.below b (by omega))
      replace V2 := Lib.hid (V2.out.below b (by omega))
      replace B := Lib.hid (bel_trans B.out b)
      clear b
      have hq : ¬ (1 + 3 * (es.length : Int) < 0) := by omega
      go_wp2_with fail
      refine (HT.out _ (E0.out.below B.out)).mono ?_
      rintro e w12 ⟨rfl, v, b⟩
      have z12 := b.size
      replace V1 := Lib.hid (V1.out.below b (by omega))
      replace V2 := Lib.hid (V2.out.below b (by omega))
      replace B := Lib.hid (bel_trans B.out b)
      have X1 := Lib.hid v
      clear b
      clear v
      go_wp2_with fail
      refine (HI.out _ _ X1.out.bi (S0.out.below B.out)).mono ?_
      rintro e w13 ⟨A3, c3, rfl, v, b⟩
      clear X1
      have z13 := b.size
      replace V1 := Lib.hid (V1.out.below b (by omega))
      replace V2 := Lib.hid (V2.out.below b (by omega))
      replace B := Lib.hid (bel_trans B.out b)
      have V3 := Lib.hid v
      clear b
      clear v
      go_wp2_with fail
      refine (eqEs_same A3 A1 _ _ _ es _ rfl HL.out V3.out.ei V1.out.ei).mono ?_
      rintro e w14 ⟨rfl, b⟩
      have z14 := b.size
      replace V1 := Lib.hid (V1.out.below b (by omega))
      replace V2 := Lib.hid (V2.out.below b (by omega))
      replace V3 := Lib.hid (V3.out.below b (by omega))
      replace B := Lib.hid (bel_trans B.out b)
      clear b
      go_wp2_with fail
      refine (heldEs_any A2 _ _ w3.heap.size w4.heap.size 1 _ HL.out (by omega) (by omega) V2.out).mono ?_
      rintro e w15 ⟨rfl, b⟩
      have z15 := b.size
      replace V1 := Lib.hid (V1.out.below b (by omega))
      replace V2 := Lib.hid (V2.out.below b (by omega))
      replace V3 := Lib.hid (V3.out.below b (by omega))
      replace B := Lib.hid (bel_trans B.out b)
      clear b
      go_wp2
      go_ret
      exact ⟨rfl, B.out⟩
end Go.Proofs.YtcgmeindiaaokaaDoor.By
