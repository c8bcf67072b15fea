/- PutEvent, of the program and of the reference: the kind and the groups of both numbers in a new row. -/
import Derived.Test.YtcgmeindiaaokaaDoorByE
import Derived.Test.YtcgmeindiaaokaaDoorByQ
import Derived.Test.YtcgmeindiaaokaaDoorCfg0
import Derived.OrdersHeld
import Derived.Deep.DeepCutAuto
namespace Go.Proofs.YtcgmeindiaaokaaDoor.By
open Go.RowKit Go.Deep Base Rw

/-- A new row of bytes comes back; nil, where there are none. -/
def NewP (w : World) (zs : List Int) (e : Ending) (w' : World) : Prop := ∃ A cap, e = .returned (.slice A zs.length cap) ∧ BV w' w.heap.size w'.heap.size A zs ∧ Below w.heap.size w w' ∧ (zs = [] → A = none)
theorem NewP.nil {w w' : World} (h : Below w.heap.size w w') : NewP w [] (.returned (.slice none 0 0)) w' := ⟨none, 0, rfl, BV.nil _ _ _ _, h, fun _ => rfl⟩
theorem NewP.of {w wr : World} {v : Value} {zs : List Int} (h : BSt w.heap.size w wr v zs) (hz : zs ≠ []) : NewP w zs (.returned v) wr := by
  obtain ⟨A, cap, e, hv, hb⟩ := NewY.of h
  exact ⟨A, cap, e, hv, hb, fun h0 => absurd h0 hz⟩
theorem BSt.wide {B B' : Nat} {W W' wr : World} {v : Value} {zs : List Int} (h : BSt B' W' wr v zs) (hB : B ≤ B') (hb : Below B W W') : BSt B W wr v zs := by
  refine ⟨⟨h.own.1, ?_⟩, hb.trans (h.old.mono hB)⟩
  rcases h.own.2 with h0 | ⟨g, cap, cur, e, hg, rest⟩
  · exact .inl h0
  · exact .inr ⟨g, cap, cur, e, by omega, rest⟩
theorem BI.mono {w w' : World} {B : Nat} {A : Option Addr} {zs : List Int} (h : BI w A zs) (hb : Below B w w') (hB : w.heap.size ≤ B) : BI w' A zs := h.below (hb.mono hB)
theorem one_bi (w : World) (x : Int) (t : TypeId) : BI (w.alloc (.cells #[.int .u8 x] t)) (some ⟨w.heap.size, 0, none⟩) [x] := by
  intro _
  refine ⟨_, 0, rfl, fun i hi => ?_⟩
  obtain rfl : i = 0 := by simpa using hi
  have e := heap_alloc_new w (.cells #[.int .u8 x] t)
  rw [Nat.zero_add, cell_of_row _ _ 0 _ t (0, 0) e]
  simp

/-- The three rows of an event. -/
def row3 (x : Int) (t c : List Int) : Nat → List Int
  | 0 => [x]
  | 1 => t
  | _ => c
def sel3 {α : Type} (x y z : α) : Nat → α
  | 0 => x
  | 1 => y
  | _ => z
theorem lt3 {p : Nat → Prop} (h0 : p 0) (h1 : p 1) (h2 : p 2) : ∀ i, i < 3 → p i := fun i hi => by
  have : i = 0 ∨ i = 1 ∨ i = 2 := by omega
  rcases this with rfl | rfl | rfl
  · exact h0
  · exact h1
  · exact h2
theorem pre3 (x : Int) (t c : List Int) : pre (row3 x t c) 3 = x :: (t ++ c) := by simp [pre, row3]
theorem cell_new (w : World) (l : List Value) (t : TypeId) (i : Nat) (v : Value) (h : l[i]? = some v) : (w.alloc (.cells l.toArray t)).cell? ⟨w.heap.size, i, none⟩ = some v := by
  have e := heap_alloc_new w (.cells l.toArray t)
  rw [cell_of_row _ _ i _ t (0, 0) e]
  simpa using h
/-- An event's box. -/
def BxE (w : World) (g : Nat) (s : Ev) : Prop := w.cell? ⟨g, 0, none⟩ = some (.int .i64 s.1) ∧ w.cell? ⟨g, 1, none⟩ = some (.int .i64 s.2.1) ∧ w.cell? ⟨g, 2, none⟩ = some (.int .i64 s.2.2)
theorem BxE.new (w : World) (s : Ev) (t : TypeId) : BxE (w.alloc (.cells #[.int .i64 s.1, .int .i64 s.2.1, .int .i64 s.2.2] t)) w.heap.size s :=
  ⟨cell_new w [_, _, _] t 0 _ rfl, cell_new w [_, _, _] t 1 _ rfl, cell_new w [_, _, _] t 2 _ rfl⟩
theorem BxE.below {w w' : World} {g : Nat} {s : Ev} (h : BxE w g s) (hb : Below w.heap.size w w') : BxE w' g s := by
  have hg : g < w.heap.size := World.block_lt_of_cell? _ _ h.1
  exact ⟨(hb.cell (p := ⟨g, 0, none⟩) hg).trans h.1, (hb.cell (p := ⟨g, 1, none⟩) hg).trans h.2.1, (hb.cell (p := ⟨g, 2, none⟩) hg).trans h.2.2⟩

theorem bel_trans' {B : Nat} {a b c : World} (h : Below B a b) (k : Below b.heap.size b c) (hB : B ≤ a.heap.size := by exact Nat.le_refl _) : Below B a c := h.trans (k.mono (Nat.le_trans hB h.size))

set_option maxRecDepth 100000 in
set_option maxHeartbeats 4000000 in
theorem implPutE_any (s : Ev) (w : World) : Calls Tryd.prog 34 #[aggE s] w (NewP w (putE s)) := by
  obtain ⟨x, t, c⟩ := s
  by_cases hx : 0 ≤ x ∧ x ≤ 11
  · have hin : Tick.inB x 0 11 = true := Tick.inB_true hx.1 hx.2
    have hw : IntKind.u8.wrap x = x := by rw [wrap_u8]; omega
    have Hx := Lib.hid hx
    clear hx
    cases ht : Tick.isT t
    case false =>
      have e0 : putE (x, t, c) = [] := putE_no (by rintro ⟨_, _, h2, h3⟩; simp only [tick_isT] at h2 h3; simp_all)
      rw [e0]
      clear e0
      go_enter Tryd.func34, Tryd.ntmps34
      go_wp2_with fail
      refine (Cf.within_any 0 x 11 _).mono ?_
      rw [hin]
      rintro e w1 ⟨rfl, rfl⟩
      go_wp2_with fail
      have HI : Ints ((w.alloc (.cells #[.int .i64 x, .int .i64 t, .int .i64 c] 41)).alloc (.cells #[.int .i64 t, .int .i64 c] 3)) (some ⟨w.heap.size + 1, 0, none⟩) [t, c] := by have := ints_new (w.alloc (.cells #[.int .i64 x, .int .i64 t, .int .i64 c] 41)) [t, c] 3; simpa using this
      refine (Tick.allTicks_any (some ⟨w.heap.size + 1, 0, none⟩) 2 2 [t, c] _ rfl (by decide) HI).mono ?_
      clear HI
      rw [show [t, c].all Tick.isT = false by simp [ht]]
      rintro e w1 ⟨rfl, rfl⟩
      go_wp2_with fail
      go_ret
      exact NewP.nil (by first | exact bel_alloc _ _ | exact bel_trans (bel_alloc _ _) (bel_alloc _ _))
    case true =>
      cases hc : Tick.isT c
      case false =>
        have e0 : putE (x, t, c) = [] := putE_no (by rintro ⟨_, _, h2, h3⟩; simp only [tick_isT] at h2 h3; simp_all)
        rw [e0]
        clear e0
        go_enter Tryd.func34, Tryd.ntmps34
        go_wp2_with fail
        refine (Cf.within_any 0 x 11 _).mono ?_
        rw [hin]
        rintro e w1 ⟨rfl, rfl⟩
        go_wp2_with fail
        have HI : Ints ((w.alloc (.cells #[.int .i64 x, .int .i64 t, .int .i64 c] 41)).alloc (.cells #[.int .i64 t, .int .i64 c] 3)) (some ⟨w.heap.size + 1, 0, none⟩) [t, c] := by have := ints_new (w.alloc (.cells #[.int .i64 x, .int .i64 t, .int .i64 c] 41)) [t, c] 3; simpa using this
        refine (Tick.allTicks_any (some ⟨w.heap.size + 1, 0, none⟩) 2 2 [t, c] _ rfl (by decide) HI).mono ?_
        clear HI
        rw [show [t, c].all Tick.isT = false by simp [ht, hc]]
        rintro e w1 ⟨rfl, rfl⟩
        go_wp2_with fail
        go_ret
        exact NewP.nil (by first | exact bel_alloc _ _ | exact bel_trans (bel_alloc _ _) (bel_alloc _ _))
      case true =>
        have e0 : putE (x, t, c) = x :: (putN t ++ putN c) := putE_yes Hx.out.1 Hx.out.2 ht hc
        have HLt : Hid (0 < (putN t).length ∧ (putN t).length ≤ 5) := ⟨putN_pos ht, putN_len t⟩
        have HLc : Hid (0 < (putN c).length ∧ (putN c).length ≤ 5) := ⟨putN_pos hc, putN_len c⟩
        rw [e0]
        clear e0
        have HX0 := Lib.hid (BxE.new w (x, t, c) 41)
        go_enter Tryd.func34, Tryd.ntmps34
        go_wp2_with fail
        refine (Cf.within_any 0 x 11 _).mono ?_
        rw [hin]
        rintro e w1 ⟨rfl, rfl⟩
        go_wp2_with fail
        have HI : Ints ((w.alloc (.cells #[.int .i64 x, .int .i64 t, .int .i64 c] 41)).alloc (.cells #[.int .i64 t, .int .i64 c] 3)) (some ⟨w.heap.size + 1, 0, none⟩) [t, c] := by have := ints_new (w.alloc (.cells #[.int .i64 x, .int .i64 t, .int .i64 c] 41)) [t, c] 3; simpa using this
        refine (Tick.allTicks_any (some ⟨w.heap.size + 1, 0, none⟩) 2 2 [t, c] _ rfl (by decide) HI).mono ?_
        clear HI
        rw [show [t, c].all Tick.isT = true by simp [ht, hc]]
        rintro e w1 ⟨rfl, rfl⟩
        go_wp2_with fail
        go_cut [2] (fun r wx => ∃ u, r = u ∧ BSt w.heap.size w wx u (x :: (putN t ++ putN c)))
        case first =>
          have W0 := Lib.hid (bel_trans (bel_alloc w (.cells #[.int .i64 x, .int .i64 t, .int .i64 c] 41)) (bel_alloc _ (.cells #[.int .i64 t, .int .i64 c] 3)))
          have HX := Lib.hid (HX0.out.below (bel_alloc _ (.cells #[.int .i64 t, .int .i64 c] 3)))
          generalize (w.alloc (.cells #[.int .i64 x, .int .i64 t, .int .i64 c] 41)).alloc (.cells #[.int .i64 t, .int .i64 c] 3) = v0 at HX W0 ⊢
          clear HX0
          have HW : Hid (∀ {B : Nat} {W : World}, v0.heap.size ≤ B → ∀ {wr : World} {v : Value} {zs : List Int}, BSt B W wr v zs → Below v0.heap.size v0 W → BSt w.heap.size w wr v zs) := fun hB _ _ _ st hb => st.wide (Nat.le_trans W0.out.size hB) (W0.out.trans (hb.mono W0.out.size))
          clear W0
          have HS : Hid (Below v0.heap.size v0 v0.drew) := (Below.refl _ _).drew
          refine wp_region_held_drew (S := Below v0.heap.size v0) (by kernel_rfl) HS.out (fun _ => ?_)
          obtain ⟨v1, hv1⟩ : ∃ W', v0.drew = W' := ⟨_, rfl⟩
          rw [hv1] at HS ⊢
          clear hv1
          refine wpAnyH_take (i := 0) (v := .pointer (some ⟨w.heap.size, 0, none⟩)) rfl (by kernel_rfl) (by kernel_rfl) (by kernel_rfl) (fun _ _ _ h => h) (.inl ⟨rfl, fun V hS => ?t0⟩) HS.out ?_
          case t0 =>
            clear hS
            go_simp
          go_simp
          refine wpAnyH_take (i := 1) (v := .int .i64 x) rfl (by kernel_rfl) (by kernel_rfl) (by kernel_rfl) (fun _ _ _ h => h) (.inl ⟨rfl, fun V hS => ?t1⟩) HS.out ?_
          case t1 =>
            obtain ⟨u0, u1, u2⟩ := HX.out.below hS
            clear hS
            go_simp
          go_simp
          refine wpAnyH_take (i := 2) (v := .int .u8 x) rfl (by kernel_rfl) (by kernel_rfl) (by kernel_rfl) (fun _ _ _ h => h) (.inl ⟨rfl, fun V hS => ?t2⟩) HS.out ?_
          case t2 =>
            clear hS
            go_simp
          go_simp
          refine wpAnyH_take (i := 4) (v := .pointer (some ⟨w.heap.size, 1, none⟩)) rfl (by kernel_rfl) (by kernel_rfl) (by kernel_rfl) (fun _ _ _ h => h) (.inl ⟨rfl, fun V hS => ?t4⟩) HS.out ?_
          case t4 =>
            clear hS
            go_simp
          go_simp
          refine wpAnyH_take (i := 5) (v := .int .i64 t) rfl (by kernel_rfl) (by kernel_rfl) (by kernel_rfl) (fun _ _ _ h => h) (.inl ⟨rfl, fun V hS => ?t5⟩) HS.out ?_
          case t5 =>
            obtain ⟨u0, u1, u2⟩ := HX.out.below hS
            clear hS
            go_simp
          go_simp
          refine wpAnyH_take (i := 7) (v := .pointer (some ⟨w.heap.size, 2, none⟩)) rfl (by kernel_rfl) (by kernel_rfl) (by kernel_rfl) (fun _ _ _ h => h) (.inl ⟨rfl, fun V hS => ?t7⟩) HS.out ?_
          case t7 =>
            clear hS
            go_simp
          go_simp
          refine wpAnyH_take (i := 8) (v := .int .i64 c) rfl (by kernel_rfl) (by kernel_rfl) (by kernel_rfl) (fun _ _ _ h => h) (.inl ⟨rfl, fun V hS => ?t8⟩) HS.out ?_
          case t8 =>
            obtain ⟨u0, u1, u2⟩ := HX.out.below hS
            clear hS
            go_simp
          go_simp
          refine wpAnyH_ready (rs := [3, 6]) (by kernel_rfl) (by simp) (AllReadyH.cons rfl (fun J hJ => ?r0a) (AllReadyH.cons rfl (fun J hJ => ?r0b) AllReadyH.nil))
          case r0a =>
            go_simp
            obtain ⟨v2, hv2⟩ : ∃ W', v1.alloc (.cells #[.int .u8 x] 5) = W' := ⟨_, rfl⟩
            have bv2 : Below v1.heap.size v1 v2 := by rw [← hv2]; exact bel_alloc _ _
            have HK : Hid (BI v2 (some ⟨v1.heap.size, 0, none⟩) [x]) := by show BI _ _ _; rw [← hv2]; exact one_bi _ _ _
            rw [hv2]
            have zv2 := bv2.size
            replace HS := Lib.hid (bel_trans' HS.out bv2)
            clear bv2
            refine hJ.out _ _ HS.out (fun _ => ?_)
            clear hJ J
            go_simp
            refine wpAnyH_ready (rs := [6]) (by kernel_rfl) (by simp) (AllReadyH.cons rfl (fun J hJ => ?r1a) AllReadyH.nil)
            case r1a =>
              go_simp
              refine (implPut_any t v2).mono ?_
              rintro e v3 ⟨At, ct, rfl, vHT, bv3⟩
              have HT := Lib.hid vHT.bi
              clear vHT
              have zv3 := bv3.size
              replace HK := Lib.hid (HK.out.below bv3)
              replace HS := Lib.hid (bel_trans' HS.out bv3)
              clear bv3
              refine hJ.out _ _ HS.out (fun _ => ?_)
              clear hJ J
              go_simp
              refine wpAnyH_ready (rs := [9]) (by kernel_rfl) (by simp) (AllReadyH.cons rfl (fun J hJ => ?r2a) AllReadyH.nil)
              case r2a =>
                go_simp
                refine (implPut_any c v3).mono ?_
                rintro e v4 ⟨Ac, cc, rfl, vHC, bv4⟩
                have HC := Lib.hid vHC.bi
                clear vHC
                have zv4 := bv4.size
                replace HK := Lib.hid (HK.out.below bv4)
                replace HT := Lib.hid (HT.out.below bv4)
                replace HS := Lib.hid (bel_trans' HS.out bv4)
                clear bv4
                refine hJ.out _ _ HS.out (fun _ => ?_)
                clear hJ J
                go_simp
                refine wpAnyH_ready (rs := [10]) (by kernel_rfl) (by simp) (AllReadyH.cons rfl (fun J hJ => ?r3a) AllReadyH.nil)
                case r3a =>
                  go_simp
                  obtain ⟨vT, hT⟩ : ∃ W', v4.alloc (.cells #[.slice (some ⟨v1.heap.size, 0, none⟩) 1 1, .slice At (putN t).length ct, .slice Ac (putN c).length cc] 22) = W' := ⟨_, rfl⟩
                  have bvT : Below v4.heap.size v4 vT := by rw [← hT]; exact bel_alloc _ _
                  have HC3 : Hid (∀ i, i < 3 → vT.cell? ⟨v4.heap.size, i, none⟩ = some (.slice (sel3 (some ⟨v1.heap.size, 0, none⟩) At Ac i) (row3 x (putN t) (putN c) i).length (sel3 1 ct cc i))) := by
                    show ∀ i, _
                    rw [← hT]
                    exact lt3 (cell_new _ [_, _, _] _ 0 _ rfl) (cell_new _ [_, _, _] _ 1 _ rfl) (cell_new _ [_, _, _] _ 2 _ rfl)
                  rw [hT]
                  clear hT
                  have zvT := bvT.size
                  replace HK := Lib.hid (HK.out.below bvT)
                  replace HT := Lib.hid (HT.out.below bvT)
                  replace HC := Lib.hid (HC.out.below bvT)
                  replace HS := Lib.hid (bel_trans' HS.out bvT)
                  clear bvT
                  refine hJ.out _ _ HS.out (fun _ => ?_)
                  clear hJ J
                  go_simp
                  refine wpAnyH_ready (rs := [11]) (by kernel_rfl) (by simp) (AllReadyH.cons rfl (fun J hJ => ?r4a) AllReadyH.nil)
                  case r4a =>
                    go_simp
                    refine (concat_any v4.heap.size (sel3 (some ⟨v1.heap.size, 0, none⟩) At Ac) (sel3 1 ct cc) (row3 x (putN t) (putN c)) vT HC3.out (lt3 HK.out HT.out HC.out) (lt3 (by simp [row3]) HLt.out.1 HLc.out.1) (lt3 (by simp [row3]) HLt.out.2 HLc.out.2)).mono ?_
                    rintro e vE ⟨u, rfl, st⟩
                    rw [pre3] at st
                    have St := Lib.hid (HW.out HS.out.size st HS.out)
                    have bvE := st.old
                    clear st
                    have zvE := bvE.size
                    replace HS := Lib.hid (bel_trans' HS.out bvE)
                    clear bvE
                    refine hJ.out _ _ HS.out (fun _ => ?_)
                    clear hJ J
                    go_simp
                    refine wpAnyH_take (i := 12) (v := u) rfl (by kernel_rfl) (by kernel_rfl) (by kernel_rfl) (fun _ _ _ h => h) (.inl ⟨rfl, fun V hS => ?t12⟩) HS.out ?_
                    case t12 =>
                      clear hS
                      go_simp
                    go_simp
                    refine wpAnyH_done (by kernel_rfl) ?_ _
                    go_wp2_with fail
                    go_meet
                    exact ⟨_, rfl, St.out⟩
          case r0b =>
            go_simp
            refine (implPut_any t v1).mono ?_
            rintro e v2 ⟨At, ct, rfl, vHT, bv2⟩
            have HT := Lib.hid vHT.bi
            clear vHT
            have zv2 := bv2.size
            replace HS := Lib.hid (bel_trans' HS.out bv2)
            clear bv2
            refine hJ.out _ _ HS.out (fun _ => ?_)
            clear hJ J
            go_simp
            refine wpAnyH_ready (rs := [3, 9]) (by kernel_rfl) (by simp) (AllReadyH.cons rfl (fun J hJ => ?r1a) (AllReadyH.cons rfl (fun J hJ => ?r1b) AllReadyH.nil))
            case r1a =>
              go_simp
              obtain ⟨v3, hv3⟩ : ∃ W', v2.alloc (.cells #[.int .u8 x] 5) = W' := ⟨_, rfl⟩
              have bv3 : Below v2.heap.size v2 v3 := by rw [← hv3]; exact bel_alloc _ _
              have HK : Hid (BI v3 (some ⟨v2.heap.size, 0, none⟩) [x]) := by show BI _ _ _; rw [← hv3]; exact one_bi _ _ _
              rw [hv3]
              have zv3 := bv3.size
              replace HT := Lib.hid (HT.out.below bv3)
              replace HS := Lib.hid (bel_trans' HS.out bv3)
              clear bv3
              refine hJ.out _ _ HS.out (fun _ => ?_)
              clear hJ J
              go_simp
              refine wpAnyH_ready (rs := [9]) (by kernel_rfl) (by simp) (AllReadyH.cons rfl (fun J hJ => ?r2a) AllReadyH.nil)
              case r2a =>
                go_simp
                refine (implPut_any c v3).mono ?_
                rintro e v4 ⟨Ac, cc, rfl, vHC, bv4⟩
                have HC := Lib.hid vHC.bi
                clear vHC
                have zv4 := bv4.size
                replace HK := Lib.hid (HK.out.below bv4)
                replace HT := Lib.hid (HT.out.below bv4)
                replace HS := Lib.hid (bel_trans' HS.out bv4)
                clear bv4
                refine hJ.out _ _ HS.out (fun _ => ?_)
                clear hJ J
                go_simp
                refine wpAnyH_ready (rs := [10]) (by kernel_rfl) (by simp) (AllReadyH.cons rfl (fun J hJ => ?r3a) AllReadyH.nil)
                case r3a =>
                  go_simp
                  obtain ⟨vT, hT⟩ : ∃ W', v4.alloc (.cells #[.slice (some ⟨v2.heap.size, 0, none⟩) 1 1, .slice At (putN t).length ct, .slice Ac (putN c).length cc] 22) = W' := ⟨_, rfl⟩
                  have bvT : Below v4.heap.size v4 vT := by rw [← hT]; exact bel_alloc _ _
                  have HC3 : Hid (∀ i, i < 3 → vT.cell? ⟨v4.heap.size, i, none⟩ = some (.slice (sel3 (some ⟨v2.heap.size, 0, none⟩) At Ac i) (row3 x (putN t) (putN c) i).length (sel3 1 ct cc i))) := by
                    show ∀ i, _
                    rw [← hT]
                    exact lt3 (cell_new _ [_, _, _] _ 0 _ rfl) (cell_new _ [_, _, _] _ 1 _ rfl) (cell_new _ [_, _, _] _ 2 _ rfl)
                  rw [hT]
                  clear hT
                  have zvT := bvT.size
                  replace HK := Lib.hid (HK.out.below bvT)
                  replace HT := Lib.hid (HT.out.below bvT)
                  replace HC := Lib.hid (HC.out.below bvT)
                  replace HS := Lib.hid (bel_trans' HS.out bvT)
                  clear bvT
                  refine hJ.out _ _ HS.out (fun _ => ?_)
                  clear hJ J
                  go_simp
                  refine wpAnyH_ready (rs := [11]) (by kernel_rfl) (by simp) (AllReadyH.cons rfl (fun J hJ => ?r4a) AllReadyH.nil)
                  case r4a =>
                    go_simp
                    refine (concat_any v4.heap.size (sel3 (some ⟨v2.heap.size, 0, none⟩) At Ac) (sel3 1 ct cc) (row3 x (putN t) (putN c)) vT HC3.out (lt3 HK.out HT.out HC.out) (lt3 (by simp [row3]) HLt.out.1 HLc.out.1) (lt3 (by simp [row3]) HLt.out.2 HLc.out.2)).mono ?_
                    rintro e vE ⟨u, rfl, st⟩
                    rw [pre3] at st
                    have St := Lib.hid (HW.out HS.out.size st HS.out)
                    have bvE := st.old
                    clear st
                    have zvE := bvE.size
                    replace HS := Lib.hid (bel_trans' HS.out bvE)
                    clear bvE
                    refine hJ.out _ _ HS.out (fun _ => ?_)
                    clear hJ J
                    go_simp
                    refine wpAnyH_take (i := 12) (v := u) rfl (by kernel_rfl) (by kernel_rfl) (by kernel_rfl) (fun _ _ _ h => h) (.inl ⟨rfl, fun V hS => ?t12⟩) HS.out ?_
                    case t12 =>
                      clear hS
                      go_simp
                    go_simp
                    refine wpAnyH_done (by kernel_rfl) ?_ _
                    go_wp2_with fail
                    go_meet
                    exact ⟨_, rfl, St.out⟩
            case r1b =>
              go_simp
              refine (implPut_any c v2).mono ?_
              rintro e v3 ⟨Ac, cc, rfl, vHC, bv3⟩
              have HC := Lib.hid vHC.bi
              clear vHC
              have zv3 := bv3.size
              replace HT := Lib.hid (HT.out.below bv3)
              replace HS := Lib.hid (bel_trans' HS.out bv3)
              clear bv3
              refine hJ.out _ _ HS.out (fun _ => ?_)
              clear hJ J
              go_simp
              refine wpAnyH_ready (rs := [3]) (by kernel_rfl) (by simp) (AllReadyH.cons rfl (fun J hJ => ?r2a) AllReadyH.nil)
              case r2a =>
                go_simp
                obtain ⟨v4, hv4⟩ : ∃ W', v3.alloc (.cells #[.int .u8 x] 5) = W' := ⟨_, rfl⟩
                have bv4 : Below v3.heap.size v3 v4 := by rw [← hv4]; exact bel_alloc _ _
                have HK : Hid (BI v4 (some ⟨v3.heap.size, 0, none⟩) [x]) := by show BI _ _ _; rw [← hv4]; exact one_bi _ _ _
                rw [hv4]
                have zv4 := bv4.size
                replace HT := Lib.hid (HT.out.below bv4)
                replace HC := Lib.hid (HC.out.below bv4)
                replace HS := Lib.hid (bel_trans' HS.out bv4)
                clear bv4
                refine hJ.out _ _ HS.out (fun _ => ?_)
                clear hJ J
                go_simp
                refine wpAnyH_ready (rs := [10]) (by kernel_rfl) (by simp) (AllReadyH.cons rfl (fun J hJ => ?r3a) AllReadyH.nil)
                case r3a =>
                  go_simp
                  obtain ⟨vT, hT⟩ : ∃ W', v4.alloc (.cells #[.slice (some ⟨v3.heap.size, 0, none⟩) 1 1, .slice At (putN t).length ct, .slice Ac (putN c).length cc] 22) = W' := ⟨_, rfl⟩
                  have bvT : Below v4.heap.size v4 vT := by rw [← hT]; exact bel_alloc _ _
                  have HC3 : Hid (∀ i, i < 3 → vT.cell? ⟨v4.heap.size, i, none⟩ = some (.slice (sel3 (some ⟨v3.heap.size, 0, none⟩) At Ac i) (row3 x (putN t) (putN c) i).length (sel3 1 ct cc i))) := by
                    show ∀ i, _
                    rw [← hT]
                    exact lt3 (cell_new _ [_, _, _] _ 0 _ rfl) (cell_new _ [_, _, _] _ 1 _ rfl) (cell_new _ [_, _, _] _ 2 _ rfl)
                  rw [hT]
                  clear hT
                  have zvT := bvT.size
                  replace HK := Lib.hid (HK.out.below bvT)
                  replace HT := Lib.hid (HT.out.below bvT)
                  replace HC := Lib.hid (HC.out.below bvT)
                  replace HS := Lib.hid (bel_trans' HS.out bvT)
                  clear bvT
                  refine hJ.out _ _ HS.out (fun _ => ?_)
                  clear hJ J
                  go_simp
                  refine wpAnyH_ready (rs := [11]) (by kernel_rfl) (by simp) (AllReadyH.cons rfl (fun J hJ => ?r4a) AllReadyH.nil)
                  case r4a =>
                    go_simp
                    refine (concat_any v4.heap.size (sel3 (some ⟨v3.heap.size, 0, none⟩) At Ac) (sel3 1 ct cc) (row3 x (putN t) (putN c)) vT HC3.out (lt3 HK.out HT.out HC.out) (lt3 (by simp [row3]) HLt.out.1 HLc.out.1) (lt3 (by simp [row3]) HLt.out.2 HLc.out.2)).mono ?_
                    rintro e vE ⟨u, rfl, st⟩
                    rw [pre3] at st
                    have St := Lib.hid (HW.out HS.out.size st HS.out)
                    have bvE := st.old
                    clear st
                    have zvE := bvE.size
                    replace HS := Lib.hid (bel_trans' HS.out bvE)
                    clear bvE
                    refine hJ.out _ _ HS.out (fun _ => ?_)
                    clear hJ J
                    go_simp
                    refine wpAnyH_take (i := 12) (v := u) rfl (by kernel_rfl) (by kernel_rfl) (by kernel_rfl) (fun _ _ _ h => h) (.inl ⟨rfl, fun V hS => ?t12⟩) HS.out ?_
                    case t12 =>
                      clear hS
                      go_simp
                    go_simp
                    refine wpAnyH_done (by kernel_rfl) ?_ _
                    go_wp2_with fail
                    go_meet
                    exact ⟨_, rfl, St.out⟩
        case rest =>
          obtain ⟨u, rfl, st⟩ := hcut
          have St := Lib.hid st
          clear st HX0
          go_wp2_with fail
          go_ret
          exact NewP.of St.out (by simp)
  · have hin : Tick.inB x 0 11 = false := Tick.inB_false (by omega)
    have e0 : putE (x, t, c) = [] := putE_no (by rintro ⟨h0, h1, _, _⟩; exact hx ⟨h0, h1⟩)
    rw [e0]
    clear e0 hx
    go_enter Tryd.func34, Tryd.ntmps34
    go_wp2_with fail
    refine (Cf.within_any 0 x 11 _).mono ?_
    rw [hin]
    rintro e w1 ⟨rfl, rfl⟩
    go_wp2_with fail
    go_ret
    exact NewP.nil (by first | exact bel_alloc _ _ | exact bel_trans (bel_alloc _ _) (bel_alloc _ _))

set_option maxRecDepth 100000 in
set_option maxHeartbeats 4000000 in
theorem specPutE_any (s : Ev) (w : World) : Calls Tryd.prog 33 #[aggE s] w (NewP w (putE s)) := by
  obtain ⟨x, t, c⟩ := s
  by_cases hx : 0 ≤ x ∧ x ≤ 11
  · have hin : Tick.inB x 0 11 = true := Tick.inB_true hx.1 hx.2
    have hw : IntKind.u8.wrap x = x := by rw [wrap_u8]; omega
    have Hx := Lib.hid hx
    clear hx
    cases ht : Tick.isT t
    case false =>
      have e0 : putE (x, t, c) = [] := putE_no (by rintro ⟨_, _, h2, h3⟩; simp only [tick_isT] at h2 h3; simp_all)
      rw [e0]
      clear e0
      go_enter Tryd.func33, Tryd.ntmps33
      go_wp2_with fail
      refine (Tick.in_any x 0 11 _).mono ?_
      rw [hin]
      rintro e w1 ⟨rfl, rfl⟩
      go_wp2_with fail
      refine (Tick.specTickOk_any t _).mono ?_
      rw [ht]
      rintro e w1 ⟨rfl, rfl⟩
      go_wp2_with fail
      go_ret
      exact NewP.nil (by first | exact bel_alloc _ _ | exact bel_trans (bel_alloc _ _) (bel_alloc _ _))
    case true =>
      cases hc : Tick.isT c
      case false =>
        have e0 : putE (x, t, c) = [] := putE_no (by rintro ⟨_, _, h2, h3⟩; simp only [tick_isT] at h2 h3; simp_all)
        rw [e0]
        clear e0
        go_enter Tryd.func33, Tryd.ntmps33
        go_wp2_with fail
        refine (Tick.in_any x 0 11 _).mono ?_
        rw [hin]
        rintro e w1 ⟨rfl, rfl⟩
        go_wp2_with fail
        refine (Tick.specTickOk_any t _).mono ?_
        rw [ht]
        rintro e w1 ⟨rfl, rfl⟩
        go_wp2_with fail
        refine (Tick.specTickOk_any c _).mono ?_
        rw [hc]
        rintro e w1 ⟨rfl, rfl⟩
        go_wp2_with fail
        go_ret
        exact NewP.nil (by first | exact bel_alloc _ _ | exact bel_trans (bel_alloc _ _) (bel_alloc _ _))
      case true =>
        have e0 : putE (x, t, c) = x :: (putN t ++ putN c) := putE_yes Hx.out.1 Hx.out.2 ht hc
        have HLt : Hid (0 < (putN t).length ∧ (putN t).length ≤ 5) := ⟨putN_pos ht, putN_len t⟩
        have HLc : Hid (0 < (putN c).length ∧ (putN c).length ≤ 5) := ⟨putN_pos hc, putN_len c⟩
        rw [e0]
        clear e0
        have HX0 := Lib.hid (BxE.new w (x, t, c) 41)
        go_enter Tryd.func33, Tryd.ntmps33
        go_wp2_with fail
        refine (Tick.in_any x 0 11 _).mono ?_
        rw [hin]
        rintro e w1 ⟨rfl, rfl⟩
        go_wp2_with fail
        refine (Tick.specTickOk_any t _).mono ?_
        rw [ht]
        rintro e w1 ⟨rfl, rfl⟩
        go_wp2_with fail
        refine (Tick.specTickOk_any c _).mono ?_
        rw [hc]
        rintro e w1 ⟨rfl, rfl⟩
        go_wp2_with fail
        go_cut [2] (fun r wx => ∃ u, r = u ∧ BSt w.heap.size w wx u (x :: (putN t ++ putN c)))
        case first =>
          have W0 := Lib.hid (bel_alloc w (.cells #[.int .i64 x, .int .i64 t, .int .i64 c] 41))
          generalize w.alloc (.cells #[.int .i64 x, .int .i64 t, .int .i64 c] 41) = v0 at HX0 W0 ⊢
          have HX := HX0
          clear HX0
          have HW : Hid (∀ {B : Nat} {W : World}, v0.heap.size ≤ B → ∀ {wr : World} {v : Value} {zs : List Int}, BSt B W wr v zs → Below v0.heap.size v0 W → BSt w.heap.size w wr v zs) := fun hB _ _ _ st hb => st.wide (Nat.le_trans W0.out.size hB) (W0.out.trans (hb.mono W0.out.size))
          clear W0
          have HS : Hid (Below v0.heap.size v0 v0.drew) := (Below.refl _ _).drew
          refine wp_region_held_drew (S := Below v0.heap.size v0) (by kernel_rfl) HS.out (fun _ => ?_)
          obtain ⟨v1, hv1⟩ : ∃ W', v0.drew = W' := ⟨_, rfl⟩
          rw [hv1] at HS ⊢
          clear hv1
          refine wpAnyH_take (i := 0) (v := .pointer (some ⟨w.heap.size, 0, none⟩)) rfl (by kernel_rfl) (by kernel_rfl) (by kernel_rfl) (fun _ _ _ h => h) (.inl ⟨rfl, fun V hS => ?t0⟩) HS.out ?_
          case t0 =>
            clear hS
            go_simp
          go_simp
          refine wpAnyH_take (i := 1) (v := .int .i64 x) rfl (by kernel_rfl) (by kernel_rfl) (by kernel_rfl) (fun _ _ _ h => h) (.inl ⟨rfl, fun V hS => ?t1⟩) HS.out ?_
          case t1 =>
            obtain ⟨u0, u1, u2⟩ := HX.out.below hS
            clear hS
            go_simp
          go_simp
          refine wpAnyH_take (i := 2) (v := .int .u8 x) rfl (by kernel_rfl) (by kernel_rfl) (by kernel_rfl) (fun _ _ _ h => h) (.inl ⟨rfl, fun V hS => ?t2⟩) HS.out ?_
          case t2 =>
            clear hS
            go_simp
          go_simp
          refine wpAnyH_take (i := 4) (v := .pointer (some ⟨w.heap.size, 1, none⟩)) rfl (by kernel_rfl) (by kernel_rfl) (by kernel_rfl) (fun _ _ _ h => h) (.inl ⟨rfl, fun V hS => ?t4⟩) HS.out ?_
          case t4 =>
            clear hS
            go_simp
          go_simp
          refine wpAnyH_take (i := 5) (v := .int .i64 t) rfl (by kernel_rfl) (by kernel_rfl) (by kernel_rfl) (fun _ _ _ h => h) (.inl ⟨rfl, fun V hS => ?t5⟩) HS.out ?_
          case t5 =>
            obtain ⟨u0, u1, u2⟩ := HX.out.below hS
            clear hS
            go_simp
          go_simp
          refine wpAnyH_take (i := 8) (v := .pointer (some ⟨w.heap.size, 2, none⟩)) rfl (by kernel_rfl) (by kernel_rfl) (by kernel_rfl) (fun _ _ _ h => h) (.inl ⟨rfl, fun V hS => ?t8⟩) HS.out ?_
          case t8 =>
            clear hS
            go_simp
          go_simp
          refine wpAnyH_take (i := 9) (v := .int .i64 c) rfl (by kernel_rfl) (by kernel_rfl) (by kernel_rfl) (fun _ _ _ h => h) (.inl ⟨rfl, fun V hS => ?t9⟩) HS.out ?_
          case t9 =>
            obtain ⟨u0, u1, u2⟩ := HX.out.below hS
            clear hS
            go_simp
          go_simp
          refine wpAnyH_ready (rs := [3, 6]) (by kernel_rfl) (by simp) (AllReadyH.cons rfl (fun J hJ => ?r0a) (AllReadyH.cons rfl (fun J hJ => ?r0b) AllReadyH.nil))
          case r0a =>
            go_simp
            obtain ⟨v2, hv2⟩ : ∃ W', v1.alloc (.cells #[.int .u8 x] 5) = W' := ⟨_, rfl⟩
            have bv2 : Below v1.heap.size v1 v2 := by rw [← hv2]; exact bel_alloc _ _
            have HK : Hid (BI v2 (some ⟨v1.heap.size, 0, none⟩) [x]) := by show BI _ _ _; rw [← hv2]; exact one_bi _ _ _
            rw [hv2]
            have zv2 := bv2.size
            replace HS := Lib.hid (bel_trans' HS.out bv2)
            clear bv2
            refine hJ.out _ _ HS.out (fun _ => ?_)
            clear hJ J
            go_simp
            refine wpAnyH_ready (rs := [6]) (by kernel_rfl) (by simp) (AllReadyH.cons rfl (fun J hJ => ?r1a) AllReadyH.nil)
            case r1a =>
              go_simp
              refine (specPut_any t v2).mono ?_
              rintro e v3 ⟨At, ct, rfl, vHT, bv3⟩
              have HT := Lib.hid vHT.bi
              clear vHT
              have zv3 := bv3.size
              replace HK := Lib.hid (HK.out.below bv3)
              replace HS := Lib.hid (bel_trans' HS.out bv3)
              clear bv3
              refine hJ.out _ _ HS.out (fun _ => ?_)
              clear hJ J
              go_simp
              refine wpAnyH_ready (rs := [7]) (by kernel_rfl) (by simp) (AllReadyH.cons rfl (fun J hJ => ?r2a) AllReadyH.nil)
              case r2a =>
                go_simp
                refine (join_any (some ⟨v1.heap.size, 0, none⟩) At 1 1 (putN t).length ct [x] (putN t) v3 rfl rfl (by omega) (by have := HLt.out.2; omega) HK.out HT.out).mono ?_
                rintro e vJ ⟨u1, rfl, st⟩
                have bvJ := st.old
                obtain ⟨Aj, cj, rfl, vj⟩ := st.form
                have HJ := Lib.hid vj.bi
                clear st vj
                have zvJ := bvJ.size
                replace HS := Lib.hid (bel_trans' HS.out bvJ)
                clear bvJ
                refine hJ.out _ _ HS.out (fun _ => ?_)
                clear hJ J
                go_simp
                refine wpAnyH_ready (rs := [10]) (by kernel_rfl) (by simp) (AllReadyH.cons rfl (fun J hJ => ?r3a) AllReadyH.nil)
                case r3a =>
                  go_simp
                  refine (specPut_any c vJ).mono ?_
                  rintro e vC ⟨Ac, cc, rfl, vHC, bvC⟩
                  have HC := Lib.hid vHC.bi
                  clear vHC
                  have zvC := bvC.size
                  replace HJ := Lib.hid (HJ.out.below bvC)
                  replace HS := Lib.hid (bel_trans' HS.out bvC)
                  clear bvC
                  refine hJ.out _ _ HS.out (fun _ => ?_)
                  clear hJ J
                  go_simp
                  refine wpAnyH_ready (rs := [11]) (by kernel_rfl) (by simp) (AllReadyH.cons rfl (fun J hJ => ?r4a) AllReadyH.nil)
                  case r4a =>
                    go_simp
                    refine (join_any Aj Ac _ cj (putN c).length cc ([x] ++ putN t) (putN c) vC rfl rfl (by have := HLt.out.2; simp; omega) (by have := HLc.out.2; omega) HJ.out HC.out).mono ?_
                    rintro e vE ⟨u, rfl, st⟩
                    have St := Lib.hid (HW.out HS.out.size st HS.out)
                    have bvE := st.old
                    clear st
                    have zvE := bvE.size
                    replace HS := Lib.hid (bel_trans' HS.out bvE)
                    clear bvE
                    refine hJ.out _ _ HS.out (fun _ => ?_)
                    clear hJ J
                    go_simp
                    refine wpAnyH_take (i := 12) (v := u) rfl (by kernel_rfl) (by kernel_rfl) (by kernel_rfl) (fun _ _ _ h => h) (.inl ⟨rfl, fun V hS => ?t12⟩) HS.out ?_
                    case t12 =>
                      clear hS
                      go_simp
                    go_simp
                    refine wpAnyH_done (by kernel_rfl) ?_ _
                    go_wp2_with fail
                    go_meet
                    exact ⟨_, rfl, St.out⟩
          case r0b =>
            go_simp
            refine (specPut_any t v1).mono ?_
            rintro e v2 ⟨At, ct, rfl, vHT, bv2⟩
            have HT := Lib.hid vHT.bi
            clear vHT
            have zv2 := bv2.size
            replace HS := Lib.hid (bel_trans' HS.out bv2)
            clear bv2
            refine hJ.out _ _ HS.out (fun _ => ?_)
            clear hJ J
            go_simp
            refine wpAnyH_ready (rs := [3]) (by kernel_rfl) (by simp) (AllReadyH.cons rfl (fun J hJ => ?r1a) AllReadyH.nil)
            case r1a =>
              go_simp
              obtain ⟨v3, hv3⟩ : ∃ W', v2.alloc (.cells #[.int .u8 x] 5) = W' := ⟨_, rfl⟩
              have bv3 : Below v2.heap.size v2 v3 := by rw [← hv3]; exact bel_alloc _ _
              have HK : Hid (BI v3 (some ⟨v2.heap.size, 0, none⟩) [x]) := by show BI _ _ _; rw [← hv3]; exact one_bi _ _ _
              rw [hv3]
              have zv3 := bv3.size
              replace HT := Lib.hid (HT.out.below bv3)
              replace HS := Lib.hid (bel_trans' HS.out bv3)
              clear bv3
              refine hJ.out _ _ HS.out (fun _ => ?_)
              clear hJ J
              go_simp
              refine wpAnyH_ready (rs := [7]) (by kernel_rfl) (by simp) (AllReadyH.cons rfl (fun J hJ => ?r2a) AllReadyH.nil)
              case r2a =>
                go_simp
                refine (join_any (some ⟨v2.heap.size, 0, none⟩) At 1 1 (putN t).length ct [x] (putN t) v3 rfl rfl (by omega) (by have := HLt.out.2; omega) HK.out HT.out).mono ?_
                rintro e vJ ⟨u1, rfl, st⟩
                have bvJ := st.old
                obtain ⟨Aj, cj, rfl, vj⟩ := st.form
                have HJ := Lib.hid vj.bi
                clear st vj
                have zvJ := bvJ.size
                replace HS := Lib.hid (bel_trans' HS.out bvJ)
                clear bvJ
                refine hJ.out _ _ HS.out (fun _ => ?_)
                clear hJ J
                go_simp
                refine wpAnyH_ready (rs := [10]) (by kernel_rfl) (by simp) (AllReadyH.cons rfl (fun J hJ => ?r3a) AllReadyH.nil)
                case r3a =>
                  go_simp
                  refine (specPut_any c vJ).mono ?_
                  rintro e vC ⟨Ac, cc, rfl, vHC, bvC⟩
                  have HC := Lib.hid vHC.bi
                  clear vHC
                  have zvC := bvC.size
                  replace HJ := Lib.hid (HJ.out.below bvC)
                  replace HS := Lib.hid (bel_trans' HS.out bvC)
                  clear bvC
                  refine hJ.out _ _ HS.out (fun _ => ?_)
                  clear hJ J
                  go_simp
                  refine wpAnyH_ready (rs := [11]) (by kernel_rfl) (by simp) (AllReadyH.cons rfl (fun J hJ => ?r4a) AllReadyH.nil)
                  case r4a =>
                    go_simp
                    refine (join_any Aj Ac _ cj (putN c).length cc ([x] ++ putN t) (putN c) vC rfl rfl (by have := HLt.out.2; simp; omega) (by have := HLc.out.2; omega) HJ.out HC.out).mono ?_
                    rintro e vE ⟨u, rfl, st⟩
                    have St := Lib.hid (HW.out HS.out.size st HS.out)
                    have bvE := st.old
                    clear st
                    have zvE := bvE.size
                    replace HS := Lib.hid (bel_trans' HS.out bvE)
                    clear bvE
                    refine hJ.out _ _ HS.out (fun _ => ?_)
                    clear hJ J
                    go_simp
                    refine wpAnyH_take (i := 12) (v := u) rfl (by kernel_rfl) (by kernel_rfl) (by kernel_rfl) (fun _ _ _ h => h) (.inl ⟨rfl, fun V hS => ?t12⟩) HS.out ?_
                    case t12 =>
                      clear hS
                      go_simp
                    go_simp
                    refine wpAnyH_done (by kernel_rfl) ?_ _
                    go_wp2_with fail
                    go_meet
                    exact ⟨_, rfl, St.out⟩
        case rest =>
          obtain ⟨u, rfl, st⟩ := hcut
          have St := Lib.hid st
          clear st HX0
          go_wp2_with fail
          go_ret
          exact NewP.of St.out (by simp)
  · have hin : Tick.inB x 0 11 = false := Tick.inB_false (by omega)
    have e0 : putE (x, t, c) = [] := putE_no (by rintro ⟨h0, h1, _, _⟩; exact hx ⟨h0, h1⟩)
    rw [e0]
    clear e0 hx
    go_enter Tryd.func33, Tryd.ntmps33
    go_wp2_with fail
    refine (Tick.in_any x 0 11 _).mono ?_
    rw [hin]
    rintro e w1 ⟨rfl, rfl⟩
    go_wp2_with fail
    go_ret
    exact NewP.nil (by first | exact bel_alloc _ _ | exact bel_trans (bel_alloc _ _) (bel_alloc _ _))
end Go.Proofs.YtcgmeindiaaokaaDoor.By
