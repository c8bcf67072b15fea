/- The program's NextConnDue. -/
import Derived.Test.YtbmfleakldhabaaDoorKnC
import Derived.Test.YtbmfleakldhabaaDoorSoo
import Derived.Test.YtbmfleakldhabaaDoorRowC
namespace Go.Proofs.YtbmfleakldhabaaDoor.Kn
open Go.RowKit Go.Deep Base Tick Rw

/-- The ticks at which something may be due. -/
def tkL : List (Int × Int × Int) → List Int
  | [] => []
  | d :: r => (if 0 < d.2.2 then [addT d.2.1 d.2.2] else []) ++ tkL r
def nextL (l : List (Int × Int × Int)) : Int := soonF (tkL l).length (tkL l)

theorem tk_append (a b : List (Int × Int × Int)) : tkL (a ++ b) = tkL a ++ tkL b := by
  induction a with
  | nil => rfl
  | cons d r ih => simp only [List.cons_append, tkL, ih, List.append_assoc]
theorem tk_succ (l : List (Int × Int × Int)) (i : Nat) (h : i < l.length) : tkL (l.take (i + 1)) = tkL (l.take i) ++ (if 0 < (l.getD i (0, 0, 0)).2.2 then [addT (l.getD i (0, 0, 0)).2.1 (l.getD i (0, 0, 0)).2.2] else []) := by
  rw [List.take_succ_eq_append_getElem h, tk_append]
  have e : l.getD i (0, 0, 0) = l[i] := by simp [List.getD_eq_getElem?_getD, h]
  rw [e]
  simp [tkL]
theorem tk_few (l : List (Int × Int × Int)) : (tkL l).length ≤ l.length := by
  induction l with
  | nil => exact Nat.le_refl _
  | cons d r ih =>
    simp only [tkL, List.length_append, List.length_cons]
    split <;> simp <;> omega

set_option maxRecDepth 100000 in
set_option maxHeartbeats 4000000 in
theorem implNextConnDue_any (c k : Nat → Int) (t : Bool) (w : World) : Calls Tryd.prog 15 #[.agg #[.int .i64 (c 0), .int .i64 (c 1), .int .i64 (c 2), .int .i64 (c 3), .int .i64 (c 4), .int .i64 (c 5), .int .i64 (c 6), .int .i64 (c 7), .int .i64 (c 8), .int .i64 (c 9), .int .i64 (c 10), .int .i64 (c 11), .int .i64 (c 12), .int .i64 (c 13)], .agg #[.int .i64 (k 0), .int .i64 (k 1), .int .i64 (k 2), .int .i64 (k 3), .int .i64 (k 4), .bool t]] w fun e w' => e = .returned (.int .i64 (nextL (dlL c k t))) ∧ Below w.heap.size w w' := by
  have HL := Lib.hid (fun W => deadlines_any c k t W)
  have hf := dl_few c k t
  generalize dlL c k t = l at HL hf
  obtain ⟨n, hn⟩ : ∃ n, l.length = n := ⟨_, rfl⟩
  have Hn := Lib.hid hn
  rw [hn] at hf
  clear hn
  have HX : Hid (nextL l = soonF (tkL l).length (tkL l)) := rfl
  go_enter Tryd.func15, Tryd.ntmps15
  go_wp2_with fail
  refine (HL.out _).mono ?_
  rintro e w1 ⟨A, rfl, hd, b1⟩
  have HV := Lib.hid hd
  have B := Lib.hid (bel_trans (bel_trans (bel_alloc _ _) (bel_alloc _ _)) b1)
  clear hd b1
  rw [Hn.out]
  go_wp2
  go_loopw [5, 12] (fun v i wr => ∃ (u : Value) (j : Nat), u = v ∧ j ≤ n ∧ i = .int .i64 j ∧ ListSt w1.heap.size w1 wr u (tkL (l.take j))) (fun _ i _ => n - (intOf i).toNat)
  case atStart => exact ⟨_, 0, rfl, Nat.zero_le _, rfl, ListSt.nil w1⟩
  case round =>
    obtain ⟨u, j, rfl, hj, rfl, hst⟩ := hrel
    have hle : (tkL (l.take j)).length ≤ 3 := by have := tk_few (l.take j); rw [List.length_take] at this; omega
    have hvr : DlV A l wr := by
      intro hp
      obtain ⟨g, e, h1⟩ := HV.out hp
      exact ⟨g, e, fun i hi => ⟨nkeep (h1 i hi).1 hst.old, nkeep (h1 i hi).2.1 hst.old, nkeep (h1 i hi).2.2 hst.old⟩⟩
    have zr : w1.heap.size ≤ wr.heap.size := hst.old.size
    by_cases hlt : j < n
    · obtain ⟨g, rfl, hc⟩ := hvr (by have := Hn.out; omega)
      obtain ⟨y0, y1, y2⟩ := hc j (by have := Hn.out; omega)
      clear hc
      have Hs := Lib.hid (tk_succ l j (by have := Hn.out; omega))
      obtain ⟨⟨a, f, s⟩, hd⟩ : ∃ d, l.getD j (0, 0, 0) = d := ⟨_, rfl⟩
      rw [hd] at y0 y1 y2 Hs
      dsimp only at y0 y1 y2 Hs
      clear hd
      generalize tkL (l.take j) = ids at hst Hs hle
      have Hst := Lib.hid hst
      have Hle := Lib.hid hle
      clear hst hle
      by_cases hs : 0 < s
      · have He : Hid (tkL (l.take (j + 1)) = ids ++ [addT f s]) := by show _ = _; rw [Hs.out, if_pos hs]
        obtain ⟨A', cap', rfl⟩ := owns_form Hst.out.own
        obtain ⟨i0, hi0, hz0, hz1, hz2⟩ := info_parts infoInt
        have Hi0 := Lib.hid hi0
        have Hz0 := Lib.hid hz0
        have Hz1 := Lib.hid hz1
        have Hz2 := Lib.hid hz2
        clear hi0 hz0 hz1 hz2
        go_wp2_with fail
        refine (implAddTick_any f s _).mono ?_
        rintro e w2 ⟨rfl, b2⟩
        replace Hst := Lib.hid ((Hst.out.keep zr (bel_alloc _ _)).keep (by simp; omega) b2)
        have z2 : wr.heap.size < w2.heap.size := by have := b2.size; simp at this; omega
        clear b2 y0 y1 y2
        go_wp2_with (at_builtin; refine wpList_append_own _ rfl _ _ 29 rfl w1.heap.size 3 i0 (.int .i64 0) 1 8 Tryd.underlying29 Hi0.out Hz0.out Hz1.out Hz2.out rfl (by decide) _ _ _ rfl (Hst.out.own.alloc _) ⟨w2.heap.size, 0, none⟩ 1 1 [.int .i64 (addT f s)] rfl rfl ?c1h ?c2h ?c3h ?c4h ?c5h ?_)
        case c1h => exact new_one_at rfl _ _
        case c2h => simp [Value.oneCell']
        case c3h => have := Hle.out; unfold maxLen; omega
        case c4h => have := Hle.out; omega
        case c5h => simp; omega
        · intro v' w4 hown hg _
          have hst1 := Hst.out.step rfl hown hg
          rw [← He.out] at hst1
          have HQ := Lib.hid hst1
          clear hst1 hown hg
          go_wp2
          go_roundw
          case rel => exact ⟨_, j + 1, rfl, by omega, by go_num, HQ.out⟩
          case measure => simp [intOf]; omega
      · have He : Hid (tkL (l.take (j + 1)) = ids) := by show _ = _; rw [Hs.out, if_neg hs, List.append_nil]
        have HQ : Hid (ListSt w1.heap.size w1 (wr.alloc (.cells #[.int .i64 a, .int .i64 f, .int .i64 s] 66)) u (tkL (l.take (j + 1)))) := by
          show ListSt _ _ _ _ _
          rw [He.out]
          exact Hst.out.keep zr (bel_alloc _ _)
        go_wp2
        go_roundw
        case rel => exact ⟨_, j + 1, rfl, by omega, by go_num, HQ.out⟩
        case measure => simp [intOf]; omega
    · obtain rfl : j = n := by omega
      have Hst := Lib.hid hst
      clear hst hvr
      have hl : tkL (l.take j) = tkL l := by rw [List.take_of_length_le (by have := Hn.out; omega)]
      rw [hl] at Hst hle
      obtain ⟨A', cap', rfl⟩ := owns_form Hst.out.own
      go_wp2_with fail
      refine (implSoonestOf_any A' _ cap' (tkL l) _ rfl (by omega) (iv_owns Hst.out.own).ints).mono ?_
      rintro e w2 ⟨rfl, b2⟩
      have B2 := Lib.hid (B.out.trans ((Hst.out.old.trans (b2.mono zr)).mono B.out.size))
      clear b2
      go_wp2
      go_ret
      exact ⟨by rw [HX.out]; rfl, B2.out⟩
end Go.Proofs.YtbmfleakldhabaaDoor.Kn
