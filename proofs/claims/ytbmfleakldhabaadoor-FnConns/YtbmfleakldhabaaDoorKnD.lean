/- ConnDue, the program's and the reference's. -/
import Derived.Test.YtbmfleakldhabaaDoorKnC
import Derived.Test.YtbmfleakldhabaaDoorCfg1
namespace Go.Proofs.YtbmfleakldhabaaDoor.Kn
open Go.RowKit Go.Deep Base Tick

theorem due_drop (now : Int) (l : List (Int × Int × Int)) (i : Nat) (h : i < l.length) : dueL now (l.drop i) = if dueT (l.getD i (0, 0, 0)).2.1 (l.getD i (0, 0, 0)).2.2 now = true then (l.getD i (0, 0, 0)).1 else dueL now (l.drop (i + 1)) := by
  rw [List.drop_eq_getElem_cons h]
  have e : l.getD i (0, 0, 0) = l[i] := by simp [List.getD_eq_getElem?_getD, h]
  rw [e]
  rfl

set_option maxRecDepth 100000 in
set_option maxHeartbeats 4000000 in
theorem implConnDue_any (c k : Nat → Int) (t : Bool) (now : Int) (w : World) : Calls Tryd.prog 16 #[.agg #[.int .i64 (c 0), .int .i64 (c 1), .int .i64 (c 2), .int .i64 (c 3), .int .i64 (c 4), .int .i64 (c 5), .int .i64 (c 6), .int .i64 (c 7), .int .i64 (c 8), .int .i64 (c 9), .int .i64 (c 10), .int .i64 (c 11), .int .i64 (c 12), .int .i64 (c 13)], .agg #[.int .i64 (k 0), .int .i64 (k 1), .int .i64 (k 2), .int .i64 (k 3), .int .i64 (k 4), .bool t], .int .i64 now] w fun e w' => e = .returned (.int .i64 (dueL now (dlL c k t))) ∧ Below w.heap.size w w' := by
  have HL := Lib.hid (fun W => deadlines_any c k t W)
  have hf := dl_few c k t
  generalize dlL c k t = l at HL hf
  obtain ⟨n, hn⟩ : ∃ n, l.length = n := ⟨_, rfl⟩
  have Hn := Lib.hid hn
  rw [hn] at hf
  clear hn
  go_enter Tryd.func16, Tryd.ntmps16
  go_wp2_with fail
  refine (HL.out _).mono ?_
  rintro e w1 ⟨A, rfl, hd, b1⟩
  have HV := Lib.hid hd
  have B := Lib.hid (bel_trans (bel_trans (bel_alloc _ _) (bel_alloc _ _)) b1)
  clear hd b1
  rw [Hn.out]
  go_wp2
  go_loopw [13] (fun i wr => ∃ j : Nat, j ≤ n ∧ i = .int .i64 j ∧ dueL now (l.drop j) = dueL now l ∧ Below w.heap.size w wr ∧ DlV A l wr) (fun i _ => n - (intOf i).toNat)
  case atStart => exact ⟨0, Nat.zero_le _, rfl, rfl, B.out, HV.out⟩
  case round =>
    obtain ⟨j, hj, rfl, hdu, hb, hv⟩ := hrel
    have HB := Lib.hid hb
    have HDu := Lib.hid hdu
    have HVr := Lib.hid hv
    clear hb hdu
    by_cases hlt : j < n
    · obtain ⟨g, rfl, hc⟩ := hv (by have := Hn.out; omega)
      obtain ⟨y0, y1, y2⟩ := hc j (by have := Hn.out; omega)
      clear hc
      have Hs := Lib.hid (due_drop now l j (by have := Hn.out; omega))
      obtain ⟨⟨a, f, s⟩, hd⟩ : ∃ d, l.getD j (0, 0, 0) = d := ⟨_, rfl⟩
      rw [hd] at y0 y1 y2 Hs
      dsimp only at y0 y1 y2 Hs
      clear hd
      go_wp2_with fail
      refine (implDueAt_any f s now _).mono ?_
      rintro e w2 ⟨rfl, b2⟩
      have zr : wr.heap.size < w2.heap.size := by have := b2.size; simp at this; omega
      have r2 : w2.heap[wr.heap.size]? = some (.cells #[.int .i64 a, .int .i64 f, .int .i64 s] 66 (0, 0)) := (b2.block _ (by simp)).trans (heap_alloc_new _ _)
      have q0 : w2.cell? ⟨wr.heap.size, 0, none⟩ = some (.int .i64 a) := cell_of_row _ _ 0 _ _ (0, 0) r2
      have HB2 := Lib.hid (HB.out.trans ((bel_trans (bel_alloc _ _) b2).mono HB.out.size))
      have HV2 := Lib.hid (HVr.out.below (bel_trans (bel_alloc _ _) b2))
      clear b2 r2 y0 y1 y2
      cases hdt : dueT f s now
      · have Hr : Hid (dueL now (l.drop (j + 1)) = dueL now l) := by
          show _ = _
          have := Hs.out
          rw [hdt, HDu.out] at this
          exact this.symm
        clear hdt
        go_wp2
        go_roundw
        case rel => exact ⟨j + 1, by omega, by go_num, Hr.out, HB2.out, HV2.out⟩
        case measure => simp [intOf]; omega
      · have Hr : Hid (a = dueL now l) := by
          show _ = _
          have := Hs.out
          rw [hdt, HDu.out] at this
          exact this.symm
        clear hdt
        go_wp2
        go_ret
        exact ⟨by rw [← Hr.out]; rfl, HB2.out⟩
    · obtain rfl : j = n := by omega
      have Hr : Hid (0 = dueL now l) := by
        show _ = _
        have := HDu.out
        rw [List.drop_of_length_le (by have := Hn.out; omega)] at this
        exact this
      go_wp2
      go_ret
      exact ⟨by rw [← Hr.out]; rfl, HB.out⟩


end Go.Proofs.YtbmfleakldhabaaDoor.Kn
