/- ConnDue, the program's and the reference's. -/
import Derived.Test.YtbmfleakldhabaaKnC
import Derived.Test.YtbmfleakldhabaaCfg1
namespace Go.Proofs.Ytbmfleakldhabaa.Kn
open Go.RowKit Go.Deep Base Tick

theorem due_drop (now : Int) (l : List (Int × Int × Int)) (i : Nat) (h : i < l.length) : dueL now (l.drop i) = if dueT (l.getD i (0, 0, 0)).2.1 (l.getD i (0, 0, 0)).2.2 now = true then (l.getD i (0, 0, 0)).1 else dueL now (l.drop (i + 1)) := by
  rw [List.drop_eq_getElem_cons h]
  have e : l.getD i (0, 0, 0) = l[i] := by simp [List.getD_eq_getElem?_getD, h]
  rw [e]
  rfl

set_option maxRecDepth 100000 in
set_option maxHeartbeats 4000000 in
theorem implConnDue_any (c k : Nat → Int) (t : Bool) (now : Int) (w : World) : Calls Try.prog 15 #[.agg #[.int .i64 (c 0), .int .i64 (c 1), .int .i64 (c 2), .int .i64 (c 3), .int .i64 (c 4), .int .i64 (c 5), .int .i64 (c 6), .int .i64 (c 7), .int .i64 (c 8), .int .i64 (c 9), .int .i64 (c 10), .int .i64 (c 11), .int .i64 (c 12), .int .i64 (c 13)], .agg #[.int .i64 (k 0), .int .i64 (k 1), .int .i64 (k 2), .int .i64 (k 3), .int .i64 (k 4), .bool t], .int .i64 now] w fun e w' => e = .returned (.int .i64 (dueL now (dlL c k t))) ∧ Below w.heap.size w w' := by
  have HL := Lib.hid (fun W => deadlines_any c k t W)
  have hf := dl_few c k t
  generalize dlL c k t = l at HL hf
  obtain ⟨n, hn⟩ : ∃ n, l.length = n := ⟨_, rfl⟩
  have Hn := Lib.hid hn
  rw [hn] at hf
  clear hn
  go_enter Try.func15, Try.ntmps15
  go_wp2_with fail
  refine (HL.out _).mono ?_
  rintro e w1 ⟨A, rfl, hd, b1⟩
  have HV := Lib.hid hd
  have B := Lib.hid (bel_trans (bel_trans (bel_alloc _ _) (bel_alloc _ _)) b1)
  clear hd b1
  rw [Hn.out]
  go_wp2
  go_loopw [13] (fun i wr => ∃ j : Nat, j ≤ n ∧ i = .int .i64 j ∧ dueL now (l.drop j) = dueL now l ∧ Below w.heap.size w wr ∧ DlV A l wr) (fun i _ => n - (intOf i).toNat)
  case atStart => exact ⟨0, Nat.zero_le _, rfl, rfl, B.out, HV.out⟩
  case round =>
    obtain ⟨j, hj, rfl, hdu, hb, hv⟩ := hrel
    have HB := Lib.hid hb
    have HDu := Lib.hid hdu
    have HVr := Lib.hid hv
    clear hb hdu
    by_cases hlt : j < n
    · obtain ⟨g, rfl, hc⟩ := hv (by have := Hn.out; omega)
      obtain ⟨y0, y1, y2⟩ := hc j (by have := Hn.out; omega)
      clear hc
      have Hs := Lib.hid (due_drop now l j (by have := Hn.out; omega))
      obtain ⟨⟨a, f, s⟩, hd⟩ : ∃ d, l.getD j (0, 0, 0) = d := ⟨_, rfl⟩
      rw [hd] at y0 y1 y2 Hs
      dsimp only at y0 y1 y2 Hs
      clear hd
      go_wp2_with fail
      refine (implDueAt_any f s now _).mono ?_
      rintro e w2 ⟨rfl, b2⟩
      have zr : wr.heap.size < w2.heap.size := by have := b2.size; simp at this; omega
      have r2 : w2.heap[wr.heap.size]? = some (.cells #[.int .i64 a, .int .i64 f, .int .i64 s] 47 (0, 0)) := (b2.block _ (by simp)).trans (heap_alloc_new _ _)
      have q0 : w2.cell? ⟨wr.heap.size, 0, none⟩ = some (.int .i64 a) := cell_of_row _ _ 0 _ _ (0, 0) r2
      have HB2 := Lib.hid (HB.out.trans ((bel_trans (bel_alloc _ _) b2).mono HB.out.size))
      have HV2 := Lib.hid (HVr.out.below (bel_trans (bel_alloc _ _) b2))
      clear b2 r2 y0 y1 y2
      cases hdt : dueT f s now
      · have Hr : Hid (dueL now (l.drop (j + 1)) = dueL now l) := by
          show _ = _
          have := Hs.out
          rw [hdt, HDu.out] at this
          exact this.symm
        clear hdt
        go_wp2
        go_roundw
        case rel => exact ⟨j + 1, by omega, by go_num, Hr.out, HB2.out, HV2.out⟩
        case measure => simp [intOf]; omega
      · have Hr : Hid (a = dueL now l) := by
          show _ = _
          have := Hs.out
          rw [hdt, HDu.out] at this
          exact this.symm
        clear hdt
        go_wp2
        go_ret
        exact ⟨by rw [← Hr.out]; rfl, HB2.out⟩
    · obtain rfl : j = n := by omega
      have Hr : Hid (0 = dueL now l) := by
        show _ = _
        have := HDu.out
        rw [List.drop_of_length_le (by have := Hn.out; omega)] at this
        exact this
      go_wp2
      go_ret
      exact ⟨by rw [← Hr.out]; rfl, HB.out⟩

set_option maxRecDepth 100000 in
set_option maxHeartbeats 4000000 in
theorem specConnDue_any (c k : Nat → Int) (t : Bool) (now : Int) (w : World) : Calls Try.prog 13 #[.agg #[.int .i64 (c 0), .int .i64 (c 1), .int .i64 (c 2), .int .i64 (c 3), .int .i64 (c 4), .int .i64 (c 5), .int .i64 (c 6), .int .i64 (c 7), .int .i64 (c 8), .int .i64 (c 9), .int .i64 (c 10), .int .i64 (c 11), .int .i64 (c 12), .int .i64 (c 13)], .agg #[.int .i64 (k 0), .int .i64 (k 1), .int .i64 (k 2), .int .i64 (k 3), .int .i64 (k 4), .bool t], .int .i64 now] w fun e w' => e = .returned (.int .i64 (dueL now (dlL c k t))) ∧ Below w.heap.size w w' := by
  have HD : Hid (dlL c k t = (if (Cf.okC c && okN k t) = true then (if k 1 = 1 then [(1, k 2, c 3), (2, k 3, c 4), (3, k 3, c 5)] else if k 1 = 3 ∧ t = false then [(4, k 3, c 6)] else []) else [])) := rfl
  have B : Hid (Below w.heap.size w ((w.alloc (.cells #[.int .i64 (c 0), .int .i64 (c 1), .int .i64 (c 2), .int .i64 (c 3), .int .i64 (c 4), .int .i64 (c 5), .int .i64 (c 6), .int .i64 (c 7), .int .i64 (c 8), .int .i64 (c 9), .int .i64 (c 10), .int .i64 (c 11), .int .i64 (c 12), .int .i64 (c 13)] 35)).alloc (.cells #[.int .i64 (k 0), .int .i64 (k 1), .int .i64 (k 2), .int .i64 (k 3), .int .i64 (k 4), .bool t] 25))) := Lib.hid (bel_trans (bel_alloc _ _) (bel_alloc _ _))
  have HC : Hid (((w.alloc (.cells #[.int .i64 (c 0), .int .i64 (c 1), .int .i64 (c 2), .int .i64 (c 3), .int .i64 (c 4), .int .i64 (c 5), .int .i64 (c 6), .int .i64 (c 7), .int .i64 (c 8), .int .i64 (c 9), .int .i64 (c 10), .int .i64 (c 11), .int .i64 (c 12), .int .i64 (c 13)] 35)).alloc (.cells #[.int .i64 (k 0), .int .i64 (k 1), .int .i64 (k 2), .int .i64 (k 3), .int .i64 (k 4), .bool t] 25)).heap[w.heap.size]? = some (.cells #[.int .i64 (c 0), .int .i64 (c 1), .int .i64 (c 2), .int .i64 (c 3), .int .i64 (c 4), .int .i64 (c 5), .int .i64 (c 6), .int .i64 (c 7), .int .i64 (c 8), .int .i64 (c 9), .int .i64 (c 10), .int .i64 (c 11), .int .i64 (c 12), .int .i64 (c 13)] 35 (0, 0))) := ((bel_alloc _ _).block _ (by simp)).trans (heap_alloc_new w _)
  have HK : Hid (KC (w.heap.size + 1) k t ((w.alloc (.cells #[.int .i64 (c 0), .int .i64 (c 1), .int .i64 (c 2), .int .i64 (c 3), .int .i64 (c 4), .int .i64 (c 5), .int .i64 (c 6), .int .i64 (c 7), .int .i64 (c 8), .int .i64 (c 9), .int .i64 (c 10), .int .i64 (c 11), .int .i64 (c 12), .int .i64 (c 13)] 35)).alloc (.cells #[.int .i64 (k 0), .int .i64 (k 1), .int .i64 (k 2), .int .i64 (k 3), .int .i64 (k 4), .bool t] 25))) := by
    have := KC.new k t (w.alloc (.cells #[.int .i64 (c 0), .int .i64 (c 1), .int .i64 (c 2), .int .i64 (c 3), .int .i64 (c 4), .int .i64 (c 5), .int .i64 (c 6), .int .i64 (c 7), .int .i64 (c 8), .int .i64 (c 9), .int .i64 (c 10), .int .i64 (c 11), .int .i64 (c 12), .int .i64 (c 13)] 35)) 25
    rw [World.size_alloc] at this
    exact this
  go_enter Try.func13, Try.ntmps13
  go_wp2_with fail
  obtain ⟨W0, hW0⟩ : ∃ W0, (w.alloc (.cells #[.int .i64 (c 0), .int .i64 (c 1), .int .i64 (c 2), .int .i64 (c 3), .int .i64 (c 4), .int .i64 (c 5), .int .i64 (c 6), .int .i64 (c 7), .int .i64 (c 8), .int .i64 (c 9), .int .i64 (c 10), .int .i64 (c 11), .int .i64 (c 12), .int .i64 (c 13)] 35)).alloc (.cells #[.int .i64 (k 0), .int .i64 (k 1), .int .i64 (k 2), .int .i64 (k 3), .int .i64 (k 4), .bool t] 25) = W0 := ⟨_, rfl⟩
  rw [hW0] at B HC HK ⊢
  clear hW0
  refine (Cf.specConfigOk_any c _).mono ?_
  rintro e w1 ⟨rfl, b1⟩
  have z0 : w.heap.size + 1 < W0.heap.size := HK.out.lt
  replace B := Lib.hid (bel_trans B.out b1)
  replace HC := Lib.hid ((b1.block _ (by omega)).trans HC.out)
  replace HK := Lib.hid (HK.out.below b1)
  clear b1 z0
  cases h0 : Cf.okC c
  · have Hr : Hid (dueL now (dlL c k t) = 0) := by show _ = _; rw [HD.out, h0]; rfl
    clear h0
    go_wp2
    go_ret
    exact ⟨by rw [Hr.out]; rfl, B.out⟩
  have H0 := Lib.hid h0
  clear h0
  obtain ⟨c0, c1, c2, c3, c4, c5⟩ := HK.out
  go_wp2_with fail
  refine (specConnOk_any k t _).mono ?_
  rintro e w2 ⟨rfl, b2⟩
  have z1 : w.heap.size + 1 < w1.heap.size := HK.out.lt
  replace B := Lib.hid (bel_trans B.out b2)
  replace HC := Lib.hid ((b2.block _ (by omega)).trans HC.out)
  replace HK := Lib.hid (HK.out.below b2)
  clear b2 z1 c0 c1 c2 c3 c4 c5
  cases h1 : okN k t
  · have Hr : Hid (dueL now (dlL c k t) = 0) := by show _ = _; rw [HD.out, H0.out, h1]; rfl
    clear h1
    go_wp2
    go_ret
    exact ⟨by rw [Hr.out]; rfl, B.out⟩
  have HD2 : Hid (dlL c k t = (if k 1 = 1 then [(1, k 2, c 3), (2, k 3, c 4), (3, k 3, c 5)] else if k 1 = 3 ∧ t = false then [(4, k 3, c 6)] else [])) := by show _ = _; rw [HD.out, H0.out, h1]; rfl
  clear h1
  obtain ⟨c0, c1, c2, c3, c4, c5⟩ := HK.out
  have x0 : w2.cell? ⟨w.heap.size, 0, none⟩ = some (.int .i64 (c 0)) := cell_of_row _ _ 0 _ _ (0, 0) HC.out
  have x1 : w2.cell? ⟨w.heap.size, 1, none⟩ = some (.int .i64 (c 1)) := cell_of_row _ _ 1 _ _ (0, 0) HC.out
  have x2 : w2.cell? ⟨w.heap.size, 2, none⟩ = some (.int .i64 (c 2)) := cell_of_row _ _ 2 _ _ (0, 0) HC.out
  have x3 : w2.cell? ⟨w.heap.size, 3, none⟩ = some (.int .i64 (c 3)) := cell_of_row _ _ 3 _ _ (0, 0) HC.out
  have x4 : w2.cell? ⟨w.heap.size, 4, none⟩ = some (.int .i64 (c 4)) := cell_of_row _ _ 4 _ _ (0, 0) HC.out
  have x5 : w2.cell? ⟨w.heap.size, 5, none⟩ = some (.int .i64 (c 5)) := cell_of_row _ _ 5 _ _ (0, 0) HC.out
  have x6 : w2.cell? ⟨w.heap.size, 6, none⟩ = some (.int .i64 (c 6)) := cell_of_row _ _ 6 _ _ (0, 0) HC.out
  have x7 : w2.cell? ⟨w.heap.size, 7, none⟩ = some (.int .i64 (c 7)) := cell_of_row _ _ 7 _ _ (0, 0) HC.out
  have x8 : w2.cell? ⟨w.heap.size, 8, none⟩ = some (.int .i64 (c 8)) := cell_of_row _ _ 8 _ _ (0, 0) HC.out
  have x9 : w2.cell? ⟨w.heap.size, 9, none⟩ = some (.int .i64 (c 9)) := cell_of_row _ _ 9 _ _ (0, 0) HC.out
  have x10 : w2.cell? ⟨w.heap.size, 10, none⟩ = some (.int .i64 (c 10)) := cell_of_row _ _ 10 _ _ (0, 0) HC.out
  have x11 : w2.cell? ⟨w.heap.size, 11, none⟩ = some (.int .i64 (c 11)) := cell_of_row _ _ 11 _ _ (0, 0) HC.out
  have x12 : w2.cell? ⟨w.heap.size, 12, none⟩ = some (.int .i64 (c 12)) := cell_of_row _ _ 12 _ _ (0, 0) HC.out
  have x13 : w2.cell? ⟨w.heap.size, 13, none⟩ = some (.int .i64 (c 13)) := cell_of_row _ _ 13 _ _ (0, 0) HC.out
  by_cases h2 : k 1 = 1
  · have Hl : Hid (dlL c k t = [(1, k 2, c 3), (2, k 3, c 4), (3, k 3, c 5)]) := by show _ = _; rw [HD2.out, if_pos h2]
    have h2b : (k 1 == 1) = true := by simpa using h2
    have h3b : (k 1 == 3) = false := by rw [h2]; rfl
    clear h2
    go_wp2_with fail
    refine (specDueAt_any _ _ _ _).mono ?_
    rintro e w' ⟨rfl, rfl⟩
    cases d1 : dueT (k 2) (c 3) now
    · have D1 := Lib.hid d1
      clear d1
      go_wp2_with fail
      refine (specDueAt_any _ _ _ _).mono ?_
      rintro e w' ⟨rfl, rfl⟩
      cases d2 : dueT (k 3) (c 4) now
      · have D2 := Lib.hid d2
        clear d2
        go_wp2_with fail
        refine (specDueAt_any _ _ _ _).mono ?_
        rintro e w' ⟨rfl, rfl⟩
        cases d3 : dueT (k 3) (c 5) now
        · have Hr : Hid (dueL now (dlL c k t) = 0) := by show _ = _; rw [Hl.out]; simp only [dueL, D1.out, D2.out, d3]; rfl
          clear d3
          go_wp2
          go_ret
          exact ⟨by rw [Hr.out]; rfl, B.out⟩
        · have Hr : Hid (dueL now (dlL c k t) = 3) := by show _ = _; rw [Hl.out]; simp only [dueL, D1.out, D2.out, d3]; rfl
          clear d3
          go_wp2
          go_ret
          exact ⟨by rw [Hr.out]; rfl, B.out⟩
      · have Hr : Hid (dueL now (dlL c k t) = 2) := by show _ = _; rw [Hl.out]; simp only [dueL, D1.out, d2]; rfl
        clear d2
        go_wp2
        go_ret
        exact ⟨by rw [Hr.out]; rfl, B.out⟩
    · have Hr : Hid (dueL now (dlL c k t) = 1) := by show _ = _; rw [Hl.out]; simp only [dueL, d1]; rfl
      clear d1
      go_wp2
      go_ret
      exact ⟨by rw [Hr.out]; rfl, B.out⟩
  have h2b : (k 1 == 1) = false := by simpa using h2
  by_cases h3 : k 1 = 3
  · have h3b : (k 1 == 3) = true := by simpa using h3
    cases t
    · have Hl : Hid (dlL c k false = [(4, k 3, c 6)]) := by show _ = _; rw [HD2.out, if_neg h2, if_pos ⟨h3, rfl⟩]
      clear h2 h3
      go_wp2_with fail
      refine (specDueAt_any _ _ _ _).mono ?_
      rintro e w' ⟨rfl, rfl⟩
      cases d1 : dueT (k 3) (c 6) now
      · have Hr : Hid (dueL now (dlL c k false) = 0) := by show _ = _; rw [Hl.out]; simp only [dueL, d1]; rfl
        clear d1
        go_wp2
        go_ret
        exact ⟨by rw [Hr.out]; rfl, B.out⟩
      · have Hr : Hid (dueL now (dlL c k false) = 4) := by show _ = _; rw [Hl.out]; simp only [dueL, d1]; rfl
        clear d1
        go_wp2
        go_ret
        exact ⟨by rw [Hr.out]; rfl, B.out⟩
    · have Hr : Hid (dueL now (dlL c k true) = 0) := by show _ = _; rw [HD2.out, if_neg h2, if_neg (fun h => by cases h.2)]; rfl
      clear h2 h3
      go_wp2
      go_ret
      exact ⟨by rw [Hr.out]; rfl, B.out⟩
  · have h3b : (k 1 == 3) = false := by simpa using h3
    have Hr : Hid (dueL now (dlL c k t) = 0) := by show _ = _; rw [HD2.out, if_neg h2, if_neg (fun h => h3 h.1)]; rfl
    clear h2 h3
    go_wp2
    go_ret
    exact ⟨by rw [Hr.out]; rfl, B.out⟩
end Go.Proofs.Ytbmfleakldhabaa.Kn
