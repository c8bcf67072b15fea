/- The reference's NextConnDue. -/
import Derived.Test.YtbmfleakldhabaaKnE
import Derived.Test.YtbmfleakldhabaaCfg1
namespace Go.Proofs.Ytbmfleakldhabaa.Kn
open Go.RowKit Go.Deep Base Tick Rw

theorem tk_pos {a f s : Int} {r : List (Int × Int × Int)} (h : 0 < s) : tkL ((a, f, s) :: r) = addT f s :: tkL r := by
  show (if 0 < s then [addT f s] else []) ++ tkL r = _
  rw [if_pos h]
  rfl
theorem tk_neg {a f s : Int} {r : List (Int × Int × Int)} (h : ¬ 0 < s) : tkL ((a, f, s) :: r) = tkL r := by
  show (if 0 < s then [addT f s] else []) ++ tkL r = _
  rw [if_neg h]
  rfl

set_option maxRecDepth 100000 in
set_option maxHeartbeats 8000000 in
theorem specNextConnDue_any (c k : Nat → Int) (t : Bool) (w : World) : Calls Try.prog 16 #[.agg #[.int .i64 (c 0), .int .i64 (c 1), .int .i64 (c 2), .int .i64 (c 3), .int .i64 (c 4), .int .i64 (c 5), .int .i64 (c 6), .int .i64 (c 7), .int .i64 (c 8), .int .i64 (c 9), .int .i64 (c 10), .int .i64 (c 11), .int .i64 (c 12), .int .i64 (c 13)], .agg #[.int .i64 (k 0), .int .i64 (k 1), .int .i64 (k 2), .int .i64 (k 3), .int .i64 (k 4), .bool t]] w fun e w' => e = .returned (.int .i64 (nextL (dlL c k t))) ∧ Below w.heap.size w w' := by
  have HD : Hid (dlL c k t = (if (Cf.okC c && okN k t) = true then (if k 1 = 1 then [(1, k 2, c 3), (2, k 3, c 4), (3, k 3, c 5)] else if k 1 = 3 ∧ t = false then [(4, k 3, c 6)] else []) else [])) := rfl
  have B : Hid (Below w.heap.size w ((w.alloc (.cells #[.int .i64 (c 0), .int .i64 (c 1), .int .i64 (c 2), .int .i64 (c 3), .int .i64 (c 4), .int .i64 (c 5), .int .i64 (c 6), .int .i64 (c 7), .int .i64 (c 8), .int .i64 (c 9), .int .i64 (c 10), .int .i64 (c 11), .int .i64 (c 12), .int .i64 (c 13)] 35)).alloc (.cells #[.int .i64 (k 0), .int .i64 (k 1), .int .i64 (k 2), .int .i64 (k 3), .int .i64 (k 4), .bool t] 25))) := Lib.hid (bel_trans (bel_alloc _ _) (bel_alloc _ _))
  have HC : Hid (((w.alloc (.cells #[.int .i64 (c 0), .int .i64 (c 1), .int .i64 (c 2), .int .i64 (c 3), .int .i64 (c 4), .int .i64 (c 5), .int .i64 (c 6), .int .i64 (c 7), .int .i64 (c 8), .int .i64 (c 9), .int .i64 (c 10), .int .i64 (c 11), .int .i64 (c 12), .int .i64 (c 13)] 35)).alloc (.cells #[.int .i64 (k 0), .int .i64 (k 1), .int .i64 (k 2), .int .i64 (k 3), .int .i64 (k 4), .bool t] 25)).heap[w.heap.size]? = some (.cells #[.int .i64 (c 0), .int .i64 (c 1), .int .i64 (c 2), .int .i64 (c 3), .int .i64 (c 4), .int .i64 (c 5), .int .i64 (c 6), .int .i64 (c 7), .int .i64 (c 8), .int .i64 (c 9), .int .i64 (c 10), .int .i64 (c 11), .int .i64 (c 12), .int .i64 (c 13)] 35 (0, 0))) := ((bel_alloc _ _).block _ (by simp)).trans (heap_alloc_new w _)
  have HK : Hid (KC (w.heap.size + 1) k t ((w.alloc (.cells #[.int .i64 (c 0), .int .i64 (c 1), .int .i64 (c 2), .int .i64 (c 3), .int .i64 (c 4), .int .i64 (c 5), .int .i64 (c 6), .int .i64 (c 7), .int .i64 (c 8), .int .i64 (c 9), .int .i64 (c 10), .int .i64 (c 11), .int .i64 (c 12), .int .i64 (c 13)] 35)).alloc (.cells #[.int .i64 (k 0), .int .i64 (k 1), .int .i64 (k 2), .int .i64 (k 3), .int .i64 (k 4), .bool t] 25))) := by
    have := KC.new k t (w.alloc (.cells #[.int .i64 (c 0), .int .i64 (c 1), .int .i64 (c 2), .int .i64 (c 3), .int .i64 (c 4), .int .i64 (c 5), .int .i64 (c 6), .int .i64 (c 7), .int .i64 (c 8), .int .i64 (c 9), .int .i64 (c 10), .int .i64 (c 11), .int .i64 (c 12), .int .i64 (c 13)] 35)) 25
    rw [World.size_alloc] at this
    exact this
  go_enter Try.func16, Try.ntmps16
  go_wp2_with fail
  obtain ⟨W0, hW0⟩ : ∃ W0, (w.alloc (.cells #[.int .i64 (c 0), .int .i64 (c 1), .int .i64 (c 2), .int .i64 (c 3), .int .i64 (c 4), .int .i64 (c 5), .int .i64 (c 6), .int .i64 (c 7), .int .i64 (c 8), .int .i64 (c 9), .int .i64 (c 10), .int .i64 (c 11), .int .i64 (c 12), .int .i64 (c 13)] 35)).alloc (.cells #[.int .i64 (k 0), .int .i64 (k 1), .int .i64 (k 2), .int .i64 (k 3), .int .i64 (k 4), .bool t] 25) = W0 := ⟨_, rfl⟩
  rw [hW0] at B HC HK ⊢
  clear hW0
  refine (Cf.specConfigOk_any c _).mono ?_
  rintro e w1 ⟨rfl, b1⟩
  have z0 : w.heap.size + 1 < W0.heap.size := HK.out.lt
  replace B := Lib.hid (bel_trans B.out b1)
  replace HC := Lib.hid ((b1.block _ (by omega)).trans HC.out)
  replace HK := Lib.hid (HK.out.below b1)
  clear b1 z0
  cases h0 : Cf.okC c
  · have Hr : Hid (nextL (dlL c k t) = -1) := by show _ = _; rw [HD.out, h0]; rfl
    clear h0
    go_wp2
    go_ret
    exact ⟨by rw [Hr.out]; rfl, B.out⟩
  have H0 := Lib.hid h0
  clear h0
  obtain ⟨c0, c1, c2, c3, c4, c5⟩ := HK.out
  go_wp2_with fail
  refine (specConnOk_any k t _).mono ?_
  rintro e w2 ⟨rfl, b2⟩
  have z1 : w.heap.size + 1 < w1.heap.size := HK.out.lt
  replace B := Lib.hid (bel_trans B.out b2)
  replace HC := Lib.hid ((b2.block _ (by omega)).trans HC.out)
  replace HK := Lib.hid (HK.out.below b2)
  clear b2 z1 c0 c1 c2 c3 c4 c5
  cases h1 : okN k t
  · have Hr : Hid (nextL (dlL c k t) = -1) := by show _ = _; rw [HD.out, H0.out, h1]; rfl
    clear h1
    go_wp2
    go_ret
    exact ⟨by rw [Hr.out]; rfl, B.out⟩
  have HD2 : Hid (dlL c k t = (if k 1 = 1 then [(1, k 2, c 3), (2, k 3, c 4), (3, k 3, c 5)] else if k 1 = 3 ∧ t = false then [(4, k 3, c 6)] else [])) := by show _ = _; rw [HD.out, H0.out, h1]; rfl
  clear h1
  have z2 : w.heap.size + 1 < w2.heap.size := HK.out.lt
  have z2b : w.heap.size < w2.heap.size := by omega
  obtain ⟨i0, hi0, hz0, hz1, hz2⟩ := info_parts infoInt
  have Hi0 := Lib.hid hi0
  have Hz0 := Lib.hid hz0
  have Hz1 := Lib.hid hz1
  have Hz2 := Lib.hid hz2
  clear hi0 hz0 hz1 hz2
  have Hst := Lib.hid (ListSt.empty w2)
  have Hown0 : Hid (∀ o, ((w2.alloc (.cells #[] 3)).alloc o).ownsRow w2.heap.size 3 1 (.slice (some ⟨w2.heap.size, 0, none⟩) 0 0) 0 []) := fun o => (ListSt.empty w2).own.alloc o
  obtain ⟨c0, c1, c2, c3, c4, c5⟩ := HK.out
  have hcr := HC.out
  have x0 : w2.cell? ⟨w.heap.size, 0, none⟩ = some (.int .i64 (c 0)) := cell_of_row _ _ 0 _ _ (0, 0) hcr
  have x1 : w2.cell? ⟨w.heap.size, 1, none⟩ = some (.int .i64 (c 1)) := cell_of_row _ _ 1 _ _ (0, 0) hcr
  have x2 : w2.cell? ⟨w.heap.size, 2, none⟩ = some (.int .i64 (c 2)) := cell_of_row _ _ 2 _ _ (0, 0) hcr
  have x3 : w2.cell? ⟨w.heap.size, 3, none⟩ = some (.int .i64 (c 3)) := cell_of_row _ _ 3 _ _ (0, 0) hcr
  have x4 : w2.cell? ⟨w.heap.size, 4, none⟩ = some (.int .i64 (c 4)) := cell_of_row _ _ 4 _ _ (0, 0) hcr
  have x5 : w2.cell? ⟨w.heap.size, 5, none⟩ = some (.int .i64 (c 5)) := cell_of_row _ _ 5 _ _ (0, 0) hcr
  have x6 : w2.cell? ⟨w.heap.size, 6, none⟩ = some (.int .i64 (c 6)) := cell_of_row _ _ 6 _ _ (0, 0) hcr
  have x7 : w2.cell? ⟨w.heap.size, 7, none⟩ = some (.int .i64 (c 7)) := cell_of_row _ _ 7 _ _ (0, 0) hcr
  have x8 : w2.cell? ⟨w.heap.size, 8, none⟩ = some (.int .i64 (c 8)) := cell_of_row _ _ 8 _ _ (0, 0) hcr
  have x9 : w2.cell? ⟨w.heap.size, 9, none⟩ = some (.int .i64 (c 9)) := cell_of_row _ _ 9 _ _ (0, 0) hcr
  have x10 : w2.cell? ⟨w.heap.size, 10, none⟩ = some (.int .i64 (c 10)) := cell_of_row _ _ 10 _ _ (0, 0) hcr
  have x11 : w2.cell? ⟨w.heap.size, 11, none⟩ = some (.int .i64 (c 11)) := cell_of_row _ _ 11 _ _ (0, 0) hcr
  have x12 : w2.cell? ⟨w.heap.size, 12, none⟩ = some (.int .i64 (c 12)) := cell_of_row _ _ 12 _ _ (0, 0) hcr
  have x13 : w2.cell? ⟨w.heap.size, 13, none⟩ = some (.int .i64 (c 13)) := cell_of_row _ _ 13 _ _ (0, 0) hcr
  clear hcr
  by_cases h2 : k 1 = 1
  · have Hl : Hid (dlL c k t = [(1, k 2, c 3), (2, k 3, c 4), (3, k 3, c 5)]) := by show _ = _; rw [HD2.out, if_pos h2]
    have h2b : (k 1 == 1) = true := by simpa using h2
    have h3b : (k 1 == 3) = false := by rw [h2]; rfl
    clear h2
    by_cases p0 : 0 < c 3
    · go_wp2_with fail
      refine (specAddTick_any _ _ _).mono ?_
      rintro e w' ⟨rfl, rfl⟩
      clear c0 c1 c2 c3 c4 c5 x0 x1 x2 x3 x4 x5 x6 x7 x8 x9 x10 x11 x12 x13
      go_wp2_with (at_builtin; refine wpList_append_own _ rfl _ _ 48 rfl w2.heap.size 3 i0 (.int .i64 0) 1 8 Try.underlying48 Hi0.out Hz0.out Hz1.out Hz2.out rfl (by decide) _ 0 [] rfl (Hown0.out _) ⟨w2.heap.size + 1, 0, none⟩ 1 1 [.int .i64 (addT (k 2) (c 3))] rfl rfl ?c1h ?c2h ?c3h ?c4h ?c5h ?_)
      case c1h => exact new_one_at (by simp) _ _
      case c2h => simp [Value.oneCell']
      case c3h => decide
      case c4h => decide
      case c5h => simp; omega
      intro v1 wa1 hown hg _
      have hst1 := Hst.out.step (x := addT (k 2) (c 3)) rfl hown hg
      obtain ⟨ids1, hi1⟩ : ∃ ids1, ([] : List Int) ++ [addT (k 2) (c 3)] = ids1 := ⟨_, rfl⟩
      have hle1 : ids1.length ≤ 1 := by rw [← hi1]; simp
      rw [hi1] at hst1
      have HI1 := Lib.hid hi1
      replace Hst := Lib.hid hst1
      have Hle := Lib.hid hle1
      clear hst1 hown hg hi1 hle1
      have zw1 : w2.heap.size ≤ wa1.heap.size := Hst.out.old.size
      obtain ⟨A1, cap1, rfl⟩ := owns_form Hst.out.own
      obtain ⟨c0, c1, c2, c3, c4, c5⟩ := HK.out.below Hst.out.old
      have hcr := (Hst.out.old.block _ (by omega)).trans HC.out
      have x0 : wa1.cell? ⟨w.heap.size, 0, none⟩ = some (.int .i64 (c 0)) := cell_of_row _ _ 0 _ _ (0, 0) hcr
      have x1 : wa1.cell? ⟨w.heap.size, 1, none⟩ = some (.int .i64 (c 1)) := cell_of_row _ _ 1 _ _ (0, 0) hcr
      have x2 : wa1.cell? ⟨w.heap.size, 2, none⟩ = some (.int .i64 (c 2)) := cell_of_row _ _ 2 _ _ (0, 0) hcr
      have x3 : wa1.cell? ⟨w.heap.size, 3, none⟩ = some (.int .i64 (c 3)) := cell_of_row _ _ 3 _ _ (0, 0) hcr
      have x4 : wa1.cell? ⟨w.heap.size, 4, none⟩ = some (.int .i64 (c 4)) := cell_of_row _ _ 4 _ _ (0, 0) hcr
      have x5 : wa1.cell? ⟨w.heap.size, 5, none⟩ = some (.int .i64 (c 5)) := cell_of_row _ _ 5 _ _ (0, 0) hcr
      have x6 : wa1.cell? ⟨w.heap.size, 6, none⟩ = some (.int .i64 (c 6)) := cell_of_row _ _ 6 _ _ (0, 0) hcr
      have x7 : wa1.cell? ⟨w.heap.size, 7, none⟩ = some (.int .i64 (c 7)) := cell_of_row _ _ 7 _ _ (0, 0) hcr
      have x8 : wa1.cell? ⟨w.heap.size, 8, none⟩ = some (.int .i64 (c 8)) := cell_of_row _ _ 8 _ _ (0, 0) hcr
      have x9 : wa1.cell? ⟨w.heap.size, 9, none⟩ = some (.int .i64 (c 9)) := cell_of_row _ _ 9 _ _ (0, 0) hcr
      have x10 : wa1.cell? ⟨w.heap.size, 10, none⟩ = some (.int .i64 (c 10)) := cell_of_row _ _ 10 _ _ (0, 0) hcr
      have x11 : wa1.cell? ⟨w.heap.size, 11, none⟩ = some (.int .i64 (c 11)) := cell_of_row _ _ 11 _ _ (0, 0) hcr
      have x12 : wa1.cell? ⟨w.heap.size, 12, none⟩ = some (.int .i64 (c 12)) := cell_of_row _ _ 12 _ _ (0, 0) hcr
      have x13 : wa1.cell? ⟨w.heap.size, 13, none⟩ = some (.int .i64 (c 13)) := cell_of_row _ _ 13 _ _ (0, 0) hcr
      clear hcr
      by_cases p1 : 0 < c 4
      · go_wp2_with fail
        refine (specAddTick_any _ _ _).mono ?_
        rintro e w' ⟨rfl, rfl⟩
        clear c0 c1 c2 c3 c4 c5 x0 x1 x2 x3 x4 x5 x6 x7 x8 x9 x10 x11 x12 x13
        go_wp2_with (at_builtin; refine wpList_append_own _ rfl _ _ 48 rfl w2.heap.size 3 i0 (.int .i64 0) 1 8 Try.underlying48 Hi0.out Hz0.out Hz1.out Hz2.out rfl (by decide) _ _ _ rfl (Hst.out.own.alloc _) ⟨wa1.heap.size, 0, none⟩ 1 1 [.int .i64 (addT (k 3) (c 4))] rfl rfl ?c1h ?c2h ?c3h ?c4h ?c5h ?_)
        case c1h => exact new_one_at rfl _ _
        case c2h => simp [Value.oneCell']
        case c3h => have := Hle.out; unfold maxLen; omega
        case c4h => have := Hle.out; omega
        case c5h => simp; omega
        intro v2 wa2 hown hg _
        have hst1 := Hst.out.step (x := addT (k 3) (c 4)) rfl hown hg
        obtain ⟨ids2, hi2⟩ : ∃ ids2, ids1 ++ [addT (k 3) (c 4)] = ids2 := ⟨_, rfl⟩
        have hle1 : ids2.length ≤ 2 := by rw [← hi2]; simp; have := Hle.out; omega
        rw [hi2] at hst1
        have HI2 := Lib.hid hi2
        replace Hst := Lib.hid hst1
        replace Hle := Lib.hid hle1
        clear hst1 hown hg hi2 hle1
        have zw2 : w2.heap.size ≤ wa2.heap.size := Hst.out.old.size
        obtain ⟨A2, cap2, rfl⟩ := owns_form Hst.out.own
        obtain ⟨c0, c1, c2, c3, c4, c5⟩ := HK.out.below Hst.out.old
        have hcr := (Hst.out.old.block _ (by omega)).trans HC.out
        have x0 : wa2.cell? ⟨w.heap.size, 0, none⟩ = some (.int .i64 (c 0)) := cell_of_row _ _ 0 _ _ (0, 0) hcr
        have x1 : wa2.cell? ⟨w.heap.size, 1, none⟩ = some (.int .i64 (c 1)) := cell_of_row _ _ 1 _ _ (0, 0) hcr
        have x2 : wa2.cell? ⟨w.heap.size, 2, none⟩ = some (.int .i64 (c 2)) := cell_of_row _ _ 2 _ _ (0, 0) hcr
        have x3 : wa2.cell? ⟨w.heap.size, 3, none⟩ = some (.int .i64 (c 3)) := cell_of_row _ _ 3 _ _ (0, 0) hcr
        have x4 : wa2.cell? ⟨w.heap.size, 4, none⟩ = some (.int .i64 (c 4)) := cell_of_row _ _ 4 _ _ (0, 0) hcr
        have x5 : wa2.cell? ⟨w.heap.size, 5, none⟩ = some (.int .i64 (c 5)) := cell_of_row _ _ 5 _ _ (0, 0) hcr
        have x6 : wa2.cell? ⟨w.heap.size, 6, none⟩ = some (.int .i64 (c 6)) := cell_of_row _ _ 6 _ _ (0, 0) hcr
        have x7 : wa2.cell? ⟨w.heap.size, 7, none⟩ = some (.int .i64 (c 7)) := cell_of_row _ _ 7 _ _ (0, 0) hcr
        have x8 : wa2.cell? ⟨w.heap.size, 8, none⟩ = some (.int .i64 (c 8)) := cell_of_row _ _ 8 _ _ (0, 0) hcr
        have x9 : wa2.cell? ⟨w.heap.size, 9, none⟩ = some (.int .i64 (c 9)) := cell_of_row _ _ 9 _ _ (0, 0) hcr
        have x10 : wa2.cell? ⟨w.heap.size, 10, none⟩ = some (.int .i64 (c 10)) := cell_of_row _ _ 10 _ _ (0, 0) hcr
        have x11 : wa2.cell? ⟨w.heap.size, 11, none⟩ = some (.int .i64 (c 11)) := cell_of_row _ _ 11 _ _ (0, 0) hcr
        have x12 : wa2.cell? ⟨w.heap.size, 12, none⟩ = some (.int .i64 (c 12)) := cell_of_row _ _ 12 _ _ (0, 0) hcr
        have x13 : wa2.cell? ⟨w.heap.size, 13, none⟩ = some (.int .i64 (c 13)) := cell_of_row _ _ 13 _ _ (0, 0) hcr
        clear hcr
        by_cases p2 : 0 < c 5
        · go_wp2_with fail
          refine (specAddTick_any _ _ _).mono ?_
          rintro e w' ⟨rfl, rfl⟩
          clear c0 c1 c2 c3 c4 c5 x0 x1 x2 x3 x4 x5 x6 x7 x8 x9 x10 x11 x12 x13
          go_wp2_with (at_builtin; refine wpList_append_own _ rfl _ _ 48 rfl w2.heap.size 3 i0 (.int .i64 0) 1 8 Try.underlying48 Hi0.out Hz0.out Hz1.out Hz2.out rfl (by decide) _ _ _ rfl (Hst.out.own.alloc _) ⟨wa2.heap.size, 0, none⟩ 1 1 [.int .i64 (addT (k 3) (c 5))] rfl rfl ?c1h ?c2h ?c3h ?c4h ?c5h ?_)
          case c1h => exact new_one_at rfl _ _
          case c2h => simp [Value.oneCell']
          case c3h => have := Hle.out; unfold maxLen; omega
          case c4h => have := Hle.out; omega
          case c5h => simp; omega
          intro v3 wa3 hown hg _
          have hst1 := Hst.out.step (x := addT (k 3) (c 5)) rfl hown hg
          obtain ⟨ids3, hi3⟩ : ∃ ids3, ids2 ++ [addT (k 3) (c 5)] = ids3 := ⟨_, rfl⟩
          have hle1 : ids3.length ≤ 3 := by rw [← hi3]; simp; have := Hle.out; omega
          rw [hi3] at hst1
          have HI3 := Lib.hid hi3
          replace Hst := Lib.hid hst1
          replace Hle := Lib.hid hle1
          clear hst1 hown hg hi3 hle1
          have zw3 : w2.heap.size ≤ wa3.heap.size := Hst.out.old.size
          obtain ⟨A3, cap3, rfl⟩ := owns_form Hst.out.own
          obtain ⟨c0, c1, c2, c3, c4, c5⟩ := HK.out.below Hst.out.old
          have hcr := (Hst.out.old.block _ (by omega)).trans HC.out
          have x0 : wa3.cell? ⟨w.heap.size, 0, none⟩ = some (.int .i64 (c 0)) := cell_of_row _ _ 0 _ _ (0, 0) hcr
          have x1 : wa3.cell? ⟨w.heap.size, 1, none⟩ = some (.int .i64 (c 1)) := cell_of_row _ _ 1 _ _ (0, 0) hcr
          have x2 : wa3.cell? ⟨w.heap.size, 2, none⟩ = some (.int .i64 (c 2)) := cell_of_row _ _ 2 _ _ (0, 0) hcr
          have x3 : wa3.cell? ⟨w.heap.size, 3, none⟩ = some (.int .i64 (c 3)) := cell_of_row _ _ 3 _ _ (0, 0) hcr
          have x4 : wa3.cell? ⟨w.heap.size, 4, none⟩ = some (.int .i64 (c 4)) := cell_of_row _ _ 4 _ _ (0, 0) hcr
          have x5 : wa3.cell? ⟨w.heap.size, 5, none⟩ = some (.int .i64 (c 5)) := cell_of_row _ _ 5 _ _ (0, 0) hcr
          have x6 : wa3.cell? ⟨w.heap.size, 6, none⟩ = some (.int .i64 (c 6)) := cell_of_row _ _ 6 _ _ (0, 0) hcr
          have x7 : wa3.cell? ⟨w.heap.size, 7, none⟩ = some (.int .i64 (c 7)) := cell_of_row _ _ 7 _ _ (0, 0) hcr
          have x8 : wa3.cell? ⟨w.heap.size, 8, none⟩ = some (.int .i64 (c 8)) := cell_of_row _ _ 8 _ _ (0, 0) hcr
          have x9 : wa3.cell? ⟨w.heap.size, 9, none⟩ = some (.int .i64 (c 9)) := cell_of_row _ _ 9 _ _ (0, 0) hcr
          have x10 : wa3.cell? ⟨w.heap.size, 10, none⟩ = some (.int .i64 (c 10)) := cell_of_row _ _ 10 _ _ (0, 0) hcr
          have x11 : wa3.cell? ⟨w.heap.size, 11, none⟩ = some (.int .i64 (c 11)) := cell_of_row _ _ 11 _ _ (0, 0) hcr
          have x12 : wa3.cell? ⟨w.heap.size, 12, none⟩ = some (.int .i64 (c 12)) := cell_of_row _ _ 12 _ _ (0, 0) hcr
          have x13 : wa3.cell? ⟨w.heap.size, 13, none⟩ = some (.int .i64 (c 13)) := cell_of_row _ _ 13 _ _ (0, 0) hcr
          clear hcr
          have HT : Hid (tkL [(1, k 2, c 3), (2, k 3, c 4), (3, k 3, c 5)] = ids3) := by
            show _ = _
            have q0 : 0 < c 3 := by omega
            have q1 : 0 < c 4 := by omega
            have q2 : 0 < c 5 := by omega
            rw [tk_pos q0, tk_pos q1, tk_pos q2, ← HI3.out, ← HI2.out, ← HI1.out]
            first | done | rfl
          have Hr : Hid (nextL (dlL c k t) = soonF (ids3 : List Int).length ids3) := by show _ = _; rw [Hl.out]; unfold nextL; rw [HT.out]
          go_wp2_with fail
          refine (specSoonestOf_any A3 _ cap3 ids3 _ rfl (by have := Hle.out; omega) (iv_owns Hst.out.own).ints).mono ?_
          rintro e w' ⟨rfl, rfl⟩
          go_wp2
          go_ret
          exact ⟨by rw [Hr.out]; rfl, B.out.trans (Hst.out.old.mono B.out.size)⟩
        · skip
          have HT : Hid (tkL [(1, k 2, c 3), (2, k 3, c 4), (3, k 3, c 5)] = ids2) := by
            show _ = _
            have q0 : 0 < c 3 := by omega
            have q1 : 0 < c 4 := by omega
            have q2 : ¬ 0 < c 5 := by omega
            rw [tk_pos q0, tk_pos q1, tk_neg q2, ← HI2.out, ← HI1.out]
            first | done | rfl
          have Hr : Hid (nextL (dlL c k t) = soonF (ids2 : List Int).length ids2) := by show _ = _; rw [Hl.out]; unfold nextL; rw [HT.out]
          go_wp2_with fail
          refine (specSoonestOf_any A2 _ cap2 ids2 _ rfl (by have := Hle.out; omega) (iv_owns Hst.out.own).ints).mono ?_
          rintro e w' ⟨rfl, rfl⟩
          go_wp2
          go_ret
          exact ⟨by rw [Hr.out]; rfl, B.out.trans (Hst.out.old.mono B.out.size)⟩
      · skip
        by_cases p2 : 0 < c 5
        · go_wp2_with fail
          refine (specAddTick_any _ _ _).mono ?_
          rintro e w' ⟨rfl, rfl⟩
          clear c0 c1 c2 c3 c4 c5 x0 x1 x2 x3 x4 x5 x6 x7 x8 x9 x10 x11 x12 x13
          go_wp2_with (at_builtin; refine wpList_append_own _ rfl _ _ 48 rfl w2.heap.size 3 i0 (.int .i64 0) 1 8 Try.underlying48 Hi0.out Hz0.out Hz1.out Hz2.out rfl (by decide) _ _ _ rfl (Hst.out.own.alloc _) ⟨wa1.heap.size, 0, none⟩ 1 1 [.int .i64 (addT (k 3) (c 5))] rfl rfl ?c1h ?c2h ?c3h ?c4h ?c5h ?_)
          case c1h => exact new_one_at rfl _ _
          case c2h => simp [Value.oneCell']
          case c3h => have := Hle.out; unfold maxLen; omega
          case c4h => have := Hle.out; omega
          case c5h => simp; omega
          intro v4 wa4 hown hg _
          have hst1 := Hst.out.step (x := addT (k 3) (c 5)) rfl hown hg
          obtain ⟨ids4, hi4⟩ : ∃ ids4, ids1 ++ [addT (k 3) (c 5)] = ids4 := ⟨_, rfl⟩
          have hle1 : ids4.length ≤ 2 := by rw [← hi4]; simp; have := Hle.out; omega
          rw [hi4] at hst1
          have HI4 := Lib.hid hi4
          replace Hst := Lib.hid hst1
          replace Hle := Lib.hid hle1
          clear hst1 hown hg hi4 hle1
          have zw4 : w2.heap.size ≤ wa4.heap.size := Hst.out.old.size
          obtain ⟨A4, cap4, rfl⟩ := owns_form Hst.out.own
          obtain ⟨c0, c1, c2, c3, c4, c5⟩ := HK.out.below Hst.out.old
          have hcr := (Hst.out.old.block _ (by omega)).trans HC.out
          have x0 : wa4.cell? ⟨w.heap.size, 0, none⟩ = some (.int .i64 (c 0)) := cell_of_row _ _ 0 _ _ (0, 0) hcr
          have x1 : wa4.cell? ⟨w.heap.size, 1, none⟩ = some (.int .i64 (c 1)) := cell_of_row _ _ 1 _ _ (0, 0) hcr
          have x2 : wa4.cell? ⟨w.heap.size, 2, none⟩ = some (.int .i64 (c 2)) := cell_of_row _ _ 2 _ _ (0, 0) hcr
          have x3 : wa4.cell? ⟨w.heap.size, 3, none⟩ = some (.int .i64 (c 3)) := cell_of_row _ _ 3 _ _ (0, 0) hcr
          have x4 : wa4.cell? ⟨w.heap.size, 4, none⟩ = some (.int .i64 (c 4)) := cell_of_row _ _ 4 _ _ (0, 0) hcr
          have x5 : wa4.cell? ⟨w.heap.size, 5, none⟩ = some (.int .i64 (c 5)) := cell_of_row _ _ 5 _ _ (0, 0) hcr
          have x6 : wa4.cell? ⟨w.heap.size, 6, none⟩ = some (.int .i64 (c 6)) := cell_of_row _ _ 6 _ _ (0, 0) hcr
          have x7 : wa4.cell? ⟨w.heap.size, 7, none⟩ = some (.int .i64 (c 7)) := cell_of_row _ _ 7 _ _ (0, 0) hcr
          have x8 : wa4.cell? ⟨w.heap.size, 8, none⟩ = some (.int .i64 (c 8)) := cell_of_row _ _ 8 _ _ (0, 0) hcr
          have x9 : wa4.cell? ⟨w.heap.size, 9, none⟩ = some (.int .i64 (c 9)) := cell_of_row _ _ 9 _ _ (0, 0) hcr
          have x10 : wa4.cell? ⟨w.heap.size, 10, none⟩ = some (.int .i64 (c 10)) := cell_of_row _ _ 10 _ _ (0, 0) hcr
          have x11 : wa4.cell? ⟨w.heap.size, 11, none⟩ = some (.int .i64 (c 11)) := cell_of_row _ _ 11 _ _ (0, 0) hcr
          have x12 : wa4.cell? ⟨w.heap.size, 12, none⟩ = some (.int .i64 (c 12)) := cell_of_row _ _ 12 _ _ (0, 0) hcr
          have x13 : wa4.cell? ⟨w.heap.size, 13, none⟩ = some (.int .i64 (c 13)) := cell_of_row _ _ 13 _ _ (0, 0) hcr
          clear hcr
          have HT : Hid (tkL [(1, k 2, c 3), (2, k 3, c 4), (3, k 3, c 5)] = ids4) := by
            show _ = _
            have q0 : 0 < c 3 := by omega
            have q1 : ¬ 0 < c 4 := by omega
            have q2 : 0 < c 5 := by omega
            rw [tk_pos q0, tk_neg q1, tk_pos q2, ← HI4.out, ← HI1.out]
            first | done | rfl
          have Hr : Hid (nextL (dlL c k t) = soonF (ids4 : List Int).length ids4) := by show _ = _; rw [Hl.out]; unfold nextL; rw [HT.out]
          go_wp2_with fail
          refine (specSoonestOf_any A4 _ cap4 ids4 _ rfl (by have := Hle.out; omega) (iv_owns Hst.out.own).ints).mono ?_
          rintro e w' ⟨rfl, rfl⟩
          go_wp2
          go_ret
          exact ⟨by rw [Hr.out]; rfl, B.out.trans (Hst.out.old.mono B.out.size)⟩
        · skip
          have HT : Hid (tkL [(1, k 2, c 3), (2, k 3, c 4), (3, k 3, c 5)] = ids1) := by
            show _ = _
            have q0 : 0 < c 3 := by omega
            have q1 : ¬ 0 < c 4 := by omega
            have q2 : ¬ 0 < c 5 := by omega
            rw [tk_pos q0, tk_neg q1, tk_neg q2, ← HI1.out]
            first | done | rfl
          have Hr : Hid (nextL (dlL c k t) = soonF (ids1 : List Int).length ids1) := by show _ = _; rw [Hl.out]; unfold nextL; rw [HT.out]
          go_wp2_with fail
          refine (specSoonestOf_any A1 _ cap1 ids1 _ rfl (by have := Hle.out; omega) (iv_owns Hst.out.own).ints).mono ?_
          rintro e w' ⟨rfl, rfl⟩
          go_wp2
          go_ret
          exact ⟨by rw [Hr.out]; rfl, B.out.trans (Hst.out.old.mono B.out.size)⟩
    · skip
      by_cases p1 : 0 < c 4
      · go_wp2_with fail
        refine (specAddTick_any _ _ _).mono ?_
        rintro e w' ⟨rfl, rfl⟩
        clear c0 c1 c2 c3 c4 c5 x0 x1 x2 x3 x4 x5 x6 x7 x8 x9 x10 x11 x12 x13
        go_wp2_with (at_builtin; refine wpList_append_own _ rfl _ _ 48 rfl w2.heap.size 3 i0 (.int .i64 0) 1 8 Try.underlying48 Hi0.out Hz0.out Hz1.out Hz2.out rfl (by decide) _ 0 [] rfl (Hown0.out _) ⟨w2.heap.size + 1, 0, none⟩ 1 1 [.int .i64 (addT (k 3) (c 4))] rfl rfl ?c1h ?c2h ?c3h ?c4h ?c5h ?_)
        case c1h => exact new_one_at (by simp) _ _
        case c2h => simp [Value.oneCell']
        case c3h => decide
        case c4h => decide
        case c5h => simp; omega
        intro v5 wa5 hown hg _
        have hst1 := Hst.out.step (x := addT (k 3) (c 4)) rfl hown hg
        obtain ⟨ids5, hi5⟩ : ∃ ids5, ([] : List Int) ++ [addT (k 3) (c 4)] = ids5 := ⟨_, rfl⟩
        have hle1 : ids5.length ≤ 1 := by rw [← hi5]; simp
        rw [hi5] at hst1
        have HI5 := Lib.hid hi5
        replace Hst := Lib.hid hst1
        have Hle := Lib.hid hle1
        clear hst1 hown hg hi5 hle1
        have zw5 : w2.heap.size ≤ wa5.heap.size := Hst.out.old.size
        obtain ⟨A5, cap5, rfl⟩ := owns_form Hst.out.own
        obtain ⟨c0, c1, c2, c3, c4, c5⟩ := HK.out.below Hst.out.old
        have hcr := (Hst.out.old.block _ (by omega)).trans HC.out
        have x0 : wa5.cell? ⟨w.heap.size, 0, none⟩ = some (.int .i64 (c 0)) := cell_of_row _ _ 0 _ _ (0, 0) hcr
        have x1 : wa5.cell? ⟨w.heap.size, 1, none⟩ = some (.int .i64 (c 1)) := cell_of_row _ _ 1 _ _ (0, 0) hcr
        have x2 : wa5.cell? ⟨w.heap.size, 2, none⟩ = some (.int .i64 (c 2)) := cell_of_row _ _ 2 _ _ (0, 0) hcr
        have x3 : wa5.cell? ⟨w.heap.size, 3, none⟩ = some (.int .i64 (c 3)) := cell_of_row _ _ 3 _ _ (0, 0) hcr
        have x4 : wa5.cell? ⟨w.heap.size, 4, none⟩ = some (.int .i64 (c 4)) := cell_of_row _ _ 4 _ _ (0, 0) hcr
        have x5 : wa5.cell? ⟨w.heap.size, 5, none⟩ = some (.int .i64 (c 5)) := cell_of_row _ _ 5 _ _ (0, 0) hcr
        have x6 : wa5.cell? ⟨w.heap.size, 6, none⟩ = some (.int .i64 (c 6)) := cell_of_row _ _ 6 _ _ (0, 0) hcr
        have x7 : wa5.cell? ⟨w.heap.size, 7, none⟩ = some (.int .i64 (c 7)) := cell_of_row _ _ 7 _ _ (0, 0) hcr
        have x8 : wa5.cell? ⟨w.heap.size, 8, none⟩ = some (.int .i64 (c 8)) := cell_of_row _ _ 8 _ _ (0, 0) hcr
        have x9 : wa5.cell? ⟨w.heap.size, 9, none⟩ = some (.int .i64 (c 9)) := cell_of_row _ _ 9 _ _ (0, 0) hcr
        have x10 : wa5.cell? ⟨w.heap.size, 10, none⟩ = some (.int .i64 (c 10)) := cell_of_row _ _ 10 _ _ (0, 0) hcr
        have x11 : wa5.cell? ⟨w.heap.size, 11, none⟩ = some (.int .i64 (c 11)) := cell_of_row _ _ 11 _ _ (0, 0) hcr
        have x12 : wa5.cell? ⟨w.heap.size, 12, none⟩ = some (.int .i64 (c 12)) := cell_of_row _ _ 12 _ _ (0, 0) hcr
        have x13 : wa5.cell? ⟨w.heap.size, 13, none⟩ = some (.int .i64 (c 13)) := cell_of_row _ _ 13 _ _ (0, 0) hcr
        clear hcr
        by_cases p2 : 0 < c 5
        · go_wp2_with fail
          refine (specAddTick_any _ _ _).mono ?_
          rintro e w' ⟨rfl, rfl⟩
          clear c0 c1 c2 c3 c4 c5 x0 x1 x2 x3 x4 x5 x6 x7 x8 x9 x10 x11 x12 x13
          go_wp2_with (at_builtin; refine wpList_append_own _ rfl _ _ 48 rfl w2.heap.size 3 i0 (.int .i64 0) 1 8 Try.underlying48 Hi0.out Hz0.out Hz1.out Hz2.out rfl (by decide) _ _ _ rfl (Hst.out.own.alloc _) ⟨wa5.heap.size, 0, none⟩ 1 1 [.int .i64 (addT (k 3) (c 5))] rfl rfl ?c1h ?c2h ?c3h ?c4h ?c5h ?_)
          case c1h => exact new_one_at rfl _ _
          case c2h => simp [Value.oneCell']
          case c3h => have := Hle.out; unfold maxLen; omega
          case c4h => have := Hle.out; omega
          case c5h => simp; omega
          intro v6 wa6 hown hg _
          have hst1 := Hst.out.step (x := addT (k 3) (c 5)) rfl hown hg
          obtain ⟨ids6, hi6⟩ : ∃ ids6, ids5 ++ [addT (k 3) (c 5)] = ids6 := ⟨_, rfl⟩
          have hle1 : ids6.length ≤ 2 := by rw [← hi6]; simp; have := Hle.out; omega
          rw [hi6] at hst1
          have HI6 := Lib.hid hi6
          replace Hst := Lib.hid hst1
          replace Hle := Lib.hid hle1
          clear hst1 hown hg hi6 hle1
          have zw6 : w2.heap.size ≤ wa6.heap.size := Hst.out.old.size
          obtain ⟨A6, cap6, rfl⟩ := owns_form Hst.out.own
          obtain ⟨c0, c1, c2, c3, c4, c5⟩ := HK.out.below Hst.out.old
          have hcr := (Hst.out.old.block _ (by omega)).trans HC.out
          have x0 : wa6.cell? ⟨w.heap.size, 0, none⟩ = some (.int .i64 (c 0)) := cell_of_row _ _ 0 _ _ (0, 0) hcr
          have x1 : wa6.cell? ⟨w.heap.size, 1, none⟩ = some (.int .i64 (c 1)) := cell_of_row _ _ 1 _ _ (0, 0) hcr
          have x2 : wa6.cell? ⟨w.heap.size, 2, none⟩ = some (.int .i64 (c 2)) := cell_of_row _ _ 2 _ _ (0, 0) hcr
          have x3 : wa6.cell? ⟨w.heap.size, 3, none⟩ = some (.int .i64 (c 3)) := cell_of_row _ _ 3 _ _ (0, 0) hcr
          have x4 : wa6.cell? ⟨w.heap.size, 4, none⟩ = some (.int .i64 (c 4)) := cell_of_row _ _ 4 _ _ (0, 0) hcr
          have x5 : wa6.cell? ⟨w.heap.size, 5, none⟩ = some (.int .i64 (c 5)) := cell_of_row _ _ 5 _ _ (0, 0) hcr
          have x6 : wa6.cell? ⟨w.heap.size, 6, none⟩ = some (.int .i64 (c 6)) := cell_of_row _ _ 6 _ _ (0, 0) hcr
          have x7 : wa6.cell? ⟨w.heap.size, 7, none⟩ = some (.int .i64 (c 7)) := cell_of_row _ _ 7 _ _ (0, 0) hcr
          have x8 : wa6.cell? ⟨w.heap.size, 8, none⟩ = some (.int .i64 (c 8)) := cell_of_row _ _ 8 _ _ (0, 0) hcr
          have x9 : wa6.cell? ⟨w.heap.size, 9, none⟩ = some (.int .i64 (c 9)) := cell_of_row _ _ 9 _ _ (0, 0) hcr
          have x10 : wa6.cell? ⟨w.heap.size, 10, none⟩ = some (.int .i64 (c 10)) := cell_of_row _ _ 10 _ _ (0, 0) hcr
          have x11 : wa6.cell? ⟨w.heap.size, 11, none⟩ = some (.int .i64 (c 11)) := cell_of_row _ _ 11 _ _ (0, 0) hcr
          have x12 : wa6.cell? ⟨w.heap.size, 12, none⟩ = some (.int .i64 (c 12)) := cell_of_row _ _ 12 _ _ (0, 0) hcr
          have x13 : wa6.cell? ⟨w.heap.size, 13, none⟩ = some (.int .i64 (c 13)) := cell_of_row _ _ 13 _ _ (0, 0) hcr
          clear hcr
          have HT : Hid (tkL [(1, k 2, c 3), (2, k 3, c 4), (3, k 3, c 5)] = ids6) := by
            show _ = _
            have q0 : ¬ 0 < c 3 := by omega
            have q1 : 0 < c 4 := by omega
            have q2 : 0 < c 5 := by omega
            rw [tk_neg q0, tk_pos q1, tk_pos q2, ← HI6.out, ← HI5.out]
            first | done | rfl
          have Hr : Hid (nextL (dlL c k t) = soonF (ids6 : List Int).length ids6) := by show _ = _; rw [Hl.out]; unfold nextL; rw [HT.out]
          go_wp2_with fail
          refine (specSoonestOf_any A6 _ cap6 ids6 _ rfl (by have := Hle.out; omega) (iv_owns Hst.out.own).ints).mono ?_
          rintro e w' ⟨rfl, rfl⟩
          go_wp2
          go_ret
          exact ⟨by rw [Hr.out]; rfl, B.out.trans (Hst.out.old.mono B.out.size)⟩
        · skip
          have HT : Hid (tkL [(1, k 2, c 3), (2, k 3, c 4), (3, k 3, c 5)] = ids5) := by
            show _ = _
            have q0 : ¬ 0 < c 3 := by omega
            have q1 : 0 < c 4 := by omega
            have q2 : ¬ 0 < c 5 := by omega
            rw [tk_neg q0, tk_pos q1, tk_neg q2, ← HI5.out]
            first | done | rfl
          have Hr : Hid (nextL (dlL c k t) = soonF (ids5 : List Int).length ids5) := by show _ = _; rw [Hl.out]; unfold nextL; rw [HT.out]
          go_wp2_with fail
          refine (specSoonestOf_any A5 _ cap5 ids5 _ rfl (by have := Hle.out; omega) (iv_owns Hst.out.own).ints).mono ?_
          rintro e w' ⟨rfl, rfl⟩
          go_wp2
          go_ret
          exact ⟨by rw [Hr.out]; rfl, B.out.trans (Hst.out.old.mono B.out.size)⟩
      · skip
        by_cases p2 : 0 < c 5
        · go_wp2_with fail
          refine (specAddTick_any _ _ _).mono ?_
          rintro e w' ⟨rfl, rfl⟩
          clear c0 c1 c2 c3 c4 c5 x0 x1 x2 x3 x4 x5 x6 x7 x8 x9 x10 x11 x12 x13
          go_wp2_with (at_builtin; refine wpList_append_own _ rfl _ _ 48 rfl w2.heap.size 3 i0 (.int .i64 0) 1 8 Try.underlying48 Hi0.out Hz0.out Hz1.out Hz2.out rfl (by decide) _ 0 [] rfl (Hown0.out _) ⟨w2.heap.size + 1, 0, none⟩ 1 1 [.int .i64 (addT (k 3) (c 5))] rfl rfl ?c1h ?c2h ?c3h ?c4h ?c5h ?_)
          case c1h => exact new_one_at (by simp) _ _
          case c2h => simp [Value.oneCell']
          case c3h => decide
          case c4h => decide
          case c5h => simp; omega
          intro v7 wa7 hown hg _
          have hst1 := Hst.out.step (x := addT (k 3) (c 5)) rfl hown hg
          obtain ⟨ids7, hi7⟩ : ∃ ids7, ([] : List Int) ++ [addT (k 3) (c 5)] = ids7 := ⟨_, rfl⟩
          have hle1 : ids7.length ≤ 1 := by rw [← hi7]; simp
          rw [hi7] at hst1
          have HI7 := Lib.hid hi7
          replace Hst := Lib.hid hst1
          have Hle := Lib.hid hle1
          clear hst1 hown hg hi7 hle1
          have zw7 : w2.heap.size ≤ wa7.heap.size := Hst.out.old.size
          obtain ⟨A7, cap7, rfl⟩ := owns_form Hst.out.own
          obtain ⟨c0, c1, c2, c3, c4, c5⟩ := HK.out.below Hst.out.old
          have hcr := (Hst.out.old.block _ (by omega)).trans HC.out
          have x0 : wa7.cell? ⟨w.heap.size, 0, none⟩ = some (.int .i64 (c 0)) := cell_of_row _ _ 0 _ _ (0, 0) hcr
          have x1 : wa7.cell? ⟨w.heap.size, 1, none⟩ = some (.int .i64 (c 1)) := cell_of_row _ _ 1 _ _ (0, 0) hcr
          have x2 : wa7.cell? ⟨w.heap.size, 2, none⟩ = some (.int .i64 (c 2)) := cell_of_row _ _ 2 _ _ (0, 0) hcr
          have x3 : wa7.cell? ⟨w.heap.size, 3, none⟩ = some (.int .i64 (c 3)) := cell_of_row _ _ 3 _ _ (0, 0) hcr
          have x4 : wa7.cell? ⟨w.heap.size, 4, none⟩ = some (.int .i64 (c 4)) := cell_of_row _ _ 4 _ _ (0, 0) hcr
          have x5 : wa7.cell? ⟨w.heap.size, 5, none⟩ = some (.int .i64 (c 5)) := cell_of_row _ _ 5 _ _ (0, 0) hcr
          have x6 : wa7.cell? ⟨w.heap.size, 6, none⟩ = some (.int .i64 (c 6)) := cell_of_row _ _ 6 _ _ (0, 0) hcr
          have x7 : wa7.cell? ⟨w.heap.size, 7, none⟩ = some (.int .i64 (c 7)) := cell_of_row _ _ 7 _ _ (0, 0) hcr
          have x8 : wa7.cell? ⟨w.heap.size, 8, none⟩ = some (.int .i64 (c 8)) := cell_of_row _ _ 8 _ _ (0, 0) hcr
          have x9 : wa7.cell? ⟨w.heap.size, 9, none⟩ = some (.int .i64 (c 9)) := cell_of_row _ _ 9 _ _ (0, 0) hcr
          have x10 : wa7.cell? ⟨w.heap.size, 10, none⟩ = some (.int .i64 (c 10)) := cell_of_row _ _ 10 _ _ (0, 0) hcr
          have x11 : wa7.cell? ⟨w.heap.size, 11, none⟩ = some (.int .i64 (c 11)) := cell_of_row _ _ 11 _ _ (0, 0) hcr
          have x12 : wa7.cell? ⟨w.heap.size, 12, none⟩ = some (.int .i64 (c 12)) := cell_of_row _ _ 12 _ _ (0, 0) hcr
          have x13 : wa7.cell? ⟨w.heap.size, 13, none⟩ = some (.int .i64 (c 13)) := cell_of_row _ _ 13 _ _ (0, 0) hcr
          clear hcr
          have HT : Hid (tkL [(1, k 2, c 3), (2, k 3, c 4), (3, k 3, c 5)] = ids7) := by
            show _ = _
            have q0 : ¬ 0 < c 3 := by omega
            have q1 : ¬ 0 < c 4 := by omega
            have q2 : 0 < c 5 := by omega
            rw [tk_neg q0, tk_neg q1, tk_pos q2, ← HI7.out]
            first | done | rfl
          have Hr : Hid (nextL (dlL c k t) = soonF (ids7 : List Int).length ids7) := by show _ = _; rw [Hl.out]; unfold nextL; rw [HT.out]
          go_wp2_with fail
          refine (specSoonestOf_any A7 _ cap7 ids7 _ rfl (by have := Hle.out; omega) (iv_owns Hst.out.own).ints).mono ?_
          rintro e w' ⟨rfl, rfl⟩
          go_wp2
          go_ret
          exact ⟨by rw [Hr.out]; rfl, B.out.trans (Hst.out.old.mono B.out.size)⟩
        · skip
          have HT : Hid (tkL [(1, k 2, c 3), (2, k 3, c 4), (3, k 3, c 5)] = []) := by
            show _ = _
            have q0 : ¬ 0 < c 3 := by omega
            have q1 : ¬ 0 < c 4 := by omega
            have q2 : ¬ 0 < c 5 := by omega
            rw [tk_neg q0, tk_neg q1, tk_neg q2]
            first | done | rfl
          have Hr : Hid (nextL (dlL c k t) = soonF ([] : List Int).length []) := by show _ = _; rw [Hl.out]; unfold nextL; rw [HT.out]
          go_wp2_with fail
          refine (specSoonestOf_any _ 0 0 [] _ rfl (by omega) (Ints.nil _ _)).mono ?_
          rintro e w' ⟨rfl, rfl⟩
          go_wp2
          go_ret
          exact ⟨by rw [Hr.out]; rfl, B.out.trans (Hst.out.old.mono B.out.size)⟩
  have h2b : (k 1 == 1) = false := by simpa using h2
  by_cases h3 : k 1 = 3
  · have h3b : (k 1 == 3) = true := by simpa using h3
    cases t
    · have Hl : Hid (dlL c k false = [(4, k 3, c 6)]) := by show _ = _; rw [HD2.out, if_neg h2, if_pos ⟨h3, rfl⟩]
      clear h2 h3
      by_cases p0 : 0 < c 6
      · go_wp2_with fail
        refine (specAddTick_any _ _ _).mono ?_
        rintro e w' ⟨rfl, rfl⟩
        clear c0 c1 c2 c3 c4 c5 x0 x1 x2 x3 x4 x5 x6 x7 x8 x9 x10 x11 x12 x13
        go_wp2_with (at_builtin; refine wpList_append_own _ rfl _ _ 48 rfl w2.heap.size 3 i0 (.int .i64 0) 1 8 Try.underlying48 Hi0.out Hz0.out Hz1.out Hz2.out rfl (by decide) _ 0 [] rfl (Hown0.out _) ⟨w2.heap.size + 1, 0, none⟩ 1 1 [.int .i64 (addT (k 3) (c 6))] rfl rfl ?c1h ?c2h ?c3h ?c4h ?c5h ?_)
        case c1h => exact new_one_at (by simp) _ _
        case c2h => simp [Value.oneCell']
        case c3h => decide
        case c4h => decide
        case c5h => simp; omega
        intro v8 wa8 hown hg _
        have hst1 := Hst.out.step (x := addT (k 3) (c 6)) rfl hown hg
        obtain ⟨ids8, hi8⟩ : ∃ ids8, ([] : List Int) ++ [addT (k 3) (c 6)] = ids8 := ⟨_, rfl⟩
        have hle1 : ids8.length ≤ 1 := by rw [← hi8]; simp
        rw [hi8] at hst1
        have HI8 := Lib.hid hi8
        replace Hst := Lib.hid hst1
        have Hle := Lib.hid hle1
        clear hst1 hown hg hi8 hle1
        have zw8 : w2.heap.size ≤ wa8.heap.size := Hst.out.old.size
        obtain ⟨A8, cap8, rfl⟩ := owns_form Hst.out.own
        obtain ⟨c0, c1, c2, c3, c4, c5⟩ := HK.out.below Hst.out.old
        have hcr := (Hst.out.old.block _ (by omega)).trans HC.out
        have x0 : wa8.cell? ⟨w.heap.size, 0, none⟩ = some (.int .i64 (c 0)) := cell_of_row _ _ 0 _ _ (0, 0) hcr
        have x1 : wa8.cell? ⟨w.heap.size, 1, none⟩ = some (.int .i64 (c 1)) := cell_of_row _ _ 1 _ _ (0, 0) hcr
        have x2 : wa8.cell? ⟨w.heap.size, 2, none⟩ = some (.int .i64 (c 2)) := cell_of_row _ _ 2 _ _ (0, 0) hcr
        have x3 : wa8.cell? ⟨w.heap.size, 3, none⟩ = some (.int .i64 (c 3)) := cell_of_row _ _ 3 _ _ (0, 0) hcr
        have x4 : wa8.cell? ⟨w.heap.size, 4, none⟩ = some (.int .i64 (c 4)) := cell_of_row _ _ 4 _ _ (0, 0) hcr
        have x5 : wa8.cell? ⟨w.heap.size, 5, none⟩ = some (.int .i64 (c 5)) := cell_of_row _ _ 5 _ _ (0, 0) hcr
        have x6 : wa8.cell? ⟨w.heap.size, 6, none⟩ = some (.int .i64 (c 6)) := cell_of_row _ _ 6 _ _ (0, 0) hcr
        have x7 : wa8.cell? ⟨w.heap.size, 7, none⟩ = some (.int .i64 (c 7)) := cell_of_row _ _ 7 _ _ (0, 0) hcr
        have x8 : wa8.cell? ⟨w.heap.size, 8, none⟩ = some (.int .i64 (c 8)) := cell_of_row _ _ 8 _ _ (0, 0) hcr
        have x9 : wa8.cell? ⟨w.heap.size, 9, none⟩ = some (.int .i64 (c 9)) := cell_of_row _ _ 9 _ _ (0, 0) hcr
        have x10 : wa8.cell? ⟨w.heap.size, 10, none⟩ = some (.int .i64 (c 10)) := cell_of_row _ _ 10 _ _ (0, 0) hcr
        have x11 : wa8.cell? ⟨w.heap.size, 11, none⟩ = some (.int .i64 (c 11)) := cell_of_row _ _ 11 _ _ (0, 0) hcr
        have x12 : wa8.cell? ⟨w.heap.size, 12, none⟩ = some (.int .i64 (c 12)) := cell_of_row _ _ 12 _ _ (0, 0) hcr
        have x13 : wa8.cell? ⟨w.heap.size, 13, none⟩ = some (.int .i64 (c 13)) := cell_of_row _ _ 13 _ _ (0, 0) hcr
        clear hcr
        have HT : Hid (tkL [(4, k 3, c 6)] = ids8) := by
          show _ = _
          have q0 : 0 < c 6 := by omega
          rw [tk_pos q0, ← HI8.out]
          first | done | rfl
        have Hr : Hid (nextL (dlL c k false) = soonF (ids8 : List Int).length ids8) := by show _ = _; rw [Hl.out]; unfold nextL; rw [HT.out]
        go_wp2_with fail
        refine (specSoonestOf_any A8 _ cap8 ids8 _ rfl (by have := Hle.out; omega) (iv_owns Hst.out.own).ints).mono ?_
        rintro e w' ⟨rfl, rfl⟩
        go_wp2
        go_ret
        exact ⟨by rw [Hr.out]; rfl, B.out.trans (Hst.out.old.mono B.out.size)⟩
      · skip
        have HT : Hid (tkL [(4, k 3, c 6)] = []) := by
          show _ = _
          have q0 : ¬ 0 < c 6 := by omega
          rw [tk_neg q0]
          first | done | rfl
        have Hr : Hid (nextL (dlL c k false) = soonF ([] : List Int).length []) := by show _ = _; rw [Hl.out]; unfold nextL; rw [HT.out]
        go_wp2_with fail
        refine (specSoonestOf_any _ 0 0 [] _ rfl (by omega) (Ints.nil _ _)).mono ?_
        rintro e w' ⟨rfl, rfl⟩
        go_wp2
        go_ret
        exact ⟨by rw [Hr.out]; rfl, B.out.trans (Hst.out.old.mono B.out.size)⟩
    · have Hl : Hid (dlL c k true = []) := by show _ = _; rw [HD2.out, if_neg h2, if_neg (fun h => by cases h.2)]
      clear h2 h3
      have HT : Hid (tkL [] = []) := by
        show _ = _
        first | done | rfl
      have Hr : Hid (nextL (dlL c k true) = soonF ([] : List Int).length []) := by show _ = _; rw [Hl.out]; unfold nextL; rw [HT.out]
      go_wp2_with fail
      refine (specSoonestOf_any _ 0 0 [] _ rfl (by omega) (Ints.nil _ _)).mono ?_
      rintro e w' ⟨rfl, rfl⟩
      go_wp2
      go_ret
      exact ⟨by rw [Hr.out]; rfl, B.out.trans (Hst.out.old.mono B.out.size)⟩
  · have h3b : (k 1 == 3) = false := by simpa using h3
    have Hl : Hid (dlL c k t = []) := by show _ = _; rw [HD2.out, if_neg h2, if_neg (fun h => h3 h.1)]
    clear h2 h3
    have HT : Hid (tkL [] = []) := by
      show _ = _
      first | done | rfl
    have Hr : Hid (nextL (dlL c k t) = soonF ([] : List Int).length []) := by show _ = _; rw [Hl.out]; unfold nextL; rw [HT.out]
    go_wp2_with fail
    refine (specSoonestOf_any _ 0 0 [] _ rfl (by omega) (Ints.nil _ _)).mono ?_
    rintro e w' ⟨rfl, rfl⟩
    go_wp2
    go_ret
    exact ⟨by rw [Hr.out]; rfl, B.out.trans (Hst.out.old.mono B.out.size)⟩
end Go.Proofs.Ytbmfleakldhabaa.Kn
