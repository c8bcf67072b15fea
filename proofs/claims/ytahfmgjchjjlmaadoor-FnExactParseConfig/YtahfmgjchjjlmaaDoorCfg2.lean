/- What the program's ConfigOk answers. -/
import Derived.Test.YtahfmgjchjjlmaaDoorCfg0
namespace Go.Proofs.YtahfmgjchjjlmaaDoor.Cf
open Go.RowKit Base

set_option maxRecDepth 100000 in
set_option maxHeartbeats 2000000 in
theorem implConfigOk_any (c : Nat → Int) (w : World) :
    Calls Tryd.prog 15 #[.agg #[.int .i64 (c 0), .int .i64 (c 1), .int .i64 (c 2), .int .i64 (c 3), .int .i64 (c 4), .int .i64 (c 5), .int .i64 (c 6), .int .i64 (c 7), .int .i64 (c 8), .int .i64 (c 9), .int .i64 (c 10), .int .i64 (c 11), .int .i64 (c 12), .int .i64 (c 13)]] w fun e w' => e = .returned (.bool (okC c)) ∧ Below w.heap.size w w' := by
  have HB : Hid (∀ o o', Below w.heap.size w ((w.alloc o).alloc o')) := fun o o' => ((Below.refl _ _).alloc (Nat.le_refl _) _).alloc (by simp) _
  go_enter Tryd.func15, Tryd.ntmps15
  simp only [List.append_eq, List.cons_append, List.nil_append]
  have HT : Hid (∀ t, Ints ((w.alloc (.cells #[.int .i64 (c 0), .int .i64 (c 1), .int .i64 (c 2), .int .i64 (c 3), .int .i64 (c 4), .int .i64 (c 5), .int .i64 (c 6), .int .i64 (c 7), .int .i64 (c 8), .int .i64 (c 9), .int .i64 (c 10), .int .i64 (c 11), .int .i64 (c 12), .int .i64 (c 13)] 26)).alloc (.cells #[.int .i64 (c 2), .int .i64 (c 3), .int .i64 (c 4), .int .i64 (c 5), .int .i64 (c 6), .int .i64 (c 13)] t)) (some ⟨w.heap.size + 1, 0, none⟩) [c 2, c 3, c 4, c 5, c 6, c 13]) := fun t => by
    have h := ints_new (w.alloc (.cells #[.int .i64 (c 0), .int .i64 (c 1), .int .i64 (c 2), .int .i64 (c 3), .int .i64 (c 4), .int .i64 (c 5), .int .i64 (c 6), .int .i64 (c 7), .int .i64 (c 8), .int .i64 (c 9), .int .i64 (c 10), .int .i64 (c 11), .int .i64 (c 12), .int .i64 (c 13)] 26)) [c 2, c 3, c 4, c 5, c 6, c 13] t
    rw [World.size_alloc] at h
    exact h
  go_wp2_with fail
  refine (within_any _ _ _ _).mono ?_
  rintro e w' ⟨rfl, rfl⟩
  cases h0 : Tick.inB (c 1) 1 12
  case false =>
    have Ho : Hid (okC c = false) := by
      show okC c = false
      refine okC_false (fun h => ?_)
      rw [okC_iff] at h
      rw [Tick.inB_true (by omega) (by omega)] at h0
      cases h0
    clear h0
    go_wp2
    go_ret
    exact ⟨by rw [Ho.out]; rfl, bel_alloc _ _⟩
  have H0 := Lib.hid (Tick.inB_iff.1 h0)
  clear h0
  go_wp2_with fail
  refine (within_any _ _ _ _).mono ?_
  rintro e w' ⟨rfl, rfl⟩
  cases h1 : Tick.inB (c 0) 0 (c 1)
  case false =>
    have Ho : Hid (okC c = false) := by
      show okC c = false
      refine okC_false (fun h => ?_)
      rw [okC_iff] at h
      rw [Tick.inB_true (by omega) (by omega)] at h1
      cases h1
    clear h1
    go_wp2
    go_ret
    exact ⟨by rw [Ho.out]; rfl, bel_alloc _ _⟩
  have H1 := Lib.hid (Tick.inB_iff.1 h1)
  clear h1
  go_wp2_with fail
  refine (Tick.allTicks_any (some ⟨w.heap.size + 1, 0, none⟩) 6 6 [c 2, c 3, c 4, c 5, c 6, c 13] _ rfl (by decide) (HT.out _)).mono ?_
  rintro e w' ⟨rfl, rfl⟩
  cases h2 : [c 2, c 3, c 4, c 5, c 6, c 13].all Tick.isT
  case false =>
    have Ho : Hid (okC c = false) := by
      show okC c = false
      refine okC_false (fun h => ?_)
      rw [okC_iff] at h
      have hx : [c 2, c 3, c 4, c 5, c 6, c 13].all Tick.isT = true := by
        simp only [List.all_cons, List.all_nil, Bool.and_true, Bool.and_eq_true, Tick.isT_iff]
        omega
      rw [hx] at h2
      cases h2
    clear h2
    go_wp2
    go_ret
    exact ⟨by rw [Ho.out]; rfl, HB.out _ _⟩
  have H2 : Hid ((0 ≤ c 2 ∧ c 2 ≤ 1000000000) ∧ (0 ≤ c 3 ∧ c 3 ≤ 1000000000) ∧ (0 ≤ c 4 ∧ c 4 ≤ 1000000000) ∧ (0 ≤ c 5 ∧ c 5 ≤ 1000000000) ∧ (0 ≤ c 6 ∧ c 6 ≤ 1000000000) ∧ (0 ≤ c 13 ∧ c 13 ≤ 1000000000)) := by
    have hx := h2
    simp only [List.all_cons, List.all_nil, Bool.and_true, Bool.and_eq_true, Tick.isT_iff] at hx
    exact hx
  clear h2
  by_cases h3 : 1 ≤ c 2
  case neg =>
    have Ho : Hid (okC c = false) := by
      show okC c = false
      refine okC_false (fun h => ?_)
      rw [okC_iff] at h
      omega
    go_wp2
    go_ret
    exact ⟨by rw [Ho.out]; rfl, HB.out _ _⟩
  have H3 := Lib.hid h3
  by_cases h4 : 1 ≤ c 13
  case neg =>
    have Ho : Hid (okC c = false) := by
      show okC c = false
      refine okC_false (fun h => ?_)
      rw [okC_iff] at h
      omega
    go_wp2
    go_ret
    exact ⟨by rw [Ho.out]; rfl, HB.out _ _⟩
  have H4 := Lib.hid h4
  go_wp2_with fail
  refine (within_any _ _ _ _).mono ?_
  rintro e w' ⟨rfl, rfl⟩
  cases h5 : Tick.inB (c 7) 1 (c 8)
  case false =>
    have Ho : Hid (okC c = false) := by
      show okC c = false
      refine okC_false (fun h => ?_)
      rw [okC_iff] at h
      rw [Tick.inB_true (by omega) (by omega)] at h5
      cases h5
    clear h5
    go_wp2
    go_ret
    exact ⟨by rw [Ho.out]; rfl, HB.out _ _⟩
  have H5 := Lib.hid (Tick.inB_iff.1 h5)
  clear h5
  clear h4
  clear h3
  by_cases h6 : c 8 ≤ 1000000
  case neg =>
    have Ho : Hid (okC c = false) := by
      show okC c = false
      refine okC_false (fun h => ?_)
      rw [okC_iff] at h
      omega
    go_wp2
    go_ret
    exact ⟨by rw [Ho.out]; rfl, HB.out _ _⟩
  have H6 := Lib.hid h6
  go_wp2_with fail
  refine (within_any _ _ _ _).mono ?_
  rintro e w' ⟨rfl, rfl⟩
  cases h7 : Tick.inB (c 9) 0 100
  case false =>
    have Ho : Hid (okC c = false) := by
      show okC c = false
      refine okC_false (fun h => ?_)
      rw [okC_iff] at h
      rw [Tick.inB_true (by omega) (by omega)] at h7
      cases h7
    clear h7
    go_wp2
    go_ret
    exact ⟨by rw [Ho.out]; rfl, HB.out _ _⟩
  have H7 := Lib.hid (Tick.inB_iff.1 h7)
  clear h7
  clear h6
  go_wp2_with fail
  refine (within_any _ _ _ _).mono ?_
  rintro e w' ⟨rfl, rfl⟩
  cases h8 : Tick.inB (c 10) 1 1000000
  case false =>
    have Ho : Hid (okC c = false) := by
      show okC c = false
      refine okC_false (fun h => ?_)
      rw [okC_iff] at h
      rw [Tick.inB_true (by omega) (by omega)] at h8
      cases h8
    clear h8
    go_wp2
    go_ret
    exact ⟨by rw [Ho.out]; rfl, HB.out _ _⟩
  have H8 := Lib.hid (Tick.inB_iff.1 h8)
  clear h8
  go_wp2_with fail
  refine (within_any _ _ _ _).mono ?_
  rintro e w' ⟨rfl, rfl⟩
  cases h9 : Tick.inB (c 12) 1 1000000
  case false =>
    have Ho : Hid (okC c = false) := by
      show okC c = false
      refine okC_false (fun h => ?_)
      rw [okC_iff] at h
      rw [Tick.inB_true (by omega) (by omega)] at h9
      cases h9
    clear h9
    go_wp2
    go_ret
    exact ⟨by rw [Ho.out]; rfl, HB.out _ _⟩
  have H9 := Lib.hid (Tick.inB_iff.1 h9)
  clear h9
  go_wp2_with fail
  refine (within_any _ _ _ _).mono ?_
  rintro e w' ⟨rfl, rfl⟩
  cases h10 : Tick.inB (c 11) 1 20
  case false =>
    have Ho : Hid (okC c = false) := by
      show okC c = false
      refine okC_false (fun h => ?_)
      rw [okC_iff] at h
      rw [Tick.inB_true (by omega) (by omega)] at h10
      cases h10
    clear h10
    go_wp2
    go_ret
    exact ⟨by rw [Ho.out]; rfl, HB.out _ _⟩
  have H10 := Lib.hid (Tick.inB_iff.1 h10)
  clear h10
  have Ho : Hid (okC c = true) := by
    show okC c = true
    rw [okC_iff]
    have g0 := H0.out
    have g1 := H1.out
    have g2 := H2.out
    have g3 := H3.out
    have g4 := H4.out
    have g5 := H5.out
    have g6 := H6.out
    have g7 := H7.out
    have g8 := H8.out
    have g9 := H9.out
    have g10 := H10.out
    omega
  go_wp2
  go_ret
  exact ⟨by rw [Ho.out]; rfl, HB.out _ _⟩
end Go.Proofs.YtahfmgjchjjlmaaDoor.Cf
