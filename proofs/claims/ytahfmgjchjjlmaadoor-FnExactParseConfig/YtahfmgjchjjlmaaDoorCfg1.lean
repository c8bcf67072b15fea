/- What the reference's ConfigOk answers. -/
import Derived.Test.YtahfmgjchjjlmaaDoorCfg0
namespace Go.Proofs.YtahfmgjchjjlmaaDoor.Cf
open Go.RowKit Base

set_option maxRecDepth 100000 in
set_option maxHeartbeats 4000000 in
theorem specConfigOk_any (c : Nat → Int) (w : World) :
    Calls Tryd.prog 11 #[.agg #[.int .i64 (c 0), .int .i64 (c 1), .int .i64 (c 2), .int .i64 (c 3), .int .i64 (c 4), .int .i64 (c 5), .int .i64 (c 6), .int .i64 (c 7), .int .i64 (c 8), .int .i64 (c 9), .int .i64 (c 10), .int .i64 (c 11), .int .i64 (c 12), .int .i64 (c 13)]] w fun e w' => e = .returned (.bool (okC c)) ∧ Below w.heap.size w w' := by
  have HE : Hid (okC c = okC c) := rfl
  go_enter Tryd.func11, Tryd.ntmps11
  go_wp2_with fail
  refine (Tick.in_any _ _ _ _).mono ?_
  rintro e w' ⟨rfl, rfl⟩
  cases h0 : Tick.inB (c 1) 1 12
  case false =>
    have Ho : Hid (okC c = false) := by show okC c = false; simp only [okC, h0, Bool.false_and]
    clear h0
    go_wp2
    go_ret
    exact ⟨by rw [Ho.out]; rfl, bel_alloc _ _⟩
  have H0 := Lib.hid h0
  clear h0
  go_wp2_with fail
  refine (Tick.in_any _ _ _ _).mono ?_
  rintro e w' ⟨rfl, rfl⟩
  cases h1 : Tick.inB (c 0) 0 (c 1)
  case false =>
    have Ho : Hid (okC c = false) := by show okC c = false; simp only [okC, h1, Bool.and_false, Bool.false_and]
    clear h1
    go_wp2
    go_ret
    exact ⟨by rw [Ho.out]; rfl, bel_alloc _ _⟩
  have H1 := Lib.hid h1
  clear h1
  go_wp2_with fail
  refine (Tick.specTickOk_any _ _).mono ?_
  rintro e w' ⟨rfl, rfl⟩
  cases h2 : Tick.isT (c 2)
  case false =>
    have Ho : Hid (okC c = false) := by show okC c = false; simp only [okC, h2, Bool.and_false, Bool.false_and]
    clear h2
    go_wp2
    go_ret
    exact ⟨by rw [Ho.out]; rfl, bel_alloc _ _⟩
  have H2 := Lib.hid h2
  clear h2
  cases h3 : (c 2 == 0)
  case true =>
    have Ho : Hid (okC c = false) := by show okC c = false; simp only [okC, h3, Bool.not_true, Bool.and_false, Bool.false_and]
    go_wp2
    go_ret
    exact ⟨by rw [Ho.out]; rfl, bel_alloc _ _⟩
  have H3 := Lib.hid h3
  go_wp2_with fail
  refine (Tick.specTickOk_any _ _).mono ?_
  rintro e w' ⟨rfl, rfl⟩
  cases h4 : Tick.isT (c 3)
  case false =>
    have Ho : Hid (okC c = false) := by show okC c = false; simp only [okC, h4, Bool.and_false, Bool.false_and]
    clear h4
    go_wp2
    go_ret
    exact ⟨by rw [Ho.out]; rfl, bel_alloc _ _⟩
  have H4 := Lib.hid h4
  clear h4
  clear h3
  go_wp2_with fail
  refine (Tick.specTickOk_any _ _).mono ?_
  rintro e w' ⟨rfl, rfl⟩
  cases h5 : Tick.isT (c 4)
  case false =>
    have Ho : Hid (okC c = false) := by show okC c = false; simp only [okC, h5, Bool.and_false, Bool.false_and]
    clear h5
    go_wp2
    go_ret
    exact ⟨by rw [Ho.out]; rfl, bel_alloc _ _⟩
  have H5 := Lib.hid h5
  clear h5
  go_wp2_with fail
  refine (Tick.specTickOk_any _ _).mono ?_
  rintro e w' ⟨rfl, rfl⟩
  cases h6 : Tick.isT (c 5)
  case false =>
    have Ho : Hid (okC c = false) := by show okC c = false; simp only [okC, h6, Bool.and_false, Bool.false_and]
    clear h6
    go_wp2
    go_ret
    exact ⟨by rw [Ho.out]; rfl, bel_alloc _ _⟩
  have H6 := Lib.hid h6
  clear h6
  go_wp2_with fail
  refine (Tick.specTickOk_any _ _).mono ?_
  rintro e w' ⟨rfl, rfl⟩
  cases h7 : Tick.isT (c 6)
  case false =>
    have Ho : Hid (okC c = false) := by show okC c = false; simp only [okC, h7, Bool.and_false, Bool.false_and]
    clear h7
    go_wp2
    go_ret
    exact ⟨by rw [Ho.out]; rfl, bel_alloc _ _⟩
  have H7 := Lib.hid h7
  clear h7
  go_wp2_with fail
  refine (Tick.specTickOk_any _ _).mono ?_
  rintro e w' ⟨rfl, rfl⟩
  cases h8 : Tick.isT (c 13)
  case false =>
    have Ho : Hid (okC c = false) := by show okC c = false; simp only [okC, h8, Bool.and_false, Bool.false_and]
    clear h8
    go_wp2
    go_ret
    exact ⟨by rw [Ho.out]; rfl, bel_alloc _ _⟩
  have H8 := Lib.hid h8
  clear h8
  cases h9 : (c 13 == 0)
  case true =>
    have Ho : Hid (okC c = false) := by show okC c = false; simp only [okC, h9, Bool.not_true, Bool.and_false, Bool.false_and]
    go_wp2
    go_ret
    exact ⟨by rw [Ho.out]; rfl, bel_alloc _ _⟩
  have H9 := Lib.hid h9
  go_wp2_with fail
  refine (Tick.in_any _ _ _ _).mono ?_
  rintro e w' ⟨rfl, rfl⟩
  cases h10 : Tick.inB (c 8) 1 1000000
  case false =>
    have Ho : Hid (okC c = false) := by show okC c = false; simp only [okC, h10, Bool.and_false, Bool.false_and]
    clear h10
    go_wp2
    go_ret
    exact ⟨by rw [Ho.out]; rfl, bel_alloc _ _⟩
  have H10 := Lib.hid h10
  clear h10
  clear h9
  go_wp2_with fail
  refine (Tick.in_any _ _ _ _).mono ?_
  rintro e w' ⟨rfl, rfl⟩
  cases h11 : Tick.inB (c 7) 1 (c 8)
  case false =>
    have Ho : Hid (okC c = false) := by show okC c = false; simp only [okC, h11, Bool.and_false, Bool.false_and]
    clear h11
    go_wp2
    go_ret
    exact ⟨by rw [Ho.out]; rfl, bel_alloc _ _⟩
  have H11 := Lib.hid h11
  clear h11
  go_wp2_with fail
  refine (Tick.in_any _ _ _ _).mono ?_
  rintro e w' ⟨rfl, rfl⟩
  cases h12 : Tick.inB (c 9) 0 100
  case false =>
    have Ho : Hid (okC c = false) := by show okC c = false; simp only [okC, h12, Bool.and_false, Bool.false_and]
    clear h12
    go_wp2
    go_ret
    exact ⟨by rw [Ho.out]; rfl, bel_alloc _ _⟩
  have H12 := Lib.hid h12
  clear h12
  go_wp2_with fail
  refine (Tick.in_any _ _ _ _).mono ?_
  rintro e w' ⟨rfl, rfl⟩
  cases h13 : Tick.inB (c 10) 1 1000000
  case false =>
    have Ho : Hid (okC c = false) := by show okC c = false; simp only [okC, h13, Bool.and_false, Bool.false_and]
    clear h13
    go_wp2
    go_ret
    exact ⟨by rw [Ho.out]; rfl, bel_alloc _ _⟩
  have H13 := Lib.hid h13
  clear h13
  go_wp2_with fail
  refine (Tick.in_any _ _ _ _).mono ?_
  rintro e w' ⟨rfl, rfl⟩
  cases h14 : Tick.inB (c 11) 1 20
  case false =>
    have Ho : Hid (okC c = false) := by show okC c = false; simp only [okC, h14, Bool.and_false, Bool.false_and]
    clear h14
    go_wp2
    go_ret
    exact ⟨by rw [Ho.out]; rfl, bel_alloc _ _⟩
  have H14 := Lib.hid h14
  clear h14
  go_wp2_with fail
  refine (Tick.in_any _ _ _ _).mono ?_
  rintro e w' ⟨rfl, rfl⟩
  cases h15 : Tick.inB (c 12) 1 1000000
  case false =>
    have Ho : Hid (okC c = false) := by show okC c = false; simp only [okC, h15, Bool.and_false]
    clear h15
    go_wp2
    go_ret
    exact ⟨by rw [Ho.out]; rfl, bel_alloc _ _⟩
  have H15 := Lib.hid h15
  clear h15
  have Ho : Hid (okC c = true) := by
    show okC c = true
    simp only [okC, H0.out, H1.out, H2.out, H3.out, H4.out, H5.out, H6.out, H7.out, H8.out, H9.out, H10.out, H11.out, H12.out, H13.out, H14.out, H15.out, Bool.and_true, Bool.not_false]
  go_wp2
  go_ret
  exact ⟨by rw [Ho.out]; rfl, bel_alloc _ _⟩
end Go.Proofs.YtahfmgjchjjlmaaDoor.Cf
