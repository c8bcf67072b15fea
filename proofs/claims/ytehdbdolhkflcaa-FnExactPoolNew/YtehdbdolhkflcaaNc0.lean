/- Words for connections; contracts of toConn, eqConn and the reference's ConnOk, NewConn. Words for configurations; contracts of the leaves of chapter 4: within, toConfig, eqConfig. What the reference's ConfigOk answers. What the program's ConfigOk answers. The laws of ConfigOk and DefaultConfig walked; what is known of a configuration that came in. Resized, the reference's and the program's; its law walked. -/
import Derived.Test.YtehdbdolhkflcaaChecked
import Derived.Test.YtehdbdolhkflcaaNq0
import Derived.Laws.Rows
import Derived.Deep.Slices
import Derived.Deep.Fields
import Derived.ChangeSame
import Derived.OpenShut
namespace Go.Proofs.Ytehdbdolhkflcaa.Kn
open Go.RowKit Base

/-- A valid connection; its numbers in their order are k 0 (Id) .. k 4 (Ticket), t is Told. -/
def okN (k : Nat → Int) (t : Bool) : Bool :=
  Tick.inB (k 0) 1 1000000000 && Tick.inB (k 1) 0 4 && Tick.isT (k 3) && Tick.inB (k 2) 0 (k 3) && (!(k 1 == 0) || (k 2 == 0)) && (if (k 1 == 3) = true then Tick.inB (k 4) 1 1000000000 else (k 4 == 0) && !t)

set_option maxRecDepth 100000 in
set_option maxHeartbeats 2000000 in
theorem toConn_any (k : Nat → Int) (t : Bool) (w : World) :
    Calls Try.prog 79 #[.agg #[.int .i64 (k 0), .int .i64 (k 1), .int .i64 (k 2), .int .i64 (k 3), .int .i64 (k 4), .bool t]] w fun e w' => e = .returned (.agg #[.int .i64 (k 0), .int .i64 (k 1), .int .i64 (k 2), .int .i64 (k 3), .int .i64 (k 4), .bool t]) ∧ Below w.heap.size w w' := by
  go_enter Try.func79, Try.ntmps79
  go_wp2
  refine bodyPost_ret (v := .agg #[.int .i64 (k 0), .int .i64 (k 1), .int .i64 (k 2), .int .i64 (k 3), .int .i64 (k 4), .bool t]) (by simp [results, Try.results79, go_sem]) rfl ⟨rfl, ?_⟩
  exact (((Below.refl _ _).alloc (Nat.le_refl _) _).alloc (by simp) _).alloc (by simp; omega) _

set_option maxRecDepth 100000 in
set_option maxHeartbeats 2000000 in
theorem eqConn_same (k : Nat → Int) (t : Bool) (w : World) :
    Calls Try.prog 66 #[.agg #[.int .i64 (k 0), .int .i64 (k 1), .int .i64 (k 2), .int .i64 (k 3), .int .i64 (k 4), .bool t], .agg #[.int .i64 (k 0), .int .i64 (k 1), .int .i64 (k 2), .int .i64 (k 3), .int .i64 (k 4), .bool t]] w fun e w' => e = .returned (.bool true) ∧ Below w.heap.size w w' := by
  go_enter Try.func66, Try.ntmps66
  go_wp2
  go_ret
  exact ⟨rfl, ((Below.refl _ _).alloc (Nat.le_refl _) _).alloc (by simp) _⟩

set_option maxRecDepth 100000 in
set_option maxHeartbeats 4000000 in
theorem specConnOk_any (k : Nat → Int) (t : Bool) (w : World) :
    Calls Try.prog 54 #[.agg #[.int .i64 (k 0), .int .i64 (k 1), .int .i64 (k 2), .int .i64 (k 3), .int .i64 (k 4), .bool t]] w fun e w' => e = .returned (.bool (okN k t)) ∧ Below w.heap.size w w' := by
  go_enter Try.func54, Try.ntmps54
  go_wp2_with fail
  refine (Tick.in_any _ _ _ _).mono ?_
  rintro e w' ⟨rfl, rfl⟩
  cases h0 : Tick.inB (k 0) 1 1000000000
  case false =>
    have Ho : Hid (okN k t = false) := by show okN k t = false; simp only [okN, h0, Bool.false_and]
    clear h0
    go_wp2
    go_ret
    exact ⟨by rw [Ho.out]; rfl, bel_alloc _ _⟩
  have H0 := Lib.hid h0
  clear h0
  go_wp2_with fail
  refine (Tick.in_any _ _ _ _).mono ?_
  rintro e w' ⟨rfl, rfl⟩
  cases h1 : Tick.inB (k 1) 0 4
  case false =>
    have Ho : Hid (okN k t = false) := by show okN k t = false; simp only [okN, h1, Bool.and_false, Bool.false_and]
    clear h1
    go_wp2
    go_ret
    exact ⟨by rw [Ho.out]; rfl, bel_alloc _ _⟩
  have H1 := Lib.hid h1
  clear h1
  go_wp2_with fail
  refine (Tick.specTickOk_any _ _).mono ?_
  rintro e w' ⟨rfl, rfl⟩
  cases h2 : Tick.isT (k 3)
  case false =>
    have Ho : Hid (okN k t = false) := by show okN k t = false; simp only [okN, h2, Bool.and_false, Bool.false_and]
    clear h2
    go_wp2
    go_ret
    exact ⟨by rw [Ho.out]; rfl, bel_alloc _ _⟩
  have H2 := Lib.hid h2
  clear h2
  go_wp2_with fail
  refine (Tick.in_any _ _ _ _).mono ?_
  rintro e w' ⟨rfl, rfl⟩
  cases h3 : Tick.inB (k 2) 0 (k 3)
  case false =>
    have Ho : Hid (okN k t = false) := by show okN k t = false; simp only [okN, h3, Bool.and_false, Bool.false_and]
    clear h3
    go_wp2
    go_ret
    exact ⟨by rw [Ho.out]; rfl, bel_alloc _ _⟩
  have H3 := Lib.hid h3
  clear h3
  have HE : Hid (okN k t = ((!(k 1 == 0) || (k 2 == 0)) && (if (k 1 == 3) = true then Tick.inB (k 4) 1 1000000000 else (k 4 == 0) && !t))) := by
    show okN k t = _
    simp only [okN, H0.out, H1.out, H2.out, H3.out, Bool.true_and]
  clear H0 H1 H2 H3
  cases h4 : (k 1 == 0)
  · cases h5 : (k 1 == 3)
    · cases h6 : (k 4 == 0)
      · have Ho : Hid (okN k t = false) := by rw [HE.out, h4, h5, h6]; rfl
        go_wp2
        go_ret
        exact ⟨by rw [Ho.out]; rfl, bel_alloc _ _⟩
      · have Ho : Hid (okN k t = !t) := by rw [HE.out, h4, h5, h6]; rfl
        cases t
        all_goals
          go_wp2
          go_ret
          exact ⟨by rw [Ho.out]; rfl, bel_alloc _ _⟩
    · have Ho : Hid (okN k t = Tick.inB (k 4) 1 1000000000) := by rw [HE.out, h4, h5]; rfl
      go_wp2_with fail
      refine (Tick.in_any _ _ _ _).mono ?_
      rintro e w' ⟨rfl, rfl⟩
      go_wp2
      go_ret
      exact ⟨by rw [Ho.out]; rfl, bel_alloc _ _⟩
  · cases h7 : (k 2 == 0)
    · have Ho : Hid (okN k t = false) := by rw [HE.out, h4, h7]; rfl
      go_wp2
      go_ret
      exact ⟨by rw [Ho.out]; rfl, bel_alloc _ _⟩
    · have h5 : (k 1 == 3) = false := by
        have e := beq_iff_eq.1 h4
        rw [e]
        rfl
      cases h6 : (k 4 == 0)
      · have Ho : Hid (okN k t = false) := by rw [HE.out, h4, h5, h6, h7]; rfl
        go_wp2
        go_ret
        exact ⟨by rw [Ho.out]; rfl, bel_alloc _ _⟩
      · have Ho : Hid (okN k t = !t) := by rw [HE.out, h4, h5, h6, h7]; rfl
        cases t
        all_goals
          go_wp2
          go_ret
          exact ⟨by rw [Ho.out]; rfl, bel_alloc _ _⟩
end Go.Proofs.Ytehdbdolhkflcaa.Kn

namespace Go.Proofs.Ytehdbdolhkflcaa.Cf
open Go.RowKit Base

set_option maxRecDepth 100000 in
theorem within_any (l x h : Int) (w : World) : Calls Try.prog 63 #[.int .i64 l, .int .i64 x, .int .i64 h] w fun e w' => e = .returned (.bool (Tick.inB x l h)) ∧ w = w' := by
  by_cases h0 : l ≤ x
  · by_cases h1 : x ≤ h
    · go_enter Try.func63, Try.ntmps63
      go_wp2
      go_ret
      exact ⟨ret_bool (Tick.inB_true h0 h1).symm, rfl⟩
    · go_enter Try.func63, Try.ntmps63
      go_wp2
      go_ret
      exact ⟨ret_bool (Tick.inB_false (by omega)).symm, rfl⟩
  · go_enter Try.func63, Try.ntmps63
    go_wp2
    go_ret
    exact ⟨ret_bool (Tick.inB_false (by omega)).symm, rfl⟩

/-- A valid configuration; the fields in their order are c 0, c 1, .. -/
def okC (c : Nat → Int) : Bool :=
  Tick.inB (c 1) 1 12 && Tick.inB (c 0) 0 (c 1) && Tick.isT (c 2) && !(c 2 == 0) && Tick.isT (c 3) && Tick.isT (c 4) && Tick.isT (c 5) && Tick.isT (c 6) && Tick.isT (c 13) && !(c 13 == 0)
    && Tick.inB (c 8) 1 1000000 && Tick.inB (c 7) 1 (c 8) && Tick.inB (c 9) 0 100 && Tick.inB (c 10) 1 1000000 && Tick.inB (c 11) 1 20 && Tick.inB (c 12) 1 1000000
theorem okC_iff {c : Nat → Int} : okC c = true ↔ (1 ≤ c 1 ∧ c 1 ≤ 12 ∧ 0 ≤ c 0 ∧ c 0 ≤ c 1 ∧ 0 ≤ c 2 ∧ c 2 ≤ 1000000000 ∧ c 2 ≠ 0 ∧ 0 ≤ c 3 ∧ c 3 ≤ 1000000000 ∧ 0 ≤ c 4 ∧ c 4 ≤ 1000000000 ∧ 0 ≤ c 5 ∧ c 5 ≤ 1000000000 ∧ 0 ≤ c 6 ∧ c 6 ≤ 1000000000 ∧ 0 ≤ c 13 ∧ c 13 ≤ 1000000000 ∧ c 13 ≠ 0 ∧ 1 ≤ c 8 ∧ c 8 ≤ 1000000 ∧ 1 ≤ c 7 ∧ c 7 ≤ c 8 ∧ 0 ≤ c 9 ∧ c 9 ≤ 100 ∧ 1 ≤ c 10 ∧ c 10 ≤ 1000000 ∧ 1 ≤ c 11 ∧ c 11 ≤ 20 ∧ 1 ≤ c 12 ∧ c 12 ≤ 1000000) := by
  simp only [okC, Bool.and_eq_true, Tick.inB_iff, Tick.isT_iff, Bool.not_eq_true', beq_eq_false_iff_ne, ne_eq, and_assoc]
theorem okC_false {c : Nat → Int} (h : ¬ okC c = true) : okC c = false := by simpa using h

set_option maxRecDepth 100000 in
set_option maxHeartbeats 2000000 in
theorem toConfig_any (c : Nat → Int) (w : World) :
    Calls Try.prog 9 #[.agg #[.int .i64 (c 0), .int .i64 (c 1), .int .i64 (c 2), .int .i64 (c 3), .int .i64 (c 4), .int .i64 (c 5), .int .i64 (c 6), .int .i64 (c 7), .int .i64 (c 8), .int .i64 (c 9), .int .i64 (c 10), .int .i64 (c 11), .int .i64 (c 12), .int .i64 (c 13)]] w fun e w' => e = .returned (.agg #[.int .i64 (c 0), .int .i64 (c 1), .int .i64 (c 2), .int .i64 (c 3), .int .i64 (c 4), .int .i64 (c 5), .int .i64 (c 6), .int .i64 (c 7), .int .i64 (c 8), .int .i64 (c 9), .int .i64 (c 10), .int .i64 (c 11), .int .i64 (c 12), .int .i64 (c 13)]) ∧ Below w.heap.size w w' := by
  go_enter Try.func9, Try.ntmps9
  go_wp2
  refine bodyPost_ret (v := .agg #[.int .i64 (c 0), .int .i64 (c 1), .int .i64 (c 2), .int .i64 (c 3), .int .i64 (c 4), .int .i64 (c 5), .int .i64 (c 6), .int .i64 (c 7), .int .i64 (c 8), .int .i64 (c 9), .int .i64 (c 10), .int .i64 (c 11), .int .i64 (c 12), .int .i64 (c 13)]) (by simp [results, Try.results9, go_sem]) rfl ⟨rfl, ?_⟩
  exact (((Below.refl _ _).alloc (Nat.le_refl _) _).alloc (by simp) _).alloc (by simp; omega) _


set_option maxRecDepth 100000 in
set_option maxHeartbeats 2000000 in
theorem eqConfig_same (c : Nat → Int) (w : World) :
    Calls Try.prog 28 #[.agg #[.int .i64 (c 0), .int .i64 (c 1), .int .i64 (c 2), .int .i64 (c 3), .int .i64 (c 4), .int .i64 (c 5), .int .i64 (c 6), .int .i64 (c 7), .int .i64 (c 8), .int .i64 (c 9), .int .i64 (c 10), .int .i64 (c 11), .int .i64 (c 12), .int .i64 (c 13)], .agg #[.int .i64 (c 0), .int .i64 (c 1), .int .i64 (c 2), .int .i64 (c 3), .int .i64 (c 4), .int .i64 (c 5), .int .i64 (c 6), .int .i64 (c 7), .int .i64 (c 8), .int .i64 (c 9), .int .i64 (c 10), .int .i64 (c 11), .int .i64 (c 12), .int .i64 (c 13)]] w fun e w' => e = .returned (.bool true) ∧ Below w.heap.size w w' := by
  go_enter Try.func28, Try.ntmps28
  go_wp2
  go_ret
  exact ⟨rfl, ((Below.refl _ _).alloc (Nat.le_refl _) _).alloc (by simp) _⟩
end Go.Proofs.Ytehdbdolhkflcaa.Cf

namespace Go.Proofs.Ytehdbdolhkflcaa.Cf
open Go.RowKit Base

set_option maxRecDepth 100000 in
set_option maxHeartbeats 4000000 in
theorem specConfigOk_any (c : Nat → Int) (w : World) :
    Calls Try.prog 24 #[.agg #[.int .i64 (c 0), .int .i64 (c 1), .int .i64 (c 2), .int .i64 (c 3), .int .i64 (c 4), .int .i64 (c 5), .int .i64 (c 6), .int .i64 (c 7), .int .i64 (c 8), .int .i64 (c 9), .int .i64 (c 10), .int .i64 (c 11), .int .i64 (c 12), .int .i64 (c 13)]] w fun e w' => e = .returned (.bool (okC c)) ∧ Below w.heap.size w w' := by
  have HE : Hid (okC c = okC c) := rfl
  go_enter Try.func24, Try.ntmps24
  go_wp2_with fail
  refine (Tick.in_any _ _ _ _).mono ?_
  rintro e w' ⟨rfl, rfl⟩
  cases h0 : Tick.inB (c 1) 1 12
  case false =>
    have Ho : Hid (okC c = false) := by show okC c = false; simp only [okC, h0, Bool.false_and]
    clear h0
    go_wp2
    go_ret
    exact ⟨by rw [Ho.out]; rfl, bel_alloc _ _⟩
  have H0 := Lib.hid h0
  clear h0
  go_wp2_with fail
  refine (Tick.in_any _ _ _ _).mono ?_
  rintro e w' ⟨rfl, rfl⟩
  cases h1 : Tick.inB (c 0) 0 (c 1)
  case false =>
    have Ho : Hid (okC c = false) := by show okC c = false; simp only [okC, h1, Bool.and_false, Bool.false_and]
    clear h1
    go_wp2
    go_ret
    exact ⟨by rw [Ho.out]; rfl, bel_alloc _ _⟩
  have H1 := Lib.hid h1
  clear h1
  go_wp2_with fail
  refine (Tick.specTickOk_any _ _).mono ?_
  rintro e w' ⟨rfl, rfl⟩
  cases h2 : Tick.isT (c 2)
  case false =>
    have Ho : Hid (okC c = false) := by show okC c = false; simp only [okC, h2, Bool.and_false, Bool.false_and]
    clear h2
    go_wp2
    go_ret
    exact ⟨by rw [Ho.out]; rfl, bel_alloc _ _⟩
  have H2 := Lib.hid h2
  clear h2
  cases h3 : (c 2 == 0)
  case true =>
    have Ho : Hid (okC c = false) := by show okC c = false; simp only [okC, h3, Bool.not_true, Bool.and_false, Bool.false_and]
    go_wp2
    go_ret
    exact ⟨by rw [Ho.out]; rfl, bel_alloc _ _⟩
  have H3 := Lib.hid h3
  go_wp2_with fail
  refine (Tick.specTickOk_any _ _).mono ?_
  rintro e w' ⟨rfl, rfl⟩
  cases h4 : Tick.isT (c 3)
  case false =>
    have Ho : Hid (okC c = false) := by show okC c = false; simp only [okC, h4, Bool.and_false, Bool.false_and]
    clear h4
    go_wp2
    go_ret
    exact ⟨by rw [Ho.out]; rfl, bel_alloc _ _⟩
  have H4 := Lib.hid h4
  clear h4
  clear h3
  go_wp2_with fail
  refine (Tick.specTickOk_any _ _).mono ?_
  rintro e w' ⟨rfl, rfl⟩
  cases h5 : Tick.isT (c 4)
  case false =>
    have Ho : Hid (okC c = false) := by show okC c = false; simp only [okC, h5, Bool.and_false, Bool.false_and]
    clear h5
    go_wp2
    go_ret
    exact ⟨by rw [Ho.out]; rfl, bel_alloc _ _⟩
  have H5 := Lib.hid h5
  clear h5
  go_wp2_with fail
  refine (Tick.specTickOk_any _ _).mono ?_
  rintro e w' ⟨rfl, rfl⟩
  cases h6 : Tick.isT (c 5)
  case false =>
    have Ho : Hid (okC c = false) := by show okC c = false; simp only [okC, h6, Bool.and_false, Bool.false_and]
    clear h6
    go_wp2
    go_ret
    exact ⟨by rw [Ho.out]; rfl, bel_alloc _ _⟩
  have H6 := Lib.hid h6
  clear h6
  go_wp2_with fail
  refine (Tick.specTickOk_any _ _).mono ?_
  rintro e w' ⟨rfl, rfl⟩
  cases h7 : Tick.isT (c 6)
  case false =>
    have Ho : Hid (okC c = false) := by show okC c = false; simp only [okC, h7, Bool.and_false, Bool.false_and]
    clear h7
    go_wp2
    go_ret
    exact ⟨by rw [Ho.out]; rfl, bel_alloc _ _⟩
  have H7 := Lib.hid h7
  clear h7
  go_wp2_with fail
  refine (Tick.specTickOk_any _ _).mono ?_
  rintro e w' ⟨rfl, rfl⟩
  cases h8 : Tick.isT (c 13)
  case false =>
    have Ho : Hid (okC c = false) := by show okC c = false; simp only [okC, h8, Bool.and_false, Bool.false_and]
    clear h8
    go_wp2
    go_ret
    exact ⟨by rw [Ho.out]; rfl, bel_alloc _ _⟩
  have H8 := Lib.hid h8
  clear h8
  cases h9 : (c 13 == 0)
  case true =>
    have Ho : Hid (okC c = false) := by show okC c = false; simp only [okC, h9, Bool.not_true, Bool.and_false, Bool.false_and]
    go_wp2
    go_ret
    exact ⟨by rw [Ho.out]; rfl, bel_alloc _ _⟩
  have H9 := Lib.hid h9
  go_wp2_with fail
  refine (Tick.in_any _ _ _ _).mono ?_
  rintro e w' ⟨rfl, rfl⟩
  cases h10 : Tick.inB (c 8) 1 1000000
  case false =>
    have Ho : Hid (okC c = false) := by show okC c = false; simp only [okC, h10, Bool.and_false, Bool.false_and]
    clear h10
    go_wp2
    go_ret
    exact ⟨by rw [Ho.out]; rfl, bel_alloc _ _⟩
  have H10 := Lib.hid h10
  clear h10
  clear h9
  go_wp2_with fail
  refine (Tick.in_any _ _ _ _).mono ?_
  rintro e w' ⟨rfl, rfl⟩
  cases h11 : Tick.inB (c 7) 1 (c 8)
  case false =>
    have Ho : Hid (okC c = false) := by show okC c = false; simp only [okC, h11, Bool.and_false, Bool.false_and]
    clear h11
    go_wp2
    go_ret
    exact ⟨by rw [Ho.out]; rfl, bel_alloc _ _⟩
  have H11 := Lib.hid h11
  clear h11
  go_wp2_with fail
  refine (Tick.in_any _ _ _ _).mono ?_
  rintro e w' ⟨rfl, rfl⟩
  cases h12 : Tick.inB (c 9) 0 100
  case false =>
    have Ho : Hid (okC c = false) := by show okC c = false; simp only [okC, h12, Bool.and_false, Bool.false_and]
    clear h12
    go_wp2
    go_ret
    exact ⟨by rw [Ho.out]; rfl, bel_alloc _ _⟩
  have H12 := Lib.hid h12
  clear h12
  go_wp2_with fail
  refine (Tick.in_any _ _ _ _).mono ?_
  rintro e w' ⟨rfl, rfl⟩
  cases h13 : Tick.inB (c 10) 1 1000000
  case false =>
    have Ho : Hid (okC c = false) := by show okC c = false; simp only [okC, h13, Bool.and_false, Bool.false_and]
    clear h13
    go_wp2
    go_ret
    exact ⟨by rw [Ho.out]; rfl, bel_alloc _ _⟩
  have H13 := Lib.hid h13
  clear h13
  go_wp2_with fail
  refine (Tick.in_any _ _ _ _).mono ?_
  rintro e w' ⟨rfl, rfl⟩
  cases h14 : Tick.inB (c 11) 1 20
  case false =>
    have Ho : Hid (okC c = false) := by show okC c = false; simp only [okC, h14, Bool.and_false, Bool.false_and]
    clear h14
    go_wp2
    go_ret
    exact ⟨by rw [Ho.out]; rfl, bel_alloc _ _⟩
  have H14 := Lib.hid h14
  clear h14
  go_wp2_with fail
  refine (Tick.in_any _ _ _ _).mono ?_
  rintro e w' ⟨rfl, rfl⟩
  cases h15 : Tick.inB (c 12) 1 1000000
  case false =>
    have Ho : Hid (okC c = false) := by show okC c = false; simp only [okC, h15, Bool.and_false]
    clear h15
    go_wp2
    go_ret
    exact ⟨by rw [Ho.out]; rfl, bel_alloc _ _⟩
  have H15 := Lib.hid h15
  clear h15
  have Ho : Hid (okC c = true) := by
    show okC c = true
    simp only [okC, H0.out, H1.out, H2.out, H3.out, H4.out, H5.out, H6.out, H7.out, H8.out, H9.out, H10.out, H11.out, H12.out, H13.out, H14.out, H15.out, Bool.and_true, Bool.not_false]
  go_wp2
  go_ret
  exact ⟨by rw [Ho.out]; rfl, bel_alloc _ _⟩
end Go.Proofs.Ytehdbdolhkflcaa.Cf

namespace Go.Proofs.Ytehdbdolhkflcaa.Cf
open Go.RowKit Base

set_option maxRecDepth 100000 in
set_option maxHeartbeats 2000000 in
theorem implConfigOk_any (c : Nat → Int) (w : World) :
    Calls Try.prog 26 #[.agg #[.int .i64 (c 0), .int .i64 (c 1), .int .i64 (c 2), .int .i64 (c 3), .int .i64 (c 4), .int .i64 (c 5), .int .i64 (c 6), .int .i64 (c 7), .int .i64 (c 8), .int .i64 (c 9), .int .i64 (c 10), .int .i64 (c 11), .int .i64 (c 12), .int .i64 (c 13)]] w fun e w' => e = .returned (.bool (okC c)) ∧ Below w.heap.size w w' := by
  have HB : Hid (∀ o o', Below w.heap.size w ((w.alloc o).alloc o')) := fun o o' => ((Below.refl _ _).alloc (Nat.le_refl _) _).alloc (by simp) _
  go_enter Try.func26, Try.ntmps26
  simp only [List.append_eq, List.cons_append, List.nil_append]
  have HT : Hid (∀ t, Ints ((w.alloc (.cells #[.int .i64 (c 0), .int .i64 (c 1), .int .i64 (c 2), .int .i64 (c 3), .int .i64 (c 4), .int .i64 (c 5), .int .i64 (c 6), .int .i64 (c 7), .int .i64 (c 8), .int .i64 (c 9), .int .i64 (c 10), .int .i64 (c 11), .int .i64 (c 12), .int .i64 (c 13)] 24)).alloc (.cells #[.int .i64 (c 2), .int .i64 (c 3), .int .i64 (c 4), .int .i64 (c 5), .int .i64 (c 6), .int .i64 (c 13)] t)) (some ⟨w.heap.size + 1, 0, none⟩) [c 2, c 3, c 4, c 5, c 6, c 13]) := fun t => by
    have h := ints_new (w.alloc (.cells #[.int .i64 (c 0), .int .i64 (c 1), .int .i64 (c 2), .int .i64 (c 3), .int .i64 (c 4), .int .i64 (c 5), .int .i64 (c 6), .int .i64 (c 7), .int .i64 (c 8), .int .i64 (c 9), .int .i64 (c 10), .int .i64 (c 11), .int .i64 (c 12), .int .i64 (c 13)] 24)) [c 2, c 3, c 4, c 5, c 6, c 13] t
    rw [World.size_alloc] at h
    exact h
  go_wp2_with fail
  refine (within_any _ _ _ _).mono ?_
  rintro e w' ⟨rfl, rfl⟩
  cases h0 : Tick.inB (c 1) 1 12
  case false =>
    have Ho : Hid (okC c = false) := by
      show okC c = false
      refine okC_false (fun h => ?_)
      rw [okC_iff] at h
      rw [Tick.inB_true (by omega) (by omega)] at h0
      cases h0
    clear h0
    go_wp2
    go_ret
    exact ⟨by rw [Ho.out]; rfl, bel_alloc _ _⟩
  have H0 := Lib.hid (Tick.inB_iff.1 h0)
  clear h0
  go_wp2_with fail
  refine (within_any _ _ _ _).mono ?_
  rintro e w' ⟨rfl, rfl⟩
  cases h1 : Tick.inB (c 0) 0 (c 1)
  case false =>
    have Ho : Hid (okC c = false) := by
      show okC c = false
      refine okC_false (fun h => ?_)
      rw [okC_iff] at h
      rw [Tick.inB_true (by omega) (by omega)] at h1
      cases h1
    clear h1
    go_wp2
    go_ret
    exact ⟨by rw [Ho.out]; rfl, bel_alloc _ _⟩
  have H1 := Lib.hid (Tick.inB_iff.1 h1)
  clear h1
  go_wp2_with fail
  refine (Tick.allTicks_any (some ⟨w.heap.size + 1, 0, none⟩) 6 6 [c 2, c 3, c 4, c 5, c 6, c 13] _ rfl (by decide) (HT.out _)).mono ?_
  rintro e w' ⟨rfl, rfl⟩
  cases h2 : [c 2, c 3, c 4, c 5, c 6, c 13].all Tick.isT
  case false =>
    have Ho : Hid (okC c = false) := by
      show okC c = false
      refine okC_false (fun h => ?_)
      rw [okC_iff] at h
      have hx : [c 2, c 3, c 4, c 5, c 6, c 13].all Tick.isT = true := by
        simp only [List.all_cons, List.all_nil, Bool.and_true, Bool.and_eq_true, Tick.isT_iff]
        omega
      rw [hx] at h2
      cases h2
    clear h2
    go_wp2
    go_ret
    exact ⟨by rw [Ho.out]; rfl, HB.out _ _⟩
  have H2 : Hid ((0 ≤ c 2 ∧ c 2 ≤ 1000000000) ∧ (0 ≤ c 3 ∧ c 3 ≤ 1000000000) ∧ (0 ≤ c 4 ∧ c 4 ≤ 1000000000) ∧ (0 ≤ c 5 ∧ c 5 ≤ 1000000000) ∧ (0 ≤ c 6 ∧ c 6 ≤ 1000000000) ∧ (0 ≤ c 13 ∧ c 13 ≤ 1000000000)) := by
    have hx := h2
    simp only [List.all_cons, List.all_nil, Bool.and_true, Bool.and_eq_true, Tick.isT_iff] at hx
    exact hx
  clear h2
  by_cases h3 : 1 ≤ c 2
  case neg =>
    have Ho : Hid (okC c = false) := by
      show okC c = false
      refine okC_false (fun h => ?_)
      rw [okC_iff] at h
      omega
    go_wp2
    go_ret
    exact ⟨by rw [Ho.out]; rfl, HB.out _ _⟩
  have H3 := Lib.hid h3
  by_cases h4 : 1 ≤ c 13
  case neg =>
    have Ho : Hid (okC c = false) := by
      show okC c = false
      refine okC_false (fun h => ?_)
      rw [okC_iff] at h
      omega
    go_wp2
    go_ret
    exact ⟨by rw [Ho.out]; rfl, HB.out _ _⟩
  have H4 := Lib.hid h4
  go_wp2_with fail
  refine (within_any _ _ _ _).mono ?_
  rintro e w' ⟨rfl, rfl⟩
  cases h5 : Tick.inB (c 7) 1 (c 8)
  case false =>
    have Ho : Hid (okC c = false) := by
      show okC c = false
      refine okC_false (fun h => ?_)
      rw [okC_iff] at h
      rw [Tick.inB_true (by omega) (by omega)] at h5
      cases h5
    clear h5
    go_wp2
    go_ret
    exact ⟨by rw [Ho.out]; rfl, HB.out _ _⟩
  have H5 := Lib.hid (Tick.inB_iff.1 h5)
  clear h5
  clear h4
  clear h3
  by_cases h6 : c 8 ≤ 1000000
  case neg =>
    have Ho : Hid (okC c = false) := by
      show okC c = false
      refine okC_false (fun h => ?_)
      rw [okC_iff] at h
      omega
    go_wp2
    go_ret
    exact ⟨by rw [Ho.out]; rfl, HB.out _ _⟩
  have H6 := Lib.hid h6
  go_wp2_with fail
  refine (within_any _ _ _ _).mono ?_
  rintro e w' ⟨rfl, rfl⟩
  cases h7 : Tick.inB (c 9) 0 100
  case false =>
    have Ho : Hid (okC c = false) := by
      show okC c = false
      refine okC_false (fun h => ?_)
      rw [okC_iff] at h
      rw [Tick.inB_true (by omega) (by omega)] at h7
      cases h7
    clear h7
    go_wp2
    go_ret
    exact ⟨by rw [Ho.out]; rfl, HB.out _ _⟩
  have H7 := Lib.hid (Tick.inB_iff.1 h7)
  clear h7
  clear h6
  go_wp2_with fail
  refine (within_any _ _ _ _).mono ?_
  rintro e w' ⟨rfl, rfl⟩
  cases h8 : Tick.inB (c 10) 1 1000000
  case false =>
    have Ho : Hid (okC c = false) := by
      show okC c = false
      refine okC_false (fun h => ?_)
      rw [okC_iff] at h
      rw [Tick.inB_true (by omega) (by omega)] at h8
      cases h8
    clear h8
    go_wp2
    go_ret
    exact ⟨by rw [Ho.out]; rfl, HB.out _ _⟩
  have H8 := Lib.hid (Tick.inB_iff.1 h8)
  clear h8
  go_wp2_with fail
  refine (within_any _ _ _ _).mono ?_
  rintro e w' ⟨rfl, rfl⟩
  cases h9 : Tick.inB (c 12) 1 1000000
  case false =>
    have Ho : Hid (okC c = false) := by
      show okC c = false
      refine okC_false (fun h => ?_)
      rw [okC_iff] at h
      rw [Tick.inB_true (by omega) (by omega)] at h9
      cases h9
    clear h9
    go_wp2
    go_ret
    exact ⟨by rw [Ho.out]; rfl, HB.out _ _⟩
  have H9 := Lib.hid (Tick.inB_iff.1 h9)
  clear h9
  go_wp2_with fail
  refine (within_any _ _ _ _).mono ?_
  rintro e w' ⟨rfl, rfl⟩
  cases h10 : Tick.inB (c 11) 1 20
  case false =>
    have Ho : Hid (okC c = false) := by
      show okC c = false
      refine okC_false (fun h => ?_)
      rw [okC_iff] at h
      rw [Tick.inB_true (by omega) (by omega)] at h10
      cases h10
    clear h10
    go_wp2
    go_ret
    exact ⟨by rw [Ho.out]; rfl, HB.out _ _⟩
  have H10 := Lib.hid (Tick.inB_iff.1 h10)
  clear h10
  have Ho : Hid (okC c = true) := by
    show okC c = true
    rw [okC_iff]
    have g0 := H0.out
    have g1 := H1.out
    have g2 := H2.out
    have g3 := H3.out
    have g4 := H4.out
    have g5 := H5.out
    have g6 := H6.out
    have g7 := H7.out
    have g8 := H8.out
    have g9 := H9.out
    have g10 := H10.out
    omega
  go_wp2
  go_ret
  exact ⟨by rw [Ho.out]; rfl, HB.out _ _⟩
end Go.Proofs.Ytehdbdolhkflcaa.Cf

namespace Go.Proofs.Ytehdbdolhkflcaa.Cf
open Go.RowKit Go.Deep Go.ChangeShapes Go.WideShapes Base

section
variable {H : Type} {enc : TypeId × Value → H} {W : World} {base : Nat} {spare : Nat → Bool} {held : Bool}
set_option maxRecDepth 100000 in
theorem open_config {rr : Reach} {b0 : Nat} {v : Value} {d : DataW H} {p : List MemPlace} (hv : Value.okWide Try.prog W rr b0 23 v) (h : DataW.Trod enc Try.prog W base spare held 23 v d p) :
    ∃ c : Nat → Int, v = .agg #[.int .i64 (c 0), .int .i64 (c 1), .int .i64 (c 2), .int .i64 (c 3), .int .i64 (c 4), .int .i64 (c 5), .int .i64 (c 6), .int .i64 (c 7), .int .i64 (c 8), .int .i64 (c 9), .int .i64 (c 10), .int .i64 (c 11), .int .i64 (c 12), .int .i64 (c 13)] := by
  have hC : Try.prog.cellsOf 23 = 14 := by kernel_rfl
  have hI : Try.prog.cellsOf 3 = 1 := by kernel_rfl
  obtain ⟨cs, rfl, hsz⟩ := okWide_struct Try.underlying23 hv
  obtain ⟨cl⟩ := cs
  obtain ⟨fuel, hf⟩ := h
  obtain ⟨ys, k, _, _, _, hyl, hg⟩ := DataW.trod_struct Try.underlying23 hf
  match cl, hsz.trans hC, ys, hyl with
  | [q0, q1, q2, q3, q4, q5, q6, q7, q8, q9, q10, q11, q12, q13], _, [y0, y1, y2, y3, y4, y5, y6, y7, y8, y9, y10, y11, y12, y13], _ =>
    have g0 : DataW.trod enc Try.prog W base spare held k 3 [q0] = some y0 := by have := hg 0 _ rfl; simpa [hI, Value.cells] using this
    have g1 : DataW.trod enc Try.prog W base spare held k 3 [q1] = some y1 := by have := hg 1 _ rfl; simpa [hI, Value.cells] using this
    have g2 : DataW.trod enc Try.prog W base spare held k 3 [q2] = some y2 := by have := hg 2 _ rfl; simpa [hI, Value.cells] using this
    have g3 : DataW.trod enc Try.prog W base spare held k 3 [q3] = some y3 := by have := hg 3 _ rfl; simpa [hI, Value.cells] using this
    have g4 : DataW.trod enc Try.prog W base spare held k 3 [q4] = some y4 := by have := hg 4 _ rfl; simpa [hI, Value.cells] using this
    have g5 : DataW.trod enc Try.prog W base spare held k 3 [q5] = some y5 := by have := hg 5 _ rfl; simpa [hI, Value.cells] using this
    have g6 : DataW.trod enc Try.prog W base spare held k 3 [q6] = some y6 := by have := hg 6 _ rfl; simpa [hI, Value.cells] using this
    have g7 : DataW.trod enc Try.prog W base spare held k 3 [q7] = some y7 := by have := hg 7 _ rfl; simpa [hI, Value.cells] using this
    have g8 : DataW.trod enc Try.prog W base spare held k 3 [q8] = some y8 := by have := hg 8 _ rfl; simpa [hI, Value.cells] using this
    have g9 : DataW.trod enc Try.prog W base spare held k 3 [q9] = some y9 := by have := hg 9 _ rfl; simpa [hI, Value.cells] using this
    have g10 : DataW.trod enc Try.prog W base spare held k 3 [q10] = some y10 := by have := hg 10 _ rfl; simpa [hI, Value.cells] using this
    have g11 : DataW.trod enc Try.prog W base spare held k 3 [q11] = some y11 := by have := hg 11 _ rfl; simpa [hI, Value.cells] using this
    have g12 : DataW.trod enc Try.prog W base spare held k 3 [q12] = some y12 := by have := hg 12 _ rfl; simpa [hI, Value.cells] using this
    have g13 : DataW.trod enc Try.prog W base spare held k 3 [q13] = some y13 := by have := hg 13 _ rfl; simpa [hI, Value.cells] using this
    obtain ⟨n0, e0, _⟩ := DataW.trod_int Try.underlying3 g0
    obtain ⟨n1, e1, _⟩ := DataW.trod_int Try.underlying3 g1
    obtain ⟨n2, e2, _⟩ := DataW.trod_int Try.underlying3 g2
    obtain ⟨n3, e3, _⟩ := DataW.trod_int Try.underlying3 g3
    obtain ⟨n4, e4, _⟩ := DataW.trod_int Try.underlying3 g4
    obtain ⟨n5, e5, _⟩ := DataW.trod_int Try.underlying3 g5
    obtain ⟨n6, e6, _⟩ := DataW.trod_int Try.underlying3 g6
    obtain ⟨n7, e7, _⟩ := DataW.trod_int Try.underlying3 g7
    obtain ⟨n8, e8, _⟩ := DataW.trod_int Try.underlying3 g8
    obtain ⟨n9, e9, _⟩ := DataW.trod_int Try.underlying3 g9
    obtain ⟨n10, e10, _⟩ := DataW.trod_int Try.underlying3 g10
    obtain ⟨n11, e11, _⟩ := DataW.trod_int Try.underlying3 g11
    obtain ⟨n12, e12, _⟩ := DataW.trod_int Try.underlying3 g12
    obtain ⟨n13, e13, _⟩ := DataW.trod_int Try.underlying3 g13
    simp at e0 e1 e2 e3 e4 e5 e6 e7 e8 e9 e10 e11 e12 e13
    subst e0 e1 e2 e3 e4 e5 e6 e7 e8 e9 e10 e11 e12 e13
    exact ⟨fun i => [n0, n1, n2, n3, n4, n5, n6, n7, n8, n9, n10, n11, n12, n13].getD i 0, rfl⟩
end


end Go.Proofs.Ytehdbdolhkflcaa.Cf

namespace Go.Proofs.Ytehdbdolhkflcaa.Cf
open Go.RowKit Base

/-- The configuration with another Min and Max. -/
def reC (c : Nat → Int) (l m : Int) : Nat → Int
  | 0 => l
  | 1 => m
  | i + 2 => c (i + 2)
def resB (c : Nat → Int) (l m : Int) : Bool := okC c && okC (reC c l m)
def resC (c : Nat → Int) (l m : Int) : Nat → Int := if resB c l m = true then reC c l m else c
def ResEnd (c : Nat → Int) (l m : Int) (w : World) (e : Ending) (w' : World) : Prop :=
  ∃ r : Nat → Int, r = resC c l m ∧ e = .returned (.tuple #[.agg #[.int .i64 (r 0), .int .i64 (r 1), .int .i64 (r 2), .int .i64 (r 3), .int .i64 (r 4), .int .i64 (r 5), .int .i64 (r 6), .int .i64 (r 7), .int .i64 (r 8), .int .i64 (r 9), .int .i64 (r 10), .int .i64 (r 11), .int .i64 (r 12), .int .i64 (r 13)], .bool (resB c l m)]) ∧ Below w.heap.size w w'


end Go.Proofs.Ytehdbdolhkflcaa.Cf
