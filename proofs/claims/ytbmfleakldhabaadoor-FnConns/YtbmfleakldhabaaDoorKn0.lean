/- Words for connections; contracts of toConn, eqConn and the reference's ConnOk, NewConn. -/
import Derived.Test.YtbmfleakldhabaaDoorChecked
import Derived.Test.YtbmfleakldhabaaDoorHtk
import Derived.Laws.Rows
namespace Go.Proofs.YtbmfleakldhabaaDoor.Kn
open Go.RowKit Base

/-- A valid connection; its numbers in their order are k 0 (Id) .. k 4 (Ticket), t is Told. -/
def okN (k : Nat → Int) (t : Bool) : Bool :=
  Tick.inB (k 0) 1 1000000000 && Tick.inB (k 1) 0 4 && Tick.isT (k 3) && Tick.inB (k 2) 0 (k 3) && (!(k 1 == 0) || (k 2 == 0)) && (if (k 1 == 3) = true then Tick.inB (k 4) 1 1000000000 else (k 4 == 0) && !t)

set_option maxRecDepth 100000 in
set_option maxHeartbeats 2000000 in
theorem toConn_any (k : Nat → Int) (t : Bool) (w : World) :
    Calls Tryd.prog 18 #[.agg #[.int .i64 (k 0), .int .i64 (k 1), .int .i64 (k 2), .int .i64 (k 3), .int .i64 (k 4), .bool t]] w fun e w' => e = .returned (.agg #[.int .i64 (k 0), .int .i64 (k 1), .int .i64 (k 2), .int .i64 (k 3), .int .i64 (k 4), .bool t]) ∧ Below w.heap.size w w' := by
  go_enter Tryd.func18, Tryd.ntmps18
  go_wp2
  refine bodyPost_ret (v := .agg #[.int .i64 (k 0), .int .i64 (k 1), .int .i64 (k 2), .int .i64 (k 3), .int .i64 (k 4), .bool t]) (by simp [results, Tryd.results18, go_sem]) rfl ⟨rfl, ?_⟩
  exact (((Below.refl _ _).alloc (Nat.le_refl _) _).alloc (by simp) _).alloc (by simp; omega) _

set_option maxRecDepth 100000 in
set_option maxHeartbeats 2000000 in
theorem eqConn_same (k : Nat → Int) (t : Bool) (w : World) :
    Calls Tryd.prog 19 #[.agg #[.int .i64 (k 0), .int .i64 (k 1), .int .i64 (k 2), .int .i64 (k 3), .int .i64 (k 4), .bool t], .agg #[.int .i64 (k 0), .int .i64 (k 1), .int .i64 (k 2), .int .i64 (k 3), .int .i64 (k 4), .bool t]] w fun e w' => e = .returned (.bool true) ∧ Below w.heap.size w w' := by
  go_enter Tryd.func19, Tryd.ntmps19
  go_wp2
  go_ret
  exact ⟨rfl, ((Below.refl _ _).alloc (Nat.le_refl _) _).alloc (by simp) _⟩

set_option maxRecDepth 100000 in
set_option maxHeartbeats 4000000 in
theorem specConnOk_any (k : Nat → Int) (t : Bool) (w : World) :
    Calls Tryd.prog 12 #[.agg #[.int .i64 (k 0), .int .i64 (k 1), .int .i64 (k 2), .int .i64 (k 3), .int .i64 (k 4), .bool t]] w fun e w' => e = .returned (.bool (okN k t)) ∧ Below w.heap.size w w' := by
  go_enter Tryd.func12, Tryd.ntmps12
  go_wp2_with fail
  refine (Tick.in_any _ _ _ _).mono ?_
  rintro e w' ⟨rfl, rfl⟩
  cases h0 : Tick.inB (k 0) 1 1000000000
  case false =>
    have Ho : Hid (okN k t = false) := by show okN k t = false; simp only [okN, h0, Bool.false_and]
    clear h0
    go_wp2
    go_ret
    exact ⟨by rw [Ho.out]; rfl, bel_alloc _ _⟩
  have H0 := Lib.hid h0
  clear h0
  go_wp2_with fail
  refine (Tick.in_any _ _ _ _).mono ?_
  rintro e w' ⟨rfl, rfl⟩
  cases h1 : Tick.inB (k 1) 0 4
  case false =>
    have Ho : Hid (okN k t = false) := by show okN k t = false; simp only [okN, h1, Bool.and_false, Bool.false_and]
    clear h1
    go_wp2
    go_ret
    exact ⟨by rw [Ho.out]; rfl, bel_alloc _ _⟩
  have H1 := Lib.hid h1
  clear h1
  go_wp2_with fail
  refine (Tick.specTickOk_any _ _).mono ?_
  rintro e w' ⟨rfl, rfl⟩
  cases h2 : Tick.isT (k 3)
  case false =>
    have Ho : Hid (okN k t = false) := by show okN k t = false; simp only [okN, h2, Bool.and_false, Bool.false_and]
    clear h2
    go_wp2
    go_ret
    exact ⟨by rw [Ho.out]; rfl, bel_alloc _ _⟩
  have H2 := Lib.hid h2
  clear h2
  go_wp2_with fail
  refine (Tick.in_any _ _ _ _).mono ?_
  rintro e w' ⟨rfl, rfl⟩
  cases h3 : Tick.inB (k 2) 0 (k 3)
  case false =>
    have Ho : Hid (okN k t = false) := by show okN k t = false; simp only [okN, h3, Bool.and_false, Bool.false_and]
    clear h3
    go_wp2
    go_ret
    exact ⟨by rw [Ho.out]; rfl, bel_alloc _ _⟩
  have H3 := Lib.hid h3
  clear h3
  have HE : Hid (okN k t = ((!(k 1 == 0) || (k 2 == 0)) && (if (k 1 == 3) = true then Tick.inB (k 4) 1 1000000000 else (k 4 == 0) && !t))) := by
    show okN k t = _
    simp only [okN, H0.out, H1.out, H2.out, H3.out, Bool.true_and]
  clear H0 H1 H2 H3
  cases h4 : (k 1 == 0)
  · cases h5 : (k 1 == 3)
    · cases h6 : (k 4 == 0)
      · have Ho : Hid (okN k t = false) := by rw [HE.out, h4, h5, h6]; rfl
        go_wp2
        go_ret
        exact ⟨by rw [Ho.out]; rfl, bel_alloc _ _⟩
      · have Ho : Hid (okN k t = !t) := by rw [HE.out, h4, h5, h6]; rfl
        cases t
        all_goals
          go_wp2
          go_ret
          exact ⟨by rw [Ho.out]; rfl, bel_alloc _ _⟩
    · have Ho : Hid (okN k t = Tick.inB (k 4) 1 1000000000) := by rw [HE.out, h4, h5]; rfl
      go_wp2_with fail
      refine (Tick.in_any _ _ _ _).mono ?_
      rintro e w' ⟨rfl, rfl⟩
      go_wp2
      go_ret
      exact ⟨by rw [Ho.out]; rfl, bel_alloc _ _⟩
  · cases h7 : (k 2 == 0)
    · have Ho : Hid (okN k t = false) := by rw [HE.out, h4, h7]; rfl
      go_wp2
      go_ret
      exact ⟨by rw [Ho.out]; rfl, bel_alloc _ _⟩
    · have h5 : (k 1 == 3) = false := by
        have e := beq_iff_eq.1 h4
        rw [e]
        rfl
      cases h6 : (k 4 == 0)
      · have Ho : Hid (okN k t = false) := by rw [HE.out, h4, h5, h6, h7]; rfl
        go_wp2
        go_ret
        exact ⟨by rw [Ho.out]; rfl, bel_alloc _ _⟩
      · have Ho : Hid (okN k t = !t) := by rw [HE.out, h4, h5, h6, h7]; rfl
        cases t
        all_goals
          go_wp2
          go_ret
          exact ⟨by rw [Ho.out]; rfl, bel_alloc _ _⟩
end Go.Proofs.YtbmfleakldhabaaDoor.Kn
