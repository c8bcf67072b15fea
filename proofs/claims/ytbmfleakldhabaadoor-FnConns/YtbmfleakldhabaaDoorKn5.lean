/- The reference's StepConn. -/
import Derived.Test.YtbmfleakldhabaaDoorKn1
import Derived.Test.YtbmfleakldhabaaDoorKn4
namespace Go.Proofs.YtbmfleakldhabaaDoor.Kn
open Go.RowKit Go.Deep Base Tick

/-- Whether an event may happen. -/
def canS (k : Nat → Int) (t : Bool) (e now n : Int) : Bool := okN k t && inB now (k 3) 1000000000 && decide (0 ≤ toN (k 1) e) && (!(e == 2) || inB n 1 1000000000)
/-- The connection behind it. -/
def stK (k : Nat → Int) (e now n : Int) : Nat → Int := fun i => [k 0, toN (k 1) e, if e = 0 then now else k 2, now, if e = 2 then n else 0].getD i 0
/-- What StepConn hands back. -/
def stR (k : Nat → Int) (t : Bool) (e now n : Int) : Nat → Int := if canS k t e now n = true then stK k e now n else k
def stT (k : Nat → Int) (t : Bool) (e now n : Int) : Bool := if canS k t e now n = true then false else t

def StEnd (k : Nat → Int) (t : Bool) (e now n : Int) (w : World) (r : Ending) (w' : World) : Prop :=
  r = .returned (.tuple #[.agg #[.int .i64 (stR k t e now n 0), .int .i64 (stR k t e now n 1), .int .i64 (stR k t e now n 2), .int .i64 (stR k t e now n 3), .int .i64 (stR k t e now n 4), .bool (stT k t e now n)], .bool (canS k t e now n)]) ∧ Below w.heap.size w w'

theorem st_no {k : Nat → Int} {t : Bool} {e now n : Int} {w w' : World} (h : canS k t e now n = false) (hb : Below w.heap.size w w') : StEnd k t e now n w (.returned (.tuple #[.agg #[.int .i64 (k 0), .int .i64 (k 1), .int .i64 (k 2), .int .i64 (k 3), .int .i64 (k 4), .bool t], .bool false])) w' := by
  refine ⟨?_, hb⟩
  have h1 : stR k t e now n = k := by unfold stR; rw [h]; rfl
  have h2 : stT k t e now n = t := by unfold stT; rw [h]; rfl
  rw [h1, h2, h]

theorem st_yes {k : Nat → Int} {t : Bool} {e now n s b x : Int} {w w' : World} (h : canS k t e now n = true) (hs : toN (k 1) e = s) (hb2 : (if e = 0 then now else k 2) = b) (hx : (if e = 2 then n else 0) = x) (hb : Below w.heap.size w w') : StEnd k t e now n w (.returned (.tuple #[.agg #[.int .i64 (k 0), .int .i64 s, .int .i64 b, .int .i64 now, .int .i64 x, .bool false], .bool true])) w' := by
  refine ⟨?_, hb⟩
  have h1 : stR k t e now n = stK k e now n := by unfold stR; rw [h]; rfl
  have h2 : stT k t e now n = false := by unfold stT; rw [h]; rfl
  rw [h1, h2, h]
  subst hs hb2 hx
  rfl

/-- A block of a connection with nothing in it. -/
def ZB (b : Nat) (w : World) : Prop := w.heap[b]? = some (.cells #[.int .i64 0, .int .i64 0, .int .i64 0, .int .i64 0, .int .i64 0, .bool false] 28 (0, 0))
theorem ZB.cells {b : Nat} {w : World} (h : ZB b w) : w.cell? ⟨b, 0, none⟩ = some (.int .i64 0) ∧ w.cell? ⟨b, 1, none⟩ = some (.int .i64 0) ∧ w.cell? ⟨b, 2, none⟩ = some (.int .i64 0) ∧ w.cell? ⟨b, 3, none⟩ = some (.int .i64 0) ∧ w.cell? ⟨b, 4, none⟩ = some (.int .i64 0) ∧ w.cell? ⟨b, 5, none⟩ = some (.bool false) ∧ ∀ j, w.frozen? ⟨b, j, none⟩ = false :=
  ⟨cell_of_row _ _ 0 _ _ (0, 0) h, cell_of_row _ _ 1 _ _ (0, 0) h, cell_of_row _ _ 2 _ _ (0, 0) h, cell_of_row _ _ 3 _ _ (0, 0) h, cell_of_row _ _ 4 _ _ (0, 0) h, cell_of_row _ _ 5 _ _ (0, 0) h, fun j => frozen_of_row _ _ j _ _ h⟩
theorem ZB.lt {b : Nat} {w : World} (h : ZB b w) : b < w.heap.size := World.block_lt_of_cell? _ _ h.cells.1
theorem ZB.below {b : Nat} {w w' : World} (h : ZB b w) (hb : Below w.heap.size w w') : ZB b w' := (hb.block b h.lt).trans h
theorem ZB.next (w : World) (o : Obj) : ZB (w.heap.size + 1) ((w.alloc o).alloc (.cells #[.int .i64 0, .int .i64 0, .int .i64 0, .int .i64 0, .int .i64 0, .bool false] 28)) := by
  have := heap_alloc_new (w.alloc o) (.cells #[.int .i64 0, .int .i64 0, .int .i64 0, .int .i64 0, .int .i64 0, .bool false] 28)
  rw [World.size_alloc] at this
  exact this

theorem stored6 {V : World} {b : Nat} (h : ZB b V) (v0 v1 v2 v3 v4 v5 : Value) (o : Obj) :
    (((((((V.setCell ⟨b, 0, none⟩ v0).setCell ⟨b, 1, none⟩ v1).setCell ⟨b, 2, none⟩ v2).setCell ⟨b, 3, none⟩ v3).setCell ⟨b, 4, none⟩ v4).setCell ⟨b, 5, none⟩ v5).alloc o).cell? ⟨b, 0, none⟩ = some v0 ∧ (((((((V.setCell ⟨b, 0, none⟩ v0).setCell ⟨b, 1, none⟩ v1).setCell ⟨b, 2, none⟩ v2).setCell ⟨b, 3, none⟩ v3).setCell ⟨b, 4, none⟩ v4).setCell ⟨b, 5, none⟩ v5).alloc o).cell? ⟨b, 1, none⟩ = some v1 ∧ (((((((V.setCell ⟨b, 0, none⟩ v0).setCell ⟨b, 1, none⟩ v1).setCell ⟨b, 2, none⟩ v2).setCell ⟨b, 3, none⟩ v3).setCell ⟨b, 4, none⟩ v4).setCell ⟨b, 5, none⟩ v5).alloc o).cell? ⟨b, 2, none⟩ = some v2 ∧ (((((((V.setCell ⟨b, 0, none⟩ v0).setCell ⟨b, 1, none⟩ v1).setCell ⟨b, 2, none⟩ v2).setCell ⟨b, 3, none⟩ v3).setCell ⟨b, 4, none⟩ v4).setCell ⟨b, 5, none⟩ v5).alloc o).cell? ⟨b, 3, none⟩ = some v3 ∧ (((((((V.setCell ⟨b, 0, none⟩ v0).setCell ⟨b, 1, none⟩ v1).setCell ⟨b, 2, none⟩ v2).setCell ⟨b, 3, none⟩ v3).setCell ⟨b, 4, none⟩ v4).setCell ⟨b, 5, none⟩ v5).alloc o).cell? ⟨b, 4, none⟩ = some v4 ∧ (((((((V.setCell ⟨b, 0, none⟩ v0).setCell ⟨b, 1, none⟩ v1).setCell ⟨b, 2, none⟩ v2).setCell ⟨b, 3, none⟩ v3).setCell ⟨b, 4, none⟩ v4).setCell ⟨b, 5, none⟩ v5).alloc o).cell? ⟨b, 5, none⟩ = some v5 := by
  have hl := h.lt
  obtain ⟨z0, z1, z2, z3, z4, z5, -⟩ := h.cells
  have hz : b < ((((((V.setCell ⟨b, 0, none⟩ v0).setCell ⟨b, 1, none⟩ v1).setCell ⟨b, 2, none⟩ v2).setCell ⟨b, 3, none⟩ v3).setCell ⟨b, 4, none⟩ v4).setCell ⟨b, 5, none⟩ v5).heap.size := by simp [World.setCell]; exact hl
  refine ⟨?_, ?_, ?_, ?_, ?_, ?_⟩ <;> (rw [World.cell?_alloc_lt _ _ _ hz]; simp [go_sem, z0, z1, z2, z3, z4, z5])

set_option maxRecDepth 100000 in
set_option maxHeartbeats 4000000 in
theorem specStep_any (k : Nat → Int) (t : Bool) (e now n : Int) (w : World) : Calls Tryd.prog 17 #[.agg #[.int .i64 (k 0), .int .i64 (k 1), .int .i64 (k 2), .int .i64 (k 3), .int .i64 (k 4), .bool t], .int .i64 e, .int .i64 now, .int .i64 n] w (StEnd k t e now n w) := by
  have HC : Hid (canS k t e now n = (okN k t && inB now (k 3) 1000000000 && decide (0 ≤ toN (k 1) e) && (!(e == 2) || inB n 1 1000000000))) := rfl
  have HK := Lib.hid (((KC.new k t w 28)).below (bel_alloc _ (.cells #[.int .i64 0, .int .i64 0, .int .i64 0, .int .i64 0, .int .i64 0, .bool false] 28)))
  have HZ := Lib.hid (ZB.next w (.cells #[.int .i64 (k 0), .int .i64 (k 1), .int .i64 (k 2), .int .i64 (k 3), .int .i64 (k 4), .bool t] 28))
  have B := Lib.hid (two_new w (.cells #[.int .i64 (k 0), .int .i64 (k 1), .int .i64 (k 2), .int .i64 (k 3), .int .i64 (k 4), .bool t] 28) (.cells #[.int .i64 0, .int .i64 0, .int .i64 0, .int .i64 0, .int .i64 0, .bool false] 28))
  go_enter Tryd.func17, Tryd.ntmps17
  go_wp2_with fail
  refine (specConnOk_any k t _).mono ?_
  rintro r w1 ⟨rfl, b1⟩
  replace HK := Lib.hid (HK.out.below b1)
  replace HZ := Lib.hid (HZ.out.below b1)
  replace B := Lib.hid (bel_trans B.out b1)
  clear b1
  obtain ⟨c0, c1, c2, c3, c4, c5⟩ := HK.out
  have s1 : w.heap.size + 1 < w1.heap.size := HZ.out.lt
  cases h0 : okN k t
  · have Hc : Hid (canS k t e now n = false) := by show _ = _; rw [HC.out, h0]; rfl
    clear h0
    obtain ⟨z0, z1, z2, z3, z4, z5, zf⟩ := HZ.out.cells
    go_wp2
    refine bodyPost_ret (v := .tuple #[.agg #[.int .i64 (k 0), .int .i64 (k 1), .int .i64 (k 2), .int .i64 (k 3), .int .i64 (k 4), .bool t], .bool false]) (by simp [results, go_sem, z0, z1, z2, z3, z4, z5]) rfl (st_no Hc.out (B.out.trans ?_))
    iterate 6 refine Below.setCell ?_ (by show w.heap.size ≤ w.heap.size + 1; omega) _
    exact Below.refl _ _
  have H0 := Lib.hid h0
  clear h0
  go_wp2_with fail
  refine (in_any _ _ _ _).mono ?_
  rintro r w' ⟨rfl, rfl⟩
  cases h1 : inB now (k 3) 1000000000
  · have Hc : Hid (canS k t e now n = false) := by show _ = _; rw [HC.out, H0.out, h1]; rfl
    clear h1
    obtain ⟨z0, z1, z2, z3, z4, z5, zf⟩ := HZ.out.cells
    go_wp2
    refine bodyPost_ret (v := .tuple #[.agg #[.int .i64 (k 0), .int .i64 (k 1), .int .i64 (k 2), .int .i64 (k 3), .int .i64 (k 4), .bool t], .bool false]) (by simp [results, go_sem, z0, z1, z2, z3, z4, z5]) rfl (st_no Hc.out (B.out.trans ?_))
    iterate 6 refine Below.setCell ?_ (by show w.heap.size ≤ w.heap.size + 1; omega) _
    exact Below.refl _ _
  have H1 := Lib.hid h1
  clear h1
  go_wp2_with fail
  refine (to_any (k 1) e _).mono ?_
  rintro r w2 ⟨rfl, b2⟩
  replace HK := Lib.hid (HK.out.below b2)
  replace HZ := Lib.hid (HZ.out.below b2)
  replace B := Lib.hid (bel_trans B.out b2)
  have s2 : w.heap.size + 1 < w2.heap.size := HZ.out.lt
  clear b2 c0 c1 c2 c3 c4 c5 s1
  obtain ⟨c0, c1, c2, c3, c4, c5⟩ := HK.out
  obtain ⟨s, hs⟩ : ∃ s, toN (k 1) e = s := ⟨_, rfl⟩
  rw [hs]
  have Hs := Lib.hid hs
  rw [hs] at HC
  clear hs
  by_cases h2 : s < 0
  · have Hc : Hid (canS k t e now n = false) := by show _ = _; rw [HC.out, H0.out, H1.out, decide_eq_false (by omega)]; rfl
    obtain ⟨z0, z1, z2, z3, z4, z5, zf⟩ := HZ.out.cells
    go_wp2
    refine bodyPost_ret (v := .tuple #[.agg #[.int .i64 (k 0), .int .i64 (k 1), .int .i64 (k 2), .int .i64 (k 3), .int .i64 (k 4), .bool t], .bool false]) (by simp [results, go_sem, z0, z1, z2, z3, z4, z5]) rfl (st_no Hc.out (B.out.trans ?_))
    iterate 6 refine Below.setCell ?_ (by show w.heap.size ≤ w.heap.size + 1; omega) _
    exact Below.refl _ _
  have H2 : Hid (decide (0 ≤ s) = true) := by show _ = _; exact decide_eq_true (by omega)
  by_cases h3 : e = 2
  · subst h3
    go_wp2_with fail
    refine (in_any _ _ _ _).mono ?_
    rintro r w' ⟨rfl, rfl⟩
    obtain ⟨z0, z1, z2, z3, z4, z5, zf⟩ := HZ.out.cells
    cases h4 : inB n 1 1000000000
    · have Hc : Hid (canS k t 2 now n = false) := by show _ = _; rw [HC.out, H0.out, H1.out, H2.out, h4]; rfl
      clear h4
      go_wp2
      refine bodyPost_ret (v := .tuple #[.agg #[.int .i64 (k 0), .int .i64 (k 1), .int .i64 (k 2), .int .i64 (k 3), .int .i64 (k 4), .bool t], .bool false]) (by simp [results, go_sem, z0, z1, z2, z3, z4, z5]) rfl (st_no Hc.out (B.out.trans ?_))
      iterate 6 refine Below.setCell ?_ (by show w.heap.size ≤ w.heap.size + 1; omega) _
      exact Below.refl _ _
    · have Hc : Hid (canS k t 2 now n = true) := by show _ = _; rw [HC.out, H0.out, H1.out, H2.out, h4]; rfl
      clear h4
      have Hne : Hid (¬ (2 : Int) = 0) := by show ¬ _; decide
      go_wp2
      obtain ⟨f0, f1, f2, f3, f4, f5⟩ := stored6 HZ.out (.int .i64 (k 0)) (.int .i64 s) (.int .i64 (k 2)) (.int .i64 now) (.int .i64 n) (.bool false) (.cells #[.int .i64 (k 0), .int .i64 s, .int .i64 (k 2), .int .i64 now, .int .i64 n, .bool false] 28)
      refine bodyPost_ret (v := .tuple #[.agg #[.int .i64 (k 0), .int .i64 s, .int .i64 (k 2), .int .i64 now, .int .i64 n, .bool false], .bool true]) (by simp [results, go_sem, f0, f1, f2, f3, f4, f5]) rfl (st_yes Hc.out Hs.out ?x1 ?x2 (B.out.trans ?x3))
      case x1 => first | rfl | exact if_neg Hne.out
      case x2 => first | rfl | exact if_neg Hnt.out
      case x3 =>
        refine Below.alloc ?_ (by simp [World.setCell]; omega) _
        iterate 6 refine Below.setCell ?_ (by show w.heap.size ≤ w.heap.size + 1; omega) _
        exact Below.refl _ _
  · have h3b : (e == 2) = false := by simpa using h3
    have Hnt := Lib.hid h3
    obtain ⟨z0, z1, z2, z3, z4, z5, zf⟩ := HZ.out.cells
    have Hc : Hid (canS k t e now n = true) := by show _ = _; rw [HC.out, H0.out, H1.out, H2.out, h3b]; rfl
    by_cases h5 : e = 0
    · subst h5
      go_wp2
      obtain ⟨f0, f1, f2, f3, f4, f5⟩ := stored6 HZ.out (.int .i64 (k 0)) (.int .i64 s) (.int .i64 now) (.int .i64 now) (.int .i64 0) (.bool false) (.cells #[.int .i64 (k 0), .int .i64 s, .int .i64 now, .int .i64 now, .int .i64 0, .bool false] 28)
      refine bodyPost_ret (v := .tuple #[.agg #[.int .i64 (k 0), .int .i64 s, .int .i64 now, .int .i64 now, .int .i64 0, .bool false], .bool true]) (by simp [results, go_sem, f0, f1, f2, f3, f4, f5]) rfl (st_yes Hc.out Hs.out ?x1 ?x2 (B.out.trans ?x3))
      case x1 => first | rfl | exact if_neg Hne.out
      case x2 => first | rfl | exact if_neg Hnt.out
      case x3 =>
        refine Below.alloc ?_ (by simp [World.setCell]; omega) _
        iterate 6 refine Below.setCell ?_ (by show w.heap.size ≤ w.heap.size + 1; omega) _
        exact Below.refl _ _
    · have h5b : (e == 0) = false := by simpa using h5
      have Hne := Lib.hid h5
      go_wp2
      obtain ⟨f0, f1, f2, f3, f4, f5⟩ := stored6 HZ.out (.int .i64 (k 0)) (.int .i64 s) (.int .i64 (k 2)) (.int .i64 now) (.int .i64 0) (.bool false) (.cells #[.int .i64 (k 0), .int .i64 s, .int .i64 (k 2), .int .i64 now, .int .i64 0, .bool false] 28)
      refine bodyPost_ret (v := .tuple #[.agg #[.int .i64 (k 0), .int .i64 s, .int .i64 (k 2), .int .i64 now, .int .i64 0, .bool false], .bool true]) (by simp [results, go_sem, f0, f1, f2, f3, f4, f5]) rfl (st_yes Hc.out Hs.out ?x1 ?x2 (B.out.trans ?x3))
      case x1 => first | rfl | exact if_neg Hne.out
      case x2 => first | rfl | exact if_neg Hnt.out
      case x3 =>
        refine Below.alloc ?_ (by simp [World.setCell]; omega) _
        iterate 6 refine Below.setCell ?_ (by show w.heap.size ≤ w.heap.size + 1; omega) _
        exact Below.refl _ _
end Go.Proofs.YtbmfleakldhabaaDoor.Kn
