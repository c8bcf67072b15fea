/- Resized, the reference's and the program's; its law walked. -/
import Derived.Test.YtlcblpfnbijddaaCfg3
namespace Go.Proofs.Ytlcblpfnbijddaa.Cf
open Go.RowKit Base

/-- The configuration with another Min and Max. -/
def reC (c : Nat → Int) (l m : Int) : Nat → Int
  | 0 => l
  | 1 => m
  | i + 2 => c (i + 2)
def resB (c : Nat → Int) (l m : Int) : Bool := okC c && okC (reC c l m)
def resC (c : Nat → Int) (l m : Int) : Nat → Int := if resB c l m = true then reC c l m else c
def ResEnd (c : Nat → Int) (l m : Int) (w : World) (e : Ending) (w' : World) : Prop :=
  ∃ r : Nat → Int, r = resC c l m ∧ e = .returned (.tuple #[.agg #[.int .i64 (r 0), .int .i64 (r 1), .int .i64 (r 2), .int .i64 (r 3), .int .i64 (r 4), .int .i64 (r 5), .int .i64 (r 6), .int .i64 (r 7), .int .i64 (r 8), .int .i64 (r 9), .int .i64 (r 10), .int .i64 (r 11), .int .i64 (r 12), .int .i64 (r 13)], .bool (resB c l m)]) ∧ Below w.heap.size w w'

set_option maxRecDepth 100000 in
set_option maxHeartbeats 4000000 in
theorem specResized_any (c : Nat → Int) (l m : Int) (w : World) : Calls Try.prog 13 #[.agg #[.int .i64 (c 0), .int .i64 (c 1), .int .i64 (c 2), .int .i64 (c 3), .int .i64 (c 4), .int .i64 (c 5), .int .i64 (c 6), .int .i64 (c 7), .int .i64 (c 8), .int .i64 (c 9), .int .i64 (c 10), .int .i64 (c 11), .int .i64 (c 12), .int .i64 (c 13)], .int .i64 l, .int .i64 m] w (ResEnd c l m w) := by
  go_enter Try.func13, Try.ntmps13
  go_wp2_with fail
  obtain ⟨W0, hW0⟩ : ∃ W0, ((w.alloc (.cells #[.int .i64 (c 0), .int .i64 (c 1), .int .i64 (c 2), .int .i64 (c 3), .int .i64 (c 4), .int .i64 (c 5), .int .i64 (c 6), .int .i64 (c 7), .int .i64 (c 8), .int .i64 (c 9), .int .i64 (c 10), .int .i64 (c 11), .int .i64 (c 12), .int .i64 (c 13)] 25)).alloc (.cells #[.int .i64 0, .int .i64 0, .int .i64 0, .int .i64 0, .int .i64 0, .int .i64 0, .int .i64 0, .int .i64 0, .int .i64 0, .int .i64 0, .int .i64 0, .int .i64 0, .int .i64 0, .int .i64 0] 25)).alloc (.cells #[.int .i64 l, .int .i64 m, .int .i64 (c 2), .int .i64 (c 3), .int .i64 (c 4), .int .i64 (c 5), .int .i64 (c 6), .int .i64 (c 7), .int .i64 (c 8), .int .i64 (c 9), .int .i64 (c 10), .int .i64 (c 11), .int .i64 (c 12), .int .i64 (c 13)] 25) = W0 := ⟨_, rfl⟩
  have B : Hid (Below w.heap.size w W0) := by rw [← hW0]; exact (((Below.refl _ _).alloc (Nat.le_refl _) _).alloc (by simp) _).alloc (by simp; omega) _
  have KC : Hid (W0.heap[w.heap.size]? = some (.cells #[.int .i64 (c 0), .int .i64 (c 1), .int .i64 (c 2), .int .i64 (c 3), .int .i64 (c 4), .int .i64 (c 5), .int .i64 (c 6), .int .i64 (c 7), .int .i64 (c 8), .int .i64 (c 9), .int .i64 (c 10), .int .i64 (c 11), .int .i64 (c 12), .int .i64 (c 13)] 25 (0, 0))) := by
    rw [← hW0]
    exact (Below.heap_alloc _ _ _ (by simp; omega)).trans ((Below.heap_alloc _ _ _ (by simp)).trans (heap_alloc_new w _))
  have KZ : Hid (W0.heap[w.heap.size + 1]? = some (.cells #[.int .i64 0, .int .i64 0, .int .i64 0, .int .i64 0, .int .i64 0, .int .i64 0, .int .i64 0, .int .i64 0, .int .i64 0, .int .i64 0, .int .i64 0, .int .i64 0, .int .i64 0, .int .i64 0] 25 (0, 0))) := by
    rw [← hW0]
    have h := heap_alloc_new (w.alloc (.cells #[.int .i64 (c 0), .int .i64 (c 1), .int .i64 (c 2), .int .i64 (c 3), .int .i64 (c 4), .int .i64 (c 5), .int .i64 (c 6), .int .i64 (c 7), .int .i64 (c 8), .int .i64 (c 9), .int .i64 (c 10), .int .i64 (c 11), .int .i64 (c 12), .int .i64 (c 13)] 25)) (.cells #[.int .i64 0, .int .i64 0, .int .i64 0, .int .i64 0, .int .i64 0, .int .i64 0, .int .i64 0, .int .i64 0, .int .i64 0, .int .i64 0, .int .i64 0, .int .i64 0, .int .i64 0, .int .i64 0] 25)
    rw [World.size_alloc] at h
    exact (Below.heap_alloc _ _ _ (by simp)).trans h
  have KO : Hid (W0.heap[w.heap.size + 1 + 1]? = some (.cells #[.int .i64 l, .int .i64 m, .int .i64 (c 2), .int .i64 (c 3), .int .i64 (c 4), .int .i64 (c 5), .int .i64 (c 6), .int .i64 (c 7), .int .i64 (c 8), .int .i64 (c 9), .int .i64 (c 10), .int .i64 (c 11), .int .i64 (c 12), .int .i64 (c 13)] 25 (0, 0))) := by
    rw [← hW0]
    have h := heap_alloc_new ((w.alloc (.cells #[.int .i64 (c 0), .int .i64 (c 1), .int .i64 (c 2), .int .i64 (c 3), .int .i64 (c 4), .int .i64 (c 5), .int .i64 (c 6), .int .i64 (c 7), .int .i64 (c 8), .int .i64 (c 9), .int .i64 (c 10), .int .i64 (c 11), .int .i64 (c 12), .int .i64 (c 13)] 25)).alloc (.cells #[.int .i64 0, .int .i64 0, .int .i64 0, .int .i64 0, .int .i64 0, .int .i64 0, .int .i64 0, .int .i64 0, .int .i64 0, .int .i64 0, .int .i64 0, .int .i64 0, .int .i64 0, .int .i64 0] 25)) (.cells #[.int .i64 l, .int .i64 m, .int .i64 (c 2), .int .i64 (c 3), .int .i64 (c 4), .int .i64 (c 5), .int .i64 (c 6), .int .i64 (c 7), .int .i64 (c 8), .int .i64 (c 9), .int .i64 (c 10), .int .i64 (c 11), .int .i64 (c 12), .int .i64 (c 13)] 25)
    simp only [World.size_alloc] at h
    exact h
  have z : w.heap.size + 1 + 1 < W0.heap.size := (Array.getElem?_eq_some_iff.1 KO.out).1
  rw [hW0]
  clear hW0
  refine (specConfigOk_any c _).mono ?_
  rintro e w1 ⟨rfl, b1⟩
  replace B := Lib.hid (bel_trans B.out b1)
  replace KC := Lib.hid ((b1.block _ (by omega)).trans KC.out)
  replace KZ := Lib.hid ((b1.block _ (by omega)).trans KZ.out)
  replace KO := Lib.hid ((b1.block _ (by omega)).trans KO.out)
  have z1 : w.heap.size + 1 + 1 < w1.heap.size := Nat.lt_of_lt_of_le z b1.size
  clear b1 z
  cases h1 : okC c
  · have Hb : Hid (resB c l m = false) := by show resB c l m = false; unfold resB; rw [h1]; rfl
    have Hc : Hid (resC c l m = c) := by show resC c l m = c; unfold resC; rw [Hb.out]; rfl
    clear h1
    have hcx : ∀ o, w1.cell? ⟨w.heap.size, o, none⟩ = (#[.int .i64 (c 0), .int .i64 (c 1), .int .i64 (c 2), .int .i64 (c 3), .int .i64 (c 4), .int .i64 (c 5), .int .i64 (c 6), .int .i64 (c 7), .int .i64 (c 8), .int .i64 (c 9), .int .i64 (c 10), .int .i64 (c 11), .int .i64 (c 12), .int .i64 (c 13)] : Array Value)[o]? := fun o => cell_of_row _ _ o _ _ (0, 0) KC.out
    have x0 : w1.cell? ⟨w.heap.size, 0, none⟩ = some (.int .i64 (c 0)) := hcx 0
    have x1 : w1.cell? ⟨w.heap.size, 1, none⟩ = some (.int .i64 (c 1)) := hcx 1
    have x2 : w1.cell? ⟨w.heap.size, 2, none⟩ = some (.int .i64 (c 2)) := hcx 2
    have x3 : w1.cell? ⟨w.heap.size, 3, none⟩ = some (.int .i64 (c 3)) := hcx 3
    have x4 : w1.cell? ⟨w.heap.size, 4, none⟩ = some (.int .i64 (c 4)) := hcx 4
    have x5 : w1.cell? ⟨w.heap.size, 5, none⟩ = some (.int .i64 (c 5)) := hcx 5
    have x6 : w1.cell? ⟨w.heap.size, 6, none⟩ = some (.int .i64 (c 6)) := hcx 6
    have x7 : w1.cell? ⟨w.heap.size, 7, none⟩ = some (.int .i64 (c 7)) := hcx 7
    have x8 : w1.cell? ⟨w.heap.size, 8, none⟩ = some (.int .i64 (c 8)) := hcx 8
    have x9 : w1.cell? ⟨w.heap.size, 9, none⟩ = some (.int .i64 (c 9)) := hcx 9
    have x10 : w1.cell? ⟨w.heap.size, 10, none⟩ = some (.int .i64 (c 10)) := hcx 10
    have x11 : w1.cell? ⟨w.heap.size, 11, none⟩ = some (.int .i64 (c 11)) := hcx 11
    have x12 : w1.cell? ⟨w.heap.size, 12, none⟩ = some (.int .i64 (c 12)) := hcx 12
    have x13 : w1.cell? ⟨w.heap.size, 13, none⟩ = some (.int .i64 (c 13)) := hcx 13
    clear hcx
    have hcy : ∀ o, w1.cell? ⟨w.heap.size + 1, o, none⟩ = (#[.int .i64 0, .int .i64 0, .int .i64 0, .int .i64 0, .int .i64 0, .int .i64 0, .int .i64 0, .int .i64 0, .int .i64 0, .int .i64 0, .int .i64 0, .int .i64 0, .int .i64 0, .int .i64 0] : Array Value)[o]? := fun o => cell_of_row _ _ o _ _ (0, 0) KZ.out
    have y0 : w1.cell? ⟨w.heap.size + 1, 0, none⟩ = some (.int .i64 0) := hcy 0
    have y1 : w1.cell? ⟨w.heap.size + 1, 1, none⟩ = some (.int .i64 0) := hcy 1
    have y2 : w1.cell? ⟨w.heap.size + 1, 2, none⟩ = some (.int .i64 0) := hcy 2
    have y3 : w1.cell? ⟨w.heap.size + 1, 3, none⟩ = some (.int .i64 0) := hcy 3
    have y4 : w1.cell? ⟨w.heap.size + 1, 4, none⟩ = some (.int .i64 0) := hcy 4
    have y5 : w1.cell? ⟨w.heap.size + 1, 5, none⟩ = some (.int .i64 0) := hcy 5
    have y6 : w1.cell? ⟨w.heap.size + 1, 6, none⟩ = some (.int .i64 0) := hcy 6
    have y7 : w1.cell? ⟨w.heap.size + 1, 7, none⟩ = some (.int .i64 0) := hcy 7
    have y8 : w1.cell? ⟨w.heap.size + 1, 8, none⟩ = some (.int .i64 0) := hcy 8
    have y9 : w1.cell? ⟨w.heap.size + 1, 9, none⟩ = some (.int .i64 0) := hcy 9
    have y10 : w1.cell? ⟨w.heap.size + 1, 10, none⟩ = some (.int .i64 0) := hcy 10
    have y11 : w1.cell? ⟨w.heap.size + 1, 11, none⟩ = some (.int .i64 0) := hcy 11
    have y12 : w1.cell? ⟨w.heap.size + 1, 12, none⟩ = some (.int .i64 0) := hcy 12
    have y13 : w1.cell? ⟨w.heap.size + 1, 13, none⟩ = some (.int .i64 0) := hcy 13
    have yf : ∀ j, w1.frozen? ⟨w.heap.size + 1, j, none⟩ = false := fun j => frozen_of_row _ _ j _ _ KZ.out
    clear hcy
    have hne1 : w.heap.size ≠ w.heap.size + 1 := by omega
    go_wp2
    refine bodyPost_ret (v := .tuple #[.agg #[.int .i64 (c 0), .int .i64 (c 1), .int .i64 (c 2), .int .i64 (c 3), .int .i64 (c 4), .int .i64 (c 5), .int .i64 (c 6), .int .i64 (c 7), .int .i64 (c 8), .int .i64 (c 9), .int .i64 (c 10), .int .i64 (c 11), .int .i64 (c 12), .int .i64 (c 13)], .bool false]) (by simp [results, Try.results13, go_sem, y0, y1, y2, y3, y4, y5, y6, y7, y8, y9, y10, y11, y12, y13]) rfl ⟨_, rfl, ?_, ?_⟩
    · rw [Hc.out, Hb.out]
    · iterate 14 refine Below.setCell ?_ (by show w.heap.size ≤ w.heap.size + 1; omega) _
      exact B.out
  have H1 := Lib.hid h1
  clear h1
  have hcu : ∀ o, w1.cell? ⟨w.heap.size + 1 + 1, o, none⟩ = (#[.int .i64 l, .int .i64 m, .int .i64 (c 2), .int .i64 (c 3), .int .i64 (c 4), .int .i64 (c 5), .int .i64 (c 6), .int .i64 (c 7), .int .i64 (c 8), .int .i64 (c 9), .int .i64 (c 10), .int .i64 (c 11), .int .i64 (c 12), .int .i64 (c 13)] : Array Value)[o]? := fun o => cell_of_row _ _ o _ _ (0, 0) KO.out
  have u0 : w1.cell? ⟨w.heap.size + 1 + 1, 0, none⟩ = some (.int .i64 l) := hcu 0
  have u1 : w1.cell? ⟨w.heap.size + 1 + 1, 1, none⟩ = some (.int .i64 m) := hcu 1
  have u2 : w1.cell? ⟨w.heap.size + 1 + 1, 2, none⟩ = some (.int .i64 (c 2)) := hcu 2
  have u3 : w1.cell? ⟨w.heap.size + 1 + 1, 3, none⟩ = some (.int .i64 (c 3)) := hcu 3
  have u4 : w1.cell? ⟨w.heap.size + 1 + 1, 4, none⟩ = some (.int .i64 (c 4)) := hcu 4
  have u5 : w1.cell? ⟨w.heap.size + 1 + 1, 5, none⟩ = some (.int .i64 (c 5)) := hcu 5
  have u6 : w1.cell? ⟨w.heap.size + 1 + 1, 6, none⟩ = some (.int .i64 (c 6)) := hcu 6
  have u7 : w1.cell? ⟨w.heap.size + 1 + 1, 7, none⟩ = some (.int .i64 (c 7)) := hcu 7
  have u8 : w1.cell? ⟨w.heap.size + 1 + 1, 8, none⟩ = some (.int .i64 (c 8)) := hcu 8
  have u9 : w1.cell? ⟨w.heap.size + 1 + 1, 9, none⟩ = some (.int .i64 (c 9)) := hcu 9
  have u10 : w1.cell? ⟨w.heap.size + 1 + 1, 10, none⟩ = some (.int .i64 (c 10)) := hcu 10
  have u11 : w1.cell? ⟨w.heap.size + 1 + 1, 11, none⟩ = some (.int .i64 (c 11)) := hcu 11
  have u12 : w1.cell? ⟨w.heap.size + 1 + 1, 12, none⟩ = some (.int .i64 (c 12)) := hcu 12
  have u13 : w1.cell? ⟨w.heap.size + 1 + 1, 13, none⟩ = some (.int .i64 (c 13)) := hcu 13
  clear hcu
  go_wp2_with fail
  clear u0 u1 u2 u3 u4 u5 u6 u7 u8 u9 u10 u11 u12 u13
  refine (specConfigOk_any (reC c l m) _).mono ?_
  rintro e w2 ⟨rfl, b2⟩
  replace B := Lib.hid (bel_trans B.out b2)
  replace KC := Lib.hid ((b2.block _ (by omega)).trans KC.out)
  replace KZ := Lib.hid ((b2.block _ (by omega)).trans KZ.out)
  replace KO := Lib.hid ((b2.block _ (by omega)).trans KO.out)
  have z2 : w.heap.size + 1 + 1 < w2.heap.size := Nat.lt_of_lt_of_le z1 b2.size
  clear b2 z1
  have hcy : ∀ o, w2.cell? ⟨w.heap.size + 1, o, none⟩ = (#[.int .i64 0, .int .i64 0, .int .i64 0, .int .i64 0, .int .i64 0, .int .i64 0, .int .i64 0, .int .i64 0, .int .i64 0, .int .i64 0, .int .i64 0, .int .i64 0, .int .i64 0, .int .i64 0] : Array Value)[o]? := fun o => cell_of_row _ _ o _ _ (0, 0) KZ.out
  have y0 : w2.cell? ⟨w.heap.size + 1, 0, none⟩ = some (.int .i64 0) := hcy 0
  have y1 : w2.cell? ⟨w.heap.size + 1, 1, none⟩ = some (.int .i64 0) := hcy 1
  have y2 : w2.cell? ⟨w.heap.size + 1, 2, none⟩ = some (.int .i64 0) := hcy 2
  have y3 : w2.cell? ⟨w.heap.size + 1, 3, none⟩ = some (.int .i64 0) := hcy 3
  have y4 : w2.cell? ⟨w.heap.size + 1, 4, none⟩ = some (.int .i64 0) := hcy 4
  have y5 : w2.cell? ⟨w.heap.size + 1, 5, none⟩ = some (.int .i64 0) := hcy 5
  have y6 : w2.cell? ⟨w.heap.size + 1, 6, none⟩ = some (.int .i64 0) := hcy 6
  have y7 : w2.cell? ⟨w.heap.size + 1, 7, none⟩ = some (.int .i64 0) := hcy 7
  have y8 : w2.cell? ⟨w.heap.size + 1, 8, none⟩ = some (.int .i64 0) := hcy 8
  have y9 : w2.cell? ⟨w.heap.size + 1, 9, none⟩ = some (.int .i64 0) := hcy 9
  have y10 : w2.cell? ⟨w.heap.size + 1, 10, none⟩ = some (.int .i64 0) := hcy 10
  have y11 : w2.cell? ⟨w.heap.size + 1, 11, none⟩ = some (.int .i64 0) := hcy 11
  have y12 : w2.cell? ⟨w.heap.size + 1, 12, none⟩ = some (.int .i64 0) := hcy 12
  have y13 : w2.cell? ⟨w.heap.size + 1, 13, none⟩ = some (.int .i64 0) := hcy 13
  have yf : ∀ j, w2.frozen? ⟨w.heap.size + 1, j, none⟩ = false := fun j => frozen_of_row _ _ j _ _ KZ.out
  clear hcy
  have hne1 : w.heap.size ≠ w.heap.size + 1 := by omega
  have hne2 : w.heap.size + 1 + 1 ≠ w.heap.size + 1 := by omega
  cases h2 : okC (reC c l m)
  · have Hb : Hid (resB c l m = false) := by show resB c l m = false; unfold resB; rw [h2]; simp
    have Hc : Hid (resC c l m = c) := by show resC c l m = c; unfold resC; rw [Hb.out]; rfl
    clear h2
    have hcx : ∀ o, w2.cell? ⟨w.heap.size, o, none⟩ = (#[.int .i64 (c 0), .int .i64 (c 1), .int .i64 (c 2), .int .i64 (c 3), .int .i64 (c 4), .int .i64 (c 5), .int .i64 (c 6), .int .i64 (c 7), .int .i64 (c 8), .int .i64 (c 9), .int .i64 (c 10), .int .i64 (c 11), .int .i64 (c 12), .int .i64 (c 13)] : Array Value)[o]? := fun o => cell_of_row _ _ o _ _ (0, 0) KC.out
    have x0 : w2.cell? ⟨w.heap.size, 0, none⟩ = some (.int .i64 (c 0)) := hcx 0
    have x1 : w2.cell? ⟨w.heap.size, 1, none⟩ = some (.int .i64 (c 1)) := hcx 1
    have x2 : w2.cell? ⟨w.heap.size, 2, none⟩ = some (.int .i64 (c 2)) := hcx 2
    have x3 : w2.cell? ⟨w.heap.size, 3, none⟩ = some (.int .i64 (c 3)) := hcx 3
    have x4 : w2.cell? ⟨w.heap.size, 4, none⟩ = some (.int .i64 (c 4)) := hcx 4
    have x5 : w2.cell? ⟨w.heap.size, 5, none⟩ = some (.int .i64 (c 5)) := hcx 5
    have x6 : w2.cell? ⟨w.heap.size, 6, none⟩ = some (.int .i64 (c 6)) := hcx 6
    have x7 : w2.cell? ⟨w.heap.size, 7, none⟩ = some (.int .i64 (c 7)) := hcx 7
    have x8 : w2.cell? ⟨w.heap.size, 8, none⟩ = some (.int .i64 (c 8)) := hcx 8
    have x9 : w2.cell? ⟨w.heap.size, 9, none⟩ = some (.int .i64 (c 9)) := hcx 9
    have x10 : w2.cell? ⟨w.heap.size, 10, none⟩ = some (.int .i64 (c 10)) := hcx 10
    have x11 : w2.cell? ⟨w.heap.size, 11, none⟩ = some (.int .i64 (c 11)) := hcx 11
    have x12 : w2.cell? ⟨w.heap.size, 12, none⟩ = some (.int .i64 (c 12)) := hcx 12
    have x13 : w2.cell? ⟨w.heap.size, 13, none⟩ = some (.int .i64 (c 13)) := hcx 13
    clear hcx
    go_wp2
    refine bodyPost_ret (v := .tuple #[.agg #[.int .i64 (c 0), .int .i64 (c 1), .int .i64 (c 2), .int .i64 (c 3), .int .i64 (c 4), .int .i64 (c 5), .int .i64 (c 6), .int .i64 (c 7), .int .i64 (c 8), .int .i64 (c 9), .int .i64 (c 10), .int .i64 (c 11), .int .i64 (c 12), .int .i64 (c 13)], .bool false]) (by simp [results, Try.results13, go_sem, y0, y1, y2, y3, y4, y5, y6, y7, y8, y9, y10, y11, y12, y13]) rfl ⟨_, rfl, ?_, ?_⟩
    · rw [Hc.out, Hb.out]
    · iterate 14 refine Below.setCell ?_ (by show w.heap.size ≤ w.heap.size + 1; omega) _
      exact B.out
  · have Hb : Hid (resB c l m = true) := by show resB c l m = true; unfold resB; rw [H1.out, h2]; rfl
    have Hc : Hid (resC c l m = reC c l m) := by show resC c l m = reC c l m; unfold resC; rw [Hb.out]; rfl
    clear h2
    have hcx : ∀ o, w2.cell? ⟨w.heap.size + 1 + 1, o, none⟩ = (#[.int .i64 l, .int .i64 m, .int .i64 (c 2), .int .i64 (c 3), .int .i64 (c 4), .int .i64 (c 5), .int .i64 (c 6), .int .i64 (c 7), .int .i64 (c 8), .int .i64 (c 9), .int .i64 (c 10), .int .i64 (c 11), .int .i64 (c 12), .int .i64 (c 13)] : Array Value)[o]? := fun o => cell_of_row _ _ o _ _ (0, 0) KO.out
    have x0 : w2.cell? ⟨w.heap.size + 1 + 1, 0, none⟩ = some (.int .i64 l) := hcx 0
    have x1 : w2.cell? ⟨w.heap.size + 1 + 1, 1, none⟩ = some (.int .i64 m) := hcx 1
    have x2 : w2.cell? ⟨w.heap.size + 1 + 1, 2, none⟩ = some (.int .i64 (c 2)) := hcx 2
    have x3 : w2.cell? ⟨w.heap.size + 1 + 1, 3, none⟩ = some (.int .i64 (c 3)) := hcx 3
    have x4 : w2.cell? ⟨w.heap.size + 1 + 1, 4, none⟩ = some (.int .i64 (c 4)) := hcx 4
    have x5 : w2.cell? ⟨w.heap.size + 1 + 1, 5, none⟩ = some (.int .i64 (c 5)) := hcx 5
    have x6 : w2.cell? ⟨w.heap.size + 1 + 1, 6, none⟩ = some (.int .i64 (c 6)) := hcx 6
    have x7 : w2.cell? ⟨w.heap.size + 1 + 1, 7, none⟩ = some (.int .i64 (c 7)) := hcx 7
    have x8 : w2.cell? ⟨w.heap.size + 1 + 1, 8, none⟩ = some (.int .i64 (c 8)) := hcx 8
    have x9 : w2.cell? ⟨w.heap.size + 1 + 1, 9, none⟩ = some (.int .i64 (c 9)) := hcx 9
    have x10 : w2.cell? ⟨w.heap.size + 1 + 1, 10, none⟩ = some (.int .i64 (c 10)) := hcx 10
    have x11 : w2.cell? ⟨w.heap.size + 1 + 1, 11, none⟩ = some (.int .i64 (c 11)) := hcx 11
    have x12 : w2.cell? ⟨w.heap.size + 1 + 1, 12, none⟩ = some (.int .i64 (c 12)) := hcx 12
    have x13 : w2.cell? ⟨w.heap.size + 1 + 1, 13, none⟩ = some (.int .i64 (c 13)) := hcx 13
    clear hcx
    go_wp2
    refine bodyPost_ret (v := .tuple #[.agg #[.int .i64 l, .int .i64 m, .int .i64 (c 2), .int .i64 (c 3), .int .i64 (c 4), .int .i64 (c 5), .int .i64 (c 6), .int .i64 (c 7), .int .i64 (c 8), .int .i64 (c 9), .int .i64 (c 10), .int .i64 (c 11), .int .i64 (c 12), .int .i64 (c 13)], .bool true]) (by simp [results, Try.results13, go_sem, y0, y1, y2, y3, y4, y5, y6, y7, y8, y9, y10, y11, y12, y13]) rfl ⟨_, rfl, ?_, ?_⟩
    · rw [Hc.out, Hb.out]
      rfl
    · iterate 14 refine Below.setCell ?_ (by show w.heap.size ≤ w.heap.size + 1; omega) _
      exact B.out

set_option maxRecDepth 100000 in
set_option maxHeartbeats 4000000 in
theorem implResized_any (c : Nat → Int) (l m : Int) (w : World) : Calls Try.prog 14 #[.agg #[.int .i64 (c 0), .int .i64 (c 1), .int .i64 (c 2), .int .i64 (c 3), .int .i64 (c 4), .int .i64 (c 5), .int .i64 (c 6), .int .i64 (c 7), .int .i64 (c 8), .int .i64 (c 9), .int .i64 (c 10), .int .i64 (c 11), .int .i64 (c 12), .int .i64 (c 13)], .int .i64 l, .int .i64 m] w (ResEnd c l m w) := by
  go_enter Try.func14, Try.ntmps14
  go_wp2_with fail
  obtain ⟨W0, hW0⟩ : ∃ W0, ((w.alloc (.cells #[.int .i64 (c 0), .int .i64 (c 1), .int .i64 (c 2), .int .i64 (c 3), .int .i64 (c 4), .int .i64 (c 5), .int .i64 (c 6), .int .i64 (c 7), .int .i64 (c 8), .int .i64 (c 9), .int .i64 (c 10), .int .i64 (c 11), .int .i64 (c 12), .int .i64 (c 13)] 25)).alloc (.cells #[.int .i64 0, .int .i64 0, .int .i64 0, .int .i64 0, .int .i64 0, .int .i64 0, .int .i64 0, .int .i64 0, .int .i64 0, .int .i64 0, .int .i64 0, .int .i64 0, .int .i64 0, .int .i64 0] 25)).alloc (.cells #[.int .i64 l, .int .i64 m, .int .i64 (c 2), .int .i64 (c 3), .int .i64 (c 4), .int .i64 (c 5), .int .i64 (c 6), .int .i64 (c 7), .int .i64 (c 8), .int .i64 (c 9), .int .i64 (c 10), .int .i64 (c 11), .int .i64 (c 12), .int .i64 (c 13)] 25) = W0 := ⟨_, rfl⟩
  have B : Hid (Below w.heap.size w W0) := by rw [← hW0]; exact (((Below.refl _ _).alloc (Nat.le_refl _) _).alloc (by simp) _).alloc (by simp; omega) _
  have KC : Hid (W0.heap[w.heap.size]? = some (.cells #[.int .i64 (c 0), .int .i64 (c 1), .int .i64 (c 2), .int .i64 (c 3), .int .i64 (c 4), .int .i64 (c 5), .int .i64 (c 6), .int .i64 (c 7), .int .i64 (c 8), .int .i64 (c 9), .int .i64 (c 10), .int .i64 (c 11), .int .i64 (c 12), .int .i64 (c 13)] 25 (0, 0))) := by
    rw [← hW0]
    exact (Below.heap_alloc _ _ _ (by simp; omega)).trans ((Below.heap_alloc _ _ _ (by simp)).trans (heap_alloc_new w _))
  have KZ : Hid (W0.heap[w.heap.size + 1]? = some (.cells #[.int .i64 0, .int .i64 0, .int .i64 0, .int .i64 0, .int .i64 0, .int .i64 0, .int .i64 0, .int .i64 0, .int .i64 0, .int .i64 0, .int .i64 0, .int .i64 0, .int .i64 0, .int .i64 0] 25 (0, 0))) := by
    rw [← hW0]
    have h := heap_alloc_new (w.alloc (.cells #[.int .i64 (c 0), .int .i64 (c 1), .int .i64 (c 2), .int .i64 (c 3), .int .i64 (c 4), .int .i64 (c 5), .int .i64 (c 6), .int .i64 (c 7), .int .i64 (c 8), .int .i64 (c 9), .int .i64 (c 10), .int .i64 (c 11), .int .i64 (c 12), .int .i64 (c 13)] 25)) (.cells #[.int .i64 0, .int .i64 0, .int .i64 0, .int .i64 0, .int .i64 0, .int .i64 0, .int .i64 0, .int .i64 0, .int .i64 0, .int .i64 0, .int .i64 0, .int .i64 0, .int .i64 0, .int .i64 0] 25)
    rw [World.size_alloc] at h
    exact (Below.heap_alloc _ _ _ (by simp)).trans h
  have KO : Hid (W0.heap[w.heap.size + 1 + 1]? = some (.cells #[.int .i64 l, .int .i64 m, .int .i64 (c 2), .int .i64 (c 3), .int .i64 (c 4), .int .i64 (c 5), .int .i64 (c 6), .int .i64 (c 7), .int .i64 (c 8), .int .i64 (c 9), .int .i64 (c 10), .int .i64 (c 11), .int .i64 (c 12), .int .i64 (c 13)] 25 (0, 0))) := by
    rw [← hW0]
    have h := heap_alloc_new ((w.alloc (.cells #[.int .i64 (c 0), .int .i64 (c 1), .int .i64 (c 2), .int .i64 (c 3), .int .i64 (c 4), .int .i64 (c 5), .int .i64 (c 6), .int .i64 (c 7), .int .i64 (c 8), .int .i64 (c 9), .int .i64 (c 10), .int .i64 (c 11), .int .i64 (c 12), .int .i64 (c 13)] 25)).alloc (.cells #[.int .i64 0, .int .i64 0, .int .i64 0, .int .i64 0, .int .i64 0, .int .i64 0, .int .i64 0, .int .i64 0, .int .i64 0, .int .i64 0, .int .i64 0, .int .i64 0, .int .i64 0, .int .i64 0] 25)) (.cells #[.int .i64 l, .int .i64 m, .int .i64 (c 2), .int .i64 (c 3), .int .i64 (c 4), .int .i64 (c 5), .int .i64 (c 6), .int .i64 (c 7), .int .i64 (c 8), .int .i64 (c 9), .int .i64 (c 10), .int .i64 (c 11), .int .i64 (c 12), .int .i64 (c 13)] 25)
    simp only [World.size_alloc] at h
    exact h
  have z : w.heap.size + 1 + 1 < W0.heap.size := (Array.getElem?_eq_some_iff.1 KO.out).1
  rw [hW0]
  clear hW0
  refine (implConfigOk_any c _).mono ?_
  rintro e w1 ⟨rfl, b1⟩
  replace B := Lib.hid (bel_trans B.out b1)
  replace KC := Lib.hid ((b1.block _ (by omega)).trans KC.out)
  replace KZ := Lib.hid ((b1.block _ (by omega)).trans KZ.out)
  replace KO := Lib.hid ((b1.block _ (by omega)).trans KO.out)
  have z1 : w.heap.size + 1 + 1 < w1.heap.size := Nat.lt_of_lt_of_le z b1.size
  clear b1 z
  cases h1 : okC c
  · have Hb : Hid (resB c l m = false) := by show resB c l m = false; unfold resB; rw [h1]; rfl
    have Hc : Hid (resC c l m = c) := by show resC c l m = c; unfold resC; rw [Hb.out]; rfl
    clear h1
    have hcx : ∀ o, w1.cell? ⟨w.heap.size, o, none⟩ = (#[.int .i64 (c 0), .int .i64 (c 1), .int .i64 (c 2), .int .i64 (c 3), .int .i64 (c 4), .int .i64 (c 5), .int .i64 (c 6), .int .i64 (c 7), .int .i64 (c 8), .int .i64 (c 9), .int .i64 (c 10), .int .i64 (c 11), .int .i64 (c 12), .int .i64 (c 13)] : Array Value)[o]? := fun o => cell_of_row _ _ o _ _ (0, 0) KC.out
    have x0 : w1.cell? ⟨w.heap.size, 0, none⟩ = some (.int .i64 (c 0)) := hcx 0
    have x1 : w1.cell? ⟨w.heap.size, 1, none⟩ = some (.int .i64 (c 1)) := hcx 1
    have x2 : w1.cell? ⟨w.heap.size, 2, none⟩ = some (.int .i64 (c 2)) := hcx 2
    have x3 : w1.cell? ⟨w.heap.size, 3, none⟩ = some (.int .i64 (c 3)) := hcx 3
    have x4 : w1.cell? ⟨w.heap.size, 4, none⟩ = some (.int .i64 (c 4)) := hcx 4
    have x5 : w1.cell? ⟨w.heap.size, 5, none⟩ = some (.int .i64 (c 5)) := hcx 5
    have x6 : w1.cell? ⟨w.heap.size, 6, none⟩ = some (.int .i64 (c 6)) := hcx 6
    have x7 : w1.cell? ⟨w.heap.size, 7, none⟩ = some (.int .i64 (c 7)) := hcx 7
    have x8 : w1.cell? ⟨w.heap.size, 8, none⟩ = some (.int .i64 (c 8)) := hcx 8
    have x9 : w1.cell? ⟨w.heap.size, 9, none⟩ = some (.int .i64 (c 9)) := hcx 9
    have x10 : w1.cell? ⟨w.heap.size, 10, none⟩ = some (.int .i64 (c 10)) := hcx 10
    have x11 : w1.cell? ⟨w.heap.size, 11, none⟩ = some (.int .i64 (c 11)) := hcx 11
    have x12 : w1.cell? ⟨w.heap.size, 12, none⟩ = some (.int .i64 (c 12)) := hcx 12
    have x13 : w1.cell? ⟨w.heap.size, 13, none⟩ = some (.int .i64 (c 13)) := hcx 13
    clear hcx
    have hcy : ∀ o, w1.cell? ⟨w.heap.size + 1, o, none⟩ = (#[.int .i64 0, .int .i64 0, .int .i64 0, .int .i64 0, .int .i64 0, .int .i64 0, .int .i64 0, .int .i64 0, .int .i64 0, .int .i64 0, .int .i64 0, .int .i64 0, .int .i64 0, .int .i64 0] : Array Value)[o]? := fun o => cell_of_row _ _ o _ _ (0, 0) KZ.out
    have y0 : w1.cell? ⟨w.heap.size + 1, 0, none⟩ = some (.int .i64 0) := hcy 0
    have y1 : w1.cell? ⟨w.heap.size + 1, 1, none⟩ = some (.int .i64 0) := hcy 1
    have y2 : w1.cell? ⟨w.heap.size + 1, 2, none⟩ = some (.int .i64 0) := hcy 2
    have y3 : w1.cell? ⟨w.heap.size + 1, 3, none⟩ = some (.int .i64 0) := hcy 3
    have y4 : w1.cell? ⟨w.heap.size + 1, 4, none⟩ = some (.int .i64 0) := hcy 4
    have y5 : w1.cell? ⟨w.heap.size + 1, 5, none⟩ = some (.int .i64 0) := hcy 5
    have y6 : w1.cell? ⟨w.heap.size + 1, 6, none⟩ = some (.int .i64 0) := hcy 6
    have y7 : w1.cell? ⟨w.heap.size + 1, 7, none⟩ = some (.int .i64 0) := hcy 7
    have y8 : w1.cell? ⟨w.heap.size + 1, 8, none⟩ = some (.int .i64 0) := hcy 8
    have y9 : w1.cell? ⟨w.heap.size + 1, 9, none⟩ = some (.int .i64 0) := hcy 9
    have y10 : w1.cell? ⟨w.heap.size + 1, 10, none⟩ = some (.int .i64 0) := hcy 10
    have y11 : w1.cell? ⟨w.heap.size + 1, 11, none⟩ = some (.int .i64 0) := hcy 11
    have y12 : w1.cell? ⟨w.heap.size + 1, 12, none⟩ = some (.int .i64 0) := hcy 12
    have y13 : w1.cell? ⟨w.heap.size + 1, 13, none⟩ = some (.int .i64 0) := hcy 13
    have yf : ∀ j, w1.frozen? ⟨w.heap.size + 1, j, none⟩ = false := fun j => frozen_of_row _ _ j _ _ KZ.out
    clear hcy
    have hne1 : w.heap.size ≠ w.heap.size + 1 := by omega
    go_wp2
    refine bodyPost_ret (v := .tuple #[.agg #[.int .i64 (c 0), .int .i64 (c 1), .int .i64 (c 2), .int .i64 (c 3), .int .i64 (c 4), .int .i64 (c 5), .int .i64 (c 6), .int .i64 (c 7), .int .i64 (c 8), .int .i64 (c 9), .int .i64 (c 10), .int .i64 (c 11), .int .i64 (c 12), .int .i64 (c 13)], .bool false]) (by simp [results, Try.results14, go_sem, y0, y1, y2, y3, y4, y5, y6, y7, y8, y9, y10, y11, y12, y13]) rfl ⟨_, rfl, ?_, ?_⟩
    · rw [Hc.out, Hb.out]
    · iterate 14 refine Below.setCell ?_ (by show w.heap.size ≤ w.heap.size + 1; omega) _
      exact B.out
  have H1 := Lib.hid h1
  clear h1
  have hcu : ∀ o, w1.cell? ⟨w.heap.size + 1 + 1, o, none⟩ = (#[.int .i64 l, .int .i64 m, .int .i64 (c 2), .int .i64 (c 3), .int .i64 (c 4), .int .i64 (c 5), .int .i64 (c 6), .int .i64 (c 7), .int .i64 (c 8), .int .i64 (c 9), .int .i64 (c 10), .int .i64 (c 11), .int .i64 (c 12), .int .i64 (c 13)] : Array Value)[o]? := fun o => cell_of_row _ _ o _ _ (0, 0) KO.out
  have u0 : w1.cell? ⟨w.heap.size + 1 + 1, 0, none⟩ = some (.int .i64 l) := hcu 0
  have u1 : w1.cell? ⟨w.heap.size + 1 + 1, 1, none⟩ = some (.int .i64 m) := hcu 1
  have u2 : w1.cell? ⟨w.heap.size + 1 + 1, 2, none⟩ = some (.int .i64 (c 2)) := hcu 2
  have u3 : w1.cell? ⟨w.heap.size + 1 + 1, 3, none⟩ = some (.int .i64 (c 3)) := hcu 3
  have u4 : w1.cell? ⟨w.heap.size + 1 + 1, 4, none⟩ = some (.int .i64 (c 4)) := hcu 4
  have u5 : w1.cell? ⟨w.heap.size + 1 + 1, 5, none⟩ = some (.int .i64 (c 5)) := hcu 5
  have u6 : w1.cell? ⟨w.heap.size + 1 + 1, 6, none⟩ = some (.int .i64 (c 6)) := hcu 6
  have u7 : w1.cell? ⟨w.heap.size + 1 + 1, 7, none⟩ = some (.int .i64 (c 7)) := hcu 7
  have u8 : w1.cell? ⟨w.heap.size + 1 + 1, 8, none⟩ = some (.int .i64 (c 8)) := hcu 8
  have u9 : w1.cell? ⟨w.heap.size + 1 + 1, 9, none⟩ = some (.int .i64 (c 9)) := hcu 9
  have u10 : w1.cell? ⟨w.heap.size + 1 + 1, 10, none⟩ = some (.int .i64 (c 10)) := hcu 10
  have u11 : w1.cell? ⟨w.heap.size + 1 + 1, 11, none⟩ = some (.int .i64 (c 11)) := hcu 11
  have u12 : w1.cell? ⟨w.heap.size + 1 + 1, 12, none⟩ = some (.int .i64 (c 12)) := hcu 12
  have u13 : w1.cell? ⟨w.heap.size + 1 + 1, 13, none⟩ = some (.int .i64 (c 13)) := hcu 13
  clear hcu
  go_wp2_with fail
  clear u0 u1 u2 u3 u4 u5 u6 u7 u8 u9 u10 u11 u12 u13
  refine (implConfigOk_any (reC c l m) _).mono ?_
  rintro e w2 ⟨rfl, b2⟩
  replace B := Lib.hid (bel_trans B.out b2)
  replace KC := Lib.hid ((b2.block _ (by omega)).trans KC.out)
  replace KZ := Lib.hid ((b2.block _ (by omega)).trans KZ.out)
  replace KO := Lib.hid ((b2.block _ (by omega)).trans KO.out)
  have z2 : w.heap.size + 1 + 1 < w2.heap.size := Nat.lt_of_lt_of_le z1 b2.size
  clear b2 z1
  have hcy : ∀ o, w2.cell? ⟨w.heap.size + 1, o, none⟩ = (#[.int .i64 0, .int .i64 0, .int .i64 0, .int .i64 0, .int .i64 0, .int .i64 0, .int .i64 0, .int .i64 0, .int .i64 0, .int .i64 0, .int .i64 0, .int .i64 0, .int .i64 0, .int .i64 0] : Array Value)[o]? := fun o => cell_of_row _ _ o _ _ (0, 0) KZ.out
  have y0 : w2.cell? ⟨w.heap.size + 1, 0, none⟩ = some (.int .i64 0) := hcy 0
  have y1 : w2.cell? ⟨w.heap.size + 1, 1, none⟩ = some (.int .i64 0) := hcy 1
  have y2 : w2.cell? ⟨w.heap.size + 1, 2, none⟩ = some (.int .i64 0) := hcy 2
  have y3 : w2.cell? ⟨w.heap.size + 1, 3, none⟩ = some (.int .i64 0) := hcy 3
  have y4 : w2.cell? ⟨w.heap.size + 1, 4, none⟩ = some (.int .i64 0) := hcy 4
  have y5 : w2.cell? ⟨w.heap.size + 1, 5, none⟩ = some (.int .i64 0) := hcy 5
  have y6 : w2.cell? ⟨w.heap.size + 1, 6, none⟩ = some (.int .i64 0) := hcy 6
  have y7 : w2.cell? ⟨w.heap.size + 1, 7, none⟩ = some (.int .i64 0) := hcy 7
  have y8 : w2.cell? ⟨w.heap.size + 1, 8, none⟩ = some (.int .i64 0) := hcy 8
  have y9 : w2.cell? ⟨w.heap.size + 1, 9, none⟩ = some (.int .i64 0) := hcy 9
  have y10 : w2.cell? ⟨w.heap.size + 1, 10, none⟩ = some (.int .i64 0) := hcy 10
  have y11 : w2.cell? ⟨w.heap.size + 1, 11, none⟩ = some (.int .i64 0) := hcy 11
  have y12 : w2.cell? ⟨w.heap.size + 1, 12, none⟩ = some (.int .i64 0) := hcy 12
  have y13 : w2.cell? ⟨w.heap.size + 1, 13, none⟩ = some (.int .i64 0) := hcy 13
  have yf : ∀ j, w2.frozen? ⟨w.heap.size + 1, j, none⟩ = false := fun j => frozen_of_row _ _ j _ _ KZ.out
  clear hcy
  have hne1 : w.heap.size ≠ w.heap.size + 1 := by omega
  have hne2 : w.heap.size + 1 + 1 ≠ w.heap.size + 1 := by omega
  cases h2 : okC (reC c l m)
  · have Hb : Hid (resB c l m = false) := by show resB c l m = false; unfold resB; rw [h2]; simp
    have Hc : Hid (resC c l m = c) := by show resC c l m = c; unfold resC; rw [Hb.out]; rfl
    clear h2
    have hcx : ∀ o, w2.cell? ⟨w.heap.size, o, none⟩ = (#[.int .i64 (c 0), .int .i64 (c 1), .int .i64 (c 2), .int .i64 (c 3), .int .i64 (c 4), .int .i64 (c 5), .int .i64 (c 6), .int .i64 (c 7), .int .i64 (c 8), .int .i64 (c 9), .int .i64 (c 10), .int .i64 (c 11), .int .i64 (c 12), .int .i64 (c 13)] : Array Value)[o]? := fun o => cell_of_row _ _ o _ _ (0, 0) KC.out
    have x0 : w2.cell? ⟨w.heap.size, 0, none⟩ = some (.int .i64 (c 0)) := hcx 0
    have x1 : w2.cell? ⟨w.heap.size, 1, none⟩ = some (.int .i64 (c 1)) := hcx 1
    have x2 : w2.cell? ⟨w.heap.size, 2, none⟩ = some (.int .i64 (c 2)) := hcx 2
    have x3 : w2.cell? ⟨w.heap.size, 3, none⟩ = some (.int .i64 (c 3)) := hcx 3
    have x4 : w2.cell? ⟨w.heap.size, 4, none⟩ = some (.int .i64 (c 4)) := hcx 4
    have x5 : w2.cell? ⟨w.heap.size, 5, none⟩ = some (.int .i64 (c 5)) := hcx 5
    have x6 : w2.cell? ⟨w.heap.size, 6, none⟩ = some (.int .i64 (c 6)) := hcx 6
    have x7 : w2.cell? ⟨w.heap.size, 7, none⟩ = some (.int .i64 (c 7)) := hcx 7
    have x8 : w2.cell? ⟨w.heap.size, 8, none⟩ = some (.int .i64 (c 8)) := hcx 8
    have x9 : w2.cell? ⟨w.heap.size, 9, none⟩ = some (.int .i64 (c 9)) := hcx 9
    have x10 : w2.cell? ⟨w.heap.size, 10, none⟩ = some (.int .i64 (c 10)) := hcx 10
    have x11 : w2.cell? ⟨w.heap.size, 11, none⟩ = some (.int .i64 (c 11)) := hcx 11
    have x12 : w2.cell? ⟨w.heap.size, 12, none⟩ = some (.int .i64 (c 12)) := hcx 12
    have x13 : w2.cell? ⟨w.heap.size, 13, none⟩ = some (.int .i64 (c 13)) := hcx 13
    clear hcx
    go_wp2
    refine bodyPost_ret (v := .tuple #[.agg #[.int .i64 (c 0), .int .i64 (c 1), .int .i64 (c 2), .int .i64 (c 3), .int .i64 (c 4), .int .i64 (c 5), .int .i64 (c 6), .int .i64 (c 7), .int .i64 (c 8), .int .i64 (c 9), .int .i64 (c 10), .int .i64 (c 11), .int .i64 (c 12), .int .i64 (c 13)], .bool false]) (by simp [results, Try.results14, go_sem, y0, y1, y2, y3, y4, y5, y6, y7, y8, y9, y10, y11, y12, y13]) rfl ⟨_, rfl, ?_, ?_⟩
    · rw [Hc.out, Hb.out]
    · iterate 14 refine Below.setCell ?_ (by show w.heap.size ≤ w.heap.size + 1; omega) _
      exact B.out
  · have Hb : Hid (resB c l m = true) := by show resB c l m = true; unfold resB; rw [H1.out, h2]; rfl
    have Hc : Hid (resC c l m = reC c l m) := by show resC c l m = reC c l m; unfold resC; rw [Hb.out]; rfl
    clear h2
    have hcx : ∀ o, w2.cell? ⟨w.heap.size + 1 + 1, o, none⟩ = (#[.int .i64 l, .int .i64 m, .int .i64 (c 2), .int .i64 (c 3), .int .i64 (c 4), .int .i64 (c 5), .int .i64 (c 6), .int .i64 (c 7), .int .i64 (c 8), .int .i64 (c 9), .int .i64 (c 10), .int .i64 (c 11), .int .i64 (c 12), .int .i64 (c 13)] : Array Value)[o]? := fun o => cell_of_row _ _ o _ _ (0, 0) KO.out
    have x0 : w2.cell? ⟨w.heap.size + 1 + 1, 0, none⟩ = some (.int .i64 l) := hcx 0
    have x1 : w2.cell? ⟨w.heap.size + 1 + 1, 1, none⟩ = some (.int .i64 m) := hcx 1
    have x2 : w2.cell? ⟨w.heap.size + 1 + 1, 2, none⟩ = some (.int .i64 (c 2)) := hcx 2
    have x3 : w2.cell? ⟨w.heap.size + 1 + 1, 3, none⟩ = some (.int .i64 (c 3)) := hcx 3
    have x4 : w2.cell? ⟨w.heap.size + 1 + 1, 4, none⟩ = some (.int .i64 (c 4)) := hcx 4
    have x5 : w2.cell? ⟨w.heap.size + 1 + 1, 5, none⟩ = some (.int .i64 (c 5)) := hcx 5
    have x6 : w2.cell? ⟨w.heap.size + 1 + 1, 6, none⟩ = some (.int .i64 (c 6)) := hcx 6
    have x7 : w2.cell? ⟨w.heap.size + 1 + 1, 7, none⟩ = some (.int .i64 (c 7)) := hcx 7
    have x8 : w2.cell? ⟨w.heap.size + 1 + 1, 8, none⟩ = some (.int .i64 (c 8)) := hcx 8
    have x9 : w2.cell? ⟨w.heap.size + 1 + 1, 9, none⟩ = some (.int .i64 (c 9)) := hcx 9
    have x10 : w2.cell? ⟨w.heap.size + 1 + 1, 10, none⟩ = some (.int .i64 (c 10)) := hcx 10
    have x11 : w2.cell? ⟨w.heap.size + 1 + 1, 11, none⟩ = some (.int .i64 (c 11)) := hcx 11
    have x12 : w2.cell? ⟨w.heap.size + 1 + 1, 12, none⟩ = some (.int .i64 (c 12)) := hcx 12
    have x13 : w2.cell? ⟨w.heap.size + 1 + 1, 13, none⟩ = some (.int .i64 (c 13)) := hcx 13
    clear hcx
    go_wp2
    refine bodyPost_ret (v := .tuple #[.agg #[.int .i64 l, .int .i64 m, .int .i64 (c 2), .int .i64 (c 3), .int .i64 (c 4), .int .i64 (c 5), .int .i64 (c 6), .int .i64 (c 7), .int .i64 (c 8), .int .i64 (c 9), .int .i64 (c 10), .int .i64 (c 11), .int .i64 (c 12), .int .i64 (c 13)], .bool true]) (by simp [results, Try.results14, go_sem, y0, y1, y2, y3, y4, y5, y6, y7, y8, y9, y10, y11, y12, y13]) rfl ⟨_, rfl, ?_, ?_⟩
    · rw [Hc.out, Hb.out]
      rfl
    · iterate 14 refine Below.setCell ?_ (by show w.heap.size ≤ w.heap.size + 1; omega) _
      exact B.out

set_option maxRecDepth 100000 in
set_option maxHeartbeats 4000000 in
theorem lawResized (c : Nat → Int) (l m : Int) (w : World) :
    Calls Try.prog 5 #[.agg #[.int .i64 (c 0), .int .i64 (c 1), .int .i64 (c 2), .int .i64 (c 3), .int .i64 (c 4), .int .i64 (c 5), .int .i64 (c 6), .int .i64 (c 7), .int .i64 (c 8), .int .i64 (c 9), .int .i64 (c 10), .int .i64 (c 11), .int .i64 (c 12), .int .i64 (c 13)], .int .i64 l, .int .i64 m] w fun e w' => e = .returned (.bool true) ∧ Below w.heap.size w w' := by
  obtain ⟨r, hr⟩ : ∃ r, r = resC c l m := ⟨_, rfl⟩
  have HS : Hid (∀ W, Calls Try.prog 13 #[.agg #[.int .i64 (c 0), .int .i64 (c 1), .int .i64 (c 2), .int .i64 (c 3), .int .i64 (c 4), .int .i64 (c 5), .int .i64 (c 6), .int .i64 (c 7), .int .i64 (c 8), .int .i64 (c 9), .int .i64 (c 10), .int .i64 (c 11), .int .i64 (c 12), .int .i64 (c 13)], .int .i64 l, .int .i64 m] W fun e w' => e = .returned (.tuple #[.agg #[.int .i64 (r 0), .int .i64 (r 1), .int .i64 (r 2), .int .i64 (r 3), .int .i64 (r 4), .int .i64 (r 5), .int .i64 (r 6), .int .i64 (r 7), .int .i64 (r 8), .int .i64 (r 9), .int .i64 (r 10), .int .i64 (r 11), .int .i64 (r 12), .int .i64 (r 13)], .bool (resB c l m)]) ∧ Below W.heap.size W w') := fun W => (specResized_any c l m W).mono fun e w' ⟨r', h1, h2, h3⟩ => by rw [← hr] at h1; subst h1; exact ⟨h2, h3⟩
  have HG : Hid (∀ W, Calls Try.prog 14 #[.agg #[.int .i64 (c 0), .int .i64 (c 1), .int .i64 (c 2), .int .i64 (c 3), .int .i64 (c 4), .int .i64 (c 5), .int .i64 (c 6), .int .i64 (c 7), .int .i64 (c 8), .int .i64 (c 9), .int .i64 (c 10), .int .i64 (c 11), .int .i64 (c 12), .int .i64 (c 13)], .int .i64 l, .int .i64 m] W fun e w' => e = .returned (.tuple #[.agg #[.int .i64 (r 0), .int .i64 (r 1), .int .i64 (r 2), .int .i64 (r 3), .int .i64 (r 4), .int .i64 (r 5), .int .i64 (r 6), .int .i64 (r 7), .int .i64 (r 8), .int .i64 (r 9), .int .i64 (r 10), .int .i64 (r 11), .int .i64 (r 12), .int .i64 (r 13)], .bool (resB c l m)]) ∧ Below W.heap.size W w') := fun W => (implResized_any c l m W).mono fun e w' ⟨r', h1, h2, h3⟩ => by rw [← hr] at h1; subst h1; exact ⟨h2, h3⟩
  clear hr
  generalize resB c l m = ok at HS HG
  go_enter Try.func5, Try.ntmps5
  go_wp2_with fail
  obtain ⟨W0, hW0⟩ : ∃ W0, w.alloc (.cells #[.int .i64 (c 0), .int .i64 (c 1), .int .i64 (c 2), .int .i64 (c 3), .int .i64 (c 4), .int .i64 (c 5), .int .i64 (c 6), .int .i64 (c 7), .int .i64 (c 8), .int .i64 (c 9), .int .i64 (c 10), .int .i64 (c 11), .int .i64 (c 12), .int .i64 (c 13)] 23) = W0 := ⟨_, rfl⟩
  have B : Hid (Below w.heap.size w W0) := by rw [← hW0]; exact bel_alloc _ _
  have K : Hid (W0.heap[w.heap.size]? = some (.cells #[.int .i64 (c 0), .int .i64 (c 1), .int .i64 (c 2), .int .i64 (c 3), .int .i64 (c 4), .int .i64 (c 5), .int .i64 (c 6), .int .i64 (c 7), .int .i64 (c 8), .int .i64 (c 9), .int .i64 (c 10), .int .i64 (c 11), .int .i64 (c 12), .int .i64 (c 13)] 23 (0, 0))) := by rw [← hW0]; exact heap_alloc_new w _
  have z0 : w.heap.size < W0.heap.size := by rw [← hW0]; simp
  rw [hW0]
  clear hW0
  refine (toConfig_any c _).mono ?_
  rintro e w1 ⟨rfl, b1⟩
  replace B := Lib.hid (bel_trans B.out b1)
  replace K := Lib.hid ((b1.block _ z0).trans K.out)
  have z1 : w.heap.size < w1.heap.size := Nat.lt_of_lt_of_le z0 b1.size
  clear b1 z0
  go_wp2_with fail
  refine (HS.out _).mono ?_
  rintro e w2 ⟨rfl, b2⟩
  replace B := Lib.hid (bel_trans B.out b2)
  replace K := Lib.hid ((b2.block _ z1).trans K.out)
  have z2 : w.heap.size < w2.heap.size := Nat.lt_of_lt_of_le z1 b2.size
  clear b2 z1
  have hcx : ∀ o, w2.cell? ⟨w.heap.size, o, none⟩ = (#[.int .i64 (c 0), .int .i64 (c 1), .int .i64 (c 2), .int .i64 (c 3), .int .i64 (c 4), .int .i64 (c 5), .int .i64 (c 6), .int .i64 (c 7), .int .i64 (c 8), .int .i64 (c 9), .int .i64 (c 10), .int .i64 (c 11), .int .i64 (c 12), .int .i64 (c 13)] : Array Value)[o]? := fun o => cell_of_row _ _ o _ _ (0, 0) K.out
  have x0 : w2.cell? ⟨w.heap.size, 0, none⟩ = some (.int .i64 (c 0)) := hcx 0
  have x1 : w2.cell? ⟨w.heap.size, 1, none⟩ = some (.int .i64 (c 1)) := hcx 1
  have x2 : w2.cell? ⟨w.heap.size, 2, none⟩ = some (.int .i64 (c 2)) := hcx 2
  have x3 : w2.cell? ⟨w.heap.size, 3, none⟩ = some (.int .i64 (c 3)) := hcx 3
  have x4 : w2.cell? ⟨w.heap.size, 4, none⟩ = some (.int .i64 (c 4)) := hcx 4
  have x5 : w2.cell? ⟨w.heap.size, 5, none⟩ = some (.int .i64 (c 5)) := hcx 5
  have x6 : w2.cell? ⟨w.heap.size, 6, none⟩ = some (.int .i64 (c 6)) := hcx 6
  have x7 : w2.cell? ⟨w.heap.size, 7, none⟩ = some (.int .i64 (c 7)) := hcx 7
  have x8 : w2.cell? ⟨w.heap.size, 8, none⟩ = some (.int .i64 (c 8)) := hcx 8
  have x9 : w2.cell? ⟨w.heap.size, 9, none⟩ = some (.int .i64 (c 9)) := hcx 9
  have x10 : w2.cell? ⟨w.heap.size, 10, none⟩ = some (.int .i64 (c 10)) := hcx 10
  have x11 : w2.cell? ⟨w.heap.size, 11, none⟩ = some (.int .i64 (c 11)) := hcx 11
  have x12 : w2.cell? ⟨w.heap.size, 12, none⟩ = some (.int .i64 (c 12)) := hcx 12
  have x13 : w2.cell? ⟨w.heap.size, 13, none⟩ = some (.int .i64 (c 13)) := hcx 13
  clear hcx
  go_wp2_with fail
  clear x0 x1 x2 x3 x4 x5 x6 x7 x8 x9 x10 x11 x12 x13
  obtain ⟨W3, hW3⟩ : ∃ W3, w2.alloc (.cells #[.int .i64 (r 0), .int .i64 (r 1), .int .i64 (r 2), .int .i64 (r 3), .int .i64 (r 4), .int .i64 (r 5), .int .i64 (r 6), .int .i64 (r 7), .int .i64 (r 8), .int .i64 (r 9), .int .i64 (r 10), .int .i64 (r 11), .int .i64 (r 12), .int .i64 (r 13)] 25) = W3 := ⟨_, rfl⟩
  have KR : Hid (W3.heap[w2.heap.size]? = some (.cells #[.int .i64 (r 0), .int .i64 (r 1), .int .i64 (r 2), .int .i64 (r 3), .int .i64 (r 4), .int .i64 (r 5), .int .i64 (r 6), .int .i64 (r 7), .int .i64 (r 8), .int .i64 (r 9), .int .i64 (r 10), .int .i64 (r 11), .int .i64 (r 12), .int .i64 (r 13)] 25 (0, 0))) := by rw [← hW3]; exact heap_alloc_new w2 _
  have z3 : w2.heap.size < W3.heap.size := by rw [← hW3]; simp
  replace B : Hid (Below w.heap.size w W3) := by rw [← hW3]; exact bel_trans B.out (bel_alloc _ _)
  rw [hW3]
  clear hW3 K
  refine (toConfig_any c _).mono ?_
  rintro e w4 ⟨rfl, b4⟩
  replace B := Lib.hid (bel_trans B.out b4)
  replace KR := Lib.hid ((b4.block _ z3).trans KR.out)
  have z4 : w2.heap.size < w4.heap.size := Nat.lt_of_lt_of_le z3 b4.size
  clear b4 z3
  go_wp2_with fail
  refine (HG.out _).mono ?_
  rintro e w5 ⟨rfl, b5⟩
  replace B := Lib.hid (bel_trans B.out b5)
  replace KR := Lib.hid ((b5.block _ z4).trans KR.out)
  have z5 : w2.heap.size < w5.heap.size := Nat.lt_of_lt_of_le z4 b5.size
  clear b5 z4
  have hcx : ∀ o, w5.cell? ⟨w2.heap.size, o, none⟩ = (#[.int .i64 (r 0), .int .i64 (r 1), .int .i64 (r 2), .int .i64 (r 3), .int .i64 (r 4), .int .i64 (r 5), .int .i64 (r 6), .int .i64 (r 7), .int .i64 (r 8), .int .i64 (r 9), .int .i64 (r 10), .int .i64 (r 11), .int .i64 (r 12), .int .i64 (r 13)] : Array Value)[o]? := fun o => cell_of_row _ _ o _ _ (0, 0) KR.out
  have x0 : w5.cell? ⟨w2.heap.size, 0, none⟩ = some (.int .i64 (r 0)) := hcx 0
  have x1 : w5.cell? ⟨w2.heap.size, 1, none⟩ = some (.int .i64 (r 1)) := hcx 1
  have x2 : w5.cell? ⟨w2.heap.size, 2, none⟩ = some (.int .i64 (r 2)) := hcx 2
  have x3 : w5.cell? ⟨w2.heap.size, 3, none⟩ = some (.int .i64 (r 3)) := hcx 3
  have x4 : w5.cell? ⟨w2.heap.size, 4, none⟩ = some (.int .i64 (r 4)) := hcx 4
  have x5 : w5.cell? ⟨w2.heap.size, 5, none⟩ = some (.int .i64 (r 5)) := hcx 5
  have x6 : w5.cell? ⟨w2.heap.size, 6, none⟩ = some (.int .i64 (r 6)) := hcx 6
  have x7 : w5.cell? ⟨w2.heap.size, 7, none⟩ = some (.int .i64 (r 7)) := hcx 7
  have x8 : w5.cell? ⟨w2.heap.size, 8, none⟩ = some (.int .i64 (r 8)) := hcx 8
  have x9 : w5.cell? ⟨w2.heap.size, 9, none⟩ = some (.int .i64 (r 9)) := hcx 9
  have x10 : w5.cell? ⟨w2.heap.size, 10, none⟩ = some (.int .i64 (r 10)) := hcx 10
  have x11 : w5.cell? ⟨w2.heap.size, 11, none⟩ = some (.int .i64 (r 11)) := hcx 11
  have x12 : w5.cell? ⟨w2.heap.size, 12, none⟩ = some (.int .i64 (r 12)) := hcx 12
  have x13 : w5.cell? ⟨w2.heap.size, 13, none⟩ = some (.int .i64 (r 13)) := hcx 13
  clear hcx
  go_wp2_with fail
  refine (eqConfig_same r _).mono ?_
  rintro e w6 ⟨rfl, b6⟩
  replace B := Lib.hid (bel_trans (bel_trans B.out (bel_alloc _ _)) b6)
  clear b6 x0 x1 x2 x3 x4 x5 x6 x7 x8 x9 x10 x11 x12 x13
  cases ok
  all_goals
    go_wp2
    go_ret
    exact ⟨rfl, B.out⟩
end Go.Proofs.Ytlcblpfnbijddaa.Cf
