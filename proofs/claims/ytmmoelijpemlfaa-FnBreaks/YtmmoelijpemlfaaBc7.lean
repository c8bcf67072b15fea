/- OnDial and OnSuccess, the reference's. -/
import Derived.Test.YtmmoelijpemlfaaBc6
namespace Go.Proofs.Ytmmoelijpemlfaa.Bk
open Go.RowKit Go.Deep Base Rw Tick

/-- A breaker and whether it took the signal come back; the breaker's slice lies in new memory. -/
def BrEnd (w : World) (r : Br × Bool) (e : Ending) (w' : World) : Prop :=
  ∃ A cap, e = .returned (.tuple #[.agg #[.int .i64 r.1.state, .slice A r.1.fails.length cap, .int .i64 r.1.till], .bool r.2]) ∧ IV w' w.heap.size w'.heap.size A r.1.fails ∧ Below w.heap.size w w'
theorem brEnd {w w' : World} {r : Br × Bool} {s u : Int} {zs : List Int} {b : Bool} {A : Option Addr} {cap : Nat} (hr : r = (⟨s, zs, u⟩, b)) (hv : IV w' w.heap.size w'.heap.size A zs) (hb : Below w.heap.size w w') :
    BrEnd w r (.returned (.tuple #[.agg #[.int .i64 s, .slice A zs.length cap, .int .i64 u], .bool b])) w' := by
  subst hr
  exact ⟨A, cap, rfl, hv, hb⟩

theorem pb_two (w : World) (a0 a1 a2 b0 b1 b2 : Value) : PB ((w.alloc (.cells #[a0, a1, a2] 31)).alloc (.cells #[b0, b1, b2] 31)) w.heap.size a0 a1 a2 ∧ PB ((w.alloc (.cells #[a0, a1, a2] 31)).alloc (.cells #[b0, b1, b2] 31)) (w.heap.size + 1) b0 b1 b2 := by
  refine ⟨PB.below (heap_alloc_new w _) (bel_alloc _ _) (by simp), ?_⟩
  have := heap_alloc_new (w.alloc (.cells #[a0, a1, a2] 31)) (.cells #[b0, b1, b2] 31)
  rw [World.size_alloc] at this
  exact this
theorem bel_two (w : World) (o o' : Obj) : Below w.heap.size w ((w.alloc o).alloc o') := ((Below.refl _ _).alloc (Nat.le_refl _) _).alloc (by simp) _

set_option maxRecDepth 100000 in
set_option maxHeartbeats 2000000 in
theorem specOnDial_any (A : Option Addr) (n cap : Nat) (s u now : Int) (zs : List Int) (w : World) (hn : zs.length = n) (hm : n ≤ 1048576) (h : Ints w A zs) :
    Calls Try.prog 28 #[.agg #[.int .i64 s, .slice A n cap, .int .i64 u], .int .i64 now] w (BrEnd w (dialR ⟨s, zs, u⟩ now)) := by
  have Hn := Lib.hid hn
  have HI := Lib.hid h
  clear h hn
  go_enter Try.func28, Try.ntmps28
  go_wp2_with fail
  obtain ⟨W1, hW1⟩ : ∃ W1, (w.alloc (.cells #[.int .i64 s, .slice A n cap, .int .i64 u] 31)).alloc (.cells #[.int .i64 0, .slice none 0 0, .int .i64 0] 31) = W1 := ⟨_, rfl⟩
  have B1 : Hid (Below w.heap.size w W1) := by rw [← hW1]; exact bel_two _ _ _
  have K : Hid (PB W1 w.heap.size (.int .i64 s) (.slice A n cap) (.int .i64 u)) := by rw [← hW1]; exact (pb_two _ _ _ _ _ _ _).1
  have R : Hid (PB W1 (w.heap.size + 1) (.int .i64 0) (.slice none 0 0) (.int .i64 0)) := by rw [← hW1]; exact (pb_two _ _ _ _ _ _ _).2
  have z1 : w.heap.size + 1 < W1.heap.size := R.out.lt
  rw [hW1]
  clear hW1
  refine (copyB_any A n cap s u zs W1 Hn.out hm (HI.out.below B1.out)).mono ?_
  rintro e w2 ⟨A2, c2, rfl, v2, b2⟩
  have s12 := b2.size
  have B2 := Lib.hid (bel_trans B1.out b2)
  replace K := Lib.hid (K.out.below b2 (by omega))
  replace R := Lib.hid (R.out.below b2 (by omega))
  have V := Lib.hid v2
  clear b2 v2
  obtain ⟨x0, x1, x2, _⟩ := K.out.cells
  have lA : w.heap.size < w2.heap.size := by omega
  go_wp2_with fail
  obtain ⟨W3, hW3⟩ : ∃ W3, w2.alloc (.cells #[.int .i64 s, .slice A2 zs.length c2, .int .i64 u] 31) = W3 := ⟨_, rfl⟩
  have b3 : Below w2.heap.size w2 W3 := by rw [← hW3]; exact bel_alloc _ _
  have O : Hid (PB W3 w2.heap.size (.int .i64 s) (.slice A2 zs.length c2) (.int .i64 u)) := by rw [← hW3]; exact heap_alloc_new w2 _
  have z3 : w2.heap.size < W3.heap.size := O.out.lt
  have B3 := Lib.hid (bel_trans B2.out b3)
  replace K := Lib.hid (K.out.below b3 (by omega))
  replace R := Lib.hid (R.out.below b3 (by omega))
  replace V := Lib.hid (V.out.below b3 (Nat.le_refl _))
  rw [hW3]
  clear hW3 b3 x0 x1 x2
  refine (specMayDial_any A n cap s u now zs W3 Hn.out hm (HI.out.below B3.out)).mono ?_
  rintro e w4 ⟨rfl, b4⟩
  have s34 := b4.size
  have B4 := Lib.hid (bel_trans B3.out b4)
  replace K := Lib.hid (K.out.below b4 (by omega))
  replace R := Lib.hid (R.out.below b4 (by omega))
  replace O := Lib.hid (O.out.below b4 (by omega))
  replace V := Lib.hid (V.out.below b4 (by omega))
  clear b4
  obtain ⟨x0, x1, x2, _⟩ := K.out.cells
  obtain ⟨r0, r1, r2, rf⟩ := R.out.cells
  obtain ⟨o0, o1, o2, ofz⟩ := O.out.cells
  have ne1 : w2.heap.size ≠ w.heap.size + 1 := by omega
  have ne2 : w2.heap.size ≠ w.heap.size := by omega
  have s1 := B1.out.size
  cases hd : mayD ⟨s, zs, u⟩ now
  · have Hr : Hid (dialR ⟨s, zs, u⟩ now = (⟨s, zs, u⟩, false)) := by show _ = _; unfold dialR; rw [hd]; rfl
    clear hd
    go_wp2
    refine bodyPost_ret (v := .tuple #[.agg #[.int .i64 s, .slice A2 (zs).length c2, .int .i64 u], .bool false]) (by simp [results, (Try.results28), go_sem, r0, r1, r2]) rfl (brEnd Hr.out ?_ ?_)
    · refine IV.wide (lo := W1.heap.size) (hi := w2.heap.size) ?_ (by omega) (by simp [World.setCell]; omega)
      iterate 3 refine iv_set ?_ (by simp <;> omega) _
      exact V.out
    · iterate 3 refine Below.setCell ?_ (by simp <;> omega) _
      exact B4.out
  · by_cases h1 : s = 1
    · subst h1
      have Hr : Hid (dialR ⟨1, zs, u⟩ now = (⟨2, zs, u⟩, true)) := by show _ = _; unfold dialR; rw [if_pos hd]; rfl
      clear hd
      go_wp2
      refine bodyPost_ret (v := .tuple #[.agg #[.int .i64 2, .slice A2 (zs).length c2, .int .i64 u], .bool true]) (by simp [results, (Try.results28), go_sem, r0, r1, r2]) rfl (brEnd Hr.out ?_ ?_)
      · refine IV.wide (lo := W1.heap.size) (hi := w2.heap.size) ?_ (by omega) (by simp [World.setCell]; omega)
        iterate 4 refine iv_set ?_ (by simp <;> omega) _
        exact V.out
      · iterate 4 refine Below.setCell ?_ (by simp <;> omega) _
        exact B4.out
    · have e1 : (s == 1) = false := by simpa using h1
      have Hr : Hid (dialR ⟨s, zs, u⟩ now = (⟨s, zs, u⟩, true)) := by show _ = _; unfold dialR; rw [if_pos hd, if_neg h1]
      clear hd h1
      go_wp2
      refine bodyPost_ret (v := .tuple #[.agg #[.int .i64 s, .slice A2 (zs).length c2, .int .i64 u], .bool true]) (by simp [results, (Try.results28), go_sem, r0, r1, r2]) rfl (brEnd Hr.out ?_ ?_)
      · refine IV.wide (lo := W1.heap.size) (hi := w2.heap.size) ?_ (by omega) (by simp [World.setCell]; omega)
        iterate 3 refine iv_set ?_ (by simp <;> omega) _
        exact V.out
      · iterate 3 refine Below.setCell ?_ (by simp <;> omega) _
        exact B4.out

set_option maxRecDepth 100000 in
set_option maxHeartbeats 2000000 in
theorem specOnSuccess_any (A : Option Addr) (n cap : Nat) (s u : Int) (zs : List Int) (w : World) (hn : zs.length = n) (hm : n ≤ 1048576) (h : Ints w A zs) :
    Calls Try.prog 34 #[.agg #[.int .i64 s, .slice A n cap, .int .i64 u]] w (BrEnd w (succR ⟨s, zs, u⟩)) := by
  have Hn := Lib.hid hn
  have HI := Lib.hid h
  clear h hn
  go_enter Try.func34, Try.ntmps34
  go_wp2_with fail
  obtain ⟨W1, hW1⟩ : ∃ W1, (w.alloc (.cells #[.int .i64 s, .slice A n cap, .int .i64 u] 31)).alloc (.cells #[.int .i64 0, .slice none 0 0, .int .i64 0] 31) = W1 := ⟨_, rfl⟩
  have B1 : Hid (Below w.heap.size w W1) := by rw [← hW1]; exact bel_two _ _ _
  have K : Hid (PB W1 w.heap.size (.int .i64 s) (.slice A n cap) (.int .i64 u)) := by rw [← hW1]; exact (pb_two _ _ _ _ _ _ _).1
  have R : Hid (PB W1 (w.heap.size + 1) (.int .i64 0) (.slice none 0 0) (.int .i64 0)) := by rw [← hW1]; exact (pb_two _ _ _ _ _ _ _).2
  have z1 : w.heap.size + 1 < W1.heap.size := R.out.lt
  rw [hW1]
  clear hW1
  refine (copyB_any A n cap s u zs W1 Hn.out hm (HI.out.below B1.out)).mono ?_
  rintro e w2 ⟨A2, c2, rfl, v2, b2⟩
  have s12 := b2.size
  have B2 := Lib.hid (bel_trans B1.out b2)
  replace K := Lib.hid (K.out.below b2 (by omega))
  replace R := Lib.hid (R.out.below b2 (by omega))
  have V := Lib.hid v2
  clear b2 v2
  obtain ⟨x0, x1, x2, _⟩ := K.out.cells
  have lA : w.heap.size < w2.heap.size := by omega
  go_wp2_with fail
  obtain ⟨W3, hW3⟩ : ∃ W3, w2.alloc (.cells #[.int .i64 s, .slice A2 zs.length c2, .int .i64 u] 31) = W3 := ⟨_, rfl⟩
  have b3 : Below w2.heap.size w2 W3 := by rw [← hW3]; exact bel_alloc _ _
  have O : Hid (PB W3 w2.heap.size (.int .i64 s) (.slice A2 zs.length c2) (.int .i64 u)) := by rw [← hW3]; exact heap_alloc_new w2 _
  have z3 : w2.heap.size < W3.heap.size := O.out.lt
  have B3 := Lib.hid (bel_trans B2.out b3)
  replace K := Lib.hid (K.out.below b3 (by omega))
  replace R := Lib.hid (R.out.below b3 (by omega))
  replace V := Lib.hid (V.out.below b3 (Nat.le_refl _))
  rw [hW3]
  clear hW3 b3 x0 x1 x2
  refine (specBreakerOk_any A n cap s u zs W3 Hn.out hm (HI.out.below B3.out)).mono ?_
  rintro e w4 ⟨rfl, b4⟩
  have s34 := b4.size
  have B4 := Lib.hid (bel_trans B3.out b4)
  replace K := Lib.hid (K.out.below b4 (by omega))
  replace R := Lib.hid (R.out.below b4 (by omega))
  replace O := Lib.hid (O.out.below b4 (by omega))
  replace V := Lib.hid (V.out.below b4 (by omega))
  clear b4
  obtain ⟨x0, x1, x2, _⟩ := K.out.cells
  obtain ⟨r0, r1, r2, rf⟩ := R.out.cells
  obtain ⟨o0, o1, o2, ofz⟩ := O.out.cells
  have ne1 : w2.heap.size ≠ w.heap.size + 1 := by omega
  have ne2 : w2.heap.size ≠ w.heap.size := by omega
  have s1 := B1.out.size
  cases hd : okB ⟨s, zs, u⟩
  · have Hr : Hid (succR ⟨s, zs, u⟩ = (⟨s, zs, u⟩, false)) := by show _ = _; unfold succR; rw [hd]; rfl
    clear hd
    go_wp2
    refine bodyPost_ret (v := .tuple #[.agg #[.int .i64 s, .slice A2 (zs).length c2, .int .i64 u], .bool false]) (by simp [results, (Try.results34), go_sem, r0, r1, r2]) rfl (brEnd Hr.out ?_ ?_)
    · refine IV.wide (lo := W1.heap.size) (hi := w2.heap.size) ?_ (by omega) (by simp [World.setCell]; omega)
      iterate 3 refine iv_set ?_ (by simp <;> omega) _
      exact V.out
    · iterate 3 refine Below.setCell ?_ (by simp <;> omega) _
      exact B4.out
  · by_cases h1 : s = 2
    · subst h1
      have Hr : Hid (succR ⟨2, zs, u⟩ = (⟨0, [], 0⟩, true)) := by show _ = _; unfold succR; rw [if_pos hd]; rfl
      clear hd
      go_wp2
      refine bodyPost_ret (v := .tuple #[.agg #[.int .i64 0, .slice none (([] : List Int)).length 0, .int .i64 0], .bool true]) (by simp [results, (Try.results34), go_sem, r0, r1, r2]) rfl (brEnd Hr.out ?_ ?_)
      · refine IV.wide (lo := W1.heap.size) (hi := w2.heap.size) ?_ (by omega) (by simp [World.setCell]; omega)
        iterate 3 refine iv_set ?_ (by simp <;> omega) _
        exact (IV.nil _ _ _ _)
      · iterate 3 refine Below.setCell ?_ (by simp <;> omega) _
        exact B4.out
    · have e1 : (s == 2) = false := by simpa using h1
      have Hr : Hid (succR ⟨s, zs, u⟩ = (⟨s, zs, u⟩, true)) := by show _ = _; unfold succR; rw [if_pos hd, if_neg h1]
      clear hd h1
      go_wp2
      refine bodyPost_ret (v := .tuple #[.agg #[.int .i64 s, .slice A2 (zs).length c2, .int .i64 u], .bool true]) (by simp [results, (Try.results34), go_sem, r0, r1, r2]) rfl (brEnd Hr.out ?_ ?_)
      · refine IV.wide (lo := W1.heap.size) (hi := w2.heap.size) ?_ (by omega) (by simp [World.setCell]; omega)
        iterate 3 refine iv_set ?_ (by simp <;> omega) _
        exact V.out
      · iterate 3 refine Below.setCell ?_ (by simp <;> omega) _
        exact B4.out
end Go.Proofs.Ytmmoelijpemlfaa.Bk
