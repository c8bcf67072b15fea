/- Connections in memory; the program's ConnOk. -/
import Derived.Test.YtbmfleakldhabaaDoorKn0
import Derived.Test.YtbmfleakldhabaaDoorCfg0
import Derived.Deep.RegionHeld3
import Derived.Deep.RegionWith
namespace Go.Proofs.YtbmfleakldhabaaDoor.Kn
open Go.RowKit Go.Deep Base Tick

theorem nkeep {w w' : World} {b o : Nat} {v : Value} (h : w.cell? ⟨b, o, none⟩ = some v) (hb : Below w.heap.size w w') : w'.cell? ⟨b, o, none⟩ = some v := (hb.cell (World.block_lt_of_cell? _ _ h)).trans h

/-- A connection lies in block b, from its first cell on. -/
def KC (b : Nat) (k : Nat → Int) (t : Bool) (w : World) : Prop :=
  w.cell? ⟨b, 0, none⟩ = some (.int .i64 (k 0)) ∧ w.cell? ⟨b, 1, none⟩ = some (.int .i64 (k 1)) ∧ w.cell? ⟨b, 2, none⟩ = some (.int .i64 (k 2)) ∧ w.cell? ⟨b, 3, none⟩ = some (.int .i64 (k 3)) ∧ w.cell? ⟨b, 4, none⟩ = some (.int .i64 (k 4)) ∧ w.cell? ⟨b, 5, none⟩ = some (.bool t)

theorem KC.below {b : Nat} {k : Nat → Int} {t : Bool} {w w' : World} (h : KC b k t w) (hb : Below w.heap.size w w') : KC b k t w' :=
  ⟨nkeep h.1 hb, nkeep h.2.1 hb, nkeep h.2.2.1 hb, nkeep h.2.2.2.1 hb, nkeep h.2.2.2.2.1 hb, nkeep h.2.2.2.2.2 hb⟩
theorem KC.lt {b : Nat} {k : Nat → Int} {t : Bool} {w : World} (h : KC b k t w) : b < w.heap.size := World.block_lt_of_cell? _ _ h.1
theorem KC.of_block {b : Nat} {k : Nat → Int} {t : Bool} {w w' : World} (h : KC b k t w) (e : w'.heap[b]? = w.heap[b]?) : KC b k t w' :=
  ⟨(World.cell?_of_block e).trans h.1, (World.cell?_of_block e).trans h.2.1, (World.cell?_of_block e).trans h.2.2.1, (World.cell?_of_block e).trans h.2.2.2.1, (World.cell?_of_block e).trans h.2.2.2.2.1, (World.cell?_of_block e).trans h.2.2.2.2.2⟩
theorem KC.of_row {b : Nat} {k : Nat → Int} {t : Bool} {w : World} {T : TypeId} (h : w.heap[b]? = some (.cells #[.int .i64 (k 0), .int .i64 (k 1), .int .i64 (k 2), .int .i64 (k 3), .int .i64 (k 4), .bool t] T (0, 0))) : KC b k t w :=
  ⟨cell_of_row _ _ 0 _ _ (0, 0) h, cell_of_row _ _ 1 _ _ (0, 0) h, cell_of_row _ _ 2 _ _ (0, 0) h, cell_of_row _ _ 3 _ _ (0, 0) h, cell_of_row _ _ 4 _ _ (0, 0) h, cell_of_row _ _ 5 _ _ (0, 0) h⟩
theorem KC.new (k : Nat → Int) (t : Bool) (w : World) (T : TypeId) : KC w.heap.size k t (w.alloc (.cells #[.int .i64 (k 0), .int .i64 (k 1), .int .i64 (k 2), .int .i64 (k 3), .int .i64 (k 4), .bool t] T)) := KC.of_row (heap_alloc_new w _)

def timesB (k : Nat → Int) : Bool := !((k 1 == 0) && decide (0 < k 2)) && ((isT (k 2) && isT (k 3)) && decide (k 2 ≤ k 3))
def holdB (k : Nat → Int) (t : Bool) : Bool := if (k 1 == 3) = true then inB (k 4) 1 1000000000 else (k 4 == 0) && !t

theorem okN_parts (k : Nat → Int) (t : Bool) : okN k t = (inB (k 0) 1 1000000000 && inB (k 1) 0 4 && timesB k && holdB k t) := by
  rw [Bool.eq_iff_iff]
  unfold okN timesB holdB
  simp only [Bool.and_eq_true, inB_iff, isT_iff, Bool.or_eq_true, Bool.not_eq_true', Bool.and_eq_false_iff, beq_iff_eq, beq_eq_false_iff_ne, decide_eq_false_iff_not, decide_eq_true_eq]
  constructor
  · rintro ⟨⟨⟨⟨⟨h0, h1⟩, h2⟩, h3⟩, h4⟩, h5⟩
    refine ⟨⟨⟨h0, h1⟩, ?_, ⟨⟨?_, by omega⟩, h2⟩, h3.2⟩, h5⟩
    · rcases h4 with h4 | h4
      · exact .inl h4
      · exact .inr (by omega)
    · exact h3.1
  · rintro ⟨⟨⟨h0, h1⟩, h4, ⟨⟨h6, h7⟩, h2⟩, h3⟩, h5⟩
    refine ⟨⟨⟨⟨⟨h0, h1⟩, h2⟩, h6, h3⟩, ?_⟩, h5⟩
    rcases h4 with h4 | h4
    · exact .inl h4
    · exact .inr (by omega)

theorem idOk_any (x : Int) (w : World) : Calls Tryd.prog 58 #[.int .i64 x] w fun e w' => e = .returned (.bool (inB x 1 1000000000)) ∧ w = w' := by
  by_cases h1 : 1 ≤ x
  · by_cases h2 : x ≤ 1000000000
    · rw [inB_true h1 h2]
      go_enter Tryd.func58, Tryd.ntmps58
      go_wp2
      go_ret
      exact ⟨rfl, rfl⟩
    · rw [inB_false (.inr (by omega))]
      go_enter Tryd.func58, Tryd.ntmps58
      go_wp2
      go_ret
      exact ⟨rfl, rfl⟩
  · rw [inB_false (.inl (by omega))]
    go_enter Tryd.func58, Tryd.ntmps58
    go_wp2
    go_ret
    exact ⟨rfl, rfl⟩

set_option maxRecDepth 100000 in
set_option maxHeartbeats 2000000 in
theorem timesOk_any (b : Nat) (k : Nat → Int) (t : Bool) (w : World) (h : KC b k t w) :
    Calls Tryd.prog 60 #[.pointer (some ⟨b, 0, none⟩)] w fun e w' => e = .returned (.bool (timesB k)) ∧ Below w.heap.size w w' := by
  have HK := Lib.hid h
  have HA : Hid ([k 2, k 3].all isT = (isT (k 2) && isT (k 3))) := by show _ = _; simp
  obtain ⟨c0, c1, c2, c3, c4, c5⟩ := h
  by_cases h1 : k 1 = 0
  · have d1 : (k 1 == 0) = true := by simpa using h1
    by_cases h2 : 0 < k 2
    · have Hr : Hid (timesB k = false) := by show _ = _; unfold timesB; rw [d1, decide_eq_true h2]; rfl
      go_enter Tryd.func60, Tryd.ntmps60
      go_wp2
      go_ret
      exact ⟨by rw [Hr.out]; rfl, Below.refl _ _⟩
    · have e1 : ((k 1 == 0) && decide (0 < k 2)) = false := by rw [decide_eq_false h2]; simp
      go_enter Tryd.func60, Tryd.ntmps60
      go_wp2_with fail
      have HS : Hid (KC b k t w.drew) := HK.out.below (Below.refl _ _).drew
      refine wp_region_held_drew (S := KC b k t) (by kernel_rfl) HS.out (fun _ => ?_)
      refine wpAnyH_take (i := 0) (v := (.pointer (some ⟨b, 0, none⟩))) rfl (by kernel_rfl) (by kernel_rfl) (by kernel_rfl) (fun _ _ _ h => h) (.inl ⟨rfl, fun V hS => ?y0⟩) HS.out ?_
      case y0 =>
        clear hS
        go_simp
      go_simp
      refine wpAnyH_take (i := 1) (v := (.pointer (some ⟨b, 0, none⟩))) rfl (by kernel_rfl) (by kernel_rfl) (by kernel_rfl) (fun _ _ _ h => h) (.inl ⟨rfl, fun V hS => ?y0⟩) HS.out ?_
      case y0 =>
        clear hS
        go_simp
      go_simp
      refine wpAnyH_take (i := 2) (v := (.pointer (some ⟨b, 2, none⟩))) rfl (by kernel_rfl) (by kernel_rfl) (by kernel_rfl) (fun _ _ _ h => h) (.inl ⟨rfl, fun V hS => ?y0⟩) HS.out ?_
      case y0 =>
        clear hS
        go_simp
      go_simp
      refine wpAnyH_take (i := 3) (v := (.int .i64 (k 2))) rfl (by kernel_rfl) (by kernel_rfl) (by kernel_rfl) (fun _ _ _ h => h) (.inl ⟨rfl, fun V hS => ?y0⟩) HS.out ?_
      case y0 =>
        obtain ⟨y0, y1, y2, y3, y4, y5⟩ := hS
        go_simp
      go_simp
      refine wpAnyH_take (i := 4) (v := (.pointer (some ⟨b, 0, none⟩))) rfl (by kernel_rfl) (by kernel_rfl) (by kernel_rfl) (fun _ _ _ h => h) (.inl ⟨rfl, fun V hS => ?y0⟩) HS.out ?_
      case y0 =>
        clear hS
        go_simp
      go_simp
      refine wpAnyH_take (i := 5) (v := (.pointer (some ⟨b, 0, none⟩))) rfl (by kernel_rfl) (by kernel_rfl) (by kernel_rfl) (fun _ _ _ h => h) (.inl ⟨rfl, fun V hS => ?y0⟩) HS.out ?_
      case y0 =>
        clear hS
        go_simp
      go_simp
      refine wpAnyH_take (i := 6) (v := (.pointer (some ⟨b, 3, none⟩))) rfl (by kernel_rfl) (by kernel_rfl) (by kernel_rfl) (fun _ _ _ h => h) (.inl ⟨rfl, fun V hS => ?y0⟩) HS.out ?_
      case y0 =>
        clear hS
        go_simp
      go_simp
      refine wpAnyH_take (i := 7) (v := (.int .i64 (k 3))) rfl (by kernel_rfl) (by kernel_rfl) (by kernel_rfl) (fun _ _ _ h => h) (.inl ⟨rfl, fun V hS => ?y0⟩) HS.out ?_
      case y0 =>
        obtain ⟨y0, y1, y2, y3, y4, y5⟩ := hS
        go_simp
      go_simp
      refine wpAnyH_ready (rs := [8]) (by kernel_rfl) (by simp) (AllReadyH.cons rfl (fun J hJ => ?_) AllReadyH.nil)
      go_simp
      have B1 : Hid (Below w.heap.size w (w.drew.alloc (.cells #[.int .i64 (k 2), .int .i64 (k 3)] 3))) := (Below.refl _ _).drew.alloc (Nat.le_refl _) _
      have HI : Hid (Ints (w.drew.alloc (.cells #[.int .i64 (k 2), .int .i64 (k 3)] 3)) (some ⟨w.heap.size, 0, none⟩) [k 2, k 3]) := ints_new w.drew [k 2, k 3] _
      replace HS : Hid (KC b k t (w.drew.alloc (.cells #[.int .i64 (k 2), .int .i64 (k 3)] 3))) := HK.out.below B1.out
      refine hJ.out _ _ HS.out (fun _ => ?_)
      clear hJ J
      go_simp
      refine wpAnyH_ready (rs := [9]) (by kernel_rfl) (by simp) (AllReadyH.cons rfl (fun J hJ => ?_) AllReadyH.nil)
      go_simp
      refine (allTicks_any _ 2 2 [k 2, k 3] _ rfl (by decide) HI.out).mono ?_
      rintro e w8 ⟨rfl, rfl⟩
      refine hJ.out _ _ HS.out (fun _ => ?_)
      clear hJ J
      rw [HA.out]
      cases h3 : (isT (k 2) && isT (k 3))
      · have Hr : Hid (timesB k = false) := by show _ = _; unfold timesB; rw [h3]; simp
        clear h3
        go_simp
        refine wpAnyH_take (i := 10) (v := (.bool false)) rfl (by kernel_rfl) (by kernel_rfl) (by kernel_rfl) (fun _ _ _ h => h) (.inl ⟨rfl, fun V hS => ?y0⟩) HS.out ?_
        case y0 =>
          clear hS
          go_simp
        go_simp
        refine wpAnyH_take (i := 11) (v := undef) rfl (by kernel_rfl) (by kernel_rfl) (by kernel_rfl) (fun _ _ _ h => h) (.inr ⟨rfl, rfl⟩) HS.out ?_
        go_simp
        refine wpAnyH_take (i := 12) (v := undef) rfl (by kernel_rfl) (by kernel_rfl) (by kernel_rfl) (fun _ _ _ h => h) (.inr ⟨rfl, rfl⟩) HS.out ?_
        go_simp
        refine wpAnyH_take (i := 13) (v := undef) rfl (by kernel_rfl) (by kernel_rfl) (by kernel_rfl) (fun _ _ _ h => h) (.inr ⟨rfl, rfl⟩) HS.out ?_
        go_simp
        refine wpAnyH_take (i := 14) (v := undef) rfl (by kernel_rfl) (by kernel_rfl) (by kernel_rfl) (fun _ _ _ h => h) (.inr ⟨rfl, rfl⟩) HS.out ?_
        go_simp
        refine wpAnyH_take (i := 15) (v := undef) rfl (by kernel_rfl) (by kernel_rfl) (by kernel_rfl) (fun _ _ _ h => h) (.inr ⟨rfl, rfl⟩) HS.out ?_
        go_simp
        refine wpAnyH_take (i := 16) (v := undef) rfl (by kernel_rfl) (by kernel_rfl) (by kernel_rfl) (fun _ _ _ h => h) (.inr ⟨rfl, rfl⟩) HS.out ?_
        go_simp
        refine wpAnyH_take (i := 17) (v := undef) rfl (by kernel_rfl) (by kernel_rfl) (by kernel_rfl) (fun _ _ _ h => h) (.inr ⟨rfl, rfl⟩) HS.out ?_
        go_simp
        refine wpAnyH_take (i := 18) (v := undef) rfl (by kernel_rfl) (by kernel_rfl) (by kernel_rfl) (fun _ _ _ h => h) (.inr ⟨rfl, rfl⟩) HS.out ?_
        go_simp
        refine wpAnyH_take (i := 19) (v := undef) rfl (by kernel_rfl) (by kernel_rfl) (by kernel_rfl) (fun _ _ _ h => h) (.inr ⟨rfl, rfl⟩) HS.out ?_
        go_simp
        refine wpAnyH_take (i := 20) (v := (.bool false)) rfl (by kernel_rfl) (by kernel_rfl) (by kernel_rfl) (fun _ _ _ h => h) (.inl ⟨rfl, fun V hS => ?y0⟩) HS.out ?_
        case y0 =>
          clear hS
          go_simp
        go_simp
        refine wpAnyH_take (i := 21) (v := (.bool false)) rfl (by kernel_rfl) (by kernel_rfl) (by kernel_rfl) (fun _ _ _ h => h) (.inl ⟨rfl, fun V hS => ?y0⟩) HS.out ?_
        case y0 =>
          clear hS
          go_simp
        go_simp
        refine wpAnyH_done (by kernel_rfl) ?_ _
        go_wp2
        go_ret
        exact ⟨by rw [Hr.out]; rfl, B1.out⟩
      · have Hr : Hid (timesB k = decide (k 2 ≤ k 3)) := by show _ = _; unfold timesB; rw [h3, e1]; simp
        clear h3
        go_simp
        refine wpAnyH_take (i := 10) (v := (.bool true)) rfl (by kernel_rfl) (by kernel_rfl) (by kernel_rfl) (fun _ _ _ h => h) (.inl ⟨rfl, fun V hS => ?y0⟩) HS.out ?_
        case y0 =>
          clear hS
          go_simp
        go_simp
        refine wpAnyH_take (i := 11) (v := (.pointer (some ⟨b, 0, none⟩))) rfl (by kernel_rfl) (by kernel_rfl) (by kernel_rfl) (fun _ _ _ h => h) (.inl ⟨rfl, fun V hS => ?y0⟩) HS.out ?_
        case y0 =>
          clear hS
          go_simp
        go_simp
        refine wpAnyH_take (i := 12) (v := (.pointer (some ⟨b, 0, none⟩))) rfl (by kernel_rfl) (by kernel_rfl) (by kernel_rfl) (fun _ _ _ h => h) (.inl ⟨rfl, fun V hS => ?y0⟩) HS.out ?_
        case y0 =>
          clear hS
          go_simp
        go_simp
        refine wpAnyH_take (i := 13) (v := (.pointer (some ⟨b, 2, none⟩))) rfl (by kernel_rfl) (by kernel_rfl) (by kernel_rfl) (fun _ _ _ h => h) (.inl ⟨rfl, fun V hS => ?y0⟩) HS.out ?_
        case y0 =>
          clear hS
          go_simp
        go_simp
        refine wpAnyH_take (i := 14) (v := (.int .i64 (k 2))) rfl (by kernel_rfl) (by kernel_rfl) (by kernel_rfl) (fun _ _ _ h => h) (.inl ⟨rfl, fun V hS => ?y0⟩) HS.out ?_
        case y0 =>
          obtain ⟨y0, y1, y2, y3, y4, y5⟩ := hS
          go_simp
        go_simp
        refine wpAnyH_take (i := 15) (v := (.pointer (some ⟨b, 0, none⟩))) rfl (by kernel_rfl) (by kernel_rfl) (by kernel_rfl) (fun _ _ _ h => h) (.inl ⟨rfl, fun V hS => ?y0⟩) HS.out ?_
        case y0 =>
          clear hS
          go_simp
        go_simp
        refine wpAnyH_take (i := 16) (v := (.pointer (some ⟨b, 0, none⟩))) rfl (by kernel_rfl) (by kernel_rfl) (by kernel_rfl) (fun _ _ _ h => h) (.inl ⟨rfl, fun V hS => ?y0⟩) HS.out ?_
        case y0 =>
          clear hS
          go_simp
        go_simp
        refine wpAnyH_take (i := 17) (v := (.pointer (some ⟨b, 3, none⟩))) rfl (by kernel_rfl) (by kernel_rfl) (by kernel_rfl) (fun _ _ _ h => h) (.inl ⟨rfl, fun V hS => ?y0⟩) HS.out ?_
        case y0 =>
          clear hS
          go_simp
        go_simp
        refine wpAnyH_take (i := 18) (v := (.int .i64 (k 3))) rfl (by kernel_rfl) (by kernel_rfl) (by kernel_rfl) (fun _ _ _ h => h) (.inl ⟨rfl, fun V hS => ?y0⟩) HS.out ?_
        case y0 =>
          obtain ⟨y0, y1, y2, y3, y4, y5⟩ := hS
          go_simp
        go_simp
        refine wpAnyH_take (i := 19) (v := (.bool (decide (k 2 ≤ k 3)))) rfl (by kernel_rfl) (by kernel_rfl) (by kernel_rfl) (fun _ _ _ h => h) (.inl ⟨rfl, fun V hS => ?y0⟩) HS.out ?_
        case y0 =>
          clear hS
          go_simp
        go_simp
        refine wpAnyH_take (i := 20) (v := (.bool (decide (k 2 ≤ k 3)))) rfl (by kernel_rfl) (by kernel_rfl) (by kernel_rfl) (fun _ _ _ h => h) (.inl ⟨rfl, fun V hS => ?y0⟩) HS.out ?_
        case y0 =>
          clear hS
          go_simp
        go_simp
        refine wpAnyH_take (i := 21) (v := (.bool (decide (k 2 ≤ k 3)))) rfl (by kernel_rfl) (by kernel_rfl) (by kernel_rfl) (fun _ _ _ h => h) (.inl ⟨rfl, fun V hS => ?y0⟩) HS.out ?_
        case y0 =>
          clear hS
          go_simp
        go_simp
        refine wpAnyH_done (by kernel_rfl) ?_ _
        go_wp2
        go_ret
        exact ⟨by rw [Hr.out]; rfl, B1.out⟩
  · have d1 : (k 1 == 0) = false := by simpa using h1
    have e1 : ((k 1 == 0) && decide (0 < k 2)) = false := by rw [d1]; simp
    go_enter Tryd.func60, Tryd.ntmps60
    go_wp2_with fail
    have HS : Hid (KC b k t w.drew) := HK.out.below (Below.refl _ _).drew
    refine wp_region_held_drew (S := KC b k t) (by kernel_rfl) HS.out (fun _ => ?_)
    refine wpAnyH_take (i := 0) (v := (.pointer (some ⟨b, 0, none⟩))) rfl (by kernel_rfl) (by kernel_rfl) (by kernel_rfl) (fun _ _ _ h => h) (.inl ⟨rfl, fun V hS => ?y0⟩) HS.out ?_
    case y0 =>
      clear hS
      go_simp
    go_simp
    refine wpAnyH_take (i := 1) (v := (.pointer (some ⟨b, 0, none⟩))) rfl (by kernel_rfl) (by kernel_rfl) (by kernel_rfl) (fun _ _ _ h => h) (.inl ⟨rfl, fun V hS => ?y0⟩) HS.out ?_
    case y0 =>
      clear hS
      go_simp
    go_simp
    refine wpAnyH_take (i := 2) (v := (.pointer (some ⟨b, 2, none⟩))) rfl (by kernel_rfl) (by kernel_rfl) (by kernel_rfl) (fun _ _ _ h => h) (.inl ⟨rfl, fun V hS => ?y0⟩) HS.out ?_
    case y0 =>
      clear hS
      go_simp
    go_simp
    refine wpAnyH_take (i := 3) (v := (.int .i64 (k 2))) rfl (by kernel_rfl) (by kernel_rfl) (by kernel_rfl) (fun _ _ _ h => h) (.inl ⟨rfl, fun V hS => ?y0⟩) HS.out ?_
    case y0 =>
      obtain ⟨y0, y1, y2, y3, y4, y5⟩ := hS
      go_simp
    go_simp
    refine wpAnyH_take (i := 4) (v := (.pointer (some ⟨b, 0, none⟩))) rfl (by kernel_rfl) (by kernel_rfl) (by kernel_rfl) (fun _ _ _ h => h) (.inl ⟨rfl, fun V hS => ?y0⟩) HS.out ?_
    case y0 =>
      clear hS
      go_simp
    go_simp
    refine wpAnyH_take (i := 5) (v := (.pointer (some ⟨b, 0, none⟩))) rfl (by kernel_rfl) (by kernel_rfl) (by kernel_rfl) (fun _ _ _ h => h) (.inl ⟨rfl, fun V hS => ?y0⟩) HS.out ?_
    case y0 =>
      clear hS
      go_simp
    go_simp
    refine wpAnyH_take (i := 6) (v := (.pointer (some ⟨b, 3, none⟩))) rfl (by kernel_rfl) (by kernel_rfl) (by kernel_rfl) (fun _ _ _ h => h) (.inl ⟨rfl, fun V hS => ?y0⟩) HS.out ?_
    case y0 =>
      clear hS
      go_simp
    go_simp
    refine wpAnyH_take (i := 7) (v := (.int .i64 (k 3))) rfl (by kernel_rfl) (by kernel_rfl) (by kernel_rfl) (fun _ _ _ h => h) (.inl ⟨rfl, fun V hS => ?y0⟩) HS.out ?_
    case y0 =>
      obtain ⟨y0, y1, y2, y3, y4, y5⟩ := hS
      go_simp
    go_simp
    refine wpAnyH_ready (rs := [8]) (by kernel_rfl) (by simp) (AllReadyH.cons rfl (fun J hJ => ?_) AllReadyH.nil)
    go_simp
    have B1 : Hid (Below w.heap.size w (w.drew.alloc (.cells #[.int .i64 (k 2), .int .i64 (k 3)] 3))) := (Below.refl _ _).drew.alloc (Nat.le_refl _) _
    have HI : Hid (Ints (w.drew.alloc (.cells #[.int .i64 (k 2), .int .i64 (k 3)] 3)) (some ⟨w.heap.size, 0, none⟩) [k 2, k 3]) := ints_new w.drew [k 2, k 3] _
    replace HS : Hid (KC b k t (w.drew.alloc (.cells #[.int .i64 (k 2), .int .i64 (k 3)] 3))) := HK.out.below B1.out
    refine hJ.out _ _ HS.out (fun _ => ?_)
    clear hJ J
    go_simp
    refine wpAnyH_ready (rs := [9]) (by kernel_rfl) (by simp) (AllReadyH.cons rfl (fun J hJ => ?_) AllReadyH.nil)
    go_simp
    refine (allTicks_any _ 2 2 [k 2, k 3] _ rfl (by decide) HI.out).mono ?_
    rintro e w8 ⟨rfl, rfl⟩
    refine hJ.out _ _ HS.out (fun _ => ?_)
    clear hJ J
    rw [HA.out]
    cases h3 : (isT (k 2) && isT (k 3))
    · have Hr : Hid (timesB k = false) := by show _ = _; unfold timesB; rw [h3]; simp
      clear h3
      go_simp
      refine wpAnyH_take (i := 10) (v := (.bool false)) rfl (by kernel_rfl) (by kernel_rfl) (by kernel_rfl) (fun _ _ _ h => h) (.inl ⟨rfl, fun V hS => ?y0⟩) HS.out ?_
      case y0 =>
        clear hS
        go_simp
      go_simp
      refine wpAnyH_take (i := 11) (v := undef) rfl (by kernel_rfl) (by kernel_rfl) (by kernel_rfl) (fun _ _ _ h => h) (.inr ⟨rfl, rfl⟩) HS.out ?_
      go_simp
      refine wpAnyH_take (i := 12) (v := undef) rfl (by kernel_rfl) (by kernel_rfl) (by kernel_rfl) (fun _ _ _ h => h) (.inr ⟨rfl, rfl⟩) HS.out ?_
      go_simp
      refine wpAnyH_take (i := 13) (v := undef) rfl (by kernel_rfl) (by kernel_rfl) (by kernel_rfl) (fun _ _ _ h => h) (.inr ⟨rfl, rfl⟩) HS.out ?_
      go_simp
      refine wpAnyH_take (i := 14) (v := undef) rfl (by kernel_rfl) (by kernel_rfl) (by kernel_rfl) (fun _ _ _ h => h) (.inr ⟨rfl, rfl⟩) HS.out ?_
      go_simp
      refine wpAnyH_take (i := 15) (v := undef) rfl (by kernel_rfl) (by kernel_rfl) (by kernel_rfl) (fun _ _ _ h => h) (.inr ⟨rfl, rfl⟩) HS.out ?_
      go_simp
      refine wpAnyH_take (i := 16) (v := undef) rfl (by kernel_rfl) (by kernel_rfl) (by kernel_rfl) (fun _ _ _ h => h) (.inr ⟨rfl, rfl⟩) HS.out ?_
      go_simp
      refine wpAnyH_take (i := 17) (v := undef) rfl (by kernel_rfl) (by kernel_rfl) (by kernel_rfl) (fun _ _ _ h => h) (.inr ⟨rfl, rfl⟩) HS.out ?_
      go_simp
      refine wpAnyH_take (i := 18) (v := undef) rfl (by kernel_rfl) (by kernel_rfl) (by kernel_rfl) (fun _ _ _ h => h) (.inr ⟨rfl, rfl⟩) HS.out ?_
      go_simp
      refine wpAnyH_take (i := 19) (v := undef) rfl (by kernel_rfl) (by kernel_rfl) (by kernel_rfl) (fun _ _ _ h => h) (.inr ⟨rfl, rfl⟩) HS.out ?_
      go_simp
      refine wpAnyH_take (i := 20) (v := (.bool false)) rfl (by kernel_rfl) (by kernel_rfl) (by kernel_rfl) (fun _ _ _ h => h) (.inl ⟨rfl, fun V hS => ?y0⟩) HS.out ?_
      case y0 =>
        clear hS
        go_simp
      go_simp
      refine wpAnyH_take (i := 21) (v := (.bool false)) rfl (by kernel_rfl) (by kernel_rfl) (by kernel_rfl) (fun _ _ _ h => h) (.inl ⟨rfl, fun V hS => ?y0⟩) HS.out ?_
      case y0 =>
        clear hS
        go_simp
      go_simp
      refine wpAnyH_done (by kernel_rfl) ?_ _
      go_wp2
      go_ret
      exact ⟨by rw [Hr.out]; rfl, B1.out⟩
    · have Hr : Hid (timesB k = decide (k 2 ≤ k 3)) := by show _ = _; unfold timesB; rw [h3, e1]; simp
      clear h3
      go_simp
      refine wpAnyH_take (i := 10) (v := (.bool true)) rfl (by kernel_rfl) (by kernel_rfl) (by kernel_rfl) (fun _ _ _ h => h) (.inl ⟨rfl, fun V hS => ?y0⟩) HS.out ?_
      case y0 =>
        clear hS
        go_simp
      go_simp
      refine wpAnyH_take (i := 11) (v := (.pointer (some ⟨b, 0, none⟩))) rfl (by kernel_rfl) (by kernel_rfl) (by kernel_rfl) (fun _ _ _ h => h) (.inl ⟨rfl, fun V hS => ?y0⟩) HS.out ?_
      case y0 =>
        clear hS
        go_simp
      go_simp
      refine wpAnyH_take (i := 12) (v := (.pointer (some ⟨b, 0, none⟩))) rfl (by kernel_rfl) (by kernel_rfl) (by kernel_rfl) (fun _ _ _ h => h) (.inl ⟨rfl, fun V hS => ?y0⟩) HS.out ?_
      case y0 =>
        clear hS
        go_simp
      go_simp
      refine wpAnyH_take (i := 13) (v := (.pointer (some ⟨b, 2, none⟩))) rfl (by kernel_rfl) (by kernel_rfl) (by kernel_rfl) (fun _ _ _ h => h) (.inl ⟨rfl, fun V hS => ?y0⟩) HS.out ?_
      case y0 =>
        clear hS
        go_simp
      go_simp
      refine wpAnyH_take (i := 14) (v := (.int .i64 (k 2))) rfl (by kernel_rfl) (by kernel_rfl) (by kernel_rfl) (fun _ _ _ h => h) (.inl ⟨rfl, fun V hS => ?y0⟩) HS.out ?_
      case y0 =>
        obtain ⟨y0, y1, y2, y3, y4, y5⟩ := hS
        go_simp
      go_simp
      refine wpAnyH_take (i := 15) (v := (.pointer (some ⟨b, 0, none⟩))) rfl (by kernel_rfl) (by kernel_rfl) (by kernel_rfl) (fun _ _ _ h => h) (.inl ⟨rfl, fun V hS => ?y0⟩) HS.out ?_
      case y0 =>
        clear hS
        go_simp
      go_simp
      refine wpAnyH_take (i := 16) (v := (.pointer (some ⟨b, 0, none⟩))) rfl (by kernel_rfl) (by kernel_rfl) (by kernel_rfl) (fun _ _ _ h => h) (.inl ⟨rfl, fun V hS => ?y0⟩) HS.out ?_
      case y0 =>
        clear hS
        go_simp
      go_simp
      refine wpAnyH_take (i := 17) (v := (.pointer (some ⟨b, 3, none⟩))) rfl (by kernel_rfl) (by kernel_rfl) (by kernel_rfl) (fun _ _ _ h => h) (.inl ⟨rfl, fun V hS => ?y0⟩) HS.out ?_
      case y0 =>
        clear hS
        go_simp
      go_simp
      refine wpAnyH_take (i := 18) (v := (.int .i64 (k 3))) rfl (by kernel_rfl) (by kernel_rfl) (by kernel_rfl) (fun _ _ _ h => h) (.inl ⟨rfl, fun V hS => ?y0⟩) HS.out ?_
      case y0 =>
        obtain ⟨y0, y1, y2, y3, y4, y5⟩ := hS
        go_simp
      go_simp
      refine wpAnyH_take (i := 19) (v := (.bool (decide (k 2 ≤ k 3)))) rfl (by kernel_rfl) (by kernel_rfl) (by kernel_rfl) (fun _ _ _ h => h) (.inl ⟨rfl, fun V hS => ?y0⟩) HS.out ?_
      case y0 =>
        clear hS
        go_simp
      go_simp
      refine wpAnyH_take (i := 20) (v := (.bool (decide (k 2 ≤ k 3)))) rfl (by kernel_rfl) (by kernel_rfl) (by kernel_rfl) (fun _ _ _ h => h) (.inl ⟨rfl, fun V hS => ?y0⟩) HS.out ?_
      case y0 =>
        clear hS
        go_simp
      go_simp
      refine wpAnyH_take (i := 21) (v := (.bool (decide (k 2 ≤ k 3)))) rfl (by kernel_rfl) (by kernel_rfl) (by kernel_rfl) (fun _ _ _ h => h) (.inl ⟨rfl, fun V hS => ?y0⟩) HS.out ?_
      case y0 =>
        clear hS
        go_simp
      go_simp
      refine wpAnyH_done (by kernel_rfl) ?_ _
      go_wp2
      go_ret
      exact ⟨by rw [Hr.out]; rfl, B1.out⟩

set_option maxRecDepth 100000 in
set_option maxHeartbeats 1000000 in
theorem holderOk_any (b : Nat) (k : Nat → Int) (t : Bool) (w : World) (h : KC b k t w) :
    Calls Tryd.prog 61 #[.pointer (some ⟨b, 0, none⟩)] w fun e w' => e = .returned (.bool (holdB k t)) ∧ w = w' := by
  obtain ⟨c0, c1, c2, c3, c4, c5⟩ := h
  cases h1 : (k 1 == 3)
  · have Hr : Hid (holdB k t = ((k 4 == 0) && !t)) := by show _ = _; unfold holdB; rw [h1]; rfl
    cases h2 : (k 4 == 0)
    · go_enter Tryd.func61, Tryd.ntmps61
      go_wp2
      go_ret
      exact ⟨by rw [Hr.out, h2]; rfl, rfl⟩
    · go_enter Tryd.func61, Tryd.ntmps61
      go_wp2
      go_ret
      exact ⟨by rw [Hr.out, h2]; rfl, rfl⟩
  · have Hr : Hid (holdB k t = inB (k 4) 1 1000000000) := by show _ = _; unfold holdB; rw [h1]; rfl
    go_enter Tryd.func61, Tryd.ntmps61
    go_wp2_with (go_at_call 58; refine (idOk_any _ _).mono ?_; rintro e w' ⟨rfl, rfl⟩)
    go_ret
    exact ⟨by rw [Hr.out]; rfl, rfl⟩

set_option maxRecDepth 100000 in
set_option maxHeartbeats 2000000 in
theorem implConnOk_any (k : Nat → Int) (t : Bool) (w : World) :
    Calls Tryd.prog 48 #[.agg #[.int .i64 (k 0), .int .i64 (k 1), .int .i64 (k 2), .int .i64 (k 3), .int .i64 (k 4), .bool t]] w fun e w' => e = .returned (.bool (okN k t)) ∧ Below w.heap.size w w' := by
  have HO := Lib.hid (okN_parts k t)
  have HK := Lib.hid (KC.new k t w 28)
  have B0 := Lib.hid (bel_alloc w (.cells #[.int .i64 (k 0), .int .i64 (k 1), .int .i64 (k 2), .int .i64 (k 3), .int .i64 (k 4), .bool t] 28))
  go_enter Tryd.func48, Tryd.ntmps48
  go_wp2_with fail
  refine (idOk_any _ _).mono ?_
  rintro e w' ⟨rfl, rfl⟩
  cases h0 : inB (k 0) 1 1000000000
  · have Hr : Hid (okN k t = false) := by show _ = _; rw [HO.out, h0]; rfl
    clear h0
    go_wp2
    go_ret
    exact ⟨by rw [Hr.out]; rfl, B0.out⟩
  have H0 := Lib.hid h0
  clear h0
  go_wp2_with fail
  refine (Cf.within_any _ _ _ _).mono ?_
  rintro e w' ⟨rfl, rfl⟩
  cases h1 : inB (k 1) 0 4
  · have Hr : Hid (okN k t = false) := by show _ = _; rw [HO.out, H0.out, h1]; rfl
    clear h1
    go_wp2
    go_ret
    exact ⟨by rw [Hr.out]; rfl, B0.out⟩
  have H1 := Lib.hid h1
  clear h1
  go_wp2_with fail
  refine (timesOk_any _ k t _ HK.out).mono ?_
  rintro e w1 ⟨rfl, b1⟩
  replace HK := Lib.hid (HK.out.below b1)
  have B1 := Lib.hid (bel_trans B0.out b1)
  clear b1
  cases h2 : timesB k
  · have Hr : Hid (okN k t = false) := by show _ = _; rw [HO.out, H0.out, H1.out, h2]; rfl
    clear h2
    go_wp2
    go_ret
    exact ⟨by rw [Hr.out]; rfl, B1.out⟩
  have H2 := Lib.hid h2
  clear h2
  have Hr : Hid (okN k t = holdB k t) := by show _ = _; rw [HO.out, H0.out, H1.out, H2.out]; rfl
  go_wp2_with fail
  refine (holderOk_any _ k t _ HK.out).mono ?_
  rintro e w' ⟨rfl, rfl⟩
  go_wp2
  go_ret
  exact ⟨by rw [Hr.out]; rfl, B1.out⟩
end Go.Proofs.YtbmfleakldhabaaDoor.Kn
