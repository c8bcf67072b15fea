/- The reference's l08To: the state that an event leads to. A connection that came in; the reference's NewConn, ConnDue. Connections in memory; the program's ConnOk. NewConn, the reference's and the program's. The reference's StepConn. -/
import Derived.Test.YtehdbdolhkflcaaNc0
import Derived.Deep.Slices
import Derived.Deep.Fields
import Derived.ChangeSame
import Derived.OpenShut
import Derived.Deep.RegionHeld3
import Derived.Deep.RegionWith
namespace Go.Proofs.Ytehdbdolhkflcaa.Kn
open Go.RowKit Base

/-- The state behind an event; -1 where it leads nowhere. -/
def toN (s e : Int) : Int :=
  if e = 7 ∧ s ≠ 4 then 4 else if e = 0 ∧ s = 0 then 1 else if e = 1 ∧ s = 0 then 4 else if e = 2 ∧ s = 1 then 3 else if e = 3 ∧ s = 3 then 1 else if e = 4 ∧ s = 1 then 2 else if e = 5 ∧ s = 2 then 1 else if e = 6 ∧ s = 2 then 4 else -1

theorem toN_other {s e : Int} (h : e < 0 ∨ 7 < e) : toN s e = -1 := by
  unfold toN
  rw [if_neg (by omega), if_neg (by omega), if_neg (by omega), if_neg (by omega), if_neg (by omega), if_neg (by omega), if_neg (by omega), if_neg (by omega)]

def ToEnd (s e : Int) (w : World) (r : Ending) (w' : World) : Prop := r = .returned (.int .i64 (toN s e)) ∧ Below w.heap.size w w'

theorem toEnd_of {s e x : Int} {w w' : World} (h : toN s e = x) (hb : Below w.heap.size w w') : ToEnd s e w (.returned (.int .i64 x)) w' := ⟨by rw [h], hb⟩

theorem two_new (w : World) (a b : Obj) : Below w.heap.size w ((w.alloc a).alloc b) := bel_trans (bel_alloc _ _) (bel_alloc _ _)


end Go.Proofs.Ytehdbdolhkflcaa.Kn

namespace Go.Proofs.Ytehdbdolhkflcaa.Kn
open Go.RowKit Go.Deep Go.ChangeShapes Go.WideShapes Base

section
variable {H : Type} {enc : TypeId × Value → H} {W : World} {base : Nat} {spare : Nat → Bool} {held : Bool}
set_option maxRecDepth 100000 in
theorem open_conn {rr : Reach} {b0 : Nat} {v : Value} {d : DataW H} {p : List MemPlace} (hv : Value.okWide Try.prog W rr b0 102 v) (h : DataW.Trod enc Try.prog W base spare held 102 v d p) :
    ∃ (k : Nat → Int) (t : Bool), v = .agg #[.int .i64 (k 0), .int .i64 (k 1), .int .i64 (k 2), .int .i64 (k 3), .int .i64 (k 4), .bool t] := by
  have hC : Try.prog.cellsOf 102 = 6 := by kernel_rfl
  have hI : Try.prog.cellsOf 3 = 1 := by kernel_rfl
  have hT : Try.prog.cellsOf 4 = 1 := by kernel_rfl
  obtain ⟨cs, rfl, hsz⟩ := okWide_struct Try.underlying102 hv
  obtain ⟨cl⟩ := cs
  obtain ⟨fuel, hf⟩ := h
  obtain ⟨ys, k, _, _, _, hyl, hg⟩ := DataW.trod_struct Try.underlying102 hf
  match cl, hsz.trans hC, ys, hyl with
  | [q0, q1, q2, q3, q4, q5], _, [y0, y1, y2, y3, y4, y5], _ =>
    have g0 : DataW.trod enc Try.prog W base spare held k 3 [q0] = some y0 := by have := hg 0 _ rfl; simpa [hI, Value.cells] using this
    have g1 : DataW.trod enc Try.prog W base spare held k 3 [q1] = some y1 := by have := hg 1 _ rfl; simpa [hI, Value.cells] using this
    have g2 : DataW.trod enc Try.prog W base spare held k 3 [q2] = some y2 := by have := hg 2 _ rfl; simpa [hI, Value.cells] using this
    have g3 : DataW.trod enc Try.prog W base spare held k 3 [q3] = some y3 := by have := hg 3 _ rfl; simpa [hI, Value.cells] using this
    have g4 : DataW.trod enc Try.prog W base spare held k 3 [q4] = some y4 := by have := hg 4 _ rfl; simpa [hI, Value.cells] using this
    have g5 : DataW.trod enc Try.prog W base spare held k 4 [q5] = some y5 := by have := hg 5 _ rfl; simpa [hT, Value.cells] using this
    obtain ⟨n0, e0, _⟩ := DataW.trod_int Try.underlying3 g0
    obtain ⟨n1, e1, _⟩ := DataW.trod_int Try.underlying3 g1
    obtain ⟨n2, e2, _⟩ := DataW.trod_int Try.underlying3 g2
    obtain ⟨n3, e3, _⟩ := DataW.trod_int Try.underlying3 g3
    obtain ⟨n4, e4, _⟩ := DataW.trod_int Try.underlying3 g4
    obtain ⟨n5, e5, _⟩ := DataW.trod_bool Try.underlying4 g5
    simp at e0 e1 e2 e3 e4 e5
    subst e0 e1 e2 e3 e4 e5
    exact ⟨fun i => [n0, n1, n2, n3, n4].getD i 0, n5, rfl⟩
end

/-- NewConn's answer. -/
def newN (id now : Int) : Nat → Int := fun i => if Tick.inB id 1 1000000000 && Tick.isT now then [id, 0, 0, now, 0].getD i 0 else 0
def newB (id now : Int) : Bool := Tick.inB id 1 1000000000 && Tick.isT now

def NewEnd (id now : Int) (w : World) (e : Ending) (w' : World) : Prop := e = .returned (.tuple #[.agg #[.int .i64 (newN id now 0), .int .i64 (newN id now 1), .int .i64 (newN id now 2), .int .i64 (newN id now 3), .int .i64 (newN id now 4), .bool false], .bool (newB id now)]) ∧ Below w.heap.size w w'

theorem ok_new (id now : Int) : okN (fun i => [id, 0, 0, now, 0].getD i 0) false = newB id now := by
  unfold okN newB
  show (Tick.inB id 1 1000000000 && Tick.inB 0 0 4 && Tick.isT now && Tick.inB 0 0 now && (!((0 : Int) == 0) || ((0 : Int) == 0)) && (if ((0 : Int) == 3) = true then Tick.inB 0 1 1000000000 else ((0 : Int) == 0) && !false)) = _
  cases h1 : Tick.inB id 1 1000000000
  · simp
  · cases h2 : Tick.isT now
    · simp
    · have h3 := Tick.isT_iff.1 h2
      have h4 : Tick.inB 0 0 now = true := Tick.inB_true (by omega) (by omega)
      have h5 : Tick.inB 0 0 4 = true := by decide
      rw [h4, h5]
      rfl

end Go.Proofs.Ytehdbdolhkflcaa.Kn

namespace Go.Proofs.Ytehdbdolhkflcaa.Kn
open Go.RowKit Go.Deep Base Tick

theorem nkeep {w w' : World} {b o : Nat} {v : Value} (h : w.cell? ⟨b, o, none⟩ = some v) (hb : Below w.heap.size w w') : w'.cell? ⟨b, o, none⟩ = some v := (hb.cell (World.block_lt_of_cell? _ _ h)).trans h

/-- A connection lies in block b, from its first cell on. -/
def KC (b : Nat) (k : Nat → Int) (t : Bool) (w : World) : Prop :=
  w.cell? ⟨b, 0, none⟩ = some (.int .i64 (k 0)) ∧ w.cell? ⟨b, 1, none⟩ = some (.int .i64 (k 1)) ∧ w.cell? ⟨b, 2, none⟩ = some (.int .i64 (k 2)) ∧ w.cell? ⟨b, 3, none⟩ = some (.int .i64 (k 3)) ∧ w.cell? ⟨b, 4, none⟩ = some (.int .i64 (k 4)) ∧ w.cell? ⟨b, 5, none⟩ = some (.bool t)

theorem KC.below {b : Nat} {k : Nat → Int} {t : Bool} {w w' : World} (h : KC b k t w) (hb : Below w.heap.size w w') : KC b k t w' :=
  ⟨nkeep h.1 hb, nkeep h.2.1 hb, nkeep h.2.2.1 hb, nkeep h.2.2.2.1 hb, nkeep h.2.2.2.2.1 hb, nkeep h.2.2.2.2.2 hb⟩
theorem KC.lt {b : Nat} {k : Nat → Int} {t : Bool} {w : World} (h : KC b k t w) : b < w.heap.size := World.block_lt_of_cell? _ _ h.1
theorem KC.of_block {b : Nat} {k : Nat → Int} {t : Bool} {w w' : World} (h : KC b k t w) (e : w'.heap[b]? = w.heap[b]?) : KC b k t w' :=
  ⟨(World.cell?_of_block e).trans h.1, (World.cell?_of_block e).trans h.2.1, (World.cell?_of_block e).trans h.2.2.1, (World.cell?_of_block e).trans h.2.2.2.1, (World.cell?_of_block e).trans h.2.2.2.2.1, (World.cell?_of_block e).trans h.2.2.2.2.2⟩
theorem KC.of_row {b : Nat} {k : Nat → Int} {t : Bool} {w : World} {T : TypeId} (h : w.heap[b]? = some (.cells #[.int .i64 (k 0), .int .i64 (k 1), .int .i64 (k 2), .int .i64 (k 3), .int .i64 (k 4), .bool t] T (0, 0))) : KC b k t w :=
  ⟨cell_of_row _ _ 0 _ _ (0, 0) h, cell_of_row _ _ 1 _ _ (0, 0) h, cell_of_row _ _ 2 _ _ (0, 0) h, cell_of_row _ _ 3 _ _ (0, 0) h, cell_of_row _ _ 4 _ _ (0, 0) h, cell_of_row _ _ 5 _ _ (0, 0) h⟩
theorem KC.new (k : Nat → Int) (t : Bool) (w : World) (T : TypeId) : KC w.heap.size k t (w.alloc (.cells #[.int .i64 (k 0), .int .i64 (k 1), .int .i64 (k 2), .int .i64 (k 3), .int .i64 (k 4), .bool t] T)) := KC.of_row (heap_alloc_new w _)

def timesB (k : Nat → Int) : Bool := !((k 1 == 0) && decide (0 < k 2)) && ((isT (k 2) && isT (k 3)) && decide (k 2 ≤ k 3))
def holdB (k : Nat → Int) (t : Bool) : Bool := if (k 1 == 3) = true then inB (k 4) 1 1000000000 else (k 4 == 0) && !t

theorem okN_parts (k : Nat → Int) (t : Bool) : okN k t = (inB (k 0) 1 1000000000 && inB (k 1) 0 4 && timesB k && holdB k t) := by
  rw [Bool.eq_iff_iff]
  unfold okN timesB holdB
  simp only [Bool.and_eq_true, inB_iff, isT_iff, Bool.or_eq_true, Bool.not_eq_true', Bool.and_eq_false_iff, beq_iff_eq, beq_eq_false_iff_ne, decide_eq_false_iff_not, decide_eq_true_eq]
  constructor
  · rintro ⟨⟨⟨⟨⟨h0, h1⟩, h2⟩, h3⟩, h4⟩, h5⟩
    refine ⟨⟨⟨h0, h1⟩, ?_, ⟨⟨?_, by omega⟩, h2⟩, h3.2⟩, h5⟩
    · rcases h4 with h4 | h4
      · exact .inl h4
      · exact .inr (by omega)
    · exact h3.1
  · rintro ⟨⟨⟨h0, h1⟩, h4, ⟨⟨h6, h7⟩, h2⟩, h3⟩, h5⟩
    refine ⟨⟨⟨⟨⟨h0, h1⟩, h2⟩, h6, h3⟩, ?_⟩, h5⟩
    rcases h4 with h4 | h4
    · exact .inl h4
    · exact .inr (by omega)

set_option maxRecDepth 100000 in
theorem idOk_any (x : Int) (w : World) : Calls Try.prog 117 #[.int .i64 x] w fun e w' => e = .returned (.bool (inB x 1 1000000000)) ∧ w = w' := by
  by_cases h1 : 1 ≤ x
  · by_cases h2 : x ≤ 1000000000
    · rw [inB_true h1 h2]
      go_enter Try.func117, Try.ntmps117
      go_wp2
      go_ret
      exact ⟨rfl, rfl⟩
    · rw [inB_false (.inr (by omega))]
      go_enter Try.func117, Try.ntmps117
      go_wp2
      go_ret
      exact ⟨rfl, rfl⟩
  · rw [inB_false (.inl (by omega))]
    go_enter Try.func117, Try.ntmps117
    go_wp2
    go_ret
    exact ⟨rfl, rfl⟩

set_option maxRecDepth 100000 in
set_option maxHeartbeats 2000000 in
theorem timesOk_any (b : Nat) (k : Nat → Int) (t : Bool) (w : World) (h : KC b k t w) :
    Calls Try.prog 118 #[.pointer (some ⟨b, 0, none⟩)] w fun e w' => e = .returned (.bool (timesB k)) ∧ Below w.heap.size w w' := by
  have HK := Lib.hid h
  have HA : Hid ([k 2, k 3].all isT = (isT (k 2) && isT (k 3))) := by show _ = _; simp
  obtain ⟨c0, c1, c2, c3, c4, c5⟩ := h
  by_cases h1 : k 1 = 0
  · have d1 : (k 1 == 0) = true := by simpa using h1
    by_cases h2 : 0 < k 2
    · have Hr : Hid (timesB k = false) := by show _ = _; unfold timesB; rw [d1, decide_eq_true h2]; rfl
      go_enter Try.func118, Try.ntmps118
      go_wp2
      go_ret
      exact ⟨by rw [Hr.out]; rfl, Below.refl _ _⟩
    · have e1 : ((k 1 == 0) && decide (0 < k 2)) = false := by rw [decide_eq_false h2]; simp
      go_enter Try.func118, Try.ntmps118
      go_wp2_with fail
      have HS : Hid (KC b k t w.drew) := HK.out.below (Below.refl _ _).drew
      refine wp_region_held_drew (S := KC b k t) (by kernel_rfl) HS.out (fun _ => ?_)
      refine wpAnyH_take (i := 0) (v := (.pointer (some ⟨b, 0, none⟩))) rfl (by kernel_rfl) (by kernel_rfl) (by kernel_rfl) (fun _ _ _ h => h) (.inl ⟨rfl, fun V hS => ?y0⟩) HS.out ?_
      case y0 =>
        clear hS
        go_simp
      go_simp
      refine wpAnyH_take (i := 1) (v := (.pointer (some ⟨b, 0, none⟩))) rfl (by kernel_rfl) (by kernel_rfl) (by kernel_rfl) (fun _ _ _ h => h) (.inl ⟨rfl, fun V hS => ?y0⟩) HS.out ?_
      case y0 =>
        clear hS
        go_simp
      go_simp
      refine wpAnyH_take (i := 2) (v := (.pointer (some ⟨b, 2, none⟩))) rfl (by kernel_rfl) (by kernel_rfl) (by kernel_rfl) (fun _ _ _ h => h) (.inl ⟨rfl, fun V hS => ?y0⟩) HS.out ?_
      case y0 =>
        clear hS
        go_simp
      go_simp
      refine wpAnyH_take (i := 3) (v := (.int .i64 (k 2))) rfl (by kernel_rfl) (by kernel_rfl) (by kernel_rfl) (fun _ _ _ h => h) (.inl ⟨rfl, fun V hS => ?y0⟩) HS.out ?_
      case y0 =>
        obtain ⟨y0, y1, y2, y3, y4, y5⟩ := hS
        go_simp
      go_simp
      refine wpAnyH_take (i := 4) (v := (.pointer (some ⟨b, 0, none⟩))) rfl (by kernel_rfl) (by kernel_rfl) (by kernel_rfl) (fun _ _ _ h => h) (.inl ⟨rfl, fun V hS => ?y0⟩) HS.out ?_
      case y0 =>
        clear hS
        go_simp
      go_simp
      refine wpAnyH_take (i := 5) (v := (.pointer (some ⟨b, 0, none⟩))) rfl (by kernel_rfl) (by kernel_rfl) (by kernel_rfl) (fun _ _ _ h => h) (.inl ⟨rfl, fun V hS => ?y0⟩) HS.out ?_
      case y0 =>
        clear hS
        go_simp
      go_simp
      refine wpAnyH_take (i := 6) (v := (.pointer (some ⟨b, 3, none⟩))) rfl (by kernel_rfl) (by kernel_rfl) (by kernel_rfl) (fun _ _ _ h => h) (.inl ⟨rfl, fun V hS => ?y0⟩) HS.out ?_
      case y0 =>
        clear hS
        go_simp
      go_simp
      refine wpAnyH_take (i := 7) (v := (.int .i64 (k 3))) rfl (by kernel_rfl) (by kernel_rfl) (by kernel_rfl) (fun _ _ _ h => h) (.inl ⟨rfl, fun V hS => ?y0⟩) HS.out ?_
      case y0 =>
        obtain ⟨y0, y1, y2, y3, y4, y5⟩ := hS
        go_simp
      go_simp
      refine wpAnyH_ready (rs := [8]) (by kernel_rfl) (by simp) (AllReadyH.cons rfl (fun J hJ => ?_) AllReadyH.nil)
      go_simp
      have B1 : Hid (Below w.heap.size w (w.drew.alloc (.cells #[.int .i64 (k 2), .int .i64 (k 3)] 3))) := (Below.refl _ _).drew.alloc (Nat.le_refl _) _
      have HI : Hid (Ints (w.drew.alloc (.cells #[.int .i64 (k 2), .int .i64 (k 3)] 3)) (some ⟨w.heap.size, 0, none⟩) [k 2, k 3]) := ints_new w.drew [k 2, k 3] _
      replace HS : Hid (KC b k t (w.drew.alloc (.cells #[.int .i64 (k 2), .int .i64 (k 3)] 3))) := HK.out.below B1.out
      refine hJ.out _ _ HS.out (fun _ => ?_)
      clear hJ J
      go_simp
      refine wpAnyH_ready (rs := [9]) (by kernel_rfl) (by simp) (AllReadyH.cons rfl (fun J hJ => ?_) AllReadyH.nil)
      go_simp
      refine (allTicks_any _ 2 2 [k 2, k 3] _ rfl (by decide) HI.out).mono ?_
      rintro e w8 ⟨rfl, rfl⟩
      refine hJ.out _ _ HS.out (fun _ => ?_)
      clear hJ J
      rw [HA.out]
      cases h3 : (isT (k 2) && isT (k 3))
      · have Hr : Hid (timesB k = false) := by show _ = _; unfold timesB; rw [h3]; simp
        clear h3
        go_simp
        refine wpAnyH_take (i := 10) (v := (.bool false)) rfl (by kernel_rfl) (by kernel_rfl) (by kernel_rfl) (fun _ _ _ h => h) (.inl ⟨rfl, fun V hS => ?y0⟩) HS.out ?_
        case y0 =>
          clear hS
          go_simp
        go_simp
        refine wpAnyH_take (i := 11) (v := undef) rfl (by kernel_rfl) (by kernel_rfl) (by kernel_rfl) (fun _ _ _ h => h) (.inr ⟨rfl, rfl⟩) HS.out ?_
        go_simp
        refine wpAnyH_take (i := 12) (v := undef) rfl (by kernel_rfl) (by kernel_rfl) (by kernel_rfl) (fun _ _ _ h => h) (.inr ⟨rfl, rfl⟩) HS.out ?_
        go_simp
        refine wpAnyH_take (i := 13) (v := undef) rfl (by kernel_rfl) (by kernel_rfl) (by kernel_rfl) (fun _ _ _ h => h) (.inr ⟨rfl, rfl⟩) HS.out ?_
        go_simp
        refine wpAnyH_take (i := 14) (v := undef) rfl (by kernel_rfl) (by kernel_rfl) (by kernel_rfl) (fun _ _ _ h => h) (.inr ⟨rfl, rfl⟩) HS.out ?_
        go_simp
        refine wpAnyH_take (i := 15) (v := undef) rfl (by kernel_rfl) (by kernel_rfl) (by kernel_rfl) (fun _ _ _ h => h) (.inr ⟨rfl, rfl⟩) HS.out ?_
        go_simp
        refine wpAnyH_take (i := 16) (v := undef) rfl (by kernel_rfl) (by kernel_rfl) (by kernel_rfl) (fun _ _ _ h => h) (.inr ⟨rfl, rfl⟩) HS.out ?_
        go_simp
        refine wpAnyH_take (i := 17) (v := undef) rfl (by kernel_rfl) (by kernel_rfl) (by kernel_rfl) (fun _ _ _ h => h) (.inr ⟨rfl, rfl⟩) HS.out ?_
        go_simp
        refine wpAnyH_take (i := 18) (v := undef) rfl (by kernel_rfl) (by kernel_rfl) (by kernel_rfl) (fun _ _ _ h => h) (.inr ⟨rfl, rfl⟩) HS.out ?_
        go_simp
        refine wpAnyH_take (i := 19) (v := undef) rfl (by kernel_rfl) (by kernel_rfl) (by kernel_rfl) (fun _ _ _ h => h) (.inr ⟨rfl, rfl⟩) HS.out ?_
        go_simp
        refine wpAnyH_take (i := 20) (v := (.bool false)) rfl (by kernel_rfl) (by kernel_rfl) (by kernel_rfl) (fun _ _ _ h => h) (.inl ⟨rfl, fun V hS => ?y0⟩) HS.out ?_
        case y0 =>
          clear hS
          go_simp
        go_simp
        refine wpAnyH_take (i := 21) (v := (.bool false)) rfl (by kernel_rfl) (by kernel_rfl) (by kernel_rfl) (fun _ _ _ h => h) (.inl ⟨rfl, fun V hS => ?y0⟩) HS.out ?_
        case y0 =>
          clear hS
          go_simp
        go_simp
        refine wpAnyH_done (by kernel_rfl) ?_ _
        go_wp2
        go_ret
        exact ⟨by rw [Hr.out]; rfl, B1.out⟩
      · have Hr : Hid (timesB k = decide (k 2 ≤ k 3)) := by show _ = _; unfold timesB; rw [h3, e1]; simp
        clear h3
        go_simp
        refine wpAnyH_take (i := 10) (v := (.bool true)) rfl (by kernel_rfl) (by kernel_rfl) (by kernel_rfl) (fun _ _ _ h => h) (.inl ⟨rfl, fun V hS => ?y0⟩) HS.out ?_
        case y0 =>
          clear hS
          go_simp
        go_simp
        refine wpAnyH_take (i := 11) (v := (.pointer (some ⟨b, 0, none⟩))) rfl (by kernel_rfl) (by kernel_rfl) (by kernel_rfl) (fun _ _ _ h => h) (.inl ⟨rfl, fun V hS => ?y0⟩) HS.out ?_
        case y0 =>
          clear hS
          go_simp
        go_simp
        refine wpAnyH_take (i := 12) (v := (.pointer (some ⟨b, 0, none⟩))) rfl (by kernel_rfl) (by kernel_rfl) (by kernel_rfl) (fun _ _ _ h => h) (.inl ⟨rfl, fun V hS => ?y0⟩) HS.out ?_
        case y0 =>
          clear hS
          go_simp
        go_simp
        refine wpAnyH_take (i := 13) (v := (.pointer (some ⟨b, 2, none⟩))) rfl (by kernel_rfl) (by kernel_rfl) (by kernel_rfl) (fun _ _ _ h => h) (.inl ⟨rfl, fun V hS => ?y0⟩) HS.out ?_
        case y0 =>
          clear hS
          go_simp
        go_simp
        refine wpAnyH_take (i := 14) (v := (.int .i64 (k 2))) rfl (by kernel_rfl) (by kernel_rfl) (by kernel_rfl) (fun _ _ _ h => h) (.inl ⟨rfl, fun V hS => ?y0⟩) HS.out ?_
        case y0 =>
          obtain ⟨y0, y1, y2, y3, y4, y5⟩ := hS
          go_simp
        go_simp
        refine wpAnyH_take (i := 15) (v := (.pointer (some ⟨b, 0, none⟩))) rfl (by kernel_rfl) (by kernel_rfl) (by kernel_rfl) (fun _ _ _ h => h) (.inl ⟨rfl, fun V hS => ?y0⟩) HS.out ?_
        case y0 =>
          clear hS
          go_simp
        go_simp
        refine wpAnyH_take (i := 16) (v := (.pointer (some ⟨b, 0, none⟩))) rfl (by kernel_rfl) (by kernel_rfl) (by kernel_rfl) (fun _ _ _ h => h) (.inl ⟨rfl, fun V hS => ?y0⟩) HS.out ?_
        case y0 =>
          clear hS
          go_simp
        go_simp
        refine wpAnyH_take (i := 17) (v := (.pointer (some ⟨b, 3, none⟩))) rfl (by kernel_rfl) (by kernel_rfl) (by kernel_rfl) (fun _ _ _ h => h) (.inl ⟨rfl, fun V hS => ?y0⟩) HS.out ?_
        case y0 =>
          clear hS
          go_simp
        go_simp
        refine wpAnyH_take (i := 18) (v := (.int .i64 (k 3))) rfl (by kernel_rfl) (by kernel_rfl) (by kernel_rfl) (fun _ _ _ h => h) (.inl ⟨rfl, fun V hS => ?y0⟩) HS.out ?_
        case y0 =>
          obtain ⟨y0, y1, y2, y3, y4, y5⟩ := hS
          go_simp
        go_simp
        refine wpAnyH_take (i := 19) (v := (.bool (decide (k 2 ≤ k 3)))) rfl (by kernel_rfl) (by kernel_rfl) (by kernel_rfl) (fun _ _ _ h => h) (.inl ⟨rfl, fun V hS => ?y0⟩) HS.out ?_
        case y0 =>
          clear hS
          go_simp
        go_simp
        refine wpAnyH_take (i := 20) (v := (.bool (decide (k 2 ≤ k 3)))) rfl (by kernel_rfl) (by kernel_rfl) (by kernel_rfl) (fun _ _ _ h => h) (.inl ⟨rfl, fun V hS => ?y0⟩) HS.out ?_
        case y0 =>
          clear hS
          go_simp
        go_simp
        refine wpAnyH_take (i := 21) (v := (.bool (decide (k 2 ≤ k 3)))) rfl (by kernel_rfl) (by kernel_rfl) (by kernel_rfl) (fun _ _ _ h => h) (.inl ⟨rfl, fun V hS => ?y0⟩) HS.out ?_
        case y0 =>
          clear hS
          go_simp
        go_simp
        refine wpAnyH_done (by kernel_rfl) ?_ _
        go_wp2
        go_ret
        exact ⟨by rw [Hr.out]; rfl, B1.out⟩
  · have d1 : (k 1 == 0) = false := by simpa using h1
    have e1 : ((k 1 == 0) && decide (0 < k 2)) = false := by rw [d1]; simp
    go_enter Try.func118, Try.ntmps118
    go_wp2_with fail
    have HS : Hid (KC b k t w.drew) := HK.out.below (Below.refl _ _).drew
    refine wp_region_held_drew (S := KC b k t) (by kernel_rfl) HS.out (fun _ => ?_)
    refine wpAnyH_take (i := 0) (v := (.pointer (some ⟨b, 0, none⟩))) rfl (by kernel_rfl) (by kernel_rfl) (by kernel_rfl) (fun _ _ _ h => h) (.inl ⟨rfl, fun V hS => ?y0⟩) HS.out ?_
    case y0 =>
      clear hS
      go_simp
    go_simp
    refine wpAnyH_take (i := 1) (v := (.pointer (some ⟨b, 0, none⟩))) rfl (by kernel_rfl) (by kernel_rfl) (by kernel_rfl) (fun _ _ _ h => h) (.inl ⟨rfl, fun V hS => ?y0⟩) HS.out ?_
    case y0 =>
      clear hS
      go_simp
    go_simp
    refine wpAnyH_take (i := 2) (v := (.pointer (some ⟨b, 2, none⟩))) rfl (by kernel_rfl) (by kernel_rfl) (by kernel_rfl) (fun _ _ _ h => h) (.inl ⟨rfl, fun V hS => ?y0⟩) HS.out ?_
    case y0 =>
      clear hS
      go_simp
    go_simp
    refine wpAnyH_take (i := 3) (v := (.int .i64 (k 2))) rfl (by kernel_rfl) (by kernel_rfl) (by kernel_rfl) (fun _ _ _ h => h) (.inl ⟨rfl, fun V hS => ?y0⟩) HS.out ?_
    case y0 =>
      obtain ⟨y0, y1, y2, y3, y4, y5⟩ := hS
      go_simp
    go_simp
    refine wpAnyH_take (i := 4) (v := (.pointer (some ⟨b, 0, none⟩))) rfl (by kernel_rfl) (by kernel_rfl) (by kernel_rfl) (fun _ _ _ h => h) (.inl ⟨rfl, fun V hS => ?y0⟩) HS.out ?_
    case y0 =>
      clear hS
      go_simp
    go_simp
    refine wpAnyH_take (i := 5) (v := (.pointer (some ⟨b, 0, none⟩))) rfl (by kernel_rfl) (by kernel_rfl) (by kernel_rfl) (fun _ _ _ h => h) (.inl ⟨rfl, fun V hS => ?y0⟩) HS.out ?_
    case y0 =>
      clear hS
      go_simp
    go_simp
    refine wpAnyH_take (i := 6) (v := (.pointer (some ⟨b, 3, none⟩))) rfl (by kernel_rfl) (by kernel_rfl) (by kernel_rfl) (fun _ _ _ h => h) (.inl ⟨rfl, fun V hS => ?y0⟩) HS.out ?_
    case y0 =>
      clear hS
      go_simp
    go_simp
    refine wpAnyH_take (i := 7) (v := (.int .i64 (k 3))) rfl (by kernel_rfl) (by kernel_rfl) (by kernel_rfl) (fun _ _ _ h => h) (.inl ⟨rfl, fun V hS => ?y0⟩) HS.out ?_
    case y0 =>
      obtain ⟨y0, y1, y2, y3, y4, y5⟩ := hS
      go_simp
    go_simp
    refine wpAnyH_ready (rs := [8]) (by kernel_rfl) (by simp) (AllReadyH.cons rfl (fun J hJ => ?_) AllReadyH.nil)
    go_simp
    have B1 : Hid (Below w.heap.size w (w.drew.alloc (.cells #[.int .i64 (k 2), .int .i64 (k 3)] 3))) := (Below.refl _ _).drew.alloc (Nat.le_refl _) _
    have HI : Hid (Ints (w.drew.alloc (.cells #[.int .i64 (k 2), .int .i64 (k 3)] 3)) (some ⟨w.heap.size, 0, none⟩) [k 2, k 3]) := ints_new w.drew [k 2, k 3] _
    replace HS : Hid (KC b k t (w.drew.alloc (.cells #[.int .i64 (k 2), .int .i64 (k 3)] 3))) := HK.out.below B1.out
    refine hJ.out _ _ HS.out (fun _ => ?_)
    clear hJ J
    go_simp
    refine wpAnyH_ready (rs := [9]) (by kernel_rfl) (by simp) (AllReadyH.cons rfl (fun J hJ => ?_) AllReadyH.nil)
    go_simp
    refine (allTicks_any _ 2 2 [k 2, k 3] _ rfl (by decide) HI.out).mono ?_
    rintro e w8 ⟨rfl, rfl⟩
    refine hJ.out _ _ HS.out (fun _ => ?_)
    clear hJ J
    rw [HA.out]
    cases h3 : (isT (k 2) && isT (k 3))
    · have Hr : Hid (timesB k = false) := by show _ = _; unfold timesB; rw [h3]; simp
      clear h3
      go_simp
      refine wpAnyH_take (i := 10) (v := (.bool false)) rfl (by kernel_rfl) (by kernel_rfl) (by kernel_rfl) (fun _ _ _ h => h) (.inl ⟨rfl, fun V hS => ?y0⟩) HS.out ?_
      case y0 =>
        clear hS
        go_simp
      go_simp
      refine wpAnyH_take (i := 11) (v := undef) rfl (by kernel_rfl) (by kernel_rfl) (by kernel_rfl) (fun _ _ _ h => h) (.inr ⟨rfl, rfl⟩) HS.out ?_
      go_simp
      refine wpAnyH_take (i := 12) (v := undef) rfl (by kernel_rfl) (by kernel_rfl) (by kernel_rfl) (fun _ _ _ h => h) (.inr ⟨rfl, rfl⟩) HS.out ?_
      go_simp
      refine wpAnyH_take (i := 13) (v := undef) rfl (by kernel_rfl) (by kernel_rfl) (by kernel_rfl) (fun _ _ _ h => h) (.inr ⟨rfl, rfl⟩) HS.out ?_
      go_simp
      refine wpAnyH_take (i := 14) (v := undef) rfl (by kernel_rfl) (by kernel_rfl) (by kernel_rfl) (fun _ _ _ h => h) (.inr ⟨rfl, rfl⟩) HS.out ?_
      go_simp
      refine wpAnyH_take (i := 15) (v := undef) rfl (by kernel_rfl) (by kernel_rfl) (by kernel_rfl) (fun _ _ _ h => h) (.inr ⟨rfl, rfl⟩) HS.out ?_
      go_simp
      refine wpAnyH_take (i := 16) (v := undef) rfl (by kernel_rfl) (by kernel_rfl) (by kernel_rfl) (fun _ _ _ h => h) (.inr ⟨rfl, rfl⟩) HS.out ?_
      go_simp
      refine wpAnyH_take (i := 17) (v := undef) rfl (by kernel_rfl) (by kernel_rfl) (by kernel_rfl) (fun _ _ _ h => h) (.inr ⟨rfl, rfl⟩) HS.out ?_
      go_simp
      refine wpAnyH_take (i := 18) (v := undef) rfl (by kernel_rfl) (by kernel_rfl) (by kernel_rfl) (fun _ _ _ h => h) (.inr ⟨rfl, rfl⟩) HS.out ?_
      go_simp
      refine wpAnyH_take (i := 19) (v := undef) rfl (by kernel_rfl) (by kernel_rfl) (by kernel_rfl) (fun _ _ _ h => h) (.inr ⟨rfl, rfl⟩) HS.out ?_
      go_simp
      refine wpAnyH_take (i := 20) (v := (.bool false)) rfl (by kernel_rfl) (by kernel_rfl) (by kernel_rfl) (fun _ _ _ h => h) (.inl ⟨rfl, fun V hS => ?y0⟩) HS.out ?_
      case y0 =>
        clear hS
        go_simp
      go_simp
      refine wpAnyH_take (i := 21) (v := (.bool false)) rfl (by kernel_rfl) (by kernel_rfl) (by kernel_rfl) (fun _ _ _ h => h) (.inl ⟨rfl, fun V hS => ?y0⟩) HS.out ?_
      case y0 =>
        clear hS
        go_simp
      go_simp
      refine wpAnyH_done (by kernel_rfl) ?_ _
      go_wp2
      go_ret
      exact ⟨by rw [Hr.out]; rfl, B1.out⟩
    · have Hr : Hid (timesB k = decide (k 2 ≤ k 3)) := by show _ = _; unfold timesB; rw [h3, e1]; simp
      clear h3
      go_simp
      refine wpAnyH_take (i := 10) (v := (.bool true)) rfl (by kernel_rfl) (by kernel_rfl) (by kernel_rfl) (fun _ _ _ h => h) (.inl ⟨rfl, fun V hS => ?y0⟩) HS.out ?_
      case y0 =>
        clear hS
        go_simp
      go_simp
      refine wpAnyH_take (i := 11) (v := (.pointer (some ⟨b, 0, none⟩))) rfl (by kernel_rfl) (by kernel_rfl) (by kernel_rfl) (fun _ _ _ h => h) (.inl ⟨rfl, fun V hS => ?y0⟩) HS.out ?_
      case y0 =>
        clear hS
        go_simp
      go_simp
      refine wpAnyH_take (i := 12) (v := (.pointer (some ⟨b, 0, none⟩))) rfl (by kernel_rfl) (by kernel_rfl) (by kernel_rfl) (fun _ _ _ h => h) (.inl ⟨rfl, fun V hS => ?y0⟩) HS.out ?_
      case y0 =>
        clear hS
        go_simp
      go_simp
      refine wpAnyH_take (i := 13) (v := (.pointer (some ⟨b, 2, none⟩))) rfl (by kernel_rfl) (by kernel_rfl) (by kernel_rfl) (fun _ _ _ h => h) (.inl ⟨rfl, fun V hS => ?y0⟩) HS.out ?_
      case y0 =>
        clear hS
        go_simp
      go_simp
      refine wpAnyH_take (i := 14) (v := (.int .i64 (k 2))) rfl (by kernel_rfl) (by kernel_rfl) (by kernel_rfl) (fun _ _ _ h => h) (.inl ⟨rfl, fun V hS => ?y0⟩) HS.out ?_
      case y0 =>
        obtain ⟨y0, y1, y2, y3, y4, y5⟩ := hS
        go_simp
      go_simp
      refine wpAnyH_take (i := 15) (v := (.pointer (some ⟨b, 0, none⟩))) rfl (by kernel_rfl) (by kernel_rfl) (by kernel_rfl) (fun _ _ _ h => h) (.inl ⟨rfl, fun V hS => ?y0⟩) HS.out ?_
      case y0 =>
        clear hS
        go_simp
      go_simp
      refine wpAnyH_take (i := 16) (v := (.pointer (some ⟨b, 0, none⟩))) rfl (by kernel_rfl) (by kernel_rfl) (by kernel_rfl) (fun _ _ _ h => h) (.inl ⟨rfl, fun V hS => ?y0⟩) HS.out ?_
      case y0 =>
        clear hS
        go_simp
      go_simp
      refine wpAnyH_take (i := 17) (v := (.pointer (some ⟨b, 3, none⟩))) rfl (by kernel_rfl) (by kernel_rfl) (by kernel_rfl) (fun _ _ _ h => h) (.inl ⟨rfl, fun V hS => ?y0⟩) HS.out ?_
      case y0 =>
        clear hS
        go_simp
      go_simp
      refine wpAnyH_take (i := 18) (v := (.int .i64 (k 3))) rfl (by kernel_rfl) (by kernel_rfl) (by kernel_rfl) (fun _ _ _ h => h) (.inl ⟨rfl, fun V hS => ?y0⟩) HS.out ?_
      case y0 =>
        obtain ⟨y0, y1, y2, y3, y4, y5⟩ := hS
        go_simp
      go_simp
      refine wpAnyH_take (i := 19) (v := (.bool (decide (k 2 ≤ k 3)))) rfl (by kernel_rfl) (by kernel_rfl) (by kernel_rfl) (fun _ _ _ h => h) (.inl ⟨rfl, fun V hS => ?y0⟩) HS.out ?_
      case y0 =>
        clear hS
        go_simp
      go_simp
      refine wpAnyH_take (i := 20) (v := (.bool (decide (k 2 ≤ k 3)))) rfl (by kernel_rfl) (by kernel_rfl) (by kernel_rfl) (fun _ _ _ h => h) (.inl ⟨rfl, fun V hS => ?y0⟩) HS.out ?_
      case y0 =>
        clear hS
        go_simp
      go_simp
      refine wpAnyH_take (i := 21) (v := (.bool (decide (k 2 ≤ k 3)))) rfl (by kernel_rfl) (by kernel_rfl) (by kernel_rfl) (fun _ _ _ h => h) (.inl ⟨rfl, fun V hS => ?y0⟩) HS.out ?_
      case y0 =>
        clear hS
        go_simp
      go_simp
      refine wpAnyH_done (by kernel_rfl) ?_ _
      go_wp2
      go_ret
      exact ⟨by rw [Hr.out]; rfl, B1.out⟩

set_option maxRecDepth 100000 in
set_option maxHeartbeats 1000000 in
theorem holderOk_any (b : Nat) (k : Nat → Int) (t : Bool) (w : World) (h : KC b k t w) :
    Calls Try.prog 119 #[.pointer (some ⟨b, 0, none⟩)] w fun e w' => e = .returned (.bool (holdB k t)) ∧ w = w' := by
  obtain ⟨c0, c1, c2, c3, c4, c5⟩ := h
  cases h1 : (k 1 == 3)
  · have Hr : Hid (holdB k t = ((k 4 == 0) && !t)) := by show _ = _; unfold holdB; rw [h1]; rfl
    cases h2 : (k 4 == 0)
    · go_enter Try.func119, Try.ntmps119
      go_wp2
      go_ret
      exact ⟨by rw [Hr.out, h2]; rfl, rfl⟩
    · go_enter Try.func119, Try.ntmps119
      go_wp2
      go_ret
      exact ⟨by rw [Hr.out, h2]; rfl, rfl⟩
  · have Hr : Hid (holdB k t = inB (k 4) 1 1000000000) := by show _ = _; unfold holdB; rw [h1]; rfl
    go_enter Try.func119, Try.ntmps119
    go_wp2_with (go_at_call 117; refine (idOk_any _ _).mono ?_; rintro e w' ⟨rfl, rfl⟩)
    go_ret
    exact ⟨by rw [Hr.out]; rfl, rfl⟩

set_option maxRecDepth 100000 in
set_option maxHeartbeats 2000000 in
theorem implConnOk_any (k : Nat → Int) (t : Bool) (w : World) :
    Calls Try.prog 94 #[.agg #[.int .i64 (k 0), .int .i64 (k 1), .int .i64 (k 2), .int .i64 (k 3), .int .i64 (k 4), .bool t]] w fun e w' => e = .returned (.bool (okN k t)) ∧ Below w.heap.size w w' := by
  have HO := Lib.hid (okN_parts k t)
  have HK := Lib.hid (KC.new k t w 76)
  have B0 := Lib.hid (bel_alloc w (.cells #[.int .i64 (k 0), .int .i64 (k 1), .int .i64 (k 2), .int .i64 (k 3), .int .i64 (k 4), .bool t] 76))
  go_enter Try.func94, Try.ntmps94
  go_wp2_with fail
  refine (idOk_any _ _).mono ?_
  rintro e w' ⟨rfl, rfl⟩
  cases h0 : inB (k 0) 1 1000000000
  · have Hr : Hid (okN k t = false) := by show _ = _; rw [HO.out, h0]; rfl
    clear h0
    go_wp2
    go_ret
    exact ⟨by rw [Hr.out]; rfl, B0.out⟩
  have H0 := Lib.hid h0
  clear h0
  go_wp2_with fail
  refine (Cf.within_any _ _ _ _).mono ?_
  rintro e w' ⟨rfl, rfl⟩
  cases h1 : inB (k 1) 0 4
  · have Hr : Hid (okN k t = false) := by show _ = _; rw [HO.out, H0.out, h1]; rfl
    clear h1
    go_wp2
    go_ret
    exact ⟨by rw [Hr.out]; rfl, B0.out⟩
  have H1 := Lib.hid h1
  clear h1
  go_wp2_with fail
  refine (timesOk_any _ k t _ HK.out).mono ?_
  rintro e w1 ⟨rfl, b1⟩
  replace HK := Lib.hid (HK.out.below b1)
  have B1 := Lib.hid (bel_trans B0.out b1)
  clear b1
  cases h2 : timesB k
  · have Hr : Hid (okN k t = false) := by show _ = _; rw [HO.out, H0.out, H1.out, h2]; rfl
    clear h2
    go_wp2
    go_ret
    exact ⟨by rw [Hr.out]; rfl, B1.out⟩
  have H2 := Lib.hid h2
  clear h2
  have Hr : Hid (okN k t = holdB k t) := by show _ = _; rw [HO.out, H0.out, H1.out, H2.out]; rfl
  go_wp2_with fail
  refine (holderOk_any _ k t _ HK.out).mono ?_
  rintro e w' ⟨rfl, rfl⟩
  go_wp2
  go_ret
  exact ⟨by rw [Hr.out]; rfl, B1.out⟩
end Go.Proofs.Ytehdbdolhkflcaa.Kn

namespace Go.Proofs.Ytehdbdolhkflcaa.Kn
open Go.RowKit Go.Deep Base

theorem new_no {id now : Int} (h : newB id now = false) (i : Nat) : newN id now i = 0 := by
  unfold newB at h
  unfold newN
  rw [h]
  rfl
theorem new_yes {id now : Int} (h : newB id now = true) : newN id now 0 = id ∧ newN id now 1 = 0 ∧ newN id now 2 = 0 ∧ newN id now 3 = now ∧ newN id now 4 = 0 := by
  unfold newB at h
  unfold newN
  rw [h]
  exact ⟨rfl, rfl, rfl, rfl, rfl⟩

theorem newEnd_no {id now : Int} {w w' : World} (h : newB id now = false) (hb : Below w.heap.size w w') : NewEnd id now w (.returned (.tuple #[.agg #[.int .i64 0, .int .i64 0, .int .i64 0, .int .i64 0, .int .i64 0, .bool false], .bool false])) w' := by
  refine ⟨?_, hb⟩
  rw [new_no h, new_no h, new_no h, new_no h, new_no h, h]
theorem newEnd_yes {id now : Int} {w w' : World} (h : newB id now = true) (hb : Below w.heap.size w w') : NewEnd id now w (.returned (.tuple #[.agg #[.int .i64 id, .int .i64 0, .int .i64 0, .int .i64 now, .int .i64 0, .bool false], .bool true])) w' := by
  obtain ⟨h0, h1, h2, h3, h4⟩ := new_yes h
  refine ⟨?_, hb⟩
  rw [h0, h1, h2, h3, h4, h]


end Go.Proofs.Ytehdbdolhkflcaa.Kn

namespace Go.Proofs.Ytehdbdolhkflcaa.Kn
open Go.RowKit Go.Deep Base Tick

/-- Whether an event may happen. -/
def canS (k : Nat → Int) (t : Bool) (e now n : Int) : Bool := okN k t && inB now (k 3) 1000000000 && decide (0 ≤ toN (k 1) e) && (!(e == 2) || inB n 1 1000000000)
/-- The connection behind it. -/
def stK (k : Nat → Int) (e now n : Int) : Nat → Int := fun i => [k 0, toN (k 1) e, if e = 0 then now else k 2, now, if e = 2 then n else 0].getD i 0
/-- What StepConn hands back. -/
def stR (k : Nat → Int) (t : Bool) (e now n : Int) : Nat → Int := if canS k t e now n = true then stK k e now n else k
def stT (k : Nat → Int) (t : Bool) (e now n : Int) : Bool := if canS k t e now n = true then false else t

def StEnd (k : Nat → Int) (t : Bool) (e now n : Int) (w : World) (r : Ending) (w' : World) : Prop :=
  r = .returned (.tuple #[.agg #[.int .i64 (stR k t e now n 0), .int .i64 (stR k t e now n 1), .int .i64 (stR k t e now n 2), .int .i64 (stR k t e now n 3), .int .i64 (stR k t e now n 4), .bool (stT k t e now n)], .bool (canS k t e now n)]) ∧ Below w.heap.size w w'

theorem st_no {k : Nat → Int} {t : Bool} {e now n : Int} {w w' : World} (h : canS k t e now n = false) (hb : Below w.heap.size w w') : StEnd k t e now n w (.returned (.tuple #[.agg #[.int .i64 (k 0), .int .i64 (k 1), .int .i64 (k 2), .int .i64 (k 3), .int .i64 (k 4), .bool t], .bool false])) w' := by
  refine ⟨?_, hb⟩
  have h1 : stR k t e now n = k := by unfold stR; rw [h]; rfl
  have h2 : stT k t e now n = t := by unfold stT; rw [h]; rfl
  rw [h1, h2, h]

theorem st_yes {k : Nat → Int} {t : Bool} {e now n s b x : Int} {w w' : World} (h : canS k t e now n = true) (hs : toN (k 1) e = s) (hb2 : (if e = 0 then now else k 2) = b) (hx : (if e = 2 then n else 0) = x) (hb : Below w.heap.size w w') : StEnd k t e now n w (.returned (.tuple #[.agg #[.int .i64 (k 0), .int .i64 s, .int .i64 b, .int .i64 now, .int .i64 x, .bool false], .bool true])) w' := by
  refine ⟨?_, hb⟩
  have h1 : stR k t e now n = stK k e now n := by unfold stR; rw [h]; rfl
  have h2 : stT k t e now n = false := by unfold stT; rw [h]; rfl
  rw [h1, h2, h]
  subst hs hb2 hx
  rfl

/-- A block of a connection with nothing in it. -/
def ZB (b : Nat) (w : World) : Prop := w.heap[b]? = some (.cells #[.int .i64 0, .int .i64 0, .int .i64 0, .int .i64 0, .int .i64 0, .bool false] 76 (0, 0))
theorem ZB.cells {b : Nat} {w : World} (h : ZB b w) : w.cell? ⟨b, 0, none⟩ = some (.int .i64 0) ∧ w.cell? ⟨b, 1, none⟩ = some (.int .i64 0) ∧ w.cell? ⟨b, 2, none⟩ = some (.int .i64 0) ∧ w.cell? ⟨b, 3, none⟩ = some (.int .i64 0) ∧ w.cell? ⟨b, 4, none⟩ = some (.int .i64 0) ∧ w.cell? ⟨b, 5, none⟩ = some (.bool false) ∧ ∀ j, w.frozen? ⟨b, j, none⟩ = false :=
  ⟨cell_of_row _ _ 0 _ _ (0, 0) h, cell_of_row _ _ 1 _ _ (0, 0) h, cell_of_row _ _ 2 _ _ (0, 0) h, cell_of_row _ _ 3 _ _ (0, 0) h, cell_of_row _ _ 4 _ _ (0, 0) h, cell_of_row _ _ 5 _ _ (0, 0) h, fun j => frozen_of_row _ _ j _ _ h⟩
theorem ZB.lt {b : Nat} {w : World} (h : ZB b w) : b < w.heap.size := World.block_lt_of_cell? _ _ h.cells.1
theorem ZB.below {b : Nat} {w w' : World} (h : ZB b w) (hb : Below w.heap.size w w') : ZB b w' := (hb.block b h.lt).trans h
theorem ZB.next (w : World) (o : Obj) : ZB (w.heap.size + 1) ((w.alloc o).alloc (.cells #[.int .i64 0, .int .i64 0, .int .i64 0, .int .i64 0, .int .i64 0, .bool false] 76)) := by
  have := heap_alloc_new (w.alloc o) (.cells #[.int .i64 0, .int .i64 0, .int .i64 0, .int .i64 0, .int .i64 0, .bool false] 76)
  rw [World.size_alloc] at this
  exact this

set_option maxRecDepth 100000 in
theorem stored6 {V : World} {b : Nat} (h : ZB b V) (v0 v1 v2 v3 v4 v5 : Value) (o : Obj) :
    (((((((V.setCell ⟨b, 0, none⟩ v0).setCell ⟨b, 1, none⟩ v1).setCell ⟨b, 2, none⟩ v2).setCell ⟨b, 3, none⟩ v3).setCell ⟨b, 4, none⟩ v4).setCell ⟨b, 5, none⟩ v5).alloc o).cell? ⟨b, 0, none⟩ = some v0 ∧ (((((((V.setCell ⟨b, 0, none⟩ v0).setCell ⟨b, 1, none⟩ v1).setCell ⟨b, 2, none⟩ v2).setCell ⟨b, 3, none⟩ v3).setCell ⟨b, 4, none⟩ v4).setCell ⟨b, 5, none⟩ v5).alloc o).cell? ⟨b, 1, none⟩ = some v1 ∧ (((((((V.setCell ⟨b, 0, none⟩ v0).setCell ⟨b, 1, none⟩ v1).setCell ⟨b, 2, none⟩ v2).setCell ⟨b, 3, none⟩ v3).setCell ⟨b, 4, none⟩ v4).setCell ⟨b, 5, none⟩ v5).alloc o).cell? ⟨b, 2, none⟩ = some v2 ∧ (((((((V.setCell ⟨b, 0, none⟩ v0).setCell ⟨b, 1, none⟩ v1).setCell ⟨b, 2, none⟩ v2).setCell ⟨b, 3, none⟩ v3).setCell ⟨b, 4, none⟩ v4).setCell ⟨b, 5, none⟩ v5).alloc o).cell? ⟨b, 3, none⟩ = some v3 ∧ (((((((V.setCell ⟨b, 0, none⟩ v0).setCell ⟨b, 1, none⟩ v1).setCell ⟨b, 2, none⟩ v2).setCell ⟨b, 3, none⟩ v3).setCell ⟨b, 4, none⟩ v4).setCell ⟨b, 5, none⟩ v5).alloc o).cell? ⟨b, 4, none⟩ = some v4 ∧ (((((((V.setCell ⟨b, 0, none⟩ v0).setCell ⟨b, 1, none⟩ v1).setCell ⟨b, 2, none⟩ v2).setCell ⟨b, 3, none⟩ v3).setCell ⟨b, 4, none⟩ v4).setCell ⟨b, 5, none⟩ v5).alloc o).cell? ⟨b, 5, none⟩ = some v5 := by
  have hl := h.lt
  obtain ⟨z0, z1, z2, z3, z4, z5, -⟩ := h.cells
  have hz : b < ((((((V.setCell ⟨b, 0, none⟩ v0).setCell ⟨b, 1, none⟩ v1).setCell ⟨b, 2, none⟩ v2).setCell ⟨b, 3, none⟩ v3).setCell ⟨b, 4, none⟩ v4).setCell ⟨b, 5, none⟩ v5).heap.size := by simp [World.setCell]; exact hl
  refine ⟨?_, ?_, ?_, ?_, ?_, ?_⟩ <;> (rw [World.cell?_alloc_lt _ _ _ hz]; simp [go_sem, z0, z1, z2, z3, z4, z5])


end Go.Proofs.Ytehdbdolhkflcaa.Kn
