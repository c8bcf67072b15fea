/- The program's step: demand, enter, move and the eight moves; a step that is refused panics. -/
import Derived.Test.YtbmfleakldhabaaDoorKn5
import Derived.Test.YtbmfleakldhabaaDoorIntN
import Derived.Laws.EntriesVeiled
namespace Go.Proofs.YtbmfleakldhabaaDoor.Kn
open Go.RowKit Go.Deep Base Tick Rw

/-- The program's own error value is there. -/
def Er (p : Addr) (w : World) : Prop := w.cell? ⟨1, 0, none⟩ = some (.iface 118 (.pointer (some p)))
theorem Er.below {p : Addr} {w w' : World} (h : Er p w) (hb : Below w.heap.size w w') : Er p w' := nkeep h hb
theorem Er.lt {p : Addr} {w : World} (h : Er p w) : 1 < w.heap.size := World.block_lt_of_cell? _ _ h
theorem Er.turns {p : Addr} {w w' : World} {l h : Nat} (e : Er p w) (t : Turns l h w w') (hl : 1 < l) : Er p w' := (World.cell?_of_block (t.block _ e.lt (.inl hl))).trans e

/-- The refusal. -/
def refused (p : Addr) : Ending := .panicked [{ v := .iface 118 (.pointer (some p)), recovered := false }]

theorem demand_yes (w : World) : Calls Tryd.prog 66 #[.bool true] w fun e w' => e = .returned (.tuple #[]) ∧ w = w' := by
  go_enter Tryd.func66, Tryd.ntmps66
  go_wp2
  go_end0
  exact ⟨rfl, rfl⟩

theorem demand_no (p : Addr) (w : World) (h : Er p w) : Calls Tryd.prog 66 #[.bool false] w fun e w' => e = refused p ∧ w = w' := by
  unfold Er at h
  unfold refused
  go_enter Tryd.func66, Tryd.ntmps66
  go_wp2
  exact ⟨rfl, rfl, rfl⟩

/-- A connection with the tick of its step and its ticket lies in block b. -/
def SC (b : Nat) (a0 a1 a2 a3 a4 : Int) (t : Bool) (now n : Int) (w : World) : Prop :=
  w.cell? ⟨b, 0, none⟩ = some (.int .i64 a0) ∧ w.cell? ⟨b, 1, none⟩ = some (.int .i64 a1) ∧ w.cell? ⟨b, 2, none⟩ = some (.int .i64 a2) ∧ w.cell? ⟨b, 3, none⟩ = some (.int .i64 a3) ∧ w.cell? ⟨b, 4, none⟩ = some (.int .i64 a4) ∧ w.cell? ⟨b, 5, none⟩ = some (.bool t) ∧ w.cell? ⟨b, 6, none⟩ = some (.int .i64 now) ∧ w.cell? ⟨b, 7, none⟩ = some (.int .i64 n) ∧ ∀ j, w.frozen? ⟨b, j, none⟩ = false

theorem SC.lt {b : Nat} {a0 a1 a2 a3 a4 : Int} {t : Bool} {now n : Int} {w : World} (h : SC b a0 a1 a2 a3 a4 t now n w) : b < w.heap.size := World.block_lt_of_cell? _ _ h.1
theorem SC.of_block {b : Nat} {a0 a1 a2 a3 a4 : Int} {t : Bool} {now n : Int} {w w' : World} (h : SC b a0 a1 a2 a3 a4 t now n w) (e : w'.heap[b]? = w.heap[b]?) : SC b a0 a1 a2 a3 a4 t now n w' := by
  obtain ⟨h0, h1, h2, h3, h4, h5, h6, h7, h8⟩ := h
  exact ⟨(World.cell?_of_block e).trans h0, (World.cell?_of_block e).trans h1, (World.cell?_of_block e).trans h2, (World.cell?_of_block e).trans h3, (World.cell?_of_block e).trans h4, (World.cell?_of_block e).trans h5, (World.cell?_of_block e).trans h6, (World.cell?_of_block e).trans h7, fun j => (World.frozen?_of_block e).trans (h8 j)⟩
theorem SC.below {b : Nat} {a0 a1 a2 a3 a4 : Int} {t : Bool} {now n : Int} {w w' : World} (h : SC b a0 a1 a2 a3 a4 t now n w) (hb : Below w.heap.size w w') : SC b a0 a1 a2 a3 a4 t now n w' := h.of_block (hb.block b h.lt)
theorem SC.kc {b : Nat} {k : Nat → Int} {t : Bool} {now n : Int} {w : World} (h : SC b (k 0) (k 1) (k 2) (k 3) (k 4) t now n w) : KC b k t w := ⟨h.1, h.2.1, h.2.2.1, h.2.2.2.1, h.2.2.2.2.1, h.2.2.2.2.2.1⟩

theorem SC.entered {b : Nat} {a0 a1 a2 a3 a4 : Int} {t : Bool} {now n : Int} {w : World} (h : SC b a0 a1 a2 a3 a4 t now n w) (x y : Int) :
    SC b a0 x a2 y 0 false now n ((((w.setCell ⟨b, 1, none⟩ (.int .i64 x)).setCell ⟨b, 3, none⟩ (.int .i64 y)).setCell ⟨b, 4, none⟩ (.int .i64 0)).setCell ⟨b, 5, none⟩ (.bool false)) ∧ Turns b (b + 1) w ((((w.setCell ⟨b, 1, none⟩ (.int .i64 x)).setCell ⟨b, 3, none⟩ (.int .i64 y)).setCell ⟨b, 4, none⟩ (.int .i64 0)).setCell ⟨b, 5, none⟩ (.bool false)) := by
  obtain ⟨h0, h1, h2, h3, h4, h5, h6, h7, h8⟩ := h
  refine ⟨⟨?_, ?_, ?_, ?_, ?_, ?_, ?_, ?_, ?_⟩, ?_⟩
  iterate 8 simp [go_sem, h0, h1, h2, h3, h4, h5, h6, h7]
  · intro j
    simp only [World.frozen?_setCell]
    exact h8 j
  · iterate 4 refine Turns.setCell ?_ (by show b ≤ b; exact Nat.le_refl _) (by show b < b + 1; omega) _
    exact Turns.of_below (Below.refl _ _)

theorem enter_any (b : Nat) (a0 a1 a2 a3 a4 : Int) (t : Bool) (now n x y : Int) (w : World) (h : SC b a0 a1 a2 a3 a4 t now n w) :
    Calls Tryd.prog 87 #[.pointer (some ⟨b, 0, none⟩), .int .i64 x, .int .i64 y] w fun e w' => e = .returned (.tuple #[]) ∧ SC b a0 x a2 y 0 false now n w' ∧ Turns b (b + 1) w w' := by
  have HE := Lib.hid (h.entered x y)
  obtain ⟨h0, h1, h2, h3, h4, h5, h6, h7, h8⟩ := h
  go_enter Tryd.func87, Tryd.ntmps87
  go_wp2
  go_end0
  exact ⟨rfl, HE.out⟩
set_option maxHeartbeats 1000000 in
theorem move_yes (b : Nat) (a0 a1 a2 a3 a4 : Int) (t : Bool) (now n x : Int) (w : World) (h : SC b a0 a1 a2 a3 a4 t now n w) :
    Calls Tryd.prog 86 #[.pointer (some ⟨b, 0, none⟩), .int .i64 a1, .int .i64 x] w fun e w' => e = .returned (.tuple #[]) ∧ SC b a0 x a2 now 0 false now n w' ∧ Turns b (b + 1) w w' := by
  have HE := Lib.hid (h.below (Below.refl _ _).drew)
  obtain ⟨h0, h1, h2, h3, h4, h5, h6, h7, h8⟩ := h
  go_enter Tryd.func86, Tryd.ntmps86
  go_wp2_with fail
  refine (demand_yes _).mono ?_
  rintro e w' ⟨rfl, rfl⟩
  go_wp2_with fail
  go_region_with (go_at_call 87; refine (enter_any b a0 a1 a2 a3 a4 t now n x now _ HE.out).mono ?_; rintro e w1 ⟨rfl, hs, ht⟩)
  all_goals
    go_end0
    exact ⟨rfl, hs, (Turns.of_below (Below.refl _ _).drew).trans ht⟩

theorem move_no (b : Nat) (a0 a1 a2 a3 a4 : Int) (t : Bool) (now n x y : Int) (p : Addr) (w : World) (h : SC b a0 a1 a2 a3 a4 t now n w) (he : Er p w) (hn : ¬ a1 = x) :
    Calls Tryd.prog 86 #[.pointer (some ⟨b, 0, none⟩), .int .i64 x, .int .i64 y] w fun e w' => e = refused p ∧ w = w' := by
  have HE := Lib.hid he
  clear he
  have hb : (a1 == x) = false := by simpa using hn
  obtain ⟨h0, h1, h2, h3, h4, h5, h6, h7, h8⟩ := h
  go_enter Tryd.func86, Tryd.ntmps86
  go_wp2_with fail
  refine (demand_no p _ HE.out).mono ?_
  rintro e w' ⟨rfl, rfl⟩
  exact ⟨rfl, rfl, rfl⟩
end Go.Proofs.YtbmfleakldhabaaDoor.Kn
