/- Plays of a connection: the words for them; what a play keeps between two rounds. -/
import Derived.Test.YtbmfleakldhabaaDoorKn5
import Derived.Test.YtbmfleakldhabaaDoorRowC
import Derived.Test.YtbmfleakldhabaaDoorPhN
namespace Go.Proofs.YtbmfleakldhabaaDoor.Kn
open Go.RowKit Go.Deep Base Tick Rw

def b2n (b : Bool) : Int := if b then 1 else 0
def opN (op : List Int) (i : Nat) : Int := op.getD i 0
/-- What one event makes of it, and the answer. -/
def plC (s : (Nat → Int) × Bool) (op : List Int) : (Nat → Int) × Bool := if op.length = 3 then (stR s.1 s.2 (opN op 0) (opN op 1) (opN op 2), stT s.1 s.2 (opN op 0) (opN op 1) (opN op 2)) else s
def plB (s : (Nat → Int) × Bool) (op : List Int) : Bool := if op.length = 3 then canS s.1 s.2 (opN op 0) (opN op 1) (opN op 2) else false
/-- Behind the first j events. -/
def plS (id : Int) (zss : List (List Int)) : Nat → (Nat → Int) × Bool
  | 0 => (newN id 0, false)
  | j + 1 => plC (plS id zss j) (zss.getD j [])
def plT (id : Int) (zss : List (List Int)) (j : Nat) : List Int := (List.range j).map fun i => b2n (plB (plS id zss i) (zss.getD i []))
theorem plT_len (id : Int) (zss : List (List Int)) (j : Nat) : (plT id zss j).length = j := by simp [plT]
theorem plT_succ (id : Int) (zss : List (List Int)) (j : Nat) : plT id zss (j + 1) = plT id zss j ++ [b2n (plB (plS id zss j) (zss.getD j []))] := by
  simp only [plT, List.range_succ (n := j), List.map_append, List.map_cons, List.map_nil]

/-- What PlayConn hands back. -/
def goP (id : Int) (zss : List (List Int)) : Bool := newB id 0 && decide (zss.length ≤ 300)
def finP (id : Int) (zss : List (List Int)) : (Nat → Int) × Bool := if goP id zss = true then plS id zss zss.length else (fun _ => 0, false)
def tolP (id : Int) (zss : List (List Int)) : List Int := if goP id zss = true then plT id zss zss.length else []
theorem tol_few (id : Int) (zss : List (List Int)) : (tolP id zss).length ≤ 300 := by
  unfold tolP goP
  split
  · next h =>
    rw [plT_len]
    simp at h
    exact h.2
  · simp

def PlEnd (id : Int) (zss : List (List Int)) (w : World) (e : Ending) (w' : World) : Prop :=
  ∃ A c, e = .returned (.tuple #[.agg #[.int .i64 ((finP id zss).1 0), .int .i64 ((finP id zss).1 1), .int .i64 ((finP id zss).1 2), .int .i64 ((finP id zss).1 3), .int .i64 ((finP id zss).1 4), .bool (finP id zss).2], .slice A (tolP id zss).length c]) ∧ IV w' w.heap.size w'.heap.size A (tolP id zss) ∧ Below w.heap.size w w'

/-- The block of a connection. -/
def KB (b : Nat) (k : Nat → Int) (t : Bool) (w : World) : Prop := w.heap[b]? = some (.cells #[.int .i64 (k 0), .int .i64 (k 1), .int .i64 (k 2), .int .i64 (k 3), .int .i64 (k 4), .bool t] 28 (0, 0))
theorem KB.kc {b : Nat} {k : Nat → Int} {t : Bool} {w : World} (h : KB b k t w) : KC b k t w := KC.of_row h
theorem KB.frozen {b : Nat} {k : Nat → Int} {t : Bool} {w : World} (h : KB b k t w) (j : Nat) : w.frozen? ⟨b, j, none⟩ = false := frozen_of_row _ _ j _ _ h
theorem KB.lt {b : Nat} {k : Nat → Int} {t : Bool} {w : World} (h : KB b k t w) : b < w.heap.size := h.kc.lt
theorem KB.below {b : Nat} {k : Nat → Int} {t : Bool} {w w' : World} (h : KB b k t w) (hb : Below w.heap.size w w') : KB b k t w' := (hb.block b h.lt).trans h
theorem KB.new (k : Nat → Int) (t : Bool) (w : World) : KB w.heap.size k t (w.alloc (.cells #[.int .i64 (k 0), .int .i64 (k 1), .int .i64 (k 2), .int .i64 (k 3), .int .i64 (k 4), .bool t] 28)) := heap_alloc_new _ _

theorem heap_put {W : World} {kb : Nat} {cs : Array Value} {t : TypeId} (h : W.heap[kb]? = some (.cells cs t (0, 0))) (o : Nat) (v : Value) (cs' : Array Value) (e : cs.setIfInBounds o v = cs') : (W.setCell ⟨kb, o, none⟩ v).heap[kb]? = some (.cells cs' t (0, 0)) := by
  rw [← e]
  simp only [World.setCell, Array.getElem?_modify, if_pos, h]
  rfl

theorem KB.store {b : Nat} {k q : Nat → Int} {t s : Bool} {w : World} (h : KB b k t w) :
    KB b q s ((((((w.setCell ⟨b, 0, none⟩ (.int .i64 (q 0))).setCell ⟨b, 1, none⟩ (.int .i64 (q 1))).setCell ⟨b, 2, none⟩ (.int .i64 (q 2))).setCell ⟨b, 3, none⟩ (.int .i64 (q 3))).setCell ⟨b, 4, none⟩ (.int .i64 (q 4))).setCell ⟨b, 5, none⟩ (.bool s)) ∧ Turns b (b + 1) w ((((((w.setCell ⟨b, 0, none⟩ (.int .i64 (q 0))).setCell ⟨b, 1, none⟩ (.int .i64 (q 1))).setCell ⟨b, 2, none⟩ (.int .i64 (q 2))).setCell ⟨b, 3, none⟩ (.int .i64 (q 3))).setCell ⟨b, 4, none⟩ (.int .i64 (q 4))).setCell ⟨b, 5, none⟩ (.bool s)) := by
  refine ⟨?_, ?_⟩
  · have h0 := heap_put h 0 (.int .i64 (q 0)) #[.int .i64 (q 0), .int .i64 (k 1), .int .i64 (k 2), .int .i64 (k 3), .int .i64 (k 4), .bool t] rfl
    have h1 := heap_put h0 1 (.int .i64 (q 1)) #[.int .i64 (q 0), .int .i64 (q 1), .int .i64 (k 2), .int .i64 (k 3), .int .i64 (k 4), .bool t] rfl
    have h2 := heap_put h1 2 (.int .i64 (q 2)) #[.int .i64 (q 0), .int .i64 (q 1), .int .i64 (q 2), .int .i64 (k 3), .int .i64 (k 4), .bool t] rfl
    have h3 := heap_put h2 3 (.int .i64 (q 3)) #[.int .i64 (q 0), .int .i64 (q 1), .int .i64 (q 2), .int .i64 (q 3), .int .i64 (k 4), .bool t] rfl
    have h4 := heap_put h3 4 (.int .i64 (q 4)) #[.int .i64 (q 0), .int .i64 (q 1), .int .i64 (q 2), .int .i64 (q 3), .int .i64 (q 4), .bool t] rfl
    exact heap_put h4 5 (.bool s) _ rfl
  · iterate 6 refine Turns.setCell ?_ (by show b ≤ b; exact Nat.le_refl _) (by show b < b + 1; omega) _
    exact Turns.of_below (Below.refl _ _)

/-- Between two rounds: the box of the connection, the box of the result, the answers so far. -/
structure Pc (w wr : World) (g : Nat) (v : Value) (k : Nat → Int) (t : Bool) (ids : List Int) : Prop where
  own : wr.ownsRow (g + 1) 3 1 v ids.length (ids.map (Value.int .i64))
  box : KB g k t wr
  res : ZB w.heap.size wr
  old : Below w.heap.size w wr
  lo : w.heap.size < g

theorem Pc.turn {w wr w2 : World} {g : Nat} {v : Value} {k q : Nat → Int} {t s : Bool} {ids : List Int} (h : Pc w wr g v k t ids) (ht : Turns g (g + 1) wr w2) (hb : KB g q s w2) : Pc w w2 g v q s ids := by
  have hz := h.old.size
  have hg := h.box.lt
  have hl := h.lo
  refine ⟨h.own.kept (row := some g) ⟨ht.os, ht.tape, ht.output, ht.size, fun i hi hne => ht.block i hi ?_⟩ (.inr fun e => ?_), hb, (ht.block _ h.res.lt (.inl hl)).trans h.res, h.old.trans (ht.below (by omega) (by omega)), hl⟩
  · have : i ≠ g := fun e => hne (by rw [e])
    omega
  · have := (h.own.lt g e).1
    omega

theorem Pc.keep {w wr w2 : World} {g : Nat} {v : Value} {k : Nat → Int} {t : Bool} {ids : List Int} (h : Pc w wr g v k t ids) (hb : Below wr.heap.size wr w2) : Pc w w2 g v k t ids :=
  h.turn (Turns.of_below hb) (h.box.below hb)

theorem Pc.push {w wr w4 : World} {g : Nat} {v v' : Value} {k : Nat → Int} {t : Bool} {ids : List Int} {x : Int} {o : Obj} (h : Pc w wr g v k t ids) (hown : w4.ownsRow (g + 1) 3 1 v' (ids.length + 1) (ids.map (Value.int .i64) ++ [.int .i64 x])) (hg : (wr.alloc o).grownBy w4 v.ownBlock) : Pc w w4 g v' k t (ids ++ [x]) := by
  have hz := h.old.size
  have hgl := h.box.lt
  have hl := h.lo
  have ho : ∀ j, j ≤ g → some j ≠ v.ownBlock := fun j hj e => by have := (h.own.lt j e.symm).1; omega
  have hg2 : ∀ j, j ≤ g → w4.heap[j]? = wr.heap[j]? := fun j hj => (hg.block j (by simp; omega) (ho j hj)).trans ((bel_alloc wr o).block j (by omega))
  refine ⟨by simpa using hown, (hg2 g (Nat.le_refl _)).trans h.box, (hg2 _ (by omega)).trans h.res, ?_, hl⟩
  have q1 := h.old.alloc hz o
  exact q1.grown hg (by simp; omega) (fun j e => by have := (h.own.lt j e).1; omega)
end Go.Proofs.YtbmfleakldhabaaDoor.Kn
