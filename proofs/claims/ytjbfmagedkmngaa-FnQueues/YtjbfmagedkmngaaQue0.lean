/- Words for slots and queues in memory: the slots of a queue as a list, what a slice of slots reads, worlds that turn a range of blocks alone. -/
import Derived.Test.YtjbfmagedkmngaaChecked
import Derived.Test.YtjbfmagedkmngaaBase
import Derived.Test.YtjbfmagedkmngaaQMath
import Derived.Laws.Rows
import Derived.Deep.MidRow
import Derived.IntWalk
namespace Go.Proofs.Ytjbfmagedkmngaa.Que
open Go.RowKit Go.Deep Base

/-- The cell of field j of a slot. -/
def Sl.at (s : Sl) (j : Nat) : Value :=
  if j = 0 then .int .i64 s.id else if j = 1 then .int .i64 s.prev else if j = 2 then .int .i64 s.next else .bool s.used

/-- The slots ss lie in block b from its head on, and may be written. -/
def Rd (w : World) (b : Nat) (ss : List Sl) : Prop :=
  ∀ i, i < ss.length → w.cell? ⟨b, i * 4, none⟩ = some (.int .i64 (ss.getD i zSl).id) ∧ w.cell? ⟨b, i * 4 + 1, none⟩ = some (.int .i64 (ss.getD i zSl).prev)
    ∧ w.cell? ⟨b, i * 4 + 2, none⟩ = some (.int .i64 (ss.getD i zSl).next) ∧ w.cell? ⟨b, i * 4 + 3, none⟩ = some (.bool (ss.getD i zSl).used) ∧ ∀ j, w.frozen? ⟨b, j, none⟩ = false

/-- A slice of slots at A reads as ss; it lies in a block from lo on and ahead of hi. -/
def SlV (w : World) (lo hi : Nat) (A : Option Addr) (ss : List Sl) : Prop :=
  0 < ss.length → ∃ g, A = some ⟨g, 0, none⟩ ∧ lo ≤ g ∧ g < hi ∧ Rd w g ss

/-- A slice of the law's own slots at A reads as ss. -/
def LSl (w : World) (A : Option Addr) (ss : List Sl) : Prop :=
  0 < ss.length → ∃ b off, A = some ⟨b, off, none⟩ ∧ ∀ i, i < ss.length → w.cell? ⟨b, off + i * 4, none⟩ = some (.int .i64 (ss.getD i zSl).id) ∧ w.cell? ⟨b, off + i * 4 + 1, none⟩ = some (.int .i64 (ss.getD i zSl).prev)
    ∧ w.cell? ⟨b, off + i * 4 + 2, none⟩ = some (.int .i64 (ss.getD i zSl).next) ∧ w.cell? ⟨b, off + i * 4 + 3, none⟩ = some (.bool (ss.getD i zSl).used)

theorem Rd.of_block {w w' : World} {b : Nat} {ss : List Sl} (h : Rd w b ss) (e : w'.heap[b]? = w.heap[b]?) : Rd w' b ss := by
  intro i hi
  have hc : ∀ o, w'.cell? ⟨b, o, none⟩ = w.cell? ⟨b, o, none⟩ := fun o => World.cell?_of_block (w := w) e
  have hf : ∀ o, w'.frozen? ⟨b, o, none⟩ = w.frozen? ⟨b, o, none⟩ := fun o => World.frozen?_of_block (w := w) e
  obtain ⟨h0, h1, h2, h3, h4⟩ := h i hi
  exact ⟨(hc _).trans h0, (hc _).trans h1, (hc _).trans h2, (hc _).trans h3, fun j => (hf j).trans (h4 j)⟩

theorem SlV.of_block {w w' : World} {lo hi : Nat} {A : Option Addr} {ss : List Sl} (h : SlV w lo hi A ss) (e : ∀ g, lo ≤ g → g < hi → w'.heap[g]? = w.heap[g]?) : SlV w' lo hi A ss := by
  intro hp
  obtain ⟨g, rfl, h1, h2, h3⟩ := h hp
  exact ⟨g, rfl, h1, h2, h3.of_block (e g h1 h2)⟩

theorem SlV.wide {w : World} {lo hi lo' hi' : Nat} {A : Option Addr} {ss : List Sl} (h : SlV w lo hi A ss) (h1 : lo' ≤ lo) (h2 : hi ≤ hi') : SlV w lo' hi' A ss := by
  intro hp
  obtain ⟨g, rfl, h1', h2', h3⟩ := h hp
  exact ⟨g, rfl, by omega, by omega, h3⟩

theorem SlV.below {w w' : World} {lo hi B : Nat} {A : Option Addr} {ss : List Sl} (h : SlV w lo hi A ss) (hb : Below B w w') (hB : hi ≤ B) : SlV w' lo hi A ss :=
  h.of_block fun g _ h2 => hb.block g (by omega)

theorem LSl.below {w w' : World} {A : Option Addr} {ss : List Sl} (h : LSl w A ss) (hb : Below w.heap.size w w') : LSl w' A ss := by
  intro hp
  obtain ⟨b, off, rfl, hc⟩ := h hp
  have hlt := World.block_lt_of_cell? _ _ (hc 0 hp).1
  refine ⟨b, off, rfl, fun i hi => ?_⟩
  have hcc : ∀ o, w'.cell? ⟨b, o, none⟩ = w.cell? ⟨b, o, none⟩ := fun o => hb.cell hlt
  obtain ⟨h0, h1, h2, h3⟩ := hc i hi
  exact ⟨(hcc _).trans h0, (hcc _).trans h1, (hcc _).trans h2, (hcc _).trans h3⟩

/-- From w to w' only blocks from lo on and ahead of hi, and new ones, have turned. -/
structure Turns (lo hi : Nat) (w w' : World) : Prop where
  os : w'.os = w.os
  tape : w'.tape = w.tape
  output : w'.output = w.output
  size : w.heap.size ≤ w'.heap.size
  block : ∀ k, k < w.heap.size → (k < lo ∨ hi ≤ k) → w'.heap[k]? = w.heap[k]?

theorem Turns.below {lo hi : Nat} {w w' : World} (h : Turns lo hi w w') {B : Nat} (hB : B ≤ lo) (hs : B ≤ w.heap.size) : Below B w w' :=
  ⟨h.os, h.tape, h.output, h.size, fun k hk => h.block k (by omega) (.inl (by omega))⟩

theorem Turns.of_below {lo hi : Nat} {w w' : World} (h : Below w.heap.size w w') : Turns lo hi w w' := ⟨h.os, h.tape, h.output, h.size, fun k hk _ => h.block k hk⟩

theorem Turns.trans {lo hi : Nat} {a b c : World} (h : Turns lo hi a b) (k : Turns lo hi b c) : Turns lo hi a c :=
  ⟨k.os.trans h.os, k.tape.trans h.tape, k.output.trans h.output, Nat.le_trans h.size k.size, fun i hi' ho => (k.block i (Nat.lt_of_lt_of_le hi' h.size) ho).trans (h.block i hi' ho)⟩

theorem Turns.setCell {lo hi : Nat} {a w : World} (h : Turns lo hi a w) {p : Addr} (h1 : lo ≤ p.block) (h2 : p.block < hi) (u : Value) : Turns lo hi a (w.setCell p u) :=
  ⟨h.os, h.tape, h.output, by simpa [World.setCell] using h.size, fun k hk ho => (Below.heap_setCell w p u k (by rintro rfl; omega)).trans (h.block k hk ho)⟩

theorem SlV.turns {w w' : World} {lo hi l h : Nat} {A : Option Addr} {ss : List Sl} (s : SlV w lo hi A ss) (t : Turns l h w w') (hd : hi ≤ l ∨ h ≤ lo) (hs : hi ≤ w.heap.size) : SlV w' lo hi A ss :=
  s.of_block fun g _ h2 => t.block g (by omega) (by omega)
end Go.Proofs.Ytjbfmagedkmngaa.Que
