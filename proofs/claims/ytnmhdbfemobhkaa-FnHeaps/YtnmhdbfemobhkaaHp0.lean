/- Words for deadlines and heaps in memory: the items as a list, what a slice of items reads, worlds that turn a range of blocks alone. -/
import Derived.Test.YtnmhdbfemobhkaaChecked
import Derived.Test.YtnmhdbfemobhkaaBase
import Derived.Laws.Rows
import Derived.Deep.MidRow
import Derived.IntWalk
namespace Go.Proofs.Ytnmhdbfemobhkaa.Hp
open Go.RowKit Go.Deep Base

structure Du where
  «at» : Int
  seq : Int
  id : Int
def zDu : Du := ⟨0, 0, 0⟩

/-- The cell of field j of an item. -/
def Du.cell (s : Du) (j : Nat) : Value := if j = 0 then .int .i64 s.at else if j = 1 then .int .i64 s.seq else .int .i64 s.id

/-- The items ds lie in block b from its head on, and may be written. -/
def Rd (w : World) (b : Nat) (ds : List Du) : Prop :=
  ∀ i, i < ds.length → w.cell? ⟨b, i * 3, none⟩ = some (.int .i64 (ds.getD i zDu).at) ∧ w.cell? ⟨b, i * 3 + 1, none⟩ = some (.int .i64 (ds.getD i zDu).seq)
    ∧ w.cell? ⟨b, i * 3 + 2, none⟩ = some (.int .i64 (ds.getD i zDu).id) ∧ ∀ j, w.frozen? ⟨b, j, none⟩ = false

/-- A slice of items at A reads as ds; it lies in a block from lo on and ahead of hi. -/
def DV (w : World) (lo hi : Nat) (A : Option Addr) (ds : List Du) : Prop :=
  0 < ds.length → ∃ g, A = some ⟨g, 0, none⟩ ∧ lo ≤ g ∧ g < hi ∧ Rd w g ds

/-- A slice of the law's own items at A reads as ds. -/
def LD (w : World) (A : Option Addr) (ds : List Du) : Prop :=
  0 < ds.length → ∃ b off, A = some ⟨b, off, none⟩ ∧ ∀ i, i < ds.length → w.cell? ⟨b, off + i * 3, none⟩ = some (.int .i64 (ds.getD i zDu).at) ∧ w.cell? ⟨b, off + i * 3 + 1, none⟩ = some (.int .i64 (ds.getD i zDu).seq)
    ∧ w.cell? ⟨b, off + i * 3 + 2, none⟩ = some (.int .i64 (ds.getD i zDu).id)

theorem Rd.of_block {w w' : World} {b : Nat} {ds : List Du} (h : Rd w b ds) (e : w'.heap[b]? = w.heap[b]?) : Rd w' b ds := by
  intro i hi
  have hc : ∀ o, w'.cell? ⟨b, o, none⟩ = w.cell? ⟨b, o, none⟩ := fun o => World.cell?_of_block (w := w) e
  have hf : ∀ o, w'.frozen? ⟨b, o, none⟩ = w.frozen? ⟨b, o, none⟩ := fun o => World.frozen?_of_block (w := w) e
  obtain ⟨h0, h1, h2, h4⟩ := h i hi
  exact ⟨(hc _).trans h0, (hc _).trans h1, (hc _).trans h2, fun j => (hf j).trans (h4 j)⟩

theorem DV.of_block {w w' : World} {lo hi : Nat} {A : Option Addr} {ds : List Du} (h : DV w lo hi A ds) (e : ∀ g, lo ≤ g → g < hi → w'.heap[g]? = w.heap[g]?) : DV w' lo hi A ds := by
  intro hp
  obtain ⟨g, rfl, h1, h2, h3⟩ := h hp
  exact ⟨g, rfl, h1, h2, h3.of_block (e g h1 h2)⟩

theorem DV.wide {w : World} {lo hi lo' hi' : Nat} {A : Option Addr} {ds : List Du} (h : DV w lo hi A ds) (h1 : lo' ≤ lo) (h2 : hi ≤ hi') : DV w lo' hi' A ds := by
  intro hp
  obtain ⟨g, rfl, h1', h2', h3⟩ := h hp
  exact ⟨g, rfl, by omega, by omega, h3⟩

theorem DV.below {w w' : World} {lo hi B : Nat} {A : Option Addr} {ds : List Du} (h : DV w lo hi A ds) (hb : Below B w w') (hB : hi ≤ B) : DV w' lo hi A ds :=
  h.of_block fun g _ h2 => hb.block g (by omega)

theorem LD.below {w w' : World} {A : Option Addr} {ds : List Du} (h : LD w A ds) (hb : Below w.heap.size w w') : LD w' A ds := by
  intro hp
  obtain ⟨b, off, rfl, hc⟩ := h hp
  have hlt := World.block_lt_of_cell? _ _ (hc 0 hp).1
  refine ⟨b, off, rfl, fun i hi => ?_⟩
  have hcc : ∀ o, w'.cell? ⟨b, o, none⟩ = w.cell? ⟨b, o, none⟩ := fun o => hb.cell hlt
  obtain ⟨h0, h1, h2⟩ := hc i hi
  exact ⟨(hcc _).trans h0, (hcc _).trans h1, (hcc _).trans h2⟩

/-- From w to w' only blocks from lo on and ahead of hi, and new ones, have turned. -/
structure Turns (lo hi : Nat) (w w' : World) : Prop where
  os : w'.os = w.os
  tape : w'.tape = w.tape
  output : w'.output = w.output
  size : w.heap.size ≤ w'.heap.size
  block : ∀ k, k < w.heap.size → (k < lo ∨ hi ≤ k) → w'.heap[k]? = w.heap[k]?

theorem Turns.below {lo hi : Nat} {w w' : World} (h : Turns lo hi w w') {B : Nat} (hB : B ≤ lo) (hs : B ≤ w.heap.size) : Below B w w' :=
  ⟨h.os, h.tape, h.output, h.size, fun k hk => h.block k (by omega) (.inl (by omega))⟩

theorem Turns.of_below {lo hi : Nat} {w w' : World} (h : Below w.heap.size w w') : Turns lo hi w w' := ⟨h.os, h.tape, h.output, h.size, fun k hk _ => h.block k hk⟩

theorem Turns.trans {lo hi : Nat} {a b c : World} (h : Turns lo hi a b) (k : Turns lo hi b c) : Turns lo hi a c :=
  ⟨k.os.trans h.os, k.tape.trans h.tape, k.output.trans h.output, Nat.le_trans h.size k.size, fun i hi' ho => (k.block i (Nat.lt_of_lt_of_le hi' h.size) ho).trans (h.block i hi' ho)⟩

theorem Turns.setCell {lo hi : Nat} {a w : World} (h : Turns lo hi a w) {p : Addr} (h1 : lo ≤ p.block) (h2 : p.block < hi) (u : Value) : Turns lo hi a (w.setCell p u) :=
  ⟨h.os, h.tape, h.output, by simpa [World.setCell] using h.size, fun k hk ho => (Below.heap_setCell w p u k (by rintro rfl; omega)).trans (h.block k hk ho)⟩

theorem DV.turns {w w' : World} {lo hi l h : Nat} {A : Option Addr} {ds : List Du} (s : DV w lo hi A ds) (t : Turns l h w w') (hd : hi ≤ l ∨ h ≤ lo) (hs : hi ≤ w.heap.size) : DV w' lo hi A ds :=
  s.of_block fun g _ h2 => t.block g (by omega) (by omega)

theorem DV.setCell {w : World} {lo hi : Nat} {A : Option Addr} {ds : List Du} (h : DV w lo hi A ds) {p : Addr} (hp : p.block < lo) (u : Value) : DV (w.setCell p u) lo hi A ds :=
  h.of_block fun g h1 _ => Below.heap_setCell w p u g (by omega)

theorem bcell {W w1 : World} (hb : Below W.heap.size W w1) : (∀ b o, b < W.heap.size → w1.cell? ⟨b, o, none⟩ = W.cell? ⟨b, o, none⟩) ∧ (∀ b o, b < W.heap.size → w1.frozen? ⟨b, o, none⟩ = W.frozen? ⟨b, o, none⟩) :=
  ⟨fun b o h => hb.cell (p := ⟨b, o, none⟩) h, fun b o h => hb.frozen (p := ⟨b, o, none⟩) h⟩

theorem some_set {w : World} {b o p : Nat} {v : Value} (h : (w.cell? ⟨b, p, none⟩).isSome = true) : ((w.setCell ⟨b, o, none⟩ v).cell? ⟨b, p, none⟩).isSome = true := by
  by_cases e : p = o
  · subst e; rw [World.cell?_setCell_same' _ _ _ h]; rfl
  · rw [World.cell?_setCell_other _ _ _ _ (fun e' => by injection e' with _ e' _; exact e e'.symm)]; exact h
theorem cell_set {w : World} {b o p : Nat} {v : Value} (h : (w.cell? ⟨b, p, none⟩).isSome = true) : (w.setCell ⟨b, o, none⟩ v).cell? ⟨b, p, none⟩ = if p = o then some v else w.cell? ⟨b, p, none⟩ := by
  by_cases e : p = o
  · subst e; rw [if_pos rfl]; exact World.cell?_setCell_same' _ _ _ h
  · rw [if_neg e, World.cell?_setCell_other _ _ _ _ (fun e' => by injection e' with _ e' _; exact e e'.symm)]
end Go.Proofs.Ytnmhdbfemobhkaa.Hp
