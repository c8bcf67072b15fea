/- A waiting line in memory: its two rows, its boxes. -/
import Derived.Test.YtpjelojmkmednaaLx1
import Derived.Test.YtpjelojmkmednaaLqF
import Derived.Test.YtpjelojmkmednaaLqE
namespace Go.Proofs.Ytpjelojmkmednaa.Ln
open Go.RowKit Go.Deep Base

/-- Where a line's two rows lie: the queue's in blocks a to b, the heap's in blocks c to d. -/
structure Rg where
  a : Nat
  b : Nat
  c : Nat
  d : Nat
structure Rg.In (R : Rg) (lo hi : Nat) : Prop where
  a : lo ≤ R.a
  b : R.b ≤ hi
  c : lo ≤ R.c
  d : R.d ≤ hi
theorem Rg.In.wide {R : Rg} {lo hi lo' hi' : Nat} (h : R.In lo hi) (h1 : lo' ≤ lo) (h2 : hi ≤ hi') : R.In lo' hi' :=
  ⟨Nat.le_trans h1 h.a, Nat.le_trans h.b h2, Nat.le_trans h1 h.c, Nat.le_trans h.d h2⟩

structure LnV (w : World) (R : Rg) (A B : Option Addr) (x : Lx) : Prop where
  apart : R.b ≤ R.c ∨ R.d ≤ R.a
  s : Que.SlV w R.a R.b A x.s.ss
  h : Hp.DV w R.c R.d B x.ds

theorem LnV.below {w w' : World} {R : Rg} {A B : Option Addr} {x : Lx} {n hi : Nat} (h : LnV w R A B x) (hb : Below n w w') (hR : R.In hi n) : LnV w' R A B x :=
  ⟨h.apart, h.s.below hb hR.b, h.h.below hb hR.d⟩

/-- Only blocks of R have changed. -/
structure Tz (R : Rg) (w w' : World) : Prop where
  os : w'.os = w.os
  tape : w'.tape = w.tape
  output : w'.output = w.output
  size : w.heap.size ≤ w'.heap.size
  block : ∀ k, k < w.heap.size → (k < R.a ∨ R.b ≤ k) → (k < R.c ∨ R.d ≤ k) → w'.heap[k]? = w.heap[k]?
theorem Tz.below {R : Rg} {w w' : World} (h : Tz R w w') {B hi : Nat} (hB : R.In B hi) (hs : B ≤ w.heap.size) : Below B w w' :=
  ⟨h.os, h.tape, h.output, h.size, fun k hk => h.block k (by omega) (.inl (Nat.lt_of_lt_of_le hk hB.a)) (.inl (Nat.lt_of_lt_of_le hk hB.c))⟩
/-- A line that lies apart from the blocks of R stays. -/
theorem LnV.turn {w w' : World} {R Q : Rg} {A B : Option Addr} {x : Lx} {lo hi m : Nat} (h : LnV w Q A B x) (t : Tz R w w') (hQ : Q.In lo hi) (hR : R.In m w.heap.size) (hs : hi ≤ w.heap.size) (ha : hi ≤ m) : LnV w' Q A B x := by
  obtain ⟨q1, q2, q3, q4⟩ := hQ
  obtain ⟨r1, r2, r3, r4⟩ := hR
  exact ⟨h.apart, h.s.of_block fun g h1 h2 => t.block g (by omega) (by omega) (by omega), h.h.of_block fun g h1 h2 => t.block g (by omega) (by omega) (by omega)⟩
theorem LnV.turn' {w w' : World} {R Q : Rg} {A B : Option Addr} {x : Lx} {lo hi m n : Nat} (h : LnV w Q A B x) (t : Tz R w w') (hQ : Q.In lo hi) (hR : R.In m n) (hs : hi ≤ w.heap.size) (ha : n ≤ lo) : LnV w' Q A B x := by
  obtain ⟨q1, q2, q3, q4⟩ := hQ
  obtain ⟨r1, r2, r3, r4⟩ := hR
  exact ⟨h.apart, h.s.of_block fun g h1 h2 => t.block g (by omega) (by omega) (by omega), h.h.of_block fun g h1 h2 => t.block g (by omega) (by omega) (by omega)⟩

/-- A new line comes back, alone or with a second result. -/
def NewL (w : World) (x : Lx) (e : Ending) (w' : World) : Prop :=
  ∃ R A ca B cb, e = .returned (.agg #[.slice A x.s.ss.length ca, .int .i64 x.s.f, .int .i64 x.s.l, .int .i64 x.s.r, .int .i64 x.s.c, .slice B x.ds.length cb, .int .i64 x.q]) ∧ LnV w' R A B x ∧ R.In w.heap.size w'.heap.size ∧ Below w.heap.size w w'
def NewL2 (w : World) (x : Lx) (v : Value) (e : Ending) (w' : World) : Prop :=
  ∃ R A ca B cb, e = .returned (.tuple #[.agg #[.slice A x.s.ss.length ca, .int .i64 x.s.f, .int .i64 x.s.l, .int .i64 x.s.r, .int .i64 x.s.c, .slice B x.ds.length cb, .int .i64 x.q], v]) ∧ LnV w' R A B x ∧ R.In w.heap.size w'.heap.size ∧ Below w.heap.size w w'

/-- A block that is known whole. -/
def Bx (w : World) (g : Nat) (ty : TypeId) (vs : Array Value) : Prop := w.heap[g]? = some (.cells vs ty (0, 0))
theorem Bx.lt {w : World} {g : Nat} {ty : TypeId} {vs : Array Value} (h : Bx w g ty vs) : g < w.heap.size := (Array.getElem?_eq_some_iff.1 h).1
theorem Bx.of_block {w w' : World} {g : Nat} {ty : TypeId} {vs : Array Value} (h : Bx w g ty vs) (e : w'.heap[g]? = w.heap[g]?) : Bx w' g ty vs := e.trans h
theorem Bx.below {w w' : World} {g : Nat} {ty : TypeId} {vs : Array Value} (h : Bx w g ty vs) (hb : Below w.heap.size w w') : Bx w' g ty vs := h.of_block (hb.block g h.lt)
theorem Bx.alloc {w : World} {g : Nat} {ty : TypeId} {vs : Array Value} (h : Bx w g ty vs) (o : Obj) : Bx (w.alloc o) g ty vs := h.below (bel_alloc w o)
theorem Bx.new (w : World) (ty : TypeId) (vs : Array Value) : Bx (w.alloc (.cells vs ty)) w.heap.size ty vs := heap_alloc_new w _
theorem Bx.other {w : World} {g : Nat} {ty : TypeId} {vs : Array Value} (h : Bx w g ty vs) {p : Addr} (hp : g ≠ p.block) (u : Value) : Bx (w.setCell p u) g ty vs := (Below.heap_setCell w p u g hp).trans h
theorem Bx.cell {w : World} {g : Nat} {ty : TypeId} {vs : Array Value} (h : Bx w g ty vs) (o : Nat) : w.cell? ⟨g, o, none⟩ = vs[o]? := cell_of_row _ _ o _ _ (0, 0) h
theorem Bx.still {w : World} {g : Nat} {ty : TypeId} {vs : Array Value} (h : Bx w g ty vs) (j : Nat) : w.frozen? ⟨g, j, none⟩ = false := by unfold Bx at h; simp [World.frozen?, h]
theorem Bx.set {w : World} {g : Nat} {ty : TypeId} {vs : Array Value} (h : Bx w g ty vs) (o : Nat) (u : Value) : Bx (w.setCell ⟨g, o, none⟩ u) g ty (vs.setIfInBounds o u) := by
  unfold Bx at h ⊢
  simp [World.setCell, Array.getElem?_modify, h]
theorem Bx.cells7 {w : World} {g : Nat} {ty : TypeId} {v0 v1 v2 v3 v4 v5 v6 : Value} (h : Bx w g ty #[v0, v1, v2, v3, v4, v5, v6]) :
    w.cell? ⟨g, 0, none⟩ = some v0 ∧ w.cell? ⟨g, 1, none⟩ = some v1 ∧ w.cell? ⟨g, 2, none⟩ = some v2 ∧ w.cell? ⟨g, 3, none⟩ = some v3 ∧ w.cell? ⟨g, 4, none⟩ = some v4 ∧ w.cell? ⟨g, 5, none⟩ = some v5 ∧ w.cell? ⟨g, 6, none⟩ = some v6 ∧ ∀ j, w.frozen? ⟨g, j, none⟩ = false :=
  ⟨h.cell 0, h.cell 1, h.cell 2, h.cell 3, h.cell 4, h.cell 5, h.cell 6, h.still⟩
theorem Bx.cells5 {w : World} {g : Nat} {ty : TypeId} {v0 v1 v2 v3 v4 : Value} (h : Bx w g ty #[v0, v1, v2, v3, v4]) :
    w.cell? ⟨g, 0, none⟩ = some v0 ∧ w.cell? ⟨g, 1, none⟩ = some v1 ∧ w.cell? ⟨g, 2, none⟩ = some v2 ∧ w.cell? ⟨g, 3, none⟩ = some v3 ∧ w.cell? ⟨g, 4, none⟩ = some v4 ∧ ∀ j, w.frozen? ⟨g, j, none⟩ = false :=
  ⟨h.cell 0, h.cell 1, h.cell 2, h.cell 3, h.cell 4, h.still⟩
theorem Bx.cells2 {w : World} {g : Nat} {ty : TypeId} {v0 v1 : Value} (h : Bx w g ty #[v0, v1]) :
    w.cell? ⟨g, 0, none⟩ = some v0 ∧ w.cell? ⟨g, 1, none⟩ = some v1 ∧ ∀ j, w.frozen? ⟨g, j, none⟩ = false :=
  ⟨h.cell 0, h.cell 1, h.still⟩

/-- The world behind stores into block g, from cell o on. -/
def sets (g : Nat) : Nat → List Value → World → World
  | _, [], w => w
  | o, v :: r, w => sets g (o + 1) r (w.setCell ⟨g, o, none⟩ v)
theorem sets_size (g : Nat) : ∀ (r : List Value) (o : Nat) (w : World), (sets g o r w).heap.size = w.heap.size
  | [], _, _ => rfl
  | v :: r, o, w => (sets_size g r (o + 1) _).trans (by simp [World.setCell])
theorem sets_below (g B : Nat) (hB : B ≤ g) {a : World} : ∀ (r : List Value) (o : Nat) (w : World), Below B a w → Below B a (sets g o r w)
  | [], _, _, h => h
  | v :: r, o, w, h => sets_below g B hB r (o + 1) _ (h.setCell (by exact hB) _)
theorem sets_other (g : Nat) {k : Nat} (hk : k ≠ g) : ∀ (r : List Value) (o : Nat) (w : World), (sets g o r w).heap[k]? = w.heap[k]?
  | [], _, _ => rfl
  | v :: r, o, w => (sets_other g hk r (o + 1) _).trans (Below.heap_setCell w _ v k (by exact hk))
theorem Bx.sto {w : World} {k g o : Nat} {ty : TypeId} {vs : Array Value} {r : List Value} (h : Bx w k ty vs) (hk : k ≠ g) : Bx (sets g o r w) k ty vs := (sets_other g hk r o w).trans h
theorem slv_sets {w : World} {lo hi g o : Nat} {A : Option Addr} {ss : List Que.Sl} {r : List Value} (h : Que.SlV w lo hi A ss) (hg : g < lo ∨ hi ≤ g) : Que.SlV (sets g o r w) lo hi A ss := h.of_block fun k h1 h2 => sets_other g (by omega) r o w
theorem dv_sets {w : World} {lo hi g o : Nat} {A : Option Addr} {ds : List Hp.Du} {r : List Value} (h : Hp.DV w lo hi A ds) (hg : g < lo ∨ hi ≤ g) : Hp.DV (sets g o r w) lo hi A ds := h.of_block fun k h1 h2 => sets_other g (by omega) r o w
theorem LnV.sto {w : World} {g o : Nat} {A B : Option Addr} {x : Lx} {R : Rg} {r : List Value} (h : LnV w R A B x) {lo hi : Nat} (hR : R.In lo hi) (hg : g < lo ∨ hi ≤ g) : LnV (sets g o r w) R A B x := by
  obtain ⟨r1, r2, r3, r4⟩ := hR
  exact ⟨h.apart, slv_sets h.s (by omega), dv_sets h.h (by omega)⟩
theorem Bx.at_new (w : World) (n : Nat) (hn : w.heap.size = n) (ty : TypeId) (vs : Array Value) : Bx (w.alloc (.cells vs ty)) n ty vs := by
  subst hn
  exact Bx.new w ty vs
/-- Stores into a block ahead of a new line leave it a new line. -/
theorem new_sto {w v : World} {g o : Nat} {A B : Option Addr} {x : Lx} {R : Rg} {r : List Value} {n : Nat} (h : LnV v R A B x) (hR : R.In (g + 1) n) (hn : n ≤ v.heap.size) (hb : Below w.heap.size w v) (hg : w.heap.size ≤ g) :
    LnV (sets g o r v) R A B x ∧ R.In w.heap.size (sets g o r v).heap.size ∧ Below w.heap.size w (sets g o r v) :=
  ⟨h.sto hR (.inl (by omega)), hR.wide (by omega) (by rw [sets_size]; exact hn), sets_below g _ hg r o v hb⟩
/-- A block of seven cells behind the stores of five, of two, of all. -/
theorem Bx.put5 {w : World} {g : Nat} {ty : TypeId} {v0 v1 v2 v3 v4 v5 v6 : Value} (h : Bx w g ty #[v0, v1, v2, v3, v4, v5, v6]) (u0 u1 u2 u3 u4 : Value) : Bx (sets g 0 [u0, u1, u2, u3, u4] w) g ty #[u0, u1, u2, u3, u4, v5, v6] :=
  ((((h.set 0 u0).set 1 u1).set 2 u2).set 3 u3).set 4 u4
theorem Bx.put2 {w : World} {g : Nat} {ty : TypeId} {v0 v1 v2 v3 v4 v5 v6 : Value} (h : Bx w g ty #[v0, v1, v2, v3, v4, v5, v6]) (u0 u1 : Value) : Bx (sets g 5 [u0, u1] w) g ty #[v0, v1, v2, v3, v4, u0, u1] :=
  (h.set 5 u0).set 6 u1
theorem Bx.put7 {w : World} {g : Nat} {ty : TypeId} {v0 v1 v2 v3 v4 v5 v6 : Value} (h : Bx w g ty #[v0, v1, v2, v3, v4, v5, v6]) (u0 u1 u2 u3 u4 u5 u6 : Value) : Bx (sets g 0 [u0, u1, u2, u3, u4, u5, u6] w) g ty #[u0, u1, u2, u3, u4, u5, u6] :=
  (h.put5 u0 u1 u2 u3 u4).put2 u5 u6
end Go.Proofs.Ytpjelojmkmednaa.Ln
