/- Rows of integers that a call has made: compared, marked, held; worlds that turn a range of blocks alone; rows that grow by append. -/
import Derived.Test.YtcgmeindiaaokaaDoorChecked
import Derived.Test.YtcgmeindiaaokaaDoorInts1
import Derived.Laws.Rows
import Derived.Deep.MidRow
import Derived.Deep.AppendLies
import Derived.IntWalk
import Derived.RegionTactic
namespace Go.Proofs.YtcgmeindiaaokaaDoor.Rw
open Go.RowKit Go.Deep Base

/-- From w to w' only blocks from lo on and ahead of hi, and new ones, have turned. -/
structure Turns (lo hi : Nat) (w w' : World) : Prop where
  os : w'.os = w.os
  tape : w'.tape = w.tape
  output : w'.output = w.output
  size : w.heap.size ≤ w'.heap.size
  block : ∀ k, k < w.heap.size → (k < lo ∨ hi ≤ k) → w'.heap[k]? = w.heap[k]?

theorem Turns.below {lo hi : Nat} {w w' : World} (h : Turns lo hi w w') {B : Nat} (hB : B ≤ lo) (hs : B ≤ w.heap.size) : Below B w w' :=
  ⟨h.os, h.tape, h.output, h.size, fun k hk => h.block k (by omega) (.inl (by omega))⟩

theorem Turns.of_below {lo hi : Nat} {w w' : World} (h : Below w.heap.size w w') : Turns lo hi w w' := ⟨h.os, h.tape, h.output, h.size, fun k hk _ => h.block k hk⟩

theorem Turns.trans {lo hi : Nat} {a b c : World} (h : Turns lo hi a b) (k : Turns lo hi b c) : Turns lo hi a c :=
  ⟨k.os.trans h.os, k.tape.trans h.tape, k.output.trans h.output, Nat.le_trans h.size k.size, fun i hi' ho => (k.block i (Nat.lt_of_lt_of_le hi' h.size) ho).trans (h.block i hi' ho)⟩

theorem Turns.setCell {lo hi : Nat} {a w : World} (h : Turns lo hi a w) {p : Addr} (h1 : lo ≤ p.block) (h2 : p.block < hi) (u : Value) : Turns lo hi a (w.setCell p u) :=
  ⟨h.os, h.tape, h.output, by simpa [World.setCell] using h.size, fun k hk ho => (Below.heap_setCell w p u k (by rintro rfl; omega)).trans (h.block k hk ho)⟩

theorem bcell {W w1 : World} (hb : Below W.heap.size W w1) : (∀ b o, b < W.heap.size → w1.cell? ⟨b, o, none⟩ = W.cell? ⟨b, o, none⟩) ∧ (∀ b o, b < W.heap.size → w1.frozen? ⟨b, o, none⟩ = W.frozen? ⟨b, o, none⟩) :=
  ⟨fun b o h => hb.cell (p := ⟨b, o, none⟩) h, fun b o h => hb.frozen (p := ⟨b, o, none⟩) h⟩

theorem some_set {w : World} {b o p : Nat} {v : Value} (h : (w.cell? ⟨b, p, none⟩).isSome = true) : ((w.setCell ⟨b, o, none⟩ v).cell? ⟨b, p, none⟩).isSome = true := by
  by_cases e : p = o
  · subst e; rw [World.cell?_setCell_same' _ _ _ h]; rfl
  · rw [World.cell?_setCell_other _ _ _ _ (fun e' => by injection e' with _ e' _; exact e e'.symm)]; exact h
theorem cell_set {w : World} {b o p : Nat} {v : Value} (h : (w.cell? ⟨b, p, none⟩).isSome = true) : (w.setCell ⟨b, o, none⟩ v).cell? ⟨b, p, none⟩ = if p = o then some v else w.cell? ⟨b, p, none⟩ := by
  by_cases e : p = o
  · subst e; rw [if_pos rfl]; exact World.cell?_setCell_same' _ _ _ h
  · rw [if_neg e, World.cell?_setCell_other _ _ _ _ (fun e' => by injection e' with _ e' _; exact e e'.symm)]

theorem owns_form {w : World} {base : Nat} {e : TypeId} {size n : Nat} {v : Value} {xs : List Value} (h : w.ownsRow base e size v n xs) : ∃ A cap, v = .slice A n cap := by
  rcases h.2 with ⟨rfl, rfl⟩ | ⟨g, cap, _, rfl, _⟩
  · exact ⟨none, 0, rfl⟩
  · exact ⟨_, cap, rfl⟩

theorem new_one_at {w : World} {B : Nat} (h : w.heap.size = B) (a : Value) (t : TypeId) : ∀ j u, [a][j]? = some u → (w.alloc (.cells #[a] t)).cell? ((⟨B, 0, none⟩ : Addr).add j) = some u := by
  subst h
  intro j u hj
  have ea : (⟨w.heap.size, 0, none⟩ : Addr).add j = ⟨w.heap.size, j, none⟩ := by
    unfold Addr.add; split
    · next h => subst h; rfl
    · simp
  rw [ea, cell_of_row _ _ j #[a] t (0, 0) (heap_alloc_new w _)]
  simpa using hj

/-- Between two rounds: the row of the Ids so far. -/
structure ListSt (B : Nat) (W wr : World) (v : Value) (ids : List Int) : Prop where
  own : wr.ownsRow B 3 1 v ids.length (ids.map (Value.int .i64))
  old : Below B W wr
theorem ListSt.step {B : Nat} {W wr w1 : World} {v v' : Value} {ids : List Int} {x : Int} {o : Obj} (h : ListSt B W wr v ids) (hB : B = W.heap.size) (hown : w1.ownsRow B 3 1 v' (ids.length + 1) (ids.map (Value.int .i64) ++ [.int .i64 x])) (hg : (wr.alloc o).grownBy w1 v.ownBlock) : ListSt B W w1 v' (ids ++ [x]) := by
  have hsz : B ≤ wr.heap.size := by rw [hB]; exact h.old.size
  refine ⟨by simpa using hown, (h.old.alloc hsz o).grown hg (by simp; omega) (fun j e => by have := (h.own.lt j e).1; omega)⟩
theorem grown_below {w w' : World} (h : Below w.heap.size w w') (row : Option Nat) : w.grownBy w' row := ⟨h.os, h.tape, h.output, h.size, fun i hi _ => h.block i hi⟩

theorem ListSt.keep {B : Nat} {W wr w2 : World} {v : Value} {ids : List Int} (h : ListSt B W wr v ids) (hB : B ≤ wr.heap.size) (hb : Below wr.heap.size wr w2) : ListSt B W w2 v ids :=
  ⟨h.own.kept (grown_below hb none) (by cases v.ownBlock <;> simp), h.old.trans (hb.mono hB)⟩
theorem ListSt.one {W : World} (x : Int) : ListSt W.heap.size W (W.alloc (.cells #[.int .i64 x] 3)) (.slice (some ⟨W.heap.size, 0, none⟩) 1 1) [x] := by
  refine ⟨?_, bel_alloc _ _⟩
  have h := World.ownsRow_lit (base := W.heap.size) (e := 3) (size := 1) W #[.int .i64 x] 1 (Nat.le_refl _) (by decide) (by simp)
  simpa using h

def RI (w : World) (g : Nat) (zs : List Int) : Prop := ∀ i, i < zs.length → w.cell? ⟨g, i, none⟩ = some (.int .i64 (zs.getD i 0)) ∧ ∀ j, w.frozen? ⟨g, j, none⟩ = false
def IV (w : World) (lo hi : Nat) (A : Option Addr) (zs : List Int) : Prop := 0 < zs.length → ∃ g, A = some ⟨g, 0, none⟩ ∧ lo ≤ g ∧ g < hi ∧ RI w g zs
/-- A new row of integers comes back. -/
def NewI (w : World) (zs : List Int) (e : Ending) (w' : World) : Prop := ∃ A cap, e = .returned (.slice A zs.length cap) ∧ IV w' w.heap.size w'.heap.size A zs ∧ Below w.heap.size w w'

theorem RI.of_block {w w' : World} {g : Nat} {zs : List Int} (h : RI w g zs) (e : w'.heap[g]? = w.heap[g]?) : RI w' g zs := fun i hi =>
  ⟨(World.cell?_of_block e).trans (h i hi).1, fun j => (World.frozen?_of_block e).trans ((h i hi).2 j)⟩
theorem IV.of_block {w w' : World} {lo hi : Nat} {A : Option Addr} {zs : List Int} (h : IV w lo hi A zs) (e : ∀ g, lo ≤ g → g < hi → w'.heap[g]? = w.heap[g]?) : IV w' lo hi A zs := by
  intro hp
  obtain ⟨g, rfl, h1, h2, h3⟩ := h hp
  exact ⟨g, rfl, h1, h2, h3.of_block (e g h1 h2)⟩
theorem IV.wide {w : World} {lo hi lo' hi' : Nat} {A : Option Addr} {zs : List Int} (h : IV w lo hi A zs) (h1 : lo' ≤ lo) (h2 : hi ≤ hi') : IV w lo' hi' A zs := by
  intro hp
  obtain ⟨g, rfl, h1', h2', h3⟩ := h hp
  exact ⟨g, rfl, by omega, by omega, h3⟩
theorem IV.below {w w' : World} {lo hi B : Nat} {A : Option Addr} {zs : List Int} (h : IV w lo hi A zs) (hb : Below B w w') (hB : hi ≤ B) : IV w' lo hi A zs :=
  h.of_block fun g _ h2 => hb.block g (by omega)
theorem IV.turns {w w' : World} {lo hi l h : Nat} {A : Option Addr} {zs : List Int} (s : IV w lo hi A zs) (t : Turns l h w w') (hd : hi ≤ l ∨ h ≤ lo) (hs : hi ≤ w.heap.size) : IV w' lo hi A zs :=
  s.of_block fun g _ h2 => t.block g (by omega) (by omega)
theorem IV.ints {w : World} {lo hi : Nat} {A : Option Addr} {zs : List Int} (h : IV w lo hi A zs) : Ints w A zs := by
  intro hp
  obtain ⟨g, rfl, _, _, h3⟩ := h hp
  exact ⟨g, 0, rfl, fun i hi => by rw [Nat.zero_add]; exact (h3 i hi).1⟩
theorem IV.nil (w : World) (lo hi : Nat) (A : Option Addr) : IV w lo hi A [] := fun h => absurd h (by simp)
theorem iv_owns {w : World} {base n cap : Nat} {e : TypeId} {A : Option Addr} {zs : List Int} (h : w.ownsRow base e 1 (.slice A n cap) n (zs.map (Value.int .i64))) : IV w base w.heap.size A zs := by
  intro hp
  have hl := h.1
  simp at hl
  rcases h.2 with ⟨hv, hn⟩ | ⟨g, cap', cur, hv, hb, hg, hfr⟩
  · omega
  · injection hv with hA _ _
    subst hA
    have hc : w.ownsRow base e 1 (.slice (some ⟨g, 0, none⟩) n cap) n (zs.map (Value.int .i64)) := h
    refine ⟨g, rfl, hb, (h.lt g rfl).2, fun i hi => ⟨?_, fun j => ?_⟩⟩
    · rw [hc.cellAt i (by omega)]
      simp [hi]
    · simp [World.frozen?, hg]

/-- A copy of a row of integers, in a block of its own. -/
def CopyIV (w : World) (n : Nat) (zs : List Int) (e : Ending) (w' : World) : Prop :=
  e = .returned (.slice (some ⟨w.heap.size, 0, none⟩) n n) ∧ IV w' w.heap.size w'.heap.size (some ⟨w.heap.size, 0, none⟩) zs ∧ Below w.heap.size w w'

def mkI (k : Int) (n : Nat) : List Int := (List.range n).map fun (i : Nat) => k + (i : Int)
theorem mkI_len (k : Int) (n : Nat) : (mkI k n).length = n := by simp [mkI]
theorem mkI_at (k : Int) (n i : Nat) (h : i < n) : (mkI k n).getD i 0 = k + (i : Int) := by simp [mkI, h]

def MarkIt (w wr : World) (lo hi : Nat) (A : Option Addr) (n : Nat) (k : Int) (zs : List Int) (i : Nat) : Prop :=
  (0 < n → ∃ g, A = some ⟨g, 0, none⟩ ∧ lo ≤ g ∧ g < hi ∧ ∀ j, j < n → wr.cell? ⟨g, j, none⟩ = some (.int .i64 (if j < i then k + (j : Int) else zs.getD j 0)) ∧ ∀ o, wr.frozen? ⟨g, o, none⟩ = false) ∧ Turns lo hi w wr

theorem MarkIt.step {w wr : World} {lo hi g n i : Nat} {k : Int} {zs : List Int} (h : MarkIt w wr lo hi (some ⟨g, 0, none⟩) n k zs i) (hn : 0 < n) : MarkIt w (wr.setCell ⟨g, i, none⟩ (.int .i64 (k + (i : Int)))) lo hi (some ⟨g, 0, none⟩) n k zs (i + 1) := by
  obtain ⟨g', e, h1, h2, h3⟩ := h.1 hn
  cases e
  refine ⟨fun _ => ⟨g, rfl, h1, h2, fun j hj => ⟨?_, fun o => by rw [World.frozen?_setCell]; exact (h3 j hj).2 o⟩⟩, h.2.setCell h1 h2 _⟩
  rw [cell_set (by rw [(h3 j hj).1]; rfl)]
  by_cases e : j = i
  · subst e; simp
  · rw [if_neg e, (h3 j hj).1]
    by_cases l : j < i
    · rw [if_pos l, if_pos (by omega)]
    · rw [if_neg l, if_neg (by omega)]


end Go.Proofs.YtcgmeindiaaokaaDoor.Rw
