/- Words for deadlines and heaps in memory: the items as a list, what a slice of items reads, worlds that turn a range of blocks alone. What is known of a heap of the law's own type that came in: its slice reads as a list of items. Contracts of the laws' helpers on items and heaps: size, a copy, the comparison of two that read alike. Which item comes before another; what a valid heap is. What the reference's HeapOk answers. The copy of any slice of items. What the tree's ordered answers. Maps from numbers to true that a call makes; what duesOk answers. What duesOk answers. What treeOf and the program's HeapOk answer. What the program's HeapOk answers; the law of HeapOk walked. -/
import Derived.Test.YtehdbdolhkflcaaChecked
import Derived.Test.YtehdbdolhkflcaaBase
import Derived.Laws.Rows
import Derived.Deep.MidRow
import Derived.IntWalk
import Derived.Deep.Slices
import Derived.Deep.Fields
import Derived.ChangeSame
import Derived.OpenShut
import Derived.Deep.QuietTactic
import Derived.BigQuiet
import Derived.RegionTactic
import Derived.StillTailTactics
import Derived.Test.YtehdbdolhkflcaaNq0
import Derived.Outline
import Derived.Maps.AppendAt
import Derived.Lib.SliceRun
import Derived.Deep.DeepCutAuto
import Derived.RangeFuncNested
import Derived.RangeFuncLeaves
import Derived.Deep.RegionHeld3
import Derived.Laws.EntriesVeiled
namespace Go.Proofs.Ytehdbdolhkflcaa.Hp
open Go.RowKit Go.Deep Base

structure Du where
  «at» : Int
  seq : Int
  id : Int
def zDu : Du := ⟨0, 0, 0⟩

/-- The cell of field j of an item. -/
def Du.cell (s : Du) (j : Nat) : Value := if j = 0 then .int .i64 s.at else if j = 1 then .int .i64 s.seq else .int .i64 s.id

/-- The items ds lie in block b from its head on, and may be written. -/
def Rd (w : World) (b : Nat) (ds : List Du) : Prop :=
  ∀ i, i < ds.length → w.cell? ⟨b, i * 3, none⟩ = some (.int .i64 (ds.getD i zDu).at) ∧ w.cell? ⟨b, i * 3 + 1, none⟩ = some (.int .i64 (ds.getD i zDu).seq)
    ∧ w.cell? ⟨b, i * 3 + 2, none⟩ = some (.int .i64 (ds.getD i zDu).id) ∧ ∀ j, w.frozen? ⟨b, j, none⟩ = false

/-- A slice of items at A reads as ds; it lies in a block from lo on and ahead of hi. -/
def DV (w : World) (lo hi : Nat) (A : Option Addr) (ds : List Du) : Prop :=
  0 < ds.length → ∃ g, A = some ⟨g, 0, none⟩ ∧ lo ≤ g ∧ g < hi ∧ Rd w g ds

/-- A slice of the law's own items at A reads as ds. -/
def LD (w : World) (A : Option Addr) (ds : List Du) : Prop :=
  0 < ds.length → ∃ b off, A = some ⟨b, off, none⟩ ∧ ∀ i, i < ds.length → w.cell? ⟨b, off + i * 3, none⟩ = some (.int .i64 (ds.getD i zDu).at) ∧ w.cell? ⟨b, off + i * 3 + 1, none⟩ = some (.int .i64 (ds.getD i zDu).seq)
    ∧ w.cell? ⟨b, off + i * 3 + 2, none⟩ = some (.int .i64 (ds.getD i zDu).id)

theorem Rd.of_block {w w' : World} {b : Nat} {ds : List Du} (h : Rd w b ds) (e : w'.heap[b]? = w.heap[b]?) : Rd w' b ds := by
  intro i hi
  have hc : ∀ o, w'.cell? ⟨b, o, none⟩ = w.cell? ⟨b, o, none⟩ := fun o => World.cell?_of_block (w := w) e
  have hf : ∀ o, w'.frozen? ⟨b, o, none⟩ = w.frozen? ⟨b, o, none⟩ := fun o => World.frozen?_of_block (w := w) e
  obtain ⟨h0, h1, h2, h4⟩ := h i hi
  exact ⟨(hc _).trans h0, (hc _).trans h1, (hc _).trans h2, fun j => (hf j).trans (h4 j)⟩

theorem DV.of_block {w w' : World} {lo hi : Nat} {A : Option Addr} {ds : List Du} (h : DV w lo hi A ds) (e : ∀ g, lo ≤ g → g < hi → w'.heap[g]? = w.heap[g]?) : DV w' lo hi A ds := by
  intro hp
  obtain ⟨g, rfl, h1, h2, h3⟩ := h hp
  exact ⟨g, rfl, h1, h2, h3.of_block (e g h1 h2)⟩

theorem DV.wide {w : World} {lo hi lo' hi' : Nat} {A : Option Addr} {ds : List Du} (h : DV w lo hi A ds) (h1 : lo' ≤ lo) (h2 : hi ≤ hi') : DV w lo' hi' A ds := by
  intro hp
  obtain ⟨g, rfl, h1', h2', h3⟩ := h hp
  exact ⟨g, rfl, by omega, by omega, h3⟩

theorem DV.below {w w' : World} {lo hi B : Nat} {A : Option Addr} {ds : List Du} (h : DV w lo hi A ds) (hb : Below B w w') (hB : hi ≤ B) : DV w' lo hi A ds :=
  h.of_block fun g _ h2 => hb.block g (by omega)

theorem LD.below {w w' : World} {A : Option Addr} {ds : List Du} (h : LD w A ds) (hb : Below w.heap.size w w') : LD w' A ds := by
  intro hp
  obtain ⟨b, off, rfl, hc⟩ := h hp
  have hlt := World.block_lt_of_cell? _ _ (hc 0 hp).1
  refine ⟨b, off, rfl, fun i hi => ?_⟩
  have hcc : ∀ o, w'.cell? ⟨b, o, none⟩ = w.cell? ⟨b, o, none⟩ := fun o => hb.cell hlt
  obtain ⟨h0, h1, h2⟩ := hc i hi
  exact ⟨(hcc _).trans h0, (hcc _).trans h1, (hcc _).trans h2⟩

/-- From w to w' only blocks from lo on and ahead of hi, and new ones, have turned. -/
structure Turns (lo hi : Nat) (w w' : World) : Prop where
  os : w'.os = w.os
  tape : w'.tape = w.tape
  output : w'.output = w.output
  size : w.heap.size ≤ w'.heap.size
  block : ∀ k, k < w.heap.size → (k < lo ∨ hi ≤ k) → w'.heap[k]? = w.heap[k]?

theorem Turns.below {lo hi : Nat} {w w' : World} (h : Turns lo hi w w') {B : Nat} (hB : B ≤ lo) (hs : B ≤ w.heap.size) : Below B w w' :=
  ⟨h.os, h.tape, h.output, h.size, fun k hk => h.block k (by omega) (.inl (by omega))⟩

theorem Turns.of_below {lo hi : Nat} {w w' : World} (h : Below w.heap.size w w') : Turns lo hi w w' := ⟨h.os, h.tape, h.output, h.size, fun k hk _ => h.block k hk⟩

theorem Turns.trans {lo hi : Nat} {a b c : World} (h : Turns lo hi a b) (k : Turns lo hi b c) : Turns lo hi a c :=
  ⟨k.os.trans h.os, k.tape.trans h.tape, k.output.trans h.output, Nat.le_trans h.size k.size, fun i hi' ho => (k.block i (Nat.lt_of_lt_of_le hi' h.size) ho).trans (h.block i hi' ho)⟩

theorem Turns.setCell {lo hi : Nat} {a w : World} (h : Turns lo hi a w) {p : Addr} (h1 : lo ≤ p.block) (h2 : p.block < hi) (u : Value) : Turns lo hi a (w.setCell p u) :=
  ⟨h.os, h.tape, h.output, by simpa [World.setCell] using h.size, fun k hk ho => (Below.heap_setCell w p u k (by rintro rfl; omega)).trans (h.block k hk ho)⟩

theorem DV.turns {w w' : World} {lo hi l h : Nat} {A : Option Addr} {ds : List Du} (s : DV w lo hi A ds) (t : Turns l h w w') (hd : hi ≤ l ∨ h ≤ lo) (hs : hi ≤ w.heap.size) : DV w' lo hi A ds :=
  s.of_block fun g _ h2 => t.block g (by omega) (by omega)

theorem DV.setCell {w : World} {lo hi : Nat} {A : Option Addr} {ds : List Du} (h : DV w lo hi A ds) {p : Addr} (hp : p.block < lo) (u : Value) : DV (w.setCell p u) lo hi A ds :=
  h.of_block fun g h1 _ => Below.heap_setCell w p u g (by omega)

theorem bcell {W w1 : World} (hb : Below W.heap.size W w1) : (∀ b o, b < W.heap.size → w1.cell? ⟨b, o, none⟩ = W.cell? ⟨b, o, none⟩) ∧ (∀ b o, b < W.heap.size → w1.frozen? ⟨b, o, none⟩ = W.frozen? ⟨b, o, none⟩) :=
  ⟨fun b o h => hb.cell (p := ⟨b, o, none⟩) h, fun b o h => hb.frozen (p := ⟨b, o, none⟩) h⟩

theorem some_set {w : World} {b o p : Nat} {v : Value} (h : (w.cell? ⟨b, p, none⟩).isSome = true) : ((w.setCell ⟨b, o, none⟩ v).cell? ⟨b, p, none⟩).isSome = true := by
  by_cases e : p = o
  · subst e; rw [World.cell?_setCell_same' _ _ _ h]; rfl
  · rw [World.cell?_setCell_other _ _ _ _ (fun e' => by injection e' with _ e' _; exact e e'.symm)]; exact h
theorem cell_set {w : World} {b o p : Nat} {v : Value} (h : (w.cell? ⟨b, p, none⟩).isSome = true) : (w.setCell ⟨b, o, none⟩ v).cell? ⟨b, p, none⟩ = if p = o then some v else w.cell? ⟨b, p, none⟩ := by
  by_cases e : p = o
  · subst e; rw [if_pos rfl]; exact World.cell?_setCell_same' _ _ _ h
  · rw [if_neg e, World.cell?_setCell_other _ _ _ _ (fun e' => by injection e' with _ e' _; exact e e'.symm)]
end Go.Proofs.Ytehdbdolhkflcaa.Hp

namespace Go.Proofs.Ytehdbdolhkflcaa.Hp
open Go.RowKit Go.Deep Go.ChangeShapes Go.WideShapes Base

instance : Inhabited Du := ⟨zDu⟩

section
variable {H : Type} {enc : TypeId × Value → H} {W : World} {base : Nat} {spare : Nat → Bool} {held : Bool}

set_option maxRecDepth 100000 in
theorem open_due {fuel : Nat} {cs : List Value} {x : DataW H × List MemPlace} (h : DataW.trod enc Try.prog W base spare held fuel 156 cs = some x) :
    ∃ s : Du, cs = [.int .i64 s.at, .int .i64 s.seq, .int .i64 s.id] := by
  have hC : Try.prog.cellsOf 156 = 3 := by kernel_rfl
  have hI : Try.prog.cellsOf 3 = 1 := by kernel_rfl
  obtain ⟨ys, k, _, _, hcl, hyl, hf⟩ := DataW.trod_struct Try.underlying156 h
  rw [hC] at hcl
  match cs, hcl, ys, hyl with
  | [q0, q1, q2], _, [y0, y1, y2], _ =>
    have g0 : DataW.trod enc Try.prog W base spare held k 3 [q0] = some y0 := by have := hf 0 _ rfl; simpa [hI] using this
    have g1 : DataW.trod enc Try.prog W base spare held k 3 [q1] = some y1 := by have := hf 1 _ rfl; simpa [hI] using this
    have g2 : DataW.trod enc Try.prog W base spare held k 3 [q2] = some y2 := by have := hf 2 _ rfl; simpa [hI] using this
    obtain ⟨n0, e0, _⟩ := DataW.trod_int Try.underlying3 g0
    obtain ⟨n1, e1, _⟩ := DataW.trod_int Try.underlying3 g1
    obtain ⟨n2, e2, _⟩ := DataW.trod_int Try.underlying3 g2
    simp at e0 e1 e2
    subst e0 e1 e2
    exact ⟨⟨n0, n1, n2⟩, rfl⟩

set_option maxRecDepth 100000 in
theorem open_dues {fuel : Nat} {cs : List Value} {x : DataW H × List MemPlace} (h : DataW.trod enc Try.prog W base spare held fuel 49 cs = some x) :
    ∃ (A : Option Addr) (n cap : Nat) (ds : List Du), cs = [.slice A n cap] ∧ ds.length = n ∧ n ≤ maxLen ∧ LD W A ds := by
  rcases open_slice Try.underlying49 h with ⟨rfl, _⟩ | ⟨a, len, cap, m, k, D, Pl, rfl, _, hl, hm, hmm, _, hi⟩
  · exact ⟨none, 0, 0, [], rfl, rfl, by simp, fun hp => absurd hp (by simp)⟩
  · have hlm : len ≤ m := by rw [hmm]; split <;> omega
    have hC : Try.prog.cellsOf 156 = 3 := by kernel_rfl
    obtain ⟨V, hV⟩ := choose_lt (α := Du) (n := len) (p := fun i s => W.cell? ((a.add (i * 3)).add 0) = some (.int .i64 s.at) ∧ W.cell? ((a.add (i * 3)).add 1) = some (.int .i64 s.seq) ∧ W.cell? ((a.add (i * 3)).add 2) = some (.int .i64 s.id)) (fun i hil => by
      obtain ⟨cs', hc, ht⟩ := hi i (by omega)
      rw [hC] at hc
      obtain ⟨_, hcl, hat⟩ := World.cells?_some hc
      obtain ⟨s, rfl⟩ := open_due ht
      exact ⟨s, hat 0 (by omega), hat 1 (by omega), hat 2 (by omega)⟩)
    refine ⟨some a, len, cap, (List.range len).map V, rfl, by simp, by omega, fun hp => ?_⟩
    simp at hp
    obtain ⟨b, off, spot⟩ := a
    have h0 := (hV 0 hp).1
    have hs : spot = none := by simpa [Addr.add] using World.cell?_spot h0
    subst hs
    refine ⟨b, off, rfl, fun i hi => ?_⟩
    simp at hi
    obtain ⟨g0, g1, g2⟩ := hV i hi
    have ea : ∀ j, ((⟨b, off, none⟩ : Addr).add (i * 3)).add j = ⟨b, off + i * 3 + j, none⟩ := fun j => by
      rw [Addr.add_mid, Addr.add_mid]
    rw [ea] at g0 g1 g2
    have hg : ((List.range len).map V).getD i zDu = V i := by simp [hi]
    rw [hg]
    exact ⟨g0, g1, g2⟩

set_option maxRecDepth 100000 in
theorem open_heap {rr : Reach} {b0 : Nat} {v : Value} {d : DataW H} {p : List MemPlace} (hv : Value.okWide Try.prog W rr b0 51 v) (h : DataW.Trod enc Try.prog W base spare held 51 v d p) :
    ∃ (A : Option Addr) (n cap : Nat) (q : Int) (ds : List Du), v = .agg #[.slice A n cap, .int .i64 q] ∧ ds.length = n ∧ n ≤ maxLen ∧ LD W A ds := by
  have hC : Try.prog.cellsOf 51 = 2 := by kernel_rfl
  have hI : Try.prog.cellsOf 3 = 1 := by kernel_rfl
  have hS : Try.prog.cellsOf 49 = 1 := by kernel_rfl
  obtain ⟨cs, rfl, hsz⟩ := okWide_struct Try.underlying51 hv
  obtain ⟨cl⟩ := cs
  obtain ⟨fuel, hf⟩ := h
  obtain ⟨ys, k, _, _, _, hyl, hg⟩ := DataW.trod_struct Try.underlying51 hf
  match cl, hsz.trans hC, ys, hyl with
  | [q0, q1], _, [y0, y1], _ =>
    have g0 : DataW.trod enc Try.prog W base spare held k 49 [q0] = some y0 := by have := hg 0 _ rfl; simpa [hS, Value.cells] using this
    have g1 : DataW.trod enc Try.prog W base spare held k 3 [q1] = some y1 := by have := hg 1 _ rfl; simpa [hI, Value.cells] using this
    obtain ⟨A, n, cap, ds, e0, hn, hm, hl⟩ := open_dues g0
    obtain ⟨n1, e1, _⟩ := DataW.trod_int Try.underlying3 g1
    simp at e0 e1
    subst e0 e1
    exact ⟨A, n, cap, n1, ds, rfl, hn, hm, hl⟩
end
end Go.Proofs.Ytehdbdolhkflcaa.Hp

namespace Go.Proofs.Ytehdbdolhkflcaa.Hp
open Go.RowKit Go.Deep Base

set_option maxRecDepth 100000 in
theorem toDue_any (a b c : Int) (w : World) :
    Calls Try.prog 125 #[.agg #[.int .i64 a, .int .i64 b, .int .i64 c]] w fun e w' => e = .returned (.agg #[.int .i64 a, .int .i64 b, .int .i64 c]) ∧ Below w.heap.size w w' := by
  go_enter Try.func125, Try.ntmps125
  go_wp2
  exact bodyPost_ret (v := .agg #[.int .i64 a, .int .i64 b, .int .i64 c]) (by simp [results, Try.results125, go_sem]) rfl ⟨rfl, (((Below.refl _ _).alloc (Nat.le_refl _) _).alloc (by simp) _).alloc (by simp; omega) _⟩

set_option maxRecDepth 100000 in
theorem eqDue_same (a b c : Int) (w : World) :
    Calls Try.prog 123 #[.agg #[.int .i64 a, .int .i64 b, .int .i64 c], .agg #[.int .i64 a, .int .i64 b, .int .i64 c]] w fun e w' => e = .returned (.bool true) ∧ Below w.heap.size w w' := by
  go_enter Try.func123, Try.ntmps123
  go_wp2
  go_ret
  exact ⟨rfl, ((Below.refl _ _).alloc (Nat.le_refl _) _).alloc (by simp) _⟩

theorem infoDue : (Try.prog.info? 108).map (fun i => (i.zero, i.size, i.bytes)) = some (some (.agg #[.int .i64 0, .int .i64 0, .int .i64 0]), 3, 24) := by kernel_rfl

theorem make_dues (n : Nat) (hn : n ≤ 1048576) (w : World) :
    (Instr.makeSlice 29 (.int .i64 (n : Int)) (.int .i64 (n : Int))).run Try.prog w = .ok (.slice (some ⟨w.heap.size, 0, none⟩) n n) (w.alloc (.cells (madeCells #[.int .i64 0, .int .i64 0, .int .i64 0] (n * 3)) 108)) := by
  obtain ⟨i, hi, hz, hs, hb⟩ := info_parts infoDue
  have h := run_make (P := Try.prog) w 29 108 i _ Try.underlying29 hi hz .i64 .i64 n n (by omega) (by omega) (by rw [hb]; omega) (by omega)
  simp only [Int.toNat_natCast, hs] at h
  exact h

def toF (ds : List Du) (k j : Nat) : Value := if j / 3 < k then (ds.getD (j / 3) zDu).cell (j % 3) else zDu.cell (j % 3)

def ToDs (w wr : World) (n : Nat) (ds : List Du) (k : Nat) : Prop :=
  wr.rowIs w.heap.size 108 (n * 3) (toF ds k) ∧ Below w.heap.size w wr

theorem ToDs.start (w : World) (n : Nat) (ds : List Du) : ToDs w (w.alloc (.cells (madeCells #[.int .i64 0, .int .i64 0, .int .i64 0] (n * 3)) 108)) n ds 0 := by
  refine ⟨?_, bel_alloc _ _⟩
  have h := World.rowIs_alloc w (madeCells #[.int .i64 0, .int .i64 0, .int .i64 0] (n * 3)) 108 (toF ds 0) (fun i hi => by
    rw [size_madeCells] at hi
    have hm : i % 3 = 0 ∨ i % 3 = 1 ∨ i % 3 = 2 := by omega
    rcases hm with h | h | h <;> simp [madeCells, hi, toF, Du.cell, zDu, h])
  rw [size_madeCells] at h
  exact h

theorem ToDs.later {w wr w' : World} {n k : Nat} {ds : List Du} (h : ToDs w wr n ds k) (hb : Below wr.heap.size wr w') : ToDs w w' n ds k :=
  ⟨h.1.of_block (hb.block _ h.1.lt), h.2.trans (hb.mono h.2.size)⟩

theorem ToDs.step {w wr : World} {n k : Nat} {ds : List Du} (h : ToDs w wr n ds k) {s : Du} (hs : ds.getD k zDu = s) :
    ToDs w (((wr.setCell ⟨w.heap.size, k * 3, none⟩ (.int .i64 s.at)).setCell ⟨w.heap.size, k * 3 + 1, none⟩ (.int .i64 s.seq)).setCell ⟨w.heap.size, k * 3 + 2, none⟩ (.int .i64 s.id)) n ds (k + 1) := by
  refine ⟨((((h.1.set _ _).set _ _).set _ _)).congr (fun j _ => ?_), ((h.2.setCell (Nat.le_refl _) _).setCell (Nat.le_refl _) _).setCell (Nat.le_refl _) _⟩
  unfold toF
  by_cases e2 : j = k * 3 + 2
  · subst e2; rw [if_pos rfl, if_pos (by omega), show (k * 3 + 2) / 3 = k from by omega, show (k * 3 + 2) % 3 = 2 from by omega, hs]; rfl
  rw [if_neg e2]
  by_cases e1 : j = k * 3 + 1
  · subst e1; rw [if_pos rfl, if_pos (by omega), show (k * 3 + 1) / 3 = k from by omega, show (k * 3 + 1) % 3 = 1 from by omega, hs]; rfl
  rw [if_neg e1]
  by_cases e0 : j = k * 3
  · subst e0; rw [if_pos rfl, if_pos (by omega), show (k * 3) / 3 = k from by omega, show (k * 3) % 3 = 0 from by omega, hs]; rfl
  rw [if_neg e0]
  by_cases l : j / 3 < k
  · rw [if_pos l, if_pos (by omega)]
  · rw [if_neg l, if_neg (by omega)]

theorem ToDs.zero {w wr : World} {n k : Nat} {ds : List Du} (h : ToDs w wr n ds k) (hk : k < n) :
    wr.cell? ⟨w.heap.size, k * 3, none⟩ = some (.int .i64 0) ∧ wr.cell? ⟨w.heap.size, k * 3 + 1, none⟩ = some (.int .i64 0) ∧ wr.cell? ⟨w.heap.size, k * 3 + 2, none⟩ = some (.int .i64 0)
    ∧ ∀ j, wr.frozen? ⟨w.heap.size, j, none⟩ = false := by
  refine ⟨?_, ?_, ?_, fun j => h.1.frozen j⟩
  · have := h.1.cell (i := k * 3) (by omega)
    rw [this, toF, if_neg (by omega), show k * 3 % 3 = 0 from by omega]; rfl
  · have := h.1.cell (i := k * 3 + 1) (by omega)
    rw [this, toF, if_neg (by omega), show (k * 3 + 1) % 3 = 1 from by omega]; rfl
  · have := h.1.cell (i := k * 3 + 2) (by omega)
    rw [this, toF, if_neg (by omega), show (k * 3 + 2) % 3 = 2 from by omega]; rfl

theorem rd_of_row {w : World} {b n : Nat} {ds : List Du} (h : w.rowIs b 108 (n * 3) (toF ds n)) (hn : ds.length = n) : Rd w b ds := by
  intro i hi
  refine ⟨?_, ?_, ?_, fun j => h.frozen j⟩
  · have := h.cell (i := i * 3) (by omega)
    rw [this, toF, if_pos (by omega), show i * 3 / 3 = i from by omega, show i * 3 % 3 = 0 from by omega]; rfl
  · have := h.cell (i := i * 3 + 1) (by omega)
    rw [this, toF, if_pos (by omega), show (i * 3 + 1) / 3 = i from by omega, show (i * 3 + 1) % 3 = 1 from by omega]; rfl
  · have := h.cell (i := i * 3 + 2) (by omega)
    rw [this, toF, if_pos (by omega), show (i * 3 + 2) / 3 = i from by omega, show (i * 3 + 2) % 3 = 2 from by omega]; rfl

set_option maxRecDepth 100000 in
theorem toDueS_any (A : Option Addr) (n cap : Nat) (ds : List Du) (w : World) (hn : ds.length = n) (hm : n ≤ 1048576) (h : LD w A ds) :
    Calls Try.prog 110 #[.slice A n cap] w fun e w' => e = .returned (.slice (some ⟨w.heap.size, 0, none⟩) n n) ∧ DV w' w.heap.size w'.heap.size (some ⟨w.heap.size, 0, none⟩) ds ∧ Below w.heap.size w w' := by
  have hmk := make_dues n hm
  have Hn := Lib.hid hn
  clear hn
  have HI := Lib.hid h
  clear h
  go_enter Try.func110, Try.ntmps110
  go_wp2
  clear hmk
  go_loopw [4] (fun i wr => ∃ k : Nat, k ≤ n ∧ i = .int .i64 k ∧ ToDs w wr n ds k) (fun i _ => n - (intOf i).toNat)
  case atStart => exact ⟨0, Nat.zero_le _, rfl, ToDs.start w n ds⟩
  case round =>
    obtain ⟨k, hk, rfl, hr⟩ := hrel
    by_cases hlt : k < n
    · obtain ⟨b, off, rfl, hc⟩ := HI.out.below hr.2 (by have := Hn.out; omega)
      obtain ⟨c0, c1, c2⟩ := hc k (by have := Hn.out; omega)
      clear hc
      have Hr := Lib.hid hr
      clear hr
      obtain ⟨s, hs⟩ : ∃ s, ds.getD k zDu = s := ⟨_, rfl⟩
      rw [hs] at c0 c1 c2
      have Hs := Lib.hid hs
      clear hs
      go_wp2_with fail
      refine (toDue_any _ _ _ _).mono ?_
      rintro e w1 ⟨rfl, hb⟩
      have hr := Hr.out.later hb
      obtain ⟨z0, z1, z2, zf⟩ := hr.zero hlt
      have Hq := Lib.hid (hr.step Hs.out)
      clear hr
      go_wp2
      go_roundw
      case rel => exact ⟨k + 1, by omega, by go_num, Hq.out⟩
      case measure => simp [intOf]; omega
    · have Hr := Lib.hid hr
      clear hr
      obtain rfl : k = n := by omega
      go_wp2
      go_ret
      exact ⟨rfl, fun _ => ⟨_, rfl, Nat.le_refl _, Hr.out.1.lt, rd_of_row Hr.out.1 Hn.out⟩, Hr.out.2⟩

set_option maxRecDepth 100000 in
set_option maxHeartbeats 400000 in
theorem eqDueS_same (A1 A2 : Option Addr) (n c1 c2 lo hi lo' hi' : Nat) (ds : List Du) (w : World) (hn : ds.length = n) (hm : n ≤ 1048576) (h1 : DV w lo hi A1 ds) (h2 : DV w lo' hi' A2 ds) (hs : hi ≤ w.heap.size) (hs' : hi' ≤ w.heap.size) :
    Calls Try.prog 102 #[.slice A1 n c1, .slice A2 n c2] w fun e w' => e = .returned (.bool true) ∧ Below w.heap.size w w' := by
  have Hn := Lib.hid hn
  clear hn
  have H1 := Lib.hid h1
  have H2 := Lib.hid h2
  clear h1 h2
  go_enter Try.func102, Try.ntmps102
  go_wp2
  go_loopw [5] (fun i wr => ∃ k : Nat, k ≤ n ∧ i = .int .i64 k ∧ Below w.heap.size w wr) (fun i _ => n - (intOf i).toNat)
  case atStart => exact ⟨0, Nat.zero_le _, rfl, Below.refl _ _⟩
  case round =>
    obtain ⟨k, hk, rfl, hr⟩ := hrel
    by_cases hlt : k < n
    · obtain ⟨g, rfl, _, _, hc⟩ := (H1.out.below hr hs) (by have := Hn.out; omega)
      obtain ⟨c0, c1, c2, _⟩ := hc k (by have := Hn.out; omega)
      clear hc
      obtain ⟨g', rfl, _, _, hc⟩ := (H2.out.below hr hs') (by have := Hn.out; omega)
      obtain ⟨d0, d1, d2, _⟩ := hc k (by have := Hn.out; omega)
      clear hc
      generalize ds.getD k zDu = s at c0 c1 c2 d0 d1 d2
      go_wp2
      go_still_tail 8, (by kernel_rfl)
      change wpList _ _ _ _ _ wr.drew
      go_wp2_with fail
      refine (eqDue_same _ _ _ _).mono ?_
      rintro e w1 ⟨rfl, hb⟩
      go_wp2
      go_roundw
      case rel => exact ⟨k + 1, by omega, by go_num, bel_trans hr (bel_of_drew hb)⟩
      case measure => simp [intOf]; omega
    · go_wp2
      go_ret
      exact ⟨rfl, hr⟩

set_option maxRecDepth 100000 in
theorem szHeap_any (A : Option Addr) (n cap : Nat) (q left : Int) (w : World) (hn : n ≤ 9223372036854775807) (h0 : 0 ≤ left) (h1 : left ≤ 1048576) :
    Calls Try.prog 77 #[.agg #[.slice A n cap, .int .i64 q], .int .i64 left] w fun e w' => e = .returned (.int .i64 (if left < n then -1 else left - n)) ∧ Below w.heap.size w w' := by
  by_cases hl : left < n
  · have hl' : ¬ 0 ≤ left - n := by omega
    go_enter Try.func77, Try.ntmps77
    go_wp2
    go_ret
    exact ⟨ret_int (by simp), (Below.refl _ _).alloc (Nat.le_refl _) _⟩
  · go_enter Try.func77, Try.ntmps77
    go_wp2
    go_ret
    exact ⟨ret_int (by simp), (Below.refl _ _).alloc (Nat.le_refl _) _⟩

/-- What a call that hands back a new heap leaves: its slice lies in new memory, old memory stands. -/
def NewH (w : World) (n : Nat) (ds : List Du) (q : Int) (e : Ending) (w' : World) : Prop :=
  ∃ A cap, e = .returned (.agg #[.slice A n cap, .int .i64 q]) ∧ DV w' w.heap.size w'.heap.size A ds ∧ Below w.heap.size w w'

set_option maxRecDepth 100000 in
set_option maxHeartbeats 400000 in
theorem toHeap_any (A : Option Addr) (n cap : Nat) (ds : List Du) (q : Int) (w : World) (hn : ds.length = n) (hm : n ≤ 1048576) (h : LD w A ds) :
    Calls Try.prog 81 #[.agg #[.slice A n cap, .int .i64 q]] w (NewH w n ds q) := by
  have Hn := Lib.hid hn
  clear hn
  have HI := Lib.hid h
  clear h
  go_enter Try.func81, Try.ntmps81
  go_wp2_with fail
  refine (toDueS_any A n cap ds _ Hn.out hm (HI.out.below ?_)).mono ?_
  · exact (((Below.refl _ _).alloc (Nat.le_refl _) _).alloc (by simp) _).alloc (by simp <;> omega) _
  rintro e w1 ⟨rfl, hv, hb⟩
  simp only [World.size_alloc] at hv
  have Hv := Lib.hid hv
  clear hv
  obtain ⟨hc, hf⟩ := bcell hb
  have hz : w.heap.size + 1 + 1 < w1.heap.size := by have := hb.size; simp at this; omega
  have Hb := Lib.hid hb
  clear hb
  go_wp2
  refine bodyPost_ret (v := .agg #[.slice (some ⟨w.heap.size + 1 + 1 + 1, 0, none⟩) n n, .int .i64 q]) (by simp [results, Try.results81, go_sem, hc]) rfl ⟨_, _, rfl, ?_, ?_⟩
  · refine DV.wide (lo := w.heap.size + 1 + 1 + 1) (hi := w1.heap.size) ?_ (by omega) (by simp [World.setCell])
    iterate 4 refine DV.setCell ?_ (by simp <;> omega) _
    exact Hv.out
  · iterate 4 refine Below.setCell ?_ (by simp <;> omega) _
    exact bel_trans ((((Below.refl _ _).alloc (Nat.le_refl _) _).alloc (by simp) _).alloc (by simp; omega) _) Hb.out

set_option maxRecDepth 100000 in
set_option maxHeartbeats 400000 in
theorem eqHeap_same (A1 A2 : Option Addr) (n c1 c2 lo hi lo' hi' : Nat) (ds : List Du) (q : Int) (w : World) (hn : ds.length = n) (hm : n ≤ 1048576) (h1 : DV w lo hi A1 ds) (h2 : DV w lo' hi' A2 ds) (hs : hi ≤ w.heap.size) (hs' : hi' ≤ w.heap.size) :
    Calls Try.prog 68 #[.agg #[.slice A1 n c1, .int .i64 q], .agg #[.slice A2 n c2, .int .i64 q]] w fun e w' => e = .returned (.bool true) ∧ Below w.heap.size w w' := by
  have Hn := Lib.hid hn
  clear hn
  have H1 := Lib.hid h1
  have H2 := Lib.hid h2
  clear h1 h2
  have ha : ∀ o o', Below w.heap.size w ((w.alloc o).alloc o') := fun o o' => ((Below.refl _ _).alloc (Nat.le_refl _) _).alloc (by simp) _
  have Ha := Lib.hid ha
  clear ha
  go_enter Try.func68, Try.ntmps68
  go_wp2_with fail
  refine (eqDueS_same A1 A2 n c1 c2 lo hi lo' hi' ds _ Hn.out hm (H1.out.below (Ha.out _ _) hs) (H2.out.below (Ha.out _ _) hs') (by simp; omega) (by simp; omega)).mono ?_
  rintro e w1 ⟨rfl, hb⟩
  obtain ⟨hc, hf⟩ := bcell hb
  have Hb := Lib.hid hb
  clear hb
  go_wp2
  go_ret
  exact ⟨rfl, bel_trans (Ha.out _ _) Hb.out⟩
end Go.Proofs.Ytehdbdolhkflcaa.Hp

namespace Go.Proofs.Ytehdbdolhkflcaa.Hp
open Go.RowKit Go.Deep Base

def before (a b : Du) : Bool := decide (a.at < b.at) || ((a.at == b.at) && decide (a.seq < b.seq))

set_option maxRecDepth 100000 in
theorem sooner_any (a b c d e f : Int) (w : World) :
    Calls Try.prog 129 #[.agg #[.int .i64 a, .int .i64 b, .int .i64 c], .agg #[.int .i64 d, .int .i64 e, .int .i64 f]] w fun en w' => en = .returned (.bool (before ⟨a, b, c⟩ ⟨d, e, f⟩)) ∧ Below w.heap.size w w' := by
  have hB : ∀ o o', Below w.heap.size w ((w.alloc o).alloc o') := fun o o' => ((Below.refl _ _).alloc (Nat.le_refl _) _).alloc (by simp) _
  have HB := Lib.hid hB
  clear hB
  by_cases h1 : a < d
  · go_enter Try.func129, Try.ntmps129
    go_wp2
    go_ret
    exact ⟨by simp [before, h1], HB.out _ _⟩
  · by_cases h2 : a = d
    · subst h2
      by_cases h3 : b < e
      · go_enter Try.func129, Try.ntmps129
        go_wp2
        go_ret
        exact ⟨by simp [before, h3], HB.out _ _⟩
      · go_enter Try.func129, Try.ntmps129
        go_wp2
        go_ret
        exact ⟨by simp [before, h3], HB.out _ _⟩
    · have h2b : (a == d) = false := by simpa using h2
      go_enter Try.func129, Try.ntmps129
      go_wp2
      go_ret
      exact ⟨by simp [before, h1, h2], HB.out _ _⟩

set_option maxRecDepth 100000 in
theorem specBefore_any (a b c d e f : Int) (w : World) :
    Calls Try.prog 116 #[.agg #[.int .i64 a, .int .i64 b, .int .i64 c], .agg #[.int .i64 d, .int .i64 e, .int .i64 f]] w fun en w' => en = .returned (.bool (before ⟨a, b, c⟩ ⟨d, e, f⟩)) ∧ Below w.heap.size w w' := by
  have hB : ∀ o o', Below w.heap.size w ((w.alloc o).alloc o') := fun o o' => ((Below.refl _ _).alloc (Nat.le_refl _) _).alloc (by simp) _
  have HB := Lib.hid hB
  clear hB
  by_cases h1 : a < d
  · go_enter Try.func116, Try.ntmps116
    go_wp2
    go_ret
    exact ⟨by simp [before, h1], HB.out _ _⟩
  · by_cases h2 : a = d
    · subst h2
      by_cases h3 : b < e
      · go_enter Try.func116, Try.ntmps116
        go_wp2
        go_ret
        exact ⟨by simp [before, h3], HB.out _ _⟩
      · go_enter Try.func116, Try.ntmps116
        go_wp2
        go_ret
        exact ⟨by simp [before, h3], HB.out _ _⟩
    · have h2b : (a == d) = false := by simpa using h2
      go_enter Try.func116, Try.ntmps116
      go_wp2
      go_ret
      exact ⟨by simp [before, h1, h2], HB.out _ _⟩

set_option maxRecDepth 100000 in
theorem idOk_any (x : Int) (w : World) : Calls Try.prog 117 #[.int .i64 x] w fun e w' => e = .returned (.bool (Tick.inB x 1 1000000000)) ∧ w = w' := by
  by_cases h1 : 1 ≤ x
  · by_cases h2 : x ≤ 1000000000
    · rw [Tick.inB_true h1 h2]
      go_enter Try.func117, Try.ntmps117
      go_wp2
      go_ret
      exact ⟨rfl, rfl⟩
    · rw [Tick.inB_false (.inr (by omega))]
      go_enter Try.func117, Try.ntmps117
      go_wp2
      go_ret
      exact ⟨rfl, rfl⟩
  · rw [Tick.inB_false (.inl (by omega))]
    go_enter Try.func117, Try.ntmps117
    go_wp2
    go_ret
    exact ⟨rfl, rfl⟩

/-- One item alone. -/
def okD (q : Int) (d : Du) : Bool := Tick.isT d.at && Tick.inB d.seq 1 q && Tick.inB d.id 1 1000000000
/-- The item ahead of which place k may not come. -/
def par (k : Nat) : Nat := (k - 1) / 2

/-- A valid heap. -/
structure HV (ds : List Du) (q : Int) : Prop where
  few : ds.length ≤ 100
  tick : Tick.isT q = true
  each : ∀ i, i < ds.length → okD q (ds.getD i zDu) = true
  apart : ∀ i j, j < i → i < ds.length → (ds.getD j zDu).id ≠ (ds.getD i zDu).id ∧ (ds.getD j zDu).seq ≠ (ds.getD i zDu).seq
  heap : ∀ k, 0 < k → k < ds.length → before (ds.getD k zDu) (ds.getD (par k) zDu) = false

/-- The same, reckoned. -/
def okH (ds : List Du) (q : Int) : Bool :=
  decide (ds.length ≤ 100) && Tick.isT q && (List.range ds.length).all fun i =>
    okD q (ds.getD i zDu) && ((List.range i).all fun j => !((ds.getD j zDu).id == (ds.getD i zDu).id) && !((ds.getD j zDu).seq == (ds.getD i zDu).seq)) && (i == 0 || !before (ds.getD i zDu) (ds.getD (par i) zDu))
theorem okH_true {ds : List Du} {q : Int} (h : HV ds q) : okH ds q = true := by
  unfold okH
  rw [Bool.and_eq_true, Bool.and_eq_true, List.all_eq_true]
  refine ⟨⟨by simpa using h.few, h.tick⟩, fun i hi => ?_⟩
  rw [List.mem_range] at hi
  rw [Bool.and_eq_true, Bool.and_eq_true, List.all_eq_true]
  refine ⟨⟨h.each i hi, fun j hj => ?_⟩, ?_⟩
  · rw [List.mem_range] at hj
    obtain ⟨h1, h2⟩ := h.apart i j hj hi
    rw [beq_eq_false_iff_ne.2 h1, beq_eq_false_iff_ne.2 h2]; rfl
  · by_cases e : i = 0
    · subst e; rfl
    · rw [h.heap i (by omega) hi]; simp
theorem okH_val {ds : List Du} {q : Int} (h : okH ds q = true) : HV ds q := by
  unfold okH at h
  rw [Bool.and_eq_true, Bool.and_eq_true, List.all_eq_true] at h
  obtain ⟨⟨h1, h2⟩, h3⟩ := h
  have h4 : ∀ i, i < ds.length → okD q (ds.getD i zDu) = true ∧ (∀ j, j < i → (ds.getD j zDu).id ≠ (ds.getD i zDu).id ∧ (ds.getD j zDu).seq ≠ (ds.getD i zDu).seq) ∧ (0 < i → before (ds.getD i zDu) (ds.getD (par i) zDu) = false) := fun i hi => by
    have h5 := h3 i (List.mem_range.2 hi)
    rw [Bool.and_eq_true, Bool.and_eq_true, List.all_eq_true] at h5
    obtain ⟨⟨a1, a2⟩, a3⟩ := h5
    refine ⟨a1, fun j hj => ?_, fun h0 => ?_⟩
    · have := a2 j (List.mem_range.2 hj)
      simpa using this
    · have e : (i == 0) = false := by simp; omega
      rw [e] at a3
      simpa using a3
  exact ⟨by simpa using h1, h2, fun i hi => (h4 i hi).1, fun i j hj hi => (h4 i hi).2.1 j hj, fun k hk hi => (h4 k hi).2.2 hk⟩
theorem okH_false {ds : List Du} {q : Int} (h : ¬ HV ds q) : okH ds q = false := by
  cases e : okH ds q
  · rfl
  · exact absurd (okH_val e) h
end Go.Proofs.Ytehdbdolhkflcaa.Hp

namespace Go.Proofs.Ytehdbdolhkflcaa.Hp
open Go.RowKit Go.Deep Base

/-- A block of two cells that is known whole: a boxed heap. -/
def Blk2 (w : World) (g : Nat) (v0 v1 : Value) : Prop := w.heap[g]? = some (.cells #[v0, v1] 31 (0, 0))
theorem Blk2.cells {w : World} {g : Nat} {v0 v1 : Value} (h : Blk2 w g v0 v1) : w.cell? ⟨g, 0, none⟩ = some v0 ∧ w.cell? ⟨g, 1, none⟩ = some v1 ∧ ∀ j, w.frozen? ⟨g, j, none⟩ = false := by
  have hc : ∀ o, w.cell? ⟨g, o, none⟩ = #[v0, v1][o]? := fun o => cell_of_row _ _ o _ _ (0, 0) h
  refine ⟨?_, ?_, fun j => by unfold Blk2 at h; simp [World.frozen?, h]⟩ <;> (rw [hc]; rfl)
theorem Blk2.lt {w : World} {g : Nat} {v0 v1 : Value} (h : Blk2 w g v0 v1) : g < w.heap.size := (Array.getElem?_eq_some_iff.1 h).1
theorem Blk2.of_block {w w' : World} {g : Nat} {v0 v1 : Value} (h : Blk2 w g v0 v1) (e : w'.heap[g]? = w.heap[g]?) : Blk2 w' g v0 v1 := e.trans h
theorem Blk2.alloc {w : World} {g : Nat} {v0 v1 : Value} (h : Blk2 w g v0 v1) (o : Obj) : Blk2 (w.alloc o) g v0 v1 := h.of_block (Below.heap_alloc w o g h.lt)
theorem Blk2.below {w w' : World} {g : Nat} {v0 v1 : Value} (h : Blk2 w g v0 v1) (hb : Below w.heap.size w w') : Blk2 w' g v0 v1 := h.of_block (hb.block g h.lt)

theorem quiet {P : Program} {f : FuncId} {args : Array Value} {w : World} {n : Nat} {v : Value}
    (h : Calls P f args (w.drewN n) fun e w' => e = .returned v ∧ w.drewN n = w') : Calls P f args (w.drewN n) fun e w'' => e = .returned v ∧ ∃ m, w'' = w.drewN m :=
  h.mono fun _ _ ⟨he, hm⟩ => ⟨he, n, hm.symm⟩

theorem same {P : Program} {f : FuncId} {args : Array Value} {w : World} {v : Value} (h : Calls P f args w fun e w' => e = .returned v ∧ w = w') : Calls P f args w fun e w' => e = .returned v ∧ w' = w :=
  h.mono fun _ _ ⟨he, hm⟩ => ⟨he, hm.symm⟩
theorem below_drewN {B : Nat} {a b : World} (h : Below B a b) (n : Nat) : Below B a (b.drewN n) := ⟨h.os, h.tape, h.output, h.size, h.block⟩
theorem tdiv_par (k : Nat) (h : 0 < k) : ((k : Int) - 1).tdiv 2 = (par k : Int) := by
  unfold par
  obtain ⟨j, rfl⟩ : ∃ j, k = j + 1 := ⟨k - 1, by omega⟩
  rw [show (((j + 1 : Nat) : Int) - 1) = (j : Int) from by omega, show j + 1 - 1 = j from by omega]
  rfl

/-- What the reference has found right when the first k items have been looked at. -/
structure Upto (ds : List Du) (q : Int) (k : Nat) : Prop where
  each : ∀ i, i < k → okD q (ds.getD i zDu) = true
  apart : ∀ i j, j < i → i < k → (ds.getD j zDu).id ≠ (ds.getD i zDu).id ∧ (ds.getD j zDu).seq ≠ (ds.getD i zDu).seq
  heap : ∀ i, 0 < i → i < k → before (ds.getD i zDu) (ds.getD (par i) zDu) = false
theorem Upto.zero (ds : List Du) (q : Int) : Upto ds q 0 := ⟨fun _ h => absurd h (by omega), fun _ _ _ h => absurd h (by omega), fun _ _ h => absurd h (by omega)⟩
theorem Upto.step {ds : List Du} {q : Int} {k : Nat} (h : Upto ds q k) (h1 : okD q (ds.getD k zDu) = true) (h2 : ∀ j, j < k → (ds.getD j zDu).id ≠ (ds.getD k zDu).id ∧ (ds.getD j zDu).seq ≠ (ds.getD k zDu).seq) (h3 : 0 < k → before (ds.getD k zDu) (ds.getD (par k) zDu) = false) : Upto ds q (k + 1) := by
  refine ⟨fun i hi => ?_, fun i j hj hi => ?_, fun i h0 hi => ?_⟩
  · by_cases e : i = k
    · subst e; exact h1
    · exact h.each i (by omega)
  · by_cases e : i = k
    · subst e; exact h2 j hj
    · exact h.apart i j hj (by omega)
  · by_cases e : i = k
    · subst e; exact h3 h0
    · exact h.heap i h0 (by omega)

set_option maxRecDepth 100000 in
set_option maxHeartbeats 2000000 in
theorem specHeapOk_any (A : Option Addr) (n cap lo hi : Nat) (ds : List Du) (q : Int) (w : World) (hn : ds.length = n) (hm : n ≤ 1048576) (h : DV w lo hi A ds) (hs : hi ≤ w.heap.size) :
    Calls Try.prog 92 #[.agg #[.slice A n cap, .int .i64 q]] w fun e w' => e = .returned (.bool (okH ds q)) ∧ Below w.heap.size w w' := by
  have Hn := Lib.hid hn
  have HI := Lib.hid h
  clear hn h
  by_cases h100 : 100 < n
  · have Ho := Lib.hid (okH_false (ds := ds) (q := q) (fun v => by have := v.few; have := Hn.out; omega))
    go_enter Try.func92, Try.ntmps92
    go_wp2
    go_ret
    exact ⟨by rw [Ho.out]; rfl, bel_alloc _ _⟩
  cases hq : Tick.isT q
  · have Ho := Lib.hid (okH_false (ds := ds) (q := q) (fun v => by rw [v.tick] at hq; cases hq))
    have Hq := Lib.hid hq
    clear hq
    go_enter Try.func92, Try.ntmps92
    go_wp2_with fail
    refine (Tick.specTickOk_any _ _).mono ?_
    rintro e w' ⟨rfl, rfl⟩
    rw [Hq.out]
    go_wp2
    go_ret
    exact ⟨by rw [Ho.out]; rfl, bel_alloc _ _⟩
  have Hq := Lib.hid hq
  clear hq
  have HW : Hid (∀ wr, Below (w.heap.size + 1) (w.alloc (.cells #[.slice A n cap, .int .i64 q] 31)) wr → Blk2 wr w.heap.size (.slice A n cap) (.int .i64 q) ∧ DV wr lo hi A ds ∧ Below w.heap.size w wr) := fun wr hb =>
    ⟨Blk2.of_block (heap_alloc_new w _) (hb.block _ (by omega)), HI.out.below ((bel_alloc w _).trans (hb.mono (by omega))) hs, (bel_alloc w _).trans (hb.mono (by omega))⟩
  go_enter Try.func92, Try.ntmps92
  go_wp2_with fail
  refine (Tick.specTickOk_any _ _).mono ?_
  rintro e w' ⟨rfl, rfl⟩
  rw [Hq.out]
  go_wp2
  go_loopw [3] (fun i wr => ∃ k : Nat, k ≤ n ∧ i = .int .i64 k ∧ Below (w.heap.size + 1) (w.alloc (.cells #[.slice A n cap, .int .i64 q] 31)) wr ∧ Upto ds q k) (fun i _ => n - (intOf i).toNat)
  case atStart => exact ⟨0, Nat.zero_le _, rfl, Below.refl _ _, Upto.zero ds q⟩
  case round =>
    obtain ⟨k, hk, rfl, hr, hu⟩ := hrel
    obtain ⟨wo, rfl⟩ : ∃ wo, wo = wr := ⟨_, rfl⟩
    have Hu := Lib.hid hu
    have Hr := Lib.hid hr
    clear hu hr
    obtain ⟨hbx, hsv, hbw⟩ := HW.out _ Hr.out
    obtain ⟨x0, x1, xf⟩ := hbx.cells
    have hxl : w.heap.size < wo.heap.size := hbx.lt
    have Hsv := Lib.hid hsv
    have Hbw := Lib.hid hbw
    clear hbx hsv hbw
    by_cases hlt : k < n
    · obtain ⟨g, rfl, hg1, hg2, hrd⟩ := Hsv.out (by have := Hn.out; omega)
      obtain ⟨c0, c1, c2, _⟩ := hrd k (by have := Hn.out; omega)
      obtain ⟨dat, dseq, did, hd⟩ : ∃ a b c, ds.getD k zDu = ⟨a, b, c⟩ := ⟨_, _, _, rfl⟩
      rw [hd] at c0 c1 c2
      dsimp only at c0 c1 c2
      have Hd := Lib.hid hd
      have Hrd := Lib.hid hrd
      clear hd hrd
      have hk0 : (0 : Int) ≤ (k : Int) := by omega
      have hk1 : (k : Int) < (n : Int) := by omega
      cases h1 : Tick.isT dat
      · have HT : Hid (∀ W, Calls Try.prog 61 #[.int .i64 dat] W fun e w' => e = .returned (.bool false) ∧ W = w') := fun W => by have := Tick.specTickOk_any dat W; rw [h1] at this; exact this
        have Ho := Lib.hid (okH_false (ds := ds) (q := q) (fun v => by have := v.each k (by have := Hn.out; omega); rw [Hd.out] at this; unfold okD at this; rw [h1] at this; cases this))
        clear h1
        go_wp2_with fail
        go_quiet ((go_at_call 61; exact quiet (HT.out _)))
        go_wp2
        go_ret
        exact ⟨by rw [Ho.out]; rfl, below_drewN (bel_trans Hbw.out (bel_alloc _ _)) _⟩
      have HT : Hid (∀ W, Calls Try.prog 61 #[.int .i64 dat] W fun e w' => e = .returned (.bool true) ∧ W = w') := fun W => by have := Tick.specTickOk_any dat W; rw [h1] at this; exact this
      have H1 := Lib.hid h1
      clear h1
      cases h2 : Tick.inB dseq 1 q
      · have HS2 : Hid (∀ W, Calls Try.prog 60 #[.int .i64 dseq, .int .i64 1, .int .i64 q] W fun e w' => e = .returned (.bool false) ∧ W = w') := fun W => by have := Tick.in_any dseq 1 q W; rw [h2] at this; exact this
        have Ho := Lib.hid (okH_false (ds := ds) (q := q) (fun v => by have := v.each k (by have := Hn.out; omega); rw [Hd.out] at this; unfold okD at this; rw [h2] at this; simp at this))
        clear h2
        go_wp2_with fail
        go_quiet ((first | (go_at_call 61; exact quiet (HT.out _)) | (go_at_call 60; with_reducible exact quiet (HS2.out _))))
        go_wp2
        go_ret
        exact ⟨by rw [Ho.out]; rfl, below_drewN (bel_trans Hbw.out (bel_alloc _ _)) _⟩
      have HS2 : Hid (∀ W, Calls Try.prog 60 #[.int .i64 dseq, .int .i64 1, .int .i64 q] W fun e w' => e = .returned (.bool true) ∧ W = w') := fun W => by have := Tick.in_any dseq 1 q W; rw [h2] at this; exact this
      have H2 := Lib.hid h2
      clear h2
      cases h3 : Tick.inB did 1 1000000000
      · have HS3 : Hid (∀ W, Calls Try.prog 60 #[.int .i64 did, .int .i64 1, .int .i64 1000000000] W fun e w' => e = .returned (.bool false) ∧ W = w') := fun W => by have := Tick.in_any did 1 1000000000 W; rw [h3] at this; exact this
        have Ho := Lib.hid (okH_false (ds := ds) (q := q) (fun v => by have := v.each k (by have := Hn.out; omega); rw [Hd.out] at this; unfold okD at this; rw [h3] at this; simp at this))
        clear h3
        go_wp2_with fail
        go_quiet ((first | (go_at_call 61; exact quiet (HT.out _)) | (go_at_call 60; with_reducible exact quiet (HS2.out _)) | (go_at_call 60; with_reducible exact quiet (HS3.out _))))
        go_wp2
        go_ret
        exact ⟨by rw [Ho.out]; rfl, below_drewN (bel_trans Hbw.out (bel_alloc _ _)) _⟩
      have HS3 : Hid (∀ W, Calls Try.prog 60 #[.int .i64 did, .int .i64 1, .int .i64 1000000000] W fun e w' => e = .returned (.bool true) ∧ W = w') := fun W => by have := Tick.in_any did 1 1000000000 W; rw [h3] at this; exact this
      have Hok : Hid (okD q (ds.getD k zDu) = true) := by rw [Hd.out]; unfold okD; rw [H1.out, H2.out, h3]; rfl
      clear h3
      by_cases hk00 : k = 0
      · have hkd : decide (0 < (k : Int)) = false := by simp; omega
        have hkd2 : decide (0 < k) = false := by simp; omega
        have hkn : ¬ 0 < k := by omega
        have hkn2 : ¬ (0 : Int) < (k : Int) := by omega
        have Hk0 := Lib.hid hk00
        clear hk00
        go_wp2_with fail
        go_quiet ((first | (go_at_call 61; exact quiet (HT.out _)) | (go_at_call 60; with_reducible exact quiet (HS2.out _)) | (go_at_call 60; with_reducible exact quiet (HS3.out _))))
        clear hkd hkd2 hkn hkn2
        go_wp2_with fail
        obtain ⟨WW, hWW⟩ : ∃ WW, ((wo.alloc (.cells #[.int .i64 dat, .int .i64 dseq, .int .i64 did] 108)).drewN nq) = WW := ⟨_, rfl⟩
        have hBW : Below (wo.heap.size + 1) (wo.alloc (.cells #[.int .i64 dat, .int .i64 dseq, .int .i64 did] 108)) WW := by rw [← hWW]; exact (below_drewN (Below.refl _ _) nq)
        have H3 : Hid (0 < k → before (ds.getD k zDu) (ds.getD (par k) zDu) = false) := (fun h => absurd h (by have := Hk0.out; omega))
        rw [hWW]
        have zWW : wo.heap.size < WW.heap.size := by have := hBW.size; simp at this; omega
        have e1 : WW.cell? ⟨wo.heap.size, 1, none⟩ = some (.int .i64 dseq) := (hBW.cell (p := ⟨wo.heap.size, 1, none⟩) (Nat.lt_succ_self _)).trans (by simp [go_sem])
        have e2 : WW.cell? ⟨wo.heap.size, 2, none⟩ = some (.int .i64 did) := (hBW.cell (p := ⟨wo.heap.size, 2, none⟩) (Nat.lt_succ_self _)).trans (by simp [go_sem])
        have HBW := Lib.hid (((bel_alloc wo (.cells #[.int .i64 dat, .int .i64 dseq, .int .i64 did] 108)).trans (hBW.mono (Nat.le_succ _))))
        have He1 := Lib.hid e1
        have He2 := Lib.hid e2
        have Hx0 := Lib.hid x0
        clear hWW hBW e1 e2 x0 x1 xf c0 c1 c2
        go_loopw [5] (fun j wz => ∃ jj : Nat, jj ≤ k ∧ j = .int .i64 jj ∧ Below WW.heap.size WW wz ∧ ∀ i, i < jj → (ds.getD i zDu).id ≠ (ds.getD k zDu).id ∧ (ds.getD i zDu).seq ≠ (ds.getD k zDu).seq) (fun j _ => k - (intOf j).toNat)
        case atStart => exact ⟨0, Nat.zero_le _, rfl, Below.refl _ _, fun i hi => absurd hi (by omega)⟩
        case round =>
          obtain ⟨jj, hjj, rfl, hbq, hap⟩ := hrel
          have Hap := Lib.hid hap
          have Hbq := Lib.hid hbq
          have HBQ := Lib.hid (bel_trans HBW.out hbq)
          have x0 : wr.cell? ⟨w.heap.size, 0, none⟩ = some (.slice (some ⟨g, 0, none⟩) n cap) := (HBQ.out.cell (p := ⟨w.heap.size, 0, none⟩) hxl).trans Hx0.out
          have e1 : wr.cell? ⟨wo.heap.size, 1, none⟩ = some (.int .i64 dseq) := (hbq.cell (p := ⟨wo.heap.size, 1, none⟩) zWW).trans He1.out
          have e2 : wr.cell? ⟨wo.heap.size, 2, none⟩ = some (.int .i64 did) := (hbq.cell (p := ⟨wo.heap.size, 2, none⟩) zWW).trans He2.out
          clear hap hbq
          by_cases hl2 : jj < k
          · obtain ⟨_, b1, b2, _⟩ := (Hrd.out.of_block (HBQ.out.block g (by have := Hbw.out.size; omega))) jj (by have := Hn.out; omega)
            obtain ⟨jat, jseq, jid, hjd⟩ : ∃ a b c, ds.getD jj zDu = ⟨a, b, c⟩ := ⟨_, _, _, rfl⟩
            rw [hjd] at b1 b2
            dsimp only at b1 b2
            have Hjd := Lib.hid hjd
            clear hjd
            have hj0 : (0 : Int) ≤ (jj : Int) := by omega
            have hj1 : (jj : Int) < (n : Int) := by omega
            by_cases hid : jid = did
            · have Ho := Lib.hid (okH_false (ds := ds) (q := q) (fun v => by have := (v.apart k jj hl2 (by have := Hn.out; omega)).1; rw [Hd.out, Hjd.out] at this; exact this hid))
              have hidb : (jid == did) = true := by simpa using hid
              clear hid
              go_wp2_with fail
              go_quiet (fail)
              go_wp2
              go_ret
              exact ⟨by rw [Ho.out]; rfl, below_drewN (bel_trans Hbw.out HBQ.out) _⟩
            · have hidb : (jid == did) = false := by simpa using hid
              have Hid1 := Lib.hid hid
              clear hid
              by_cases hsq : jseq = dseq
              · have Ho := Lib.hid (okH_false (ds := ds) (q := q) (fun v => by have := (v.apart k jj hl2 (by have := Hn.out; omega)).2; rw [Hd.out, Hjd.out] at this; exact this hsq))
                have hsqb : (jseq == dseq) = true := by simpa using hsq
                clear hsq
                go_wp2_with fail
                go_quiet (fail)
                go_wp2
                go_ret
                exact ⟨by rw [Ho.out]; rfl, below_drewN (bel_trans Hbw.out HBQ.out) _⟩
              · have hsqb : (jseq == dseq) = false := by simpa using hsq
                have Hsq := Lib.hid hsq
                clear hsq
                go_wp2_with fail
                go_quiet (fail)
                go_wp2
                go_roundw
                case rel =>
                  refine ⟨jj + 1, by omega, by go_num, below_drewN Hbq.out _, fun i hi => ?_⟩
                  by_cases e : i = jj
                  · subst e; rw [Hjd.out, Hd.out]; exact ⟨Hid1.out, Hsq.out⟩
                  · exact Hap.out i (by omega)
                case measure => simp [intOf]; omega
          · have hjk : k = jj := by omega
            subst hjk
            go_wp2
            go_roundw
            case rel => exact ⟨k + 1, by omega, by go_num, Hr.out.trans (HBQ.out.mono (by have := Hr.out.size; simp at this; omega)), Hu.out.step Hok.out Hap.out H3.out⟩
            case measure => simp [intOf]; omega
      have hkp : 0 < k := by omega
      clear hk00
      have htd := tdiv_par k hkp
      have htd2 : ((k : Int) - 1) / 2 = (par k : Int) := by unfold par; omega
      have hpl : par k < k := by unfold par; omega
      obtain ⟨p, hp⟩ : ∃ p, par k = p := ⟨_, rfl⟩
      rw [hp] at htd htd2 hpl
      have Hp := Lib.hid hp
      clear hp
      obtain ⟨p0, p1, p2, _⟩ := Hrd.out p (by have := Hn.out; omega)
      obtain ⟨pat, pseq, pid, hpd⟩ : ∃ a b c, ds.getD p zDu = ⟨a, b, c⟩ := ⟨_, _, _, rfl⟩
      rw [hpd] at p0 p1 p2
      dsimp only at p0 p1 p2
      have Hpd := Lib.hid hpd
      clear hpd
      have hpi0 : (0 : Int) ≤ (p : Int) := by omega
      have hpi1 : (p : Int) < (n : Int) := by omega
      have hgr : g < wo.heap.size := by have := Hbw.out.size; omega
      have hkd : decide (0 < (k : Int)) = true := by simp; omega
      have hw1 : IntKind.i64.wrap ((k : Int) - 1) = (k : Int) - 1 := IntWalk.i64_in _ (by omega)
      have hw2 : IntKind.i64.wrap (p : Int) = (p : Int) := IntWalk.i64_in _ (by omega)
      go_wp2_with fail
      obtain ⟨WX, hWX⟩ : ∃ WX, wo.alloc (.cells #[.int .i64 dat, .int .i64 dseq, .int .i64 did] 108) = WX := ⟨_, rfl⟩
      have HBX : Hid (Below wo.heap.size wo WX) := by rw [← hWX]; exact bel_alloc _ _
      have i0 : WX.cell? ⟨wo.heap.size, 0, none⟩ = some (.int .i64 dat) := by rw [← hWX]; simp [go_sem]
      have i1 : WX.cell? ⟨wo.heap.size, 1, none⟩ = some (.int .i64 dseq) := by rw [← hWX]; simp [go_sem]
      have i2 : WX.cell? ⟨wo.heap.size, 2, none⟩ = some (.int .i64 did) := by rw [← hWX]; simp [go_sem]
      have HXX := Lib.hid hWX
      rw [hWX]
      clear hWX
      have y0 : WX.cell? ⟨w.heap.size, 0, none⟩ = some (.slice (some ⟨g, 0, none⟩) n cap) := (HBX.out.cell (p := ⟨w.heap.size, 0, none⟩) hxl).trans x0
      have y1 : WX.cell? ⟨w.heap.size, 1, none⟩ = some (.int .i64 q) := (HBX.out.cell (p := ⟨w.heap.size, 1, none⟩) hxl).trans x1
      have q0 : WX.cell? ⟨g, p * 3, none⟩ = some (.int .i64 pat) := (HBX.out.cell (p := ⟨g, p * 3, none⟩) hgr).trans p0
      have q1 : WX.cell? ⟨g, p * 3 + 1, none⟩ = some (.int .i64 pseq) := (HBX.out.cell (p := ⟨g, p * 3 + 1, none⟩) hgr).trans p1
      have q2 : WX.cell? ⟨g, p * 3 + 2, none⟩ = some (.int .i64 pid) := (HBX.out.cell (p := ⟨g, p * 3 + 2, none⟩) hgr).trans p2
      clear p0 p1 p2
      refine wp_region_still_tail 30 (by kernel_rfl) (by kernel_rfl) ?_
      simp only [List.take_succ_cons, List.take_zero, List.drop_succ_cons, List.drop_zero]
      repeat still_step
      still_call (same (HT.out _))
      repeat still_step
      still_call (same (HS2.out _))
      repeat still_step
      still_call (same (HS3.out _))
      repeat still_step
      refine wpStill_nil ?_
      change wpList _ _ _ _ _ WX.drew
      go_wp2_with fail
      refine (specBefore_any dat dseq did pat pseq pid _).mono ?_
      rintro e w5 ⟨rfl, b5⟩
      have B5 := Lib.hid (bel_of_drew b5)
      clear b5
      cases hbf : before ⟨dat, dseq, did⟩ ⟨pat, pseq, pid⟩
      · have Hbf : Hid (before (ds.getD k zDu) (ds.getD (par k) zDu) = false) := by rw [Hp.out, Hd.out, Hpd.out]; exact hbf
        clear hbf hw1 hw2 htd htd2 hkd
        go_wp2_with fail
        obtain ⟨WW, hWW⟩ : ∃ WW, w5 = WW := ⟨_, rfl⟩
        have hBW : Below (wo.heap.size + 1) (wo.alloc (.cells #[.int .i64 dat, .int .i64 dseq, .int .i64 did] 108)) WW := by rw [← hWW]; exact (by rw [HXX.out]; exact B5.out.mono (by rw [← HXX.out]; simp))
        have H3 : Hid (0 < k → before (ds.getD k zDu) (ds.getD (par k) zDu) = false) := (fun _ => Hbf.out)
        rw [hWW]
        have zWW : wo.heap.size < WW.heap.size := by have := hBW.size; simp at this; omega
        have e1 : WW.cell? ⟨wo.heap.size, 1, none⟩ = some (.int .i64 dseq) := (hBW.cell (p := ⟨wo.heap.size, 1, none⟩) (Nat.lt_succ_self _)).trans (by simp [go_sem])
        have e2 : WW.cell? ⟨wo.heap.size, 2, none⟩ = some (.int .i64 did) := (hBW.cell (p := ⟨wo.heap.size, 2, none⟩) (Nat.lt_succ_self _)).trans (by simp [go_sem])
        have HBW := Lib.hid (((bel_alloc wo (.cells #[.int .i64 dat, .int .i64 dseq, .int .i64 did] 108)).trans (hBW.mono (Nat.le_succ _))))
        have He1 := Lib.hid e1
        have He2 := Lib.hid e2
        have Hx0 := Lib.hid x0
        clear hWW hBW e1 e2 x0 x1 xf c0 c1 c2
        go_loopw [5] (fun j wz => ∃ jj : Nat, jj ≤ k ∧ j = .int .i64 jj ∧ Below WW.heap.size WW wz ∧ ∀ i, i < jj → (ds.getD i zDu).id ≠ (ds.getD k zDu).id ∧ (ds.getD i zDu).seq ≠ (ds.getD k zDu).seq) (fun j _ => k - (intOf j).toNat)
        case atStart => exact ⟨0, Nat.zero_le _, rfl, Below.refl _ _, fun i hi => absurd hi (by omega)⟩
        case round =>
          obtain ⟨jj, hjj, rfl, hbq, hap⟩ := hrel
          have Hap := Lib.hid hap
          have Hbq := Lib.hid hbq
          have HBQ := Lib.hid (bel_trans HBW.out hbq)
          have x0 : wr.cell? ⟨w.heap.size, 0, none⟩ = some (.slice (some ⟨g, 0, none⟩) n cap) := (HBQ.out.cell (p := ⟨w.heap.size, 0, none⟩) hxl).trans Hx0.out
          have e1 : wr.cell? ⟨wo.heap.size, 1, none⟩ = some (.int .i64 dseq) := (hbq.cell (p := ⟨wo.heap.size, 1, none⟩) zWW).trans He1.out
          have e2 : wr.cell? ⟨wo.heap.size, 2, none⟩ = some (.int .i64 did) := (hbq.cell (p := ⟨wo.heap.size, 2, none⟩) zWW).trans He2.out
          clear hap hbq
          by_cases hl2 : jj < k
          · obtain ⟨_, b1, b2, _⟩ := (Hrd.out.of_block (HBQ.out.block g (by have := Hbw.out.size; omega))) jj (by have := Hn.out; omega)
            obtain ⟨jat, jseq, jid, hjd⟩ : ∃ a b c, ds.getD jj zDu = ⟨a, b, c⟩ := ⟨_, _, _, rfl⟩
            rw [hjd] at b1 b2
            dsimp only at b1 b2
            have Hjd := Lib.hid hjd
            clear hjd
            have hj0 : (0 : Int) ≤ (jj : Int) := by omega
            have hj1 : (jj : Int) < (n : Int) := by omega
            by_cases hid : jid = did
            · have Ho := Lib.hid (okH_false (ds := ds) (q := q) (fun v => by have := (v.apart k jj hl2 (by have := Hn.out; omega)).1; rw [Hd.out, Hjd.out] at this; exact this hid))
              have hidb : (jid == did) = true := by simpa using hid
              clear hid
              go_wp2_with fail
              go_quiet (fail)
              go_wp2
              go_ret
              exact ⟨by rw [Ho.out]; rfl, below_drewN (bel_trans Hbw.out HBQ.out) _⟩
            · have hidb : (jid == did) = false := by simpa using hid
              have Hid1 := Lib.hid hid
              clear hid
              by_cases hsq : jseq = dseq
              · have Ho := Lib.hid (okH_false (ds := ds) (q := q) (fun v => by have := (v.apart k jj hl2 (by have := Hn.out; omega)).2; rw [Hd.out, Hjd.out] at this; exact this hsq))
                have hsqb : (jseq == dseq) = true := by simpa using hsq
                clear hsq
                go_wp2_with fail
                go_quiet (fail)
                go_wp2
                go_ret
                exact ⟨by rw [Ho.out]; rfl, below_drewN (bel_trans Hbw.out HBQ.out) _⟩
              · have hsqb : (jseq == dseq) = false := by simpa using hsq
                have Hsq := Lib.hid hsq
                clear hsq
                go_wp2_with fail
                go_quiet (fail)
                go_wp2
                go_roundw
                case rel =>
                  refine ⟨jj + 1, by omega, by go_num, below_drewN Hbq.out _, fun i hi => ?_⟩
                  by_cases e : i = jj
                  · subst e; rw [Hjd.out, Hd.out]; exact ⟨Hid1.out, Hsq.out⟩
                  · exact Hap.out i (by omega)
                case measure => simp [intOf]; omega
          · have hjk : k = jj := by omega
            subst hjk
            go_wp2
            go_roundw
            case rel => exact ⟨k + 1, by omega, by go_num, Hr.out.trans (HBQ.out.mono (by have := Hr.out.size; simp at this; omega)), Hu.out.step Hok.out Hap.out H3.out⟩
            case measure => simp [intOf]; omega
      · have Ho := Lib.hid (okH_false (ds := ds) (q := q) (fun v => by have := v.heap k hkp (by have := Hn.out; omega); rw [Hp.out, Hd.out, Hpd.out, hbf] at this; cases this))
        clear hbf
        go_wp2
        go_ret
        exact ⟨by rw [Ho.out]; rfl, bel_trans Hbw.out (bel_trans HBX.out B5.out)⟩
    · obtain rfl : k = n := by omega
      have Ho := Lib.hid (okH_true (ds := ds) (q := q) ⟨by have := Hn.out; omega, Hq.out, fun i hi => Hu.out.each i (by have := Hn.out; omega), fun i j hj hi => Hu.out.apart i j hj (by have := Hn.out; omega), fun i h0 hi => Hu.out.heap i h0 (by have := Hn.out; omega)⟩)
      go_wp2
      go_ret
      exact ⟨by rw [Ho.out]; rfl, Hbw.out⟩
end Go.Proofs.Ytehdbdolhkflcaa.Hp

namespace Go.Proofs.Ytehdbdolhkflcaa.Hp
open Go.RowKit Go.Deep Base

def Du.cells (s : Du) : List Value := [.int .i64 s.at, .int .i64 s.seq, .int .i64 s.id]
def cellsL : List Du → List Value
  | [] => []
  | s :: r => s.cells ++ cellsL r
theorem cellsL_append (a b : List Du) : cellsL (a ++ b) = cellsL a ++ cellsL b := by
  induction a with
  | nil => rfl
  | cons s r ih => simp only [List.cons_append, cellsL, ih, List.append_assoc]
theorem cellsL_len (a : List Du) : (cellsL a).length = a.length * 3 := by
  induction a with
  | nil => rfl
  | cons s r ih => simp only [cellsL, List.length_append, ih, Du.cells, List.length_cons, List.length_nil]; omega
theorem cellsL_at : ∀ (ds : List Du) (i j : Nat), i < ds.length → j < 3 → (cellsL ds)[i * 3 + j]? = (ds.getD i zDu).cells[j]?
  | [], i, j, h, _ => by simp at h
  | s :: r, 0, j, _, hj => by
    simp only [cellsL, Nat.zero_mul, Nat.zero_add, List.getD_cons_zero]
    rw [List.getElem?_append_left (by simp [Du.cells]; omega)]
  | s :: r, i + 1, j, h, hj => by
    simp only [cellsL, List.getD_cons_succ]
    rw [List.getElem?_append_right (by simp [Du.cells]; omega)]
    rw [show (i + 1) * 3 + j - s.cells.length = i * 3 + j from by simp [Du.cells]; omega]
    exact cellsL_at r i j (by simp at h; omega) hj

theorem owns_form {w : World} {base : Nat} {e : TypeId} {size n : Nat} {v : Value} {xs : List Value} (h : w.ownsRow base e size v n xs) : ∃ A cap, v = .slice A n cap := by
  rcases h.2 with ⟨rfl, rfl⟩ | ⟨g, cap, _, rfl, _⟩
  · exact ⟨none, 0, rfl⟩
  · exact ⟨_, cap, rfl⟩
theorem rd_owns {w : World} {base g n cap : Nat} {ds : List Du} (hn : ds.length = n) (h : w.ownsRow base 108 3 (.slice (some ⟨g, 0, none⟩) n cap) n (cellsL ds)) : Rd w g ds := by
  intro i hi
  have hc : ∀ j, j < 3 → w.cell? ⟨g, i * 3 + j, none⟩ = (ds.getD i zDu).cells[j]? := fun j hj => (h.cellAt (i * 3 + j) (by omega)).trans (cellsL_at ds i j hi hj)
  exact ⟨(hc 0 (by omega)).trans rfl, (hc 1 (by omega)).trans rfl, (hc 2 (by omega)).trans rfl, fun j => h.frozenAt j⟩
theorem dv_owns {w : World} {base n cap : Nat} {A : Option Addr} {ds : List Du} (hn : ds.length = n) (h : w.ownsRow base 108 3 (.slice A n cap) n (cellsL ds)) : DV w base w.heap.size A ds := by
  intro hp
  rcases h.2 with ⟨_, h0⟩ | ⟨g, cap', cur, hv, hb, hg, _⟩
  · omega
  · injection hv with hA _ _
    subst hA
    exact ⟨g, rfl, hb, (h.lt g rfl).2, rd_owns hn h⟩

/-- A slice of items is nil, or it has a block of its own, from lo on and ahead of hi, with as many items as its capacity says. -/
def Sh (w : World) (lo hi : Nat) (A : Option Addr) (n cap : Nat) : Prop :=
  (A = none ∧ n = 0 ∧ cap = 0) ∨ ∃ g cur, A = some ⟨g, 0, none⟩ ∧ lo ≤ g ∧ g < hi ∧ w.heap[g]? = some (.cells cur 108 (0, 0)) ∧ n ≤ cap ∧ cap ≤ maxLen ∧ cur.size = cap * 3
theorem sh_owns {w : World} {base n cap : Nat} {A : Option Addr} {xs : List Value} (h : w.ownsRow base 108 3 (.slice A n cap) n xs) : Sh w base w.heap.size A n cap := by
  rcases h.2 with ⟨hv, h0⟩ | ⟨g, cap', cur, hv, hb, hg, h1, h2, h3, _⟩
  · injection hv with a b c
    exact .inl ⟨a, b, c⟩
  · injection hv with hA _ hc
    subst hA hc
    exact .inr ⟨g, cur, rfl, hb, (h.lt g rfl).2, hg, h1, h2, h3⟩
theorem Sh.of_block {w w' : World} {lo hi n cap : Nat} {A : Option Addr} (h : Sh w lo hi A n cap) (e : ∀ g, lo ≤ g → g < hi → w'.heap[g]? = w.heap[g]?) : Sh w' lo hi A n cap := by
  rcases h with h | ⟨g, cur, h0, h1, h2, h3, h4⟩
  · exact .inl h
  · exact .inr ⟨g, cur, h0, h1, h2, (e g h1 h2).trans h3, h4⟩
theorem Sh.below {w w' : World} {lo hi n cap B : Nat} {A : Option Addr} (h : Sh w lo hi A n cap) (hb : Below B w w') (hB : hi ≤ B) : Sh w' lo hi A n cap := h.of_block fun g _ h2 => hb.block g (by omega)
theorem Sh.wide {w : World} {lo hi lo' hi' n cap : Nat} {A : Option Addr} (h : Sh w lo hi A n cap) (h1 : lo' ≤ lo) (h2 : hi ≤ hi') : Sh w lo' hi' A n cap := by
  rcases h with h | ⟨g, cur, h0, h3, h4, h5⟩
  · exact .inl h
  · exact .inr ⟨g, cur, h0, by omega, by omega, h5⟩
theorem Sh.setCell {w : World} {lo hi n cap : Nat} {A : Option Addr} (h : Sh w lo hi A n cap) {p : Addr} (hp : p.block < lo) (u : Value) : Sh (w.setCell p u) lo hi A n cap := h.of_block fun g h1 _ => Below.heap_setCell w p u g (by omega)

/-- What a call that hands back a new slice of items leaves. -/
def NewD (w : World) (n : Nat) (ds : List Du) (e : Ending) (w' : World) : Prop :=
  ∃ A cap, e = .returned (.slice A n cap) ∧ DV w' w.heap.size w'.heap.size A ds ∧ Below w.heap.size w w'
/-- The same, with its block's form. -/
def NewS (w : World) (n : Nat) (ds : List Du) (e : Ending) (w' : World) : Prop :=
  ∃ A cap, e = .returned (.slice A n cap) ∧ DV w' w.heap.size w'.heap.size A ds ∧ Below w.heap.size w w' ∧ Sh w' w.heap.size w'.heap.size A n cap
theorem NewS.newD {w : World} {n : Nat} {ds : List Du} {e : Ending} {w' : World} (h : NewS w n ds e w') : NewD w n ds e w' := by
  obtain ⟨A, cap, h1, h2, h3, _⟩ := h
  exact ⟨A, cap, h1, h2, h3⟩

theorem news_rd {w : World} {g : Nat} {ds : List Du} (h : Rd w g ds) : ∀ j u, (cellsL ds)[j]? = some u → w.cell? ((⟨g, 0, none⟩ : Addr).add j) = some u := by
  intro j u hj
  have hlt : j < (cellsL ds).length := (List.getElem?_eq_some_iff.1 hj).1
  rw [cellsL_len] at hlt
  have ea : (⟨g, 0, none⟩ : Addr).add j = ⟨g, j, none⟩ := by
    unfold Addr.add; split
    · next h => subst h; rfl
    · simp
  rw [ea]
  have hi : j / 3 < ds.length := by omega
  have e := cellsL_at ds (j / 3) (j % 3) hi (by omega)
  rw [show j / 3 * 3 + j % 3 = j from by omega, hj] at e
  obtain ⟨h0, h1, h2, _⟩ := h (j / 3) hi
  have hm : j % 3 = 0 ∨ j % 3 = 1 ∨ j % 3 = 2 := by omega
  rcases hm with hm | hm | hm <;> rw [hm] at e <;> simp [Du.cells] at e <;> subst e
  · rw [show j = j / 3 * 3 from by omega]; simpa [List.getD_eq_getElem?_getD] using h0
  · rw [show j = j / 3 * 3 + 1 from by omega]; simpa [List.getD_eq_getElem?_getD, show (j / 3 * 3 + 1) / 3 = j / 3 from by omega] using h1
  · rw [show j = j / 3 * 3 + 2 from by omega]; simpa [List.getD_eq_getElem?_getD, show (j / 3 * 3 + 2) / 3 = j / 3 from by omega] using h2

theorem cells_one (ds : List Du) : ∀ u ∈ cellsL ds, u.oneCell' = true := by
  induction ds with
  | nil => simp [cellsL]
  | cons s r ih =>
    intro u hu
    simp only [cellsL, Du.cells, List.mem_append] at hu
    rcases hu with hu | hu
    · simp at hu; rcases hu with rfl | rfl | rfl <;> rfl
    · exact ih u hu

set_option maxRecDepth 100000 in
set_option maxHeartbeats 400000 in
theorem clone_some (a : Addr) (n cap : Nat) (ds : List Du) (w : World) (hn : ds.length = n) (hm : n ≤ 1048576) (h : ∀ W, Below w.heap.size w W → ∀ j u, (cellsL ds)[j]? = some u → W.cell? (a.add j) = some u) :
    Calls Try.prog 128 #[.slice (some a) n cap] w (NewS w n ds) := by
  have Hn := Lib.hid hn
  clear hn
  have HI := Lib.hid h
  clear h
  obtain ⟨i0, hi0, hz0, hz1, hz2⟩ := info_parts infoDue
  have Hi0 := Lib.hid hi0
  have Hz0 := Lib.hid hz0
  have Hz1 := Lib.hid hz1
  have Hz2 := Lib.hid hz2
  clear hi0 hz0 hz1 hz2
  have hnil := fun W => Lib.run_eql_slice_nil (P := Try.prog) W 29 108 (some a) n cap 0 0 Try.underlying29
  go_enter Try.func128, Try.ntmps128
  go_wp2_with (at_builtin; refine wpList_append_own _ rfl _ _ 29 rfl w.heap.size 108 i0 _ 3 24 Try.underlying29 Hi0.out Hz0.out Hz1.out Hz2.out rfl (by decide) _ 0 [] rfl ?c0h a n cap (cellsL ds) rfl ?c6h ?c1h ?c2h ?c3h ?c4h ?c5h ?_)
  case c0h =>
    have h := World.ownsRow_lit (base := w.heap.size) (e := 108) (size := 3) w #[] 0 (Nat.le_refl _) (by simp) (by simp)
    simp at h
    exact h
  case c6h => rw [cellsL_len, Hn.out]
  case c1h => exact HI.out _ (bel_alloc w _)
  case c2h => exact cells_one ds
  case c3h => unfold maxLen; omega
  case c4h => omega
  case c5h => simp
  · intro v' w1 hown hgr _
    obtain ⟨A', cap', rfl⟩ := owns_form hown
    have Ho := Lib.hid hown
    have Hg := Lib.hid hgr
    clear hown hgr
    go_wp2
    go_ret
    refine ⟨A', cap', by simp, dv_owns (by simpa using Hn.out) Ho.out, (bel_alloc w _).grown Hg.out (by simp) (fun k e => ?_), by have := sh_owns Ho.out; simpa using this⟩
    simp [Value.ownBlock] at e
    omega

set_option maxRecDepth 100000 in
theorem clone_none (cap : Nat) (w : World) : Calls Try.prog 128 #[.slice none 0 cap] w (NewS w 0 []) := by
  have hnil := fun W => Lib.run_eql_slice_nil (P := Try.prog) W 29 108 none 0 cap 0 0 Try.underlying29
  go_enter Try.func128, Try.ntmps128
  go_wp2
  go_ret
  exact ⟨none, 0, rfl, fun h => absurd h (by simp), Below.refl _ _, .inl ⟨rfl, rfl, rfl⟩⟩

theorem clone_sh (A : Option Addr) (n cap lo hi : Nat) (ds : List Du) (w : World) (hn : ds.length = n) (hm : n ≤ 1048576) (h : DV w lo hi A ds) (hs : hi ≤ w.heap.size) :
    Calls Try.prog 128 #[.slice A n cap] w (NewS w n ds) := by
  cases A with
  | none =>
    have h0 : ds = [] := by
      cases ds with
      | nil => rfl
      | cons s r => obtain ⟨_, e, _⟩ := h (by simp); cases e
    subst h0
    subst hn
    exact clone_none cap w
  | some a =>
    by_cases h0 : 0 < ds.length
    · obtain ⟨g, e, h1, h2, h3⟩ := h h0
      injection e with e
      subst e
      exact clone_some _ n cap ds w hn hm (fun W hb => news_rd (h3.of_block (hb.block g (by omega))))
    · have h0 : ds = [] := List.eq_nil_of_length_eq_zero (by omega)
      subst h0
      exact clone_some a n cap [] w hn hm (fun W _ j u hj => by simp [cellsL] at hj)

theorem clone_dv (A : Option Addr) (n cap lo hi : Nat) (ds : List Du) (w : World) (hn : ds.length = n) (hm : n ≤ 1048576) (h : DV w lo hi A ds) (hs : hi ≤ w.heap.size) :
    Calls Try.prog 128 #[.slice A n cap] w (NewD w n ds) := (clone_sh A n cap lo hi ds w hn hm h hs).mono fun _ _ h => h.newD
end Go.Proofs.Ytehdbdolhkflcaa.Hp

namespace Go.Proofs.Ytehdbdolhkflcaa.Hp
open Go.RowKit Go.Deep Base

/-- A boxed tree: its slice and its function. -/
def Tr (w : World) (g : Nat) (A : Option Addr) (n cap : Nat) : Prop := w.heap[g]? = some (.cells #[.slice A n cap, .func (.func 129) #[] #[]] 143 (0, 0))
theorem Tr.cells {w : World} {g : Nat} {A : Option Addr} {n cap : Nat} (h : Tr w g A n cap) : w.cell? ⟨g, 0, none⟩ = some (.slice A n cap) ∧ w.cell? ⟨g, 1, none⟩ = some (.func (.func 129) #[] #[]) ∧ ∀ j, w.frozen? ⟨g, j, none⟩ = false := by
  have hc : ∀ o, w.cell? ⟨g, o, none⟩ = #[.slice A n cap, .func (.func 129) #[] #[]][o]? := fun o => cell_of_row _ _ o _ _ (0, 0) h
  refine ⟨?_, ?_, fun j => by unfold Tr at h; simp [World.frozen?, h]⟩ <;> (rw [hc]; rfl)
theorem Tr.lt {w : World} {g : Nat} {A : Option Addr} {n cap : Nat} (h : Tr w g A n cap) : g < w.heap.size := (Array.getElem?_eq_some_iff.1 h).1
theorem Tr.of_block {w w' : World} {g : Nat} {A : Option Addr} {n cap : Nat} (h : Tr w g A n cap) (e : w'.heap[g]? = w.heap[g]?) : Tr w' g A n cap := e.trans h
theorem Tr.below {w w' : World} {g : Nat} {A : Option Addr} {n cap : Nat} (h : Tr w g A n cap) (hb : Below w.heap.size w w') : Tr w' g A n cap := h.of_block (hb.block g h.lt)

/-- No item ahead of its parent, up to n. -/
def ordB (ds : List Du) (n : Nat) : Bool := (List.range n).all fun i => i == 0 || !before (ds.getD i zDu) (ds.getD (par i) zDu)
theorem ordB_true {ds : List Du} {n : Nat} (h : ∀ i, 0 < i → i < n → before (ds.getD i zDu) (ds.getD (par i) zDu) = false) : ordB ds n = true := by
  unfold ordB
  rw [List.all_eq_true]
  intro i hi
  rw [List.mem_range] at hi
  by_cases e : i = 0
  · subst e; rfl
  · rw [h i (by omega) hi]; simp
theorem ordB_false {ds : List Du} {n k : Nat} (h0 : 0 < k) (hk : k < n) (h : before (ds.getD k zDu) (ds.getD (par k) zDu) = true) : ordB ds n = false := by
  cases e : ordB ds n
  · rfl
  · unfold ordB at e
    rw [List.all_eq_true] at e
    have := e k (List.mem_range.2 hk)
    rw [h] at this
    simp at this
    omega

set_option maxRecDepth 100000 in
set_option maxHeartbeats 1000000 in
theorem ordered_any (b : Nat) (A : Option Addr) (n cap lo hi : Nat) (ds : List Du) (w : World) (hn : ds.length = n) (hm : n ≤ 1048576) (ht : Tr w b A n cap) (h : DV w lo hi A ds) (hs : hi ≤ w.heap.size) :
    Calls Try.prog 131 #[.pointer (some ⟨b, 0, none⟩)] w fun e w' => e = .returned (.bool (ordB ds n)) ∧ Below w.heap.size w w' := by
  have Hn := Lib.hid hn
  have HI := Lib.hid h
  have HT := Lib.hid ht
  clear hn h ht
  go_enter Try.func131, Try.ntmps131
  go_wp2
  go_loopw [3] (fun i wr => ∃ k : Nat, 0 < k ∧ (k ≤ n ∨ k = 1) ∧ i = .int .i64 k ∧ Below w.heap.size w wr ∧ ∀ i, 0 < i → i < k → before (ds.getD i zDu) (ds.getD (par i) zDu) = false) (fun i _ => n - (intOf i).toNat)
  case atStart => exact ⟨1, by omega, .inr rfl, rfl, Below.refl _ _, fun i h0 h1 => absurd h1 (by omega)⟩
  case round =>
    obtain ⟨k, hkp, hk, rfl, hr, hq⟩ := hrel
    have Hr := Lib.hid hr
    have Hq := Lib.hid hq
    clear hr hq
    obtain ⟨x0, x1, xf⟩ := (HT.out.below Hr.out).cells
    have hbl := (HT.out.below Hr.out).lt
    by_cases hlt : k < n
    · obtain ⟨g, rfl, hg1, hg2, hrd⟩ := (HI.out.below Hr.out hs) (by have := Hn.out; omega)
      obtain ⟨c0, c1, c2, _⟩ := hrd k (by have := Hn.out; omega)
      have htd := tdiv_par k hkp
      have hpl : par k < k := by unfold par; omega
      obtain ⟨p, hp⟩ : ∃ p, par k = p := ⟨_, rfl⟩
      rw [hp] at htd hpl
      have Hp := Lib.hid hp
      clear hp
      obtain ⟨p0, p1, p2, _⟩ := hrd p (by have := Hn.out; omega)
      obtain ⟨dat, dseq, did, hd⟩ : ∃ a b c, ds.getD k zDu = ⟨a, b, c⟩ := ⟨_, _, _, rfl⟩
      rw [hd] at c0 c1 c2
      obtain ⟨pat, pseq, pid, hpd⟩ : ∃ a b c, ds.getD p zDu = ⟨a, b, c⟩ := ⟨_, _, _, rfl⟩
      rw [hpd] at p0 p1 p2
      dsimp only at p0 p1 p2 c0 c1 c2
      have Hd := Lib.hid hd
      have Hpd := Lib.hid hpd
      clear hd hpd hrd
      have hk0 : (0 : Int) ≤ (k : Int) := by omega
      have hk1 : (k : Int) < (n : Int) := by omega
      have hpi0 : (0 : Int) ≤ (p : Int) := by omega
      have hpi1 : (p : Int) < (n : Int) := by omega
      have hw1 : IntKind.i64.wrap ((k : Int) - 1) = (k : Int) - 1 := IntWalk.i64_in _ (by omega)
      have hw2 : IntKind.i64.wrap (p : Int) = (p : Int) := IntWalk.i64_in _ (by omega)
      go_wp2_with fail
      go_still_tail 20, (by kernel_rfl)
      change wpList _ _ _ _ _ wr.drew
      go_wp2_with fail
      refine (sooner_any dat dseq did pat pseq pid _).mono ?_
      rintro e w5 ⟨rfl, b5⟩
      have B5 := Lib.hid (bel_trans Hr.out (bel_of_drew b5))
      clear b5
      cases hbf : before ⟨dat, dseq, did⟩ ⟨pat, pseq, pid⟩
      · have Hbf : Hid (before (ds.getD k zDu) (ds.getD (par k) zDu) = false) := by rw [Hp.out, Hd.out, Hpd.out]; exact hbf
        clear hbf
        go_wp2
        go_roundw
        case rel =>
          refine ⟨k + 1, by omega, .inl (by omega), by go_num, B5.out, fun i h0 h1 => ?_⟩
          by_cases e : i = k
          · subst e; exact Hbf.out
          · exact Hq.out i h0 (by omega)
        case measure => simp [intOf]; omega
      · have Ho := Lib.hid (ordB_false (ds := ds) hkp hlt (by rw [Hp.out, Hd.out, Hpd.out]; exact hbf))
        clear hbf
        go_wp2
        go_ret
        exact ⟨by rw [Ho.out]; rfl, B5.out⟩
    · have Ho := Lib.hid (ordB_true (ds := ds) (n := n) (fun i h0 h1 => Hq.out i h0 (by omega)))
      go_wp2
      go_ret
      exact ⟨by rw [Ho.out]; rfl, Hr.out⟩
end Go.Proofs.Ytehdbdolhkflcaa.Hp

namespace Go.Proofs.Ytehdbdolhkflcaa.Hp
open Go.RowKit Go.Deep Base

def entry (x : Int) (i : Nat) : MapEntry := { key := .int .i64 x, val := .bool true, born := i }
def entries : List Int → Nat → List MapEntry
  | [], _ => []
  | x :: r, i => entry x i :: entries r (i + 1)
def mapObj (ids : List Int) : Obj := .map (entries ids 0).toArray ids.length

theorem entries_len : ∀ (ids : List Int) (i : Nat), (entries ids i).length = ids.length
  | [], _ => rfl
  | _ :: r, i => by simp [entries, entries_len r (i + 1)]
theorem entries_snoc : ∀ (ids : List Int) (x : Int) (i : Nat), entries (ids ++ [x]) i = entries ids i ++ [entry x (i + ids.length)]
  | [], x, i => by simp [entries]
  | y :: r, x, i => by
    simp [entries, entries_snoc r x (i + 1)]
    rw [show i + 1 + r.length = i + (r.length + 1) from by omega]

theorem find_now (x : Int) : ∀ (ids : List Int) (i k : Nat), ∃ r, Instr.findNow (.int .i64) (.int .i64 x) (entries ids i) k = some r ∧ (r.map (·.2)) = if ids.contains x then some (.bool true) else none
  | [], i, k => ⟨none, rfl, rfl⟩
  | y :: r, i, k => by
    by_cases e : x = y
    · subst e
      refine ⟨some (k, .bool true), ?_, ?_⟩
      · simp [entries, entry, Instr.findNow, Instr.sameNow]
      · simp
    · obtain ⟨q, h1, h2⟩ := find_now x r (i + 1) (k + 1)
      refine ⟨q, ?_, ?_⟩
      · have hb : (x == y) = false := beq_eq_false_iff_ne.2 e
        simp [entries, entry, Instr.findNow, Instr.sameNow, hb, h1]
      · rw [h2]; simp [e]

theorem check_int (b : Bool) (x : Int) (w : World) : (Instr.checkKey b 10000 3 (.int .i64 x)).run Try.prog w = .ok () w := by
  unfold Instr.checkKey
  simp [Sem.run_bind, run_underlying Try.underlying3]

theorem find_key (x : Int) (ids : List Int) (w : World) : ∃ r, (Instr.findKey 3 (.int .i64 x) (entries ids 0)).run Try.prog w = .ok r w ∧ (r.map (·.2)) = if ids.contains x then some (.bool true) else none := by
  obtain ⟨r, h1, h2⟩ := find_now x ids 0 0
  exact ⟨r, by simp [Instr.findKey, Sem.run_bind, run_underlying Try.underlying3, h1], h2⟩

theorem get_map {w : World} {mb : Nat} {ids : List Int} (h : w.heap[mb]? = some (mapObj ids)) : (getObj mb).run Try.prog w = .ok (mapObj ids) w := by simp [getObj, Sem.run, h, mapObj]

theorem look_ids {w : World} {mb : Nat} {ids : List Int} (h : w.heap[mb]? = some (mapObj ids)) (x : Int) : (Instr.lookup 118 (.map (some mb)) (.int .i64 x) false).run Try.prog w = .ok (.bool (ids.contains x)) w := by
  obtain ⟨r, h1, h2⟩ := find_key x ids w
  have hz : (zeroValue 4).run Try.prog w = .ok (.bool false) w := Try.zeroValue4 w
  have hg := get_map h
  have he : ∀ b, (Instr.checkKey b 10000 3 (.int .i64 x)).run Try.prog w = .ok () w := fun b => check_int b x w
  cases hc : ids.contains x
  · rw [hc] at h2
    have : r = none := by simpa using h2
    subst this
    simp [Instr.lookup, Sem.run_bind, run_underlying Try.underlying118, hg, mapObj, he, h1, hz]
  · rw [hc] at h2
    obtain ⟨q, rfl, hq⟩ : ∃ q, r = some q ∧ q.2 = .bool true := by simpa using h2
    obtain ⟨q1, q2⟩ := q
    simp at hq
    subst hq
    simp [Instr.lookup, Sem.run_bind, run_underlying Try.underlying118, hg, mapObj, he, h1]

theorem put_ids {w : World} {mb : Nat} {ids : List Int} (h : w.heap[mb]? = some (mapObj ids)) {x : Int} (hx : ids.contains x = false) :
    (Instr.mapUpdate 118 (.map (some mb)) (.int .i64 x) (.bool true)).run Try.prog w = .ok () (w.putObj mb (mapObj (ids ++ [x]))) := by
  obtain ⟨r, h1, h2⟩ := find_key x ids w
  rw [hx] at h2
  have : r = none := by simpa using h2
  subst this
  have hg := get_map h
  have hs : (setObj mb (mapObj (ids ++ [x]))).run Try.prog w = .ok () (w.putObj mb (mapObj (ids ++ [x]))) := by simp [setObj, Sem.run, h, World.putObj, mapObj]
  have e2 : mapObj (ids ++ [x]) = Obj.map (entries ids 0 ++ [({ key := .int .i64 x, val := .bool true, born := ids.length } : MapEntry)]).toArray (ids.length + 1) := by simp [mapObj, entries_snoc, entry]
  have he := check_int false x w
  unfold mapObj at hg
  simp [Instr.mapUpdate, Sem.run_bind, run_underlying Try.underlying118, hg, he, h1]
  rw [e2] at hs ⊢
  exact hs

theorem find_old (x : Int) : ∀ (ids : List Int) (i k : Nat), ids.contains x = true → ∃ j, Instr.findNow (.int .i64) (.int .i64 x) (entries ids i) k = some (some (k + j, .bool true)) ∧ (entries ids i)[j]? = some (entry x (i + j))
  | [], _, _, h => by simp at h
  | y :: r, i, k, h => by
    by_cases e : x = y
    · subst e
      exact ⟨0, by simp [entries, entry, Instr.findNow, Instr.sameNow], by simp [entries]⟩
    · have hr : r.contains x = true := by simpa [e] using h
      obtain ⟨j, h1, h2⟩ := find_old x r (i + 1) (k + 1) hr
      have hb : (x == y) = false := beq_eq_false_iff_ne.2 e
      refine ⟨j + 1, ?_, ?_⟩
      · rw [show k + (j + 1) = k + 1 + j from by omega, ← h1]
        simp [entries, entry, Instr.findNow, Instr.sameNow, hb]
      · rw [show i + (j + 1) = i + 1 + j from by omega, ← h2]
        simp [entries]

theorem put_old {w : World} {mb : Nat} {ids : List Int} (h : w.heap[mb]? = some (mapObj ids)) {x : Int} (hx : ids.contains x = true) :
    (Instr.mapUpdate 118 (.map (some mb)) (.int .i64 x) (.bool true)).run Try.prog w = .ok () (w.putObj mb (mapObj ids)) := by
  obtain ⟨j, h1, h2⟩ := find_old x ids 0 0 hx
  rw [Nat.zero_add] at h1 h2
  have hf : (Instr.findKey 3 (.int .i64 x) (entries ids 0)).run Try.prog w = .ok (some (j, .bool true)) w := by simp [Instr.findKey, Sem.run_bind, run_underlying Try.underlying3, h1]
  have hg := get_map h
  have hs : (setObj mb (mapObj ids)).run Try.prog w = .ok () (w.putObj mb (mapObj ids)) := by simp [setObj, Sem.run, h, World.putObj, mapObj]
  have he := check_int false x w
  have hmod : ((entries ids 0).modify j fun e => { key := .int .i64 x, val := .bool true, born := e.born }) = entries ids 0 := by
    apply List.ext_getElem?
    intro i
    rw [List.getElem?_modify]
    by_cases e : j = i
    · subst e
      rw [h2]
      simp [entry]
    · simp [e]
  have hsb : Instr.sameBits 10000 (.int .i64 x) (.int .i64 x) = true := by simp [Instr.sameBits]
  unfold mapObj at hg
  simp [Instr.mapUpdate, Sem.run_bind, run_underlying Try.underlying118, hg, he, hf, h2, entry, Instr.keyThatStays]
  rw [if_pos hsb, hmod]
  exact hs

/-- The keys that a map holds when the first k numbers have been put in. -/
structure Keys (key : Nat → Int) (k : Nat) (S : List Int) : Prop where
  mem : ∀ x, S.contains x = true ↔ ∃ i, i < k ∧ key i = x
  few : S.length ≤ k
  full : S.length = k ↔ ∀ i j, j < i → i < k → key j ≠ key i
theorem Keys.zero (key : Nat → Int) : Keys key 0 [] := ⟨fun x => by simp, by simp, by simp⟩
theorem Keys.old {key : Nat → Int} {k : Nat} {S : List Int} (h : Keys key k S) (hx : S.contains (key k) = true) : Keys key (k + 1) S := by
  obtain ⟨i, hi, he⟩ := (h.mem _).1 hx
  refine ⟨fun x => ?_, by have := h.few; omega, ?_⟩
  · rw [h.mem]
    constructor
    · rintro ⟨j, hj, e⟩; exact ⟨j, by omega, e⟩
    · rintro ⟨j, hj, e⟩
      by_cases ej : j = k
      · subst ej; exact ⟨i, hi, by rw [he, e]⟩
      · exact ⟨j, by omega, e⟩
  · constructor
    · intro hl; have := h.few; omega
    · intro hd; exact absurd he (hd k i hi (by omega))
theorem Keys.new {key : Nat → Int} {k : Nat} {S : List Int} (h : Keys key k S) (hx : S.contains (key k) = false) : Keys key (k + 1) (S ++ [key k]) := by
  have hno : ∀ i, i < k → key i ≠ key k := fun i hi e => by
    rw [(h.mem (key k)).2 ⟨i, hi, e⟩] at hx; cases hx
  refine ⟨fun x => ?_, by have := h.few; simp; omega, ?_⟩
  · have h1 : (S ++ [key k]).contains x = true ↔ S.contains x = true ∨ x = key k := by simp
    rw [h1, h.mem]
    constructor
    · rintro (⟨j, hj, e⟩ | e)
      · exact ⟨j, by omega, e⟩
      · exact ⟨k, by omega, e.symm⟩
    · rintro ⟨j, hj, e⟩
      by_cases ej : j = k
      · subst ej; exact .inr e.symm
      · exact .inl ⟨j, by omega, e⟩
  · rw [List.length_append, List.length_singleton]
    constructor
    · intro hl i j hj hi
      by_cases ei : i = k
      · subst ei; exact hno j hj
      · exact h.full.1 (by omega) i j hj (by omega)
    · intro hd
      have := h.full.2 (fun i j hj hi => hd i j hj (by omega))
      omega

/-- Putting in one number more. -/
theorem put_key {w : World} {mb k : Nat} {key : Nat → Int} {S : List Int} (h : w.heap[mb]? = some (mapObj S)) (hk : Keys key k S) {x : Int} (hx : key k = x) :
    ∃ S', Keys key (k + 1) S' ∧ (Instr.mapUpdate 118 (.map (some mb)) (.int .i64 x) (.bool true)).run Try.prog w = .ok () (w.putObj mb (mapObj S')) := by
  subst hx
  cases hc : S.contains (key k)
  · exact ⟨_, hk.new hc, put_ids h hc⟩
  · exact ⟨_, hk.old hc, put_old h hc⟩

theorem put_turn {w W : World} {mb : Nat} {S S' : List Int} (h : W.heap[mb]? = some (mapObj S)) (hb : Below w.heap.size w W) (hm : w.heap.size ≤ mb) : (W.putObj mb (mapObj S')).heap[mb]? = some (mapObj S') ∧ Below w.heap.size w (W.putObj mb (mapObj S')) ∧ (∀ k, k ≠ mb → (W.putObj mb (mapObj S')).heap[k]? = W.heap[k]?) ∧ (W.putObj mb (mapObj S')).heap.size = W.heap.size := by
  refine ⟨World.putObj_heap_same (Array.getElem?_eq_some_iff.1 h).1, ⟨hb.os, hb.tape, hb.output, by simpa [World.putObj] using hb.size, fun k hk => (World.putObj_heap_other (by omega)).trans (hb.block k hk)⟩, fun k hk => World.putObj_heap_other hk, by simp [World.putObj]⟩

def eachB (ds : List Du) (q : Int) (n : Nat) : Bool := (List.range n).all fun i => okD q (ds.getD i zDu)
def apartB (key : Nat → Int) (n : Nat) : Bool := (List.range n).all fun i => (List.range i).all fun j => !(key j == key i)
theorem apartB_iff {key : Nat → Int} {n : Nat} : apartB key n = true ↔ ∀ i j, j < i → i < n → key j ≠ key i := by
  unfold apartB
  rw [List.all_eq_true]
  constructor
  · intro h i j hj hi
    have h1 := h i (List.mem_range.2 hi)
    rw [List.all_eq_true] at h1
    simpa using h1 j (List.mem_range.2 hj)
  · intro h i hi
    rw [List.mem_range] at hi
    rw [List.all_eq_true]
    intro j hj
    rw [List.mem_range] at hj
    simpa using h i j hj hi
theorem keys_len {key : Nat → Int} {n : Nat} {S : List Int} (h : Keys key n S) : ((S.length : Int) == (n : Int)) = apartB key n := by
  rw [Bool.eq_iff_iff, apartB_iff, ← h.full]
  simp
  omega
theorem eachB_true {ds : List Du} {q : Int} {n : Nat} (h : ∀ i, i < n → okD q (ds.getD i zDu) = true) : eachB ds q n = true := by
  unfold eachB; rw [List.all_eq_true]; exact fun i hi => h i (List.mem_range.1 hi)
theorem eachB_false {ds : List Du} {q : Int} {n k : Nat} (hk : k < n) (h : okD q (ds.getD k zDu) = false) : eachB ds q n = false := by
  cases e : eachB ds q n
  · rfl
  · unfold eachB at e
    rw [List.all_eq_true] at e
    have := e k (List.mem_range.2 hk)
    rw [h] at this
    cases this

def duesB (ds : List Du) (q : Int) (n : Nat) : Bool := decide (n ≤ 100) && eachB ds q n && (apartB (fun i => (ds.getD i zDu).seq) n && apartB (fun i => (ds.getD i zDu).id) n)

theorem okH_eq (ds : List Du) (q : Int) : okH ds q = (Tick.isT q && duesB ds q ds.length && ordB ds ds.length) := by
  rw [Bool.eq_iff_iff]
  constructor
  · intro h
    have v := okH_val h
    unfold duesB
    rw [v.tick, eachB_true v.each, ordB_true v.heap, apartB_iff.2 (fun i j hj hi => (v.apart i j hj hi).2), apartB_iff.2 (fun i j hj hi => (v.apart i j hj hi).1)]
    simp [v.few]
  · intro h
    unfold duesB at h
    simp only [Bool.and_eq_true, decide_eq_true_eq, apartB_iff] at h
    obtain ⟨⟨h1, ⟨h2, h3⟩, h4, h5⟩, h6⟩ := h
    unfold eachB at h3
    unfold ordB at h6
    rw [List.all_eq_true] at h3 h6
    refine okH_true ⟨h2, h1, fun i hi => h3 i (List.mem_range.2 hi), fun i j hj hi => ⟨h5 i j hj hi, h4 i j hj hi⟩, fun k hk hi => ?_⟩
    have h7 := h6 k (List.mem_range.2 hi)
    have e : (k == 0) = false := by simp; omega
    rw [e] at h7
    simpa using h7
end Go.Proofs.Ytehdbdolhkflcaa.Hp

namespace Go.Proofs.Ytehdbdolhkflcaa.Hp
open Go.RowKit Go.Deep Base

structure DuesI (w : World) (ds : List Du) (q : Int) (k : Nat) (wr : World) (S1 S2 : List Int) : Prop where
  m1 : wr.heap[w.heap.size]? = some (mapObj S1)
  m2 : wr.heap[w.heap.size + 1]? = some (mapObj S2)
  k1 : Keys (fun i => (ds.getD i zDu).seq) k S1
  k2 : Keys (fun i => (ds.getD i zDu).id) k S2
  old : Below w.heap.size w wr
  each : ∀ i, i < k → okD q (ds.getD i zDu) = true

theorem duesB_many {ds : List Du} {q : Int} {n : Nat} (h : 100 < n) : duesB ds q n = false := by
  unfold duesB
  rw [decide_eq_false (by omega)]
  rfl
theorem duesB_each {ds : List Du} {q : Int} {n k : Nat} (hk : k < n) (h : okD q (ds.getD k zDu) = false) : duesB ds q n = false := by
  unfold duesB
  rw [eachB_false hk h]
  simp

set_option maxRecDepth 100000 in
set_option maxHeartbeats 2000000 in
theorem duesOk_any (A : Option Addr) (n cap lo hi : Nat) (ds : List Du) (q : Int) (w : World) (hn : ds.length = n) (hm : n ≤ 1048576) (h : DV w lo hi A ds) (hs : hi ≤ w.heap.size) :
    Calls Try.prog 130 #[.slice A n cap, .int .i64 q] w fun e w' => e = .returned (.bool (duesB ds q n)) ∧ Below w.heap.size w w' := by
  have Hn := Lib.hid hn
  have HI := Lib.hid h
  clear hn h
  by_cases h100 : 100 < n
  · have Ho := Lib.hid (duesB_many (ds := ds) (q := q) h100)
    go_enter Try.func130, Try.ntmps130
    go_wp2
    go_ret
    exact ⟨by rw [Ho.out]; rfl, Below.refl _ _⟩
  have hmm := @run_makeMap Try.prog
  go_enter Try.func130, Try.ntmps130
  go_wp2
  clear hmm
  go_loopw [16] (fun i wr => ∃ k : Nat, k ≤ n ∧ i = .int .i64 k ∧ ∃ S1 S2, DuesI w ds q k wr S1 S2) (fun i _ => n - (intOf i).toNat)
  case atStart =>
    refine ⟨0, Nat.zero_le _, rfl, [], [], ⟨?_, ?_, Keys.zero _, Keys.zero _, ((Below.refl _ _).alloc (Nat.le_refl _) _).alloc (by simp) _, fun i h => absurd h (by omega)⟩⟩
    · exact (Below.heap_alloc _ _ _ (by simp)).trans (heap_alloc_new w _)
    · have h := heap_alloc_new (w.alloc (.map #[] 0)) (.map #[] 0)
      rw [World.size_alloc] at h
      exact h
  case round =>
    obtain ⟨k, hk, rfl, S1, S2, hi⟩ := hrel
    have Hi := Lib.hid hi
    have hz2 : w.heap.size + 1 < wr.heap.size := (Array.getElem?_eq_some_iff.1 hi.m2).1
    clear hi
    by_cases hlt : k < n
    · obtain ⟨g, rfl, hg1, hg2, hrd⟩ := (HI.out.below Hi.out.old hs) (by have := Hn.out; omega)
      obtain ⟨c0, c1, c2, _⟩ := hrd k (by have := Hn.out; omega)
      obtain ⟨dat, dseq, did, hd⟩ : ∃ a b c, ds.getD k zDu = ⟨a, b, c⟩ := ⟨_, _, _, rfl⟩
      rw [hd] at c0 c1 c2
      dsimp only at c0 c1 c2
      have Hd := Lib.hid hd
      clear hd hrd
      have hk0 : (0 : Int) ≤ (k : Int) := by omega
      have hk1 : (k : Int) < (n : Int) := by omega
      go_wp2_with fail
      refine (Tick.implTickOk_any dat _).mono ?_
      rintro e w1 ⟨rfl, b1⟩
      have i1 : w1.cell? ⟨wr.heap.size, 1, none⟩ = some (.int .i64 dseq) := (b1.cell (p := ⟨wr.heap.size, 1, none⟩) (by simp)).trans (by simp [go_sem])
      have i2 : w1.cell? ⟨wr.heap.size, 2, none⟩ = some (.int .i64 did) := (b1.cell (p := ⟨wr.heap.size, 2, none⟩) (by simp)).trans (by simp [go_sem])
      have B1 := Lib.hid (bel_trans (bel_alloc wr _) b1)
      have hzw : wr.heap.size < w1.heap.size := by have := b1.size; simp at this; omega
      clear b1 c0 c1 c2
      cases h1 : Tick.isT dat
      · have Ho := Lib.hid (duesB_each (ds := ds) (q := q) hlt (by rw [Hd.out]; unfold okD; rw [h1]; rfl))
        clear h1
        go_wp2
        go_ret
        exact ⟨by rw [Ho.out]; rfl, Hi.out.old.trans (B1.out.mono Hi.out.old.size)⟩
      have H1 := Lib.hid h1
      clear h1
      by_cases h2 : dseq < 1
      · have Ho := Lib.hid (duesB_each (ds := ds) (q := q) hlt (by rw [Hd.out]; unfold okD; rw [Tick.inB_false (x := dseq) (l := 1) (h := q) (.inl h2)]; simp))
        go_wp2
        go_ret
        exact ⟨by rw [Ho.out]; rfl, Hi.out.old.trans (B1.out.mono Hi.out.old.size)⟩
      by_cases h3 : q < dseq
      · have Ho := Lib.hid (duesB_each (ds := ds) (q := q) hlt (by rw [Hd.out]; unfold okD; rw [Tick.inB_false (x := dseq) (l := 1) (h := q) (.inr h3)]; simp))
        go_wp2
        go_ret
        exact ⟨by rw [Ho.out]; rfl, Hi.out.old.trans (B1.out.mono Hi.out.old.size)⟩
      have H23 : Hid (Tick.inB dseq 1 q = true) := Tick.inB_true (by omega) (by omega)
      go_wp2_with fail
      refine (idOk_any did _).mono ?_
      rintro e w' ⟨rfl, rfl⟩
      cases h4 : Tick.inB did 1 1000000000
      · have Ho := Lib.hid (duesB_each (ds := ds) (q := q) hlt (by rw [Hd.out]; unfold okD; rw [h4]; simp))
        clear h4
        go_wp2
        go_ret
        exact ⟨by rw [Ho.out]; rfl, Hi.out.old.trans (B1.out.mono Hi.out.old.size)⟩
      have Hok : Hid (okD q (ds.getD k zDu) = true) := by rw [Hd.out]; unfold okD; rw [H1.out, H23.out, h4]; rfl
      clear h4
      have hBw : Below w.heap.size w w1 := Hi.out.old.trans (B1.out.mono Hi.out.old.size)
      have hm1 : w1.heap[w.heap.size]? = some (mapObj S1) := (B1.out.block _ (by omega)).trans Hi.out.m1
      have hm2 : w1.heap[w.heap.size + 1]? = some (mapObj S2) := (B1.out.block _ (by omega)).trans Hi.out.m2
      obtain ⟨T1, hT1, hp1⟩ := put_key (w := w1.drew) hm1 Hi.out.k1 (x := dseq) (by show (ds.getD k zDu).seq = dseq; rw [Hd.out])
      obtain ⟨M1, hM1⟩ : ∃ M1, w1.drew.putObj w.heap.size (mapObj T1) = M1 := ⟨_, rfl⟩
      obtain ⟨a1, a2, a3, a4⟩ := put_turn (w := w) (W := w1.drew) (S' := T1) hm1 ⟨hBw.os, hBw.tape, hBw.output, hBw.size, hBw.block⟩ (Nat.le_refl _)
      rw [hM1] at hp1 a1 a2 a3 a4
      obtain ⟨T2, hT2, hp2⟩ := put_key (w := M1) ((a3 _ (by omega)).trans hm2) Hi.out.k2 (x := did) (by show (ds.getD k zDu).id = did; rw [Hd.out])
      obtain ⟨M2, hM2⟩ : ∃ M2, M1.putObj (w.heap.size + 1) (mapObj T2) = M2 := ⟨_, rfl⟩
      obtain ⟨e1, e2, e3, e4⟩ := put_turn (w := w) (W := M1) (S' := T2) ((a3 _ (by omega)).trans hm2) a2 (by omega)
      rw [hM2] at hp2 e1 e2 e3 e4
      have HQ : Hid (DuesI w ds q (k + 1) M2 T1 T2) := ⟨(e3 _ (by omega)).trans a1, e1, hT1, hT2, e2, fun i hi => by
        by_cases e : i = k
        · subst e; exact Hok.out
        · exact Hi.out.each i (by omega)⟩
      have j1 : M1.cell? ⟨wr.heap.size, 1, none⟩ = some (.int .i64 dseq) := (World.cell?_of_block (w := w1.drew) (a3 wr.heap.size (by omega))).trans i1
      have j2 : M1.cell? ⟨wr.heap.size, 2, none⟩ = some (.int .i64 did) := (World.cell?_of_block (w := w1.drew) (a3 wr.heap.size (by omega))).trans i2
      have f1 : M2.cell? ⟨wr.heap.size, 1, none⟩ = some (.int .i64 dseq) := (World.cell?_of_block (w := M1) (e3 wr.heap.size (by omega))).trans j1
      have f2 : M2.cell? ⟨wr.heap.size, 2, none⟩ = some (.int .i64 did) := (World.cell?_of_block (w := M1) (e3 wr.heap.size (by omega))).trans j2
      clear hM1 hM2 hm1 hm2 a1 a2 a3 a4 e1 e2 e3 e4 hT1 hT2 hBw
      go_wp2_with fail
      go_region
      all_goals
        go_wp2
        go_roundw
        case rel => exact ⟨k + 1, by omega, by go_num, T1, T2, HQ.out⟩
        case measure => simp [intOf]; omega
    · obtain rfl : k = n := by omega
      have hl1 : (Builtin.len_ #[118] 3 #[.map (some w.heap.size)]).run Try.prog wr = .ok (.int .i64 (S1.length : Int)) wr := by
        obtain ⟨es, hes, hml⟩ : ∃ es : Array MapEntry, es.size = S1.length ∧ wr.heap[w.heap.size]? = some (.map es S1.length) := ⟨_, by simp [entries_len], Hi.out.m1⟩
        rw [← hes]
        exact run_len_map (w := wr) _ _ _ es _ (by kernel_rfl) hml
      have hl2 : (Builtin.len_ #[118] 3 #[.map (some (w.heap.size + 1))]).run Try.prog wr = .ok (.int .i64 (S2.length : Int)) wr := by
        obtain ⟨es, hes, hml⟩ : ∃ es : Array MapEntry, es.size = S2.length ∧ wr.heap[w.heap.size + 1]? = some (.map es S2.length) := ⟨_, by simp [entries_len], Hi.out.m2⟩
        rw [← hes]
        exact run_len_map (w := wr) _ _ _ es _ (by kernel_rfl) hml
      have Hk1 := Lib.hid (keys_len Hi.out.k1)
      have Hk2 := Lib.hid (keys_len Hi.out.k2)
      have Ho : Hid (duesB ds q k = (apartB (fun i => (ds.getD i zDu).seq) k && apartB (fun i => (ds.getD i zDu).id) k)) := by
        show duesB ds q k = _
        unfold duesB
        rw [eachB_true Hi.out.each, decide_eq_true (by omega)]
        rfl
      cases hs1 : ((S1.length : Int) == (k : Int))
      · have Hs1 := Lib.hid hs1
        go_wp2
        go_ret
        exact ⟨by rw [Ho.out, ← Hk1.out, Hs1.out]; rfl, Hi.out.old⟩
      · have Hs1 := Lib.hid hs1
        go_wp2
        go_ret
        exact ⟨by rw [Ho.out, ← Hk1.out, ← Hk2.out, Hs1.out]; rfl, Hi.out.old⟩
end Go.Proofs.Ytehdbdolhkflcaa.Hp

namespace Go.Proofs.Ytehdbdolhkflcaa.Hp
open Go.RowKit Go.Deep Base

def TreeEnd (w : World) (n : Nat) (ds : List Du) (q : Int) (e : Ending) (w' : World) : Prop :=
  ∃ A cap, e = .returned (.tuple #[.agg #[.slice A n cap, .func (.func 129) #[] #[]], .bool (okH ds q)]) ∧ DV w' w.heap.size w'.heap.size A ds ∧ Below w.heap.size w w'

/-- The same, with the form of the slice's block. -/
def TreeSh (w : World) (n : Nat) (ds : List Du) (q : Int) (e : Ending) (w' : World) : Prop :=
  ∃ A cap, e = .returned (.tuple #[.agg #[.slice A n cap, .func (.func 129) #[] #[]], .bool (okH ds q)]) ∧ DV w' w.heap.size w'.heap.size A ds ∧ Below w.heap.size w w' ∧ Sh w' w.heap.size w'.heap.size A n cap

theorem bkeep {w w' : World} {b o : Nat} {v : Value} (h : w.cell? ⟨b, o, none⟩ = some v) (hb : Below w.heap.size w w') : w'.cell? ⟨b, o, none⟩ = some v :=
  (hb.cell (p := ⟨b, o, none⟩) (World.block_lt_of_cell? _ _ h)).trans h

/-- What the comparison reads: the argument's box, the tree's. -/
def Two (x t : Nat) (A : Option Addr) (n cap : Nat) (q : Int) (A1 : Option Addr) (c1 : Nat) (V : World) : Prop :=
  V.cell? ⟨x, 0, none⟩ = some (.slice A n cap) ∧ V.cell? ⟨x, 1, none⟩ = some (.int .i64 q) ∧ V.cell? ⟨t, 0, none⟩ = some (.slice A1 n c1) ∧ V.cell? ⟨t, 1, none⟩ = some (.func (.func 129) #[] #[])
theorem Two.below {x t : Nat} {A : Option Addr} {n cap : Nat} {q : Int} {A1 : Option Addr} {c1 : Nat} {V W : World} (h : Two x t A n cap q A1 c1 V) (hb : Below V.heap.size V W) : Two x t A n cap q A1 c1 W :=
  ⟨bkeep h.1 hb, bkeep h.2.1 hb, bkeep h.2.2.1 hb, bkeep h.2.2.2 hb⟩

theorem Two.set {x t : Nat} {A : Option Addr} {n cap : Nat} {q : Int} {A1 : Option Addr} {c1 : Nat} {V : World} (h : Two x t A n cap q A1 c1 V) {b o : Nat} {u : Value} (h1 : b ≠ x) (h2 : b ≠ t) : Two x t A n cap q A1 c1 (V.setCell ⟨b, o, none⟩ u) :=
  ⟨(World.cell?_setCell_far _ _ _ _ (by show b ≠ x; exact h1)).trans h.1, (World.cell?_setCell_far _ _ _ _ (by show b ≠ x; exact h1)).trans h.2.1, (World.cell?_setCell_far _ _ _ _ (by show b ≠ t; exact h2)).trans h.2.2.1, (World.cell?_setCell_far _ _ _ _ (by show b ≠ t; exact h2)).trans h.2.2.2⟩

set_option maxRecDepth 100000 in
set_option maxHeartbeats 2000000 in
theorem treeOf_sh (A : Option Addr) (n cap lo hi : Nat) (ds : List Du) (q : Int) (w : World) (hn : ds.length = n) (hm : n ≤ 1048576) (h : DV w lo hi A ds) (hs : hi ≤ w.heap.size) :
    Calls Try.prog 113 #[.agg #[.slice A n cap, .int .i64 q]] w (TreeSh w n ds q) := by
  have Hn := Lib.hid hn
  have HI := Lib.hid h
  clear hn h
  go_enter Try.func113, Try.ntmps113
  go_wp2_with fail
  have hB0 : Below w.heap.size w ((w.alloc (.cells #[.slice A n cap, .int .i64 q] 31)).alloc (.cells #[.slice none 0 0, .nilFunc] 143)) := ((Below.refl _ _).alloc (Nat.le_refl _) _).alloc (by simp) _
  refine (clone_sh A n cap lo hi ds _ Hn.out hm (HI.out.below hB0 hs) (by simp; omega)).mono ?_
  rintro e w1 ⟨A1, c1, rfl, v1, b1, sh1⟩
  simp only [World.size_alloc] at sh1
  have Q1 : Blk2 w1 w.heap.size (.slice A n cap) (.int .i64 q) := Blk2.below (Blk2.alloc (heap_alloc_new w _) _) b1
  have R1 : w1.heap[w.heap.size + 1]? = some (.cells #[.slice none 0 0, .nilFunc] 143 (0, 0)) := by
    have h := heap_alloc_new (w.alloc (.cells #[.slice A n cap, .int .i64 q] 31)) (.cells #[.slice none 0 0, .nilFunc] 143)
    rw [World.size_alloc] at h
    exact (b1.block _ (by simp)).trans h
  have V1 : DV w1 (w.heap.size + 1 + 1) w1.heap.size A1 ds := by have h := v1; simp only [World.size_alloc] at h; exact h
  have hBB := bel_trans hB0 b1
  have z1 : w.heap.size + 1 < w1.heap.size := (Array.getElem?_eq_some_iff.1 R1).1
  clear b1 v1 hB0
  go_wp2_with fail
  obtain ⟨W3, hW3⟩ : ∃ W3, w1.alloc (.cells #[.slice A1 n c1, .func (.func 129) #[] #[]] 143) = W3 := ⟨_, rfl⟩
  have Q3 : Blk2 W3 w.heap.size (.slice A n cap) (.int .i64 q) := by rw [← hW3]; exact Q1.alloc _
  have R3 : W3.heap[w.heap.size + 1]? = some (.cells #[.slice none 0 0, .nilFunc] 143 (0, 0)) := by rw [← hW3]; exact (Below.heap_alloc w1 _ _ z1).trans R1
  have T3 : Tr W3 w1.heap.size A1 n c1 := by rw [← hW3]; exact heap_alloc_new w1 _
  have V3 : Hid (DV W3 (w.heap.size + 1 + 1) w1.heap.size A1 ds) := by rw [← hW3]; exact V1.below (bel_alloc w1 _) (Nat.le_refl _)
  have B3 : Hid (Below w.heap.size w W3) := by rw [← hW3]; exact bel_trans hBB (bel_alloc w1 _)
  have S3 : Hid (Sh W3 (w.heap.size + 1 + 1) w1.heap.size A1 n c1) := by rw [← hW3]; exact sh1.below (bel_alloc w1 _) (Nat.le_refl _)
  have z3 : w1.heap.size < W3.heap.size := by rw [← hW3]; simp
  rw [hW3]
  have HR3 := Lib.hid R3
  have HT3 := Lib.hid T3
  clear hW3 Q1 R1 V1 hBB sh1
  obtain ⟨n0, n1, _⟩ := Q3.cells
  obtain ⟨t0, t1, _⟩ := T3.cells
  clear Q3 R3 T3
  have Heq := Lib.hid (okH_eq ds q)
  have HS3 : Hid (Two w.heap.size w1.heap.size A n cap q A1 c1 W3.drew) := ⟨n0, n1, t0, t1⟩
  cases hq : Tick.isT q
  · have HTq : Hid (∀ W, Calls Try.prog 88 #[.int .i64 q] W fun e w' => e = .returned (.bool false) ∧ Below W.heap.size W w') := fun W => by have := Tick.implTickOk_any q W; rw [hq] at this; exact this
    have Ho : Hid (okH ds q = false) := by show okH ds q = false; rw [Heq.out, hq]; rfl
    clear hq
    refine wp_region_held_drew (S := Two w.heap.size w1.heap.size A n cap q A1 c1) (by kernel_rfl) HS3.out (fun _ => ?_)
    refine wpAnyH_take (i := 0) (v := (.agg #[.slice A1 n c1, .func (.func 129) #[] #[]])) rfl (by kernel_rfl) (by kernel_rfl) (by kernel_rfl) (fun _ _ _ h => h) (.inl ⟨rfl, fun V hS => ?y0⟩) (HS3).out ?_
    case y0 =>
      obtain ⟨s0, s1, s2, s3⟩ := hS
      go_simp
    go_simp
    refine wpAnyH_take (i := 1) (v := (.pointer (some ⟨w.heap.size, 1, none⟩))) rfl (by kernel_rfl) (by kernel_rfl) (by kernel_rfl) (fun _ _ _ h => h) (.inl ⟨rfl, fun V hS => ?y0⟩) (HS3).out ?_
    case y0 =>
      obtain ⟨s0, s1, s2, s3⟩ := hS
      go_simp
    go_simp
    refine wpAnyH_take (i := 2) (v := (.int .i64 q)) rfl (by kernel_rfl) (by kernel_rfl) (by kernel_rfl) (fun _ _ _ h => h) (.inl ⟨rfl, fun V hS => ?y0⟩) (HS3).out ?_
    case y0 =>
      obtain ⟨s0, s1, s2, s3⟩ := hS
      go_simp
    go_simp
    refine wpAnyH_ready (rs := [3]) (by kernel_rfl) (by simp) (AllReadyH.cons rfl (fun J hJ => ?_) AllReadyH.nil)
    go_simp
    refine (HTq.out _).mono ?_
    rintro e w5 ⟨rfl, b5⟩
    have B5 := Lib.hid (bel_of_drew b5)
    have HS5 := Lib.hid (HS3.out.below b5)
    clear b5
    refine hJ.out _ _ HS5.out (fun _ => ?_)
    go_simp
    refine wpAnyH_take (i := 4) (v := (.bool false)) rfl (by kernel_rfl) (by kernel_rfl) (by kernel_rfl) (fun _ _ _ h => h) (.inl ⟨rfl, fun V hS => ?y0⟩) (HS5).out ?_
    case y0 =>
      obtain ⟨s0, s1, s2, s3⟩ := hS
      go_simp
    go_simp
    refine wpAnyH_take (i := 5) (v := undef) rfl (by kernel_rfl) (by kernel_rfl) (by kernel_rfl) (fun _ _ _ h => h) (.inr ⟨rfl, rfl⟩) (HS5).out ?_
    go_simp
    refine wpAnyH_take (i := 6) (v := undef) rfl (by kernel_rfl) (by kernel_rfl) (by kernel_rfl) (fun _ _ _ h => h) (.inr ⟨rfl, rfl⟩) (HS5).out ?_
    go_simp
    refine wpAnyH_take (i := 7) (v := undef) rfl (by kernel_rfl) (by kernel_rfl) (by kernel_rfl) (fun _ _ _ h => h) (.inr ⟨rfl, rfl⟩) (HS5).out ?_
    go_simp
    refine wpAnyH_take (i := 8) (v := undef) rfl (by kernel_rfl) (by kernel_rfl) (by kernel_rfl) (fun _ _ _ h => h) (.inr ⟨rfl, rfl⟩) (HS5).out ?_
    go_simp
    refine wpAnyH_take (i := 9) (v := undef) rfl (by kernel_rfl) (by kernel_rfl) (by kernel_rfl) (fun _ _ _ h => h) (.inr ⟨rfl, rfl⟩) (HS5).out ?_
    go_simp
    refine wpAnyH_take (i := 10) (v := (.bool false)) rfl (by kernel_rfl) (by kernel_rfl) (by kernel_rfl) (fun _ _ _ h => h) (.inl ⟨rfl, fun V hS => ?y0⟩) (HS5).out ?_
    case y0 =>
      obtain ⟨s0, s1, s2, s3⟩ := hS
      go_simp
    go_simp
    refine wpAnyH_take (i := 11) (v := (.bool false)) rfl (by kernel_rfl) (by kernel_rfl) (by kernel_rfl) (fun _ _ _ h => h) (.inl ⟨rfl, fun V hS => ?y0⟩) (HS5).out ?_
    case y0 =>
      obtain ⟨s0, s1, s2, s3⟩ := hS
      go_simp
    go_simp
    refine wpAnyH_take (i := 12) (v := undef) rfl (by kernel_rfl) (by kernel_rfl) (by kernel_rfl) (fun _ _ _ h => h) (.inr ⟨rfl, rfl⟩) (HS5).out ?_
    go_simp
    refine wpAnyH_take (i := 13) (v := (.bool false)) rfl (by kernel_rfl) (by kernel_rfl) (by kernel_rfl) (fun _ _ _ h => h) (.inl ⟨rfl, fun V hS => ?y0⟩) (HS5).out ?_
    case y0 =>
      obtain ⟨s0, s1, s2, s3⟩ := hS
      go_simp
    go_simp
    have R5 : (w5).heap[w.heap.size + 1]? = some (.cells #[.slice none 0 0, .nilFunc] 143 (0, 0)) := ((B5).out.block _ (by omega)).trans HR3.out
    have r0 : (w5).cell? ⟨w.heap.size + 1, 0, none⟩ = some (.slice none 0 0) := by simp [World.cell?, R5]
    have r1 : (w5).cell? ⟨w.heap.size + 1, 1, none⟩ = some .nilFunc := by simp [World.cell?, R5]
    have rf : ∀ j, (w5).frozen? ⟨w.heap.size + 1, j, none⟩ = false := fun j => by simp [World.frozen?, R5]
    refine wpAnyH_ready (rs := [14]) (by kernel_rfl) (by simp) (AllReadyH.cons rfl (fun J hJ => ?_) AllReadyH.nil)
    go_simp
    have HSa := Lib.hid ((((HS5).out.set (o := 0) (u := .slice A1 n c1) (show w.heap.size + 1 ≠ w.heap.size by omega) (show w.heap.size + 1 ≠ w1.heap.size by omega)).set (o := 1) (u := .func (.func 129) #[] #[]) (show w.heap.size + 1 ≠ w.heap.size by omega) (show w.heap.size + 1 ≠ w1.heap.size by omega)))
    refine hJ.out _ _ HSa.out (fun _ => ?_)
    refine wpAnyH_ready (rs := [15]) (by kernel_rfl) (by simp) (AllReadyH.cons rfl (fun J hJ => ?_) AllReadyH.nil)
    go_simp
    refine hJ.out _ _ HSa.out (fun _ => ?_)
    refine wpAnyH_done (by kernel_rfl) ?_ _
    go_wp2
    refine bodyPost_ret (v := .tuple #[.agg #[.slice A1 n c1, .func (.func 129) #[] #[]], .bool false]) (by simp [results, Try.results113, go_sem, r0, r1]) rfl ⟨A1, c1, by rw [Ho.out], ?_, ?_⟩
    · refine DV.wide (lo := w.heap.size + 1 + 1) (hi := w1.heap.size) ?_ (by omega) (by simp [World.setCell]; have := (B5).out.size; omega)
      iterate 2 refine DV.setCell ?_ (by show w.heap.size + 1 < w.heap.size + 1 + 1; omega) _
      exact V3.out.below (B5).out (by omega)
    · refine ⟨?_, ?_⟩
      · iterate 2 refine Below.setCell ?_ (by show w.heap.size ≤ w.heap.size + 1; omega) _
        exact B3.out.trans ((B5).out.mono B3.out.size)
      · refine Sh.wide (lo := w.heap.size + 1 + 1) (hi := w1.heap.size) ?_ (by omega) (by simp [World.setCell]; have := (B5).out.size; omega)
        iterate 2 refine Sh.setCell ?_ (by show w.heap.size + 1 < w.heap.size + 1 + 1; omega) _
        exact S3.out.below (B5).out (by omega)
  have HTq : Hid (∀ W, Calls Try.prog 88 #[.int .i64 q] W fun e w' => e = .returned (.bool true) ∧ Below W.heap.size W w') := fun W => by have := Tick.implTickOk_any q W; rw [hq] at this; exact this
  have Hq := Lib.hid hq
  clear hq
  cases hd : duesB ds q n
  · have Ho : Hid (okH ds q = false) := by show okH ds q = false; rw [Heq.out, Hq.out, Hn.out, hd]; rfl
    have Hd := Lib.hid hd
    clear hd
    refine wp_region_held_drew (S := Two w.heap.size w1.heap.size A n cap q A1 c1) (by kernel_rfl) HS3.out (fun _ => ?_)
    refine wpAnyH_take (i := 0) (v := (.agg #[.slice A1 n c1, .func (.func 129) #[] #[]])) rfl (by kernel_rfl) (by kernel_rfl) (by kernel_rfl) (fun _ _ _ h => h) (.inl ⟨rfl, fun V hS => ?y0⟩) (HS3).out ?_
    case y0 =>
      obtain ⟨s0, s1, s2, s3⟩ := hS
      go_simp
    go_simp
    refine wpAnyH_take (i := 1) (v := (.pointer (some ⟨w.heap.size, 1, none⟩))) rfl (by kernel_rfl) (by kernel_rfl) (by kernel_rfl) (fun _ _ _ h => h) (.inl ⟨rfl, fun V hS => ?y0⟩) (HS3).out ?_
    case y0 =>
      obtain ⟨s0, s1, s2, s3⟩ := hS
      go_simp
    go_simp
    refine wpAnyH_take (i := 2) (v := (.int .i64 q)) rfl (by kernel_rfl) (by kernel_rfl) (by kernel_rfl) (fun _ _ _ h => h) (.inl ⟨rfl, fun V hS => ?y0⟩) (HS3).out ?_
    case y0 =>
      obtain ⟨s0, s1, s2, s3⟩ := hS
      go_simp
    go_simp
    refine wpAnyH_ready (rs := [3]) (by kernel_rfl) (by simp) (AllReadyH.cons rfl (fun J hJ => ?_) AllReadyH.nil)
    go_simp
    refine (HTq.out _).mono ?_
    rintro e w5 ⟨rfl, b5⟩
    have B5 := Lib.hid (bel_of_drew b5)
    have HS5 := Lib.hid (HS3.out.below b5)
    clear b5
    refine hJ.out _ _ HS5.out (fun _ => ?_)
    go_simp
    refine wpAnyH_take (i := 4) (v := (.bool true)) rfl (by kernel_rfl) (by kernel_rfl) (by kernel_rfl) (fun _ _ _ h => h) (.inl ⟨rfl, fun V hS => ?y0⟩) (HS5).out ?_
    case y0 =>
      obtain ⟨s0, s1, s2, s3⟩ := hS
      go_simp
    go_simp
    refine wpAnyH_take (i := 5) (v := (.pointer (some ⟨w.heap.size, 0, none⟩))) rfl (by kernel_rfl) (by kernel_rfl) (by kernel_rfl) (fun _ _ _ h => h) (.inl ⟨rfl, fun V hS => ?y0⟩) (HS5).out ?_
    case y0 =>
      obtain ⟨s0, s1, s2, s3⟩ := hS
      go_simp
    go_simp
    refine wpAnyH_take (i := 6) (v := (.slice A n cap)) rfl (by kernel_rfl) (by kernel_rfl) (by kernel_rfl) (fun _ _ _ h => h) (.inl ⟨rfl, fun V hS => ?y0⟩) (HS5).out ?_
    case y0 =>
      obtain ⟨s0, s1, s2, s3⟩ := hS
      go_simp
    go_simp
    refine wpAnyH_take (i := 7) (v := (.pointer (some ⟨w.heap.size, 1, none⟩))) rfl (by kernel_rfl) (by kernel_rfl) (by kernel_rfl) (fun _ _ _ h => h) (.inl ⟨rfl, fun V hS => ?y0⟩) (HS5).out ?_
    case y0 =>
      obtain ⟨s0, s1, s2, s3⟩ := hS
      go_simp
    go_simp
    refine wpAnyH_take (i := 8) (v := (.int .i64 q)) rfl (by kernel_rfl) (by kernel_rfl) (by kernel_rfl) (fun _ _ _ h => h) (.inl ⟨rfl, fun V hS => ?y0⟩) (HS5).out ?_
    case y0 =>
      obtain ⟨s0, s1, s2, s3⟩ := hS
      go_simp
    go_simp
    refine wpAnyH_ready (rs := [9]) (by kernel_rfl) (by simp) (AllReadyH.cons rfl (fun J hJ => ?_) AllReadyH.nil)
    go_simp
    refine (duesOk_any A n cap lo hi ds q w5 Hn.out hm (HI.out.below (B3.out.trans (B5.out.mono B3.out.size)) hs) (Nat.le_trans hs (B3.out.trans (B5.out.mono B3.out.size)).size)).mono ?_
    rintro e w6 ⟨rfl, b6⟩
    rw [Hd.out]
    have B6 := Lib.hid (bel_trans B5.out b6)
    have HS6 := Lib.hid (HS5.out.below b6)
    clear b6
    refine hJ.out _ _ HS6.out (fun _ => ?_)
    go_simp
    refine wpAnyH_take (i := 10) (v := (.bool false)) rfl (by kernel_rfl) (by kernel_rfl) (by kernel_rfl) (fun _ _ _ h => h) (.inl ⟨rfl, fun V hS => ?y0⟩) (HS6).out ?_
    case y0 =>
      obtain ⟨s0, s1, s2, s3⟩ := hS
      go_simp
    go_simp
    refine wpAnyH_take (i := 11) (v := (.bool false)) rfl (by kernel_rfl) (by kernel_rfl) (by kernel_rfl) (fun _ _ _ h => h) (.inl ⟨rfl, fun V hS => ?y0⟩) (HS6).out ?_
    case y0 =>
      obtain ⟨s0, s1, s2, s3⟩ := hS
      go_simp
    go_simp
    skip
    refine wpAnyH_take (i := 12) (v := undef) rfl (by kernel_rfl) (by kernel_rfl) (by kernel_rfl) (fun _ _ _ h => h) (.inr ⟨rfl, rfl⟩) (HS6).out ?_
    go_simp
    refine wpAnyH_take (i := 13) (v := (.bool false)) rfl (by kernel_rfl) (by kernel_rfl) (by kernel_rfl) (fun _ _ _ h => h) (.inl ⟨rfl, fun V hS => ?y0⟩) (HS6).out ?_
    case y0 =>
      obtain ⟨s0, s1, s2, s3⟩ := hS
      go_simp
    go_simp
    have R5 : (w6).heap[w.heap.size + 1]? = some (.cells #[.slice none 0 0, .nilFunc] 143 (0, 0)) := ((B6).out.block _ (by omega)).trans HR3.out
    have r0 : (w6).cell? ⟨w.heap.size + 1, 0, none⟩ = some (.slice none 0 0) := by simp [World.cell?, R5]
    have r1 : (w6).cell? ⟨w.heap.size + 1, 1, none⟩ = some .nilFunc := by simp [World.cell?, R5]
    have rf : ∀ j, (w6).frozen? ⟨w.heap.size + 1, j, none⟩ = false := fun j => by simp [World.frozen?, R5]
    refine wpAnyH_ready (rs := [14]) (by kernel_rfl) (by simp) (AllReadyH.cons rfl (fun J hJ => ?_) AllReadyH.nil)
    go_simp
    have HSa := Lib.hid ((((HS6).out.set (o := 0) (u := .slice A1 n c1) (show w.heap.size + 1 ≠ w.heap.size by omega) (show w.heap.size + 1 ≠ w1.heap.size by omega)).set (o := 1) (u := .func (.func 129) #[] #[]) (show w.heap.size + 1 ≠ w.heap.size by omega) (show w.heap.size + 1 ≠ w1.heap.size by omega)))
    refine hJ.out _ _ HSa.out (fun _ => ?_)
    refine wpAnyH_ready (rs := [15]) (by kernel_rfl) (by simp) (AllReadyH.cons rfl (fun J hJ => ?_) AllReadyH.nil)
    go_simp
    refine hJ.out _ _ HSa.out (fun _ => ?_)
    refine wpAnyH_done (by kernel_rfl) ?_ _
    go_wp2
    refine bodyPost_ret (v := .tuple #[.agg #[.slice A1 n c1, .func (.func 129) #[] #[]], .bool false]) (by simp [results, Try.results113, go_sem, r0, r1]) rfl ⟨A1, c1, by rw [Ho.out], ?_, ?_⟩
    · refine DV.wide (lo := w.heap.size + 1 + 1) (hi := w1.heap.size) ?_ (by omega) (by simp [World.setCell]; have := (B6).out.size; omega)
      iterate 2 refine DV.setCell ?_ (by show w.heap.size + 1 < w.heap.size + 1 + 1; omega) _
      exact V3.out.below (B6).out (by omega)
    · refine ⟨?_, ?_⟩
      · iterate 2 refine Below.setCell ?_ (by show w.heap.size ≤ w.heap.size + 1; omega) _
        exact B3.out.trans ((B6).out.mono B3.out.size)
      · refine Sh.wide (lo := w.heap.size + 1 + 1) (hi := w1.heap.size) ?_ (by omega) (by simp [World.setCell]; have := (B6).out.size; omega)
        iterate 2 refine Sh.setCell ?_ (by show w.heap.size + 1 < w.heap.size + 1 + 1; omega) _
        exact S3.out.below (B6).out (by omega)
  have Hd := Lib.hid hd
  clear hd
  have HTr6 : Hid (∀ W, Below W3.heap.size W3 W → Tr W w1.heap.size A1 n c1) := fun W hb => HT3.out.below hb
  cases ho : ordB ds n
  · have Ho : Hid (okH ds q = false) := by show okH ds q = false; rw [Heq.out, Hq.out, Hn.out, Hd.out, ho]; rfl
    have Hor := Lib.hid ho
    clear ho
    refine wp_region_held_drew (S := Two w.heap.size w1.heap.size A n cap q A1 c1) (by kernel_rfl) HS3.out (fun _ => ?_)
    refine wpAnyH_take (i := 0) (v := (.agg #[.slice A1 n c1, .func (.func 129) #[] #[]])) rfl (by kernel_rfl) (by kernel_rfl) (by kernel_rfl) (fun _ _ _ h => h) (.inl ⟨rfl, fun V hS => ?y0⟩) (HS3).out ?_
    case y0 =>
      obtain ⟨s0, s1, s2, s3⟩ := hS
      go_simp
    go_simp
    refine wpAnyH_take (i := 1) (v := (.pointer (some ⟨w.heap.size, 1, none⟩))) rfl (by kernel_rfl) (by kernel_rfl) (by kernel_rfl) (fun _ _ _ h => h) (.inl ⟨rfl, fun V hS => ?y0⟩) (HS3).out ?_
    case y0 =>
      obtain ⟨s0, s1, s2, s3⟩ := hS
      go_simp
    go_simp
    refine wpAnyH_take (i := 2) (v := (.int .i64 q)) rfl (by kernel_rfl) (by kernel_rfl) (by kernel_rfl) (fun _ _ _ h => h) (.inl ⟨rfl, fun V hS => ?y0⟩) (HS3).out ?_
    case y0 =>
      obtain ⟨s0, s1, s2, s3⟩ := hS
      go_simp
    go_simp
    refine wpAnyH_ready (rs := [3]) (by kernel_rfl) (by simp) (AllReadyH.cons rfl (fun J hJ => ?_) AllReadyH.nil)
    go_simp
    refine (HTq.out _).mono ?_
    rintro e w5 ⟨rfl, b5⟩
    have B5 := Lib.hid (bel_of_drew b5)
    have HS5 := Lib.hid (HS3.out.below b5)
    clear b5
    refine hJ.out _ _ HS5.out (fun _ => ?_)
    go_simp
    refine wpAnyH_take (i := 4) (v := (.bool true)) rfl (by kernel_rfl) (by kernel_rfl) (by kernel_rfl) (fun _ _ _ h => h) (.inl ⟨rfl, fun V hS => ?y0⟩) (HS5).out ?_
    case y0 =>
      obtain ⟨s0, s1, s2, s3⟩ := hS
      go_simp
    go_simp
    refine wpAnyH_take (i := 5) (v := (.pointer (some ⟨w.heap.size, 0, none⟩))) rfl (by kernel_rfl) (by kernel_rfl) (by kernel_rfl) (fun _ _ _ h => h) (.inl ⟨rfl, fun V hS => ?y0⟩) (HS5).out ?_
    case y0 =>
      obtain ⟨s0, s1, s2, s3⟩ := hS
      go_simp
    go_simp
    refine wpAnyH_take (i := 6) (v := (.slice A n cap)) rfl (by kernel_rfl) (by kernel_rfl) (by kernel_rfl) (fun _ _ _ h => h) (.inl ⟨rfl, fun V hS => ?y0⟩) (HS5).out ?_
    case y0 =>
      obtain ⟨s0, s1, s2, s3⟩ := hS
      go_simp
    go_simp
    refine wpAnyH_take (i := 7) (v := (.pointer (some ⟨w.heap.size, 1, none⟩))) rfl (by kernel_rfl) (by kernel_rfl) (by kernel_rfl) (fun _ _ _ h => h) (.inl ⟨rfl, fun V hS => ?y0⟩) (HS5).out ?_
    case y0 =>
      obtain ⟨s0, s1, s2, s3⟩ := hS
      go_simp
    go_simp
    refine wpAnyH_take (i := 8) (v := (.int .i64 q)) rfl (by kernel_rfl) (by kernel_rfl) (by kernel_rfl) (fun _ _ _ h => h) (.inl ⟨rfl, fun V hS => ?y0⟩) (HS5).out ?_
    case y0 =>
      obtain ⟨s0, s1, s2, s3⟩ := hS
      go_simp
    go_simp
    refine wpAnyH_ready (rs := [9]) (by kernel_rfl) (by simp) (AllReadyH.cons rfl (fun J hJ => ?_) AllReadyH.nil)
    go_simp
    refine (duesOk_any A n cap lo hi ds q w5 Hn.out hm (HI.out.below (B3.out.trans (B5.out.mono B3.out.size)) hs) (Nat.le_trans hs (B3.out.trans (B5.out.mono B3.out.size)).size)).mono ?_
    rintro e w6 ⟨rfl, b6⟩
    rw [Hd.out]
    have B6 := Lib.hid (bel_trans B5.out b6)
    have HS6 := Lib.hid (HS5.out.below b6)
    clear b6
    refine hJ.out _ _ HS6.out (fun _ => ?_)
    go_simp
    refine wpAnyH_take (i := 10) (v := (.bool true)) rfl (by kernel_rfl) (by kernel_rfl) (by kernel_rfl) (fun _ _ _ h => h) (.inl ⟨rfl, fun V hS => ?y0⟩) (HS6).out ?_
    case y0 =>
      obtain ⟨s0, s1, s2, s3⟩ := hS
      go_simp
    go_simp
    refine wpAnyH_take (i := 11) (v := (.bool true)) rfl (by kernel_rfl) (by kernel_rfl) (by kernel_rfl) (fun _ _ _ h => h) (.inl ⟨rfl, fun V hS => ?y0⟩) (HS6).out ?_
    case y0 =>
      obtain ⟨s0, s1, s2, s3⟩ := hS
      go_simp
    go_simp
    skip
    refine wpAnyH_ready (rs := [12]) (by kernel_rfl) (by simp) (AllReadyH.cons rfl (fun J hJ => ?_) AllReadyH.nil)
    go_simp
    refine (ordered_any w1.heap.size A1 n c1 (w.heap.size + 1 + 1) w1.heap.size ds w6 Hn.out hm (HTr6.out _ B6.out) (V3.out.below B6.out (by omega)) (by have := B6.out.size; omega)).mono ?_
    rintro e w7 ⟨rfl, b7⟩
    rw [Hor.out]
    have B7 := Lib.hid (bel_trans B6.out b7)
    have HS7 := Lib.hid (HS6.out.below b7)
    clear b7
    refine hJ.out _ _ HS7.out (fun _ => ?_)
    go_simp
    refine wpAnyH_take (i := 13) (v := (.bool false)) rfl (by kernel_rfl) (by kernel_rfl) (by kernel_rfl) (fun _ _ _ h => h) (.inl ⟨rfl, fun V hS => ?y0⟩) (HS7).out ?_
    case y0 =>
      obtain ⟨s0, s1, s2, s3⟩ := hS
      go_simp
    go_simp
    skip
    have R5 : (w7).heap[w.heap.size + 1]? = some (.cells #[.slice none 0 0, .nilFunc] 143 (0, 0)) := ((B7).out.block _ (by omega)).trans HR3.out
    have r0 : (w7).cell? ⟨w.heap.size + 1, 0, none⟩ = some (.slice none 0 0) := by simp [World.cell?, R5]
    have r1 : (w7).cell? ⟨w.heap.size + 1, 1, none⟩ = some .nilFunc := by simp [World.cell?, R5]
    have rf : ∀ j, (w7).frozen? ⟨w.heap.size + 1, j, none⟩ = false := fun j => by simp [World.frozen?, R5]
    refine wpAnyH_ready (rs := [14]) (by kernel_rfl) (by simp) (AllReadyH.cons rfl (fun J hJ => ?_) AllReadyH.nil)
    go_simp
    have HSa := Lib.hid ((((HS7).out.set (o := 0) (u := .slice A1 n c1) (show w.heap.size + 1 ≠ w.heap.size by omega) (show w.heap.size + 1 ≠ w1.heap.size by omega)).set (o := 1) (u := .func (.func 129) #[] #[]) (show w.heap.size + 1 ≠ w.heap.size by omega) (show w.heap.size + 1 ≠ w1.heap.size by omega)))
    refine hJ.out _ _ HSa.out (fun _ => ?_)
    refine wpAnyH_ready (rs := [15]) (by kernel_rfl) (by simp) (AllReadyH.cons rfl (fun J hJ => ?_) AllReadyH.nil)
    go_simp
    refine hJ.out _ _ HSa.out (fun _ => ?_)
    refine wpAnyH_done (by kernel_rfl) ?_ _
    go_wp2
    refine bodyPost_ret (v := .tuple #[.agg #[.slice A1 n c1, .func (.func 129) #[] #[]], .bool false]) (by simp [results, Try.results113, go_sem, r0, r1]) rfl ⟨A1, c1, by rw [Ho.out], ?_, ?_⟩
    · refine DV.wide (lo := w.heap.size + 1 + 1) (hi := w1.heap.size) ?_ (by omega) (by simp [World.setCell]; have := (B7).out.size; omega)
      iterate 2 refine DV.setCell ?_ (by show w.heap.size + 1 < w.heap.size + 1 + 1; omega) _
      exact V3.out.below (B7).out (by omega)
    · refine ⟨?_, ?_⟩
      · iterate 2 refine Below.setCell ?_ (by show w.heap.size ≤ w.heap.size + 1; omega) _
        exact B3.out.trans ((B7).out.mono B3.out.size)
      · refine Sh.wide (lo := w.heap.size + 1 + 1) (hi := w1.heap.size) ?_ (by omega) (by simp [World.setCell]; have := (B7).out.size; omega)
        iterate 2 refine Sh.setCell ?_ (by show w.heap.size + 1 < w.heap.size + 1 + 1; omega) _
        exact S3.out.below (B7).out (by omega)
  · have Ho : Hid (okH ds q = true) := by show okH ds q = true; rw [Heq.out, Hq.out, Hn.out, Hd.out, ho]; rfl
    have Hor := Lib.hid ho
    clear ho
    refine wp_region_held_drew (S := Two w.heap.size w1.heap.size A n cap q A1 c1) (by kernel_rfl) HS3.out (fun _ => ?_)
    refine wpAnyH_take (i := 0) (v := (.agg #[.slice A1 n c1, .func (.func 129) #[] #[]])) rfl (by kernel_rfl) (by kernel_rfl) (by kernel_rfl) (fun _ _ _ h => h) (.inl ⟨rfl, fun V hS => ?y0⟩) (HS3).out ?_
    case y0 =>
      obtain ⟨s0, s1, s2, s3⟩ := hS
      go_simp
    go_simp
    refine wpAnyH_take (i := 1) (v := (.pointer (some ⟨w.heap.size, 1, none⟩))) rfl (by kernel_rfl) (by kernel_rfl) (by kernel_rfl) (fun _ _ _ h => h) (.inl ⟨rfl, fun V hS => ?y0⟩) (HS3).out ?_
    case y0 =>
      obtain ⟨s0, s1, s2, s3⟩ := hS
      go_simp
    go_simp
    refine wpAnyH_take (i := 2) (v := (.int .i64 q)) rfl (by kernel_rfl) (by kernel_rfl) (by kernel_rfl) (fun _ _ _ h => h) (.inl ⟨rfl, fun V hS => ?y0⟩) (HS3).out ?_
    case y0 =>
      obtain ⟨s0, s1, s2, s3⟩ := hS
      go_simp
    go_simp
    refine wpAnyH_ready (rs := [3]) (by kernel_rfl) (by simp) (AllReadyH.cons rfl (fun J hJ => ?_) AllReadyH.nil)
    go_simp
    refine (HTq.out _).mono ?_
    rintro e w5 ⟨rfl, b5⟩
    have B5 := Lib.hid (bel_of_drew b5)
    have HS5 := Lib.hid (HS3.out.below b5)
    clear b5
    refine hJ.out _ _ HS5.out (fun _ => ?_)
    go_simp
    refine wpAnyH_take (i := 4) (v := (.bool true)) rfl (by kernel_rfl) (by kernel_rfl) (by kernel_rfl) (fun _ _ _ h => h) (.inl ⟨rfl, fun V hS => ?y0⟩) (HS5).out ?_
    case y0 =>
      obtain ⟨s0, s1, s2, s3⟩ := hS
      go_simp
    go_simp
    refine wpAnyH_take (i := 5) (v := (.pointer (some ⟨w.heap.size, 0, none⟩))) rfl (by kernel_rfl) (by kernel_rfl) (by kernel_rfl) (fun _ _ _ h => h) (.inl ⟨rfl, fun V hS => ?y0⟩) (HS5).out ?_
    case y0 =>
      obtain ⟨s0, s1, s2, s3⟩ := hS
      go_simp
    go_simp
    refine wpAnyH_take (i := 6) (v := (.slice A n cap)) rfl (by kernel_rfl) (by kernel_rfl) (by kernel_rfl) (fun _ _ _ h => h) (.inl ⟨rfl, fun V hS => ?y0⟩) (HS5).out ?_
    case y0 =>
      obtain ⟨s0, s1, s2, s3⟩ := hS
      go_simp
    go_simp
    refine wpAnyH_take (i := 7) (v := (.pointer (some ⟨w.heap.size, 1, none⟩))) rfl (by kernel_rfl) (by kernel_rfl) (by kernel_rfl) (fun _ _ _ h => h) (.inl ⟨rfl, fun V hS => ?y0⟩) (HS5).out ?_
    case y0 =>
      obtain ⟨s0, s1, s2, s3⟩ := hS
      go_simp
    go_simp
    refine wpAnyH_take (i := 8) (v := (.int .i64 q)) rfl (by kernel_rfl) (by kernel_rfl) (by kernel_rfl) (fun _ _ _ h => h) (.inl ⟨rfl, fun V hS => ?y0⟩) (HS5).out ?_
    case y0 =>
      obtain ⟨s0, s1, s2, s3⟩ := hS
      go_simp
    go_simp
    refine wpAnyH_ready (rs := [9]) (by kernel_rfl) (by simp) (AllReadyH.cons rfl (fun J hJ => ?_) AllReadyH.nil)
    go_simp
    refine (duesOk_any A n cap lo hi ds q w5 Hn.out hm (HI.out.below (B3.out.trans (B5.out.mono B3.out.size)) hs) (Nat.le_trans hs (B3.out.trans (B5.out.mono B3.out.size)).size)).mono ?_
    rintro e w6 ⟨rfl, b6⟩
    rw [Hd.out]
    have B6 := Lib.hid (bel_trans B5.out b6)
    have HS6 := Lib.hid (HS5.out.below b6)
    clear b6
    refine hJ.out _ _ HS6.out (fun _ => ?_)
    go_simp
    refine wpAnyH_take (i := 10) (v := (.bool true)) rfl (by kernel_rfl) (by kernel_rfl) (by kernel_rfl) (fun _ _ _ h => h) (.inl ⟨rfl, fun V hS => ?y0⟩) (HS6).out ?_
    case y0 =>
      obtain ⟨s0, s1, s2, s3⟩ := hS
      go_simp
    go_simp
    refine wpAnyH_take (i := 11) (v := (.bool true)) rfl (by kernel_rfl) (by kernel_rfl) (by kernel_rfl) (fun _ _ _ h => h) (.inl ⟨rfl, fun V hS => ?y0⟩) (HS6).out ?_
    case y0 =>
      obtain ⟨s0, s1, s2, s3⟩ := hS
      go_simp
    go_simp
    skip
    refine wpAnyH_ready (rs := [12]) (by kernel_rfl) (by simp) (AllReadyH.cons rfl (fun J hJ => ?_) AllReadyH.nil)
    go_simp
    refine (ordered_any w1.heap.size A1 n c1 (w.heap.size + 1 + 1) w1.heap.size ds w6 Hn.out hm (HTr6.out _ B6.out) (V3.out.below B6.out (by omega)) (by have := B6.out.size; omega)).mono ?_
    rintro e w7 ⟨rfl, b7⟩
    rw [Hor.out]
    have B7 := Lib.hid (bel_trans B6.out b7)
    have HS7 := Lib.hid (HS6.out.below b7)
    clear b7
    refine hJ.out _ _ HS7.out (fun _ => ?_)
    go_simp
    refine wpAnyH_take (i := 13) (v := (.bool true)) rfl (by kernel_rfl) (by kernel_rfl) (by kernel_rfl) (fun _ _ _ h => h) (.inl ⟨rfl, fun V hS => ?y0⟩) (HS7).out ?_
    case y0 =>
      obtain ⟨s0, s1, s2, s3⟩ := hS
      go_simp
    go_simp
    skip
    have R5 : (w7).heap[w.heap.size + 1]? = some (.cells #[.slice none 0 0, .nilFunc] 143 (0, 0)) := ((B7).out.block _ (by omega)).trans HR3.out
    have r0 : (w7).cell? ⟨w.heap.size + 1, 0, none⟩ = some (.slice none 0 0) := by simp [World.cell?, R5]
    have r1 : (w7).cell? ⟨w.heap.size + 1, 1, none⟩ = some .nilFunc := by simp [World.cell?, R5]
    have rf : ∀ j, (w7).frozen? ⟨w.heap.size + 1, j, none⟩ = false := fun j => by simp [World.frozen?, R5]
    refine wpAnyH_ready (rs := [14]) (by kernel_rfl) (by simp) (AllReadyH.cons rfl (fun J hJ => ?_) AllReadyH.nil)
    go_simp
    have HSa := Lib.hid ((((HS7).out.set (o := 0) (u := .slice A1 n c1) (show w.heap.size + 1 ≠ w.heap.size by omega) (show w.heap.size + 1 ≠ w1.heap.size by omega)).set (o := 1) (u := .func (.func 129) #[] #[]) (show w.heap.size + 1 ≠ w.heap.size by omega) (show w.heap.size + 1 ≠ w1.heap.size by omega)))
    refine hJ.out _ _ HSa.out (fun _ => ?_)
    refine wpAnyH_ready (rs := [15]) (by kernel_rfl) (by simp) (AllReadyH.cons rfl (fun J hJ => ?_) AllReadyH.nil)
    go_simp
    refine hJ.out _ _ HSa.out (fun _ => ?_)
    refine wpAnyH_done (by kernel_rfl) ?_ _
    go_wp2
    refine bodyPost_ret (v := .tuple #[.agg #[.slice A1 n c1, .func (.func 129) #[] #[]], .bool true]) (by simp [results, Try.results113, go_sem, r0, r1]) rfl ⟨A1, c1, by rw [Ho.out], ?_, ?_⟩
    · refine DV.wide (lo := w.heap.size + 1 + 1) (hi := w1.heap.size) ?_ (by omega) (by simp [World.setCell]; have := (B7).out.size; omega)
      iterate 2 refine DV.setCell ?_ (by show w.heap.size + 1 < w.heap.size + 1 + 1; omega) _
      exact V3.out.below (B7).out (by omega)
    · refine ⟨?_, ?_⟩
      · iterate 2 refine Below.setCell ?_ (by show w.heap.size ≤ w.heap.size + 1; omega) _
        exact B3.out.trans ((B7).out.mono B3.out.size)
      · refine Sh.wide (lo := w.heap.size + 1 + 1) (hi := w1.heap.size) ?_ (by omega) (by simp [World.setCell]; have := (B7).out.size; omega)
        iterate 2 refine Sh.setCell ?_ (by show w.heap.size + 1 < w.heap.size + 1 + 1; omega) _
        exact S3.out.below (B7).out (by omega)

theorem treeOf_any (A : Option Addr) (n cap lo hi : Nat) (ds : List Du) (q : Int) (w : World) (hn : ds.length = n) (hm : n ≤ 1048576) (h : DV w lo hi A ds) (hs : hi ≤ w.heap.size) :
    Calls Try.prog 113 #[.agg #[.slice A n cap, .int .i64 q]] w (TreeEnd w n ds q) :=
  (treeOf_sh A n cap lo hi ds q w hn hm h hs).mono fun _ _ ⟨A, cap, h1, h2, h3, _⟩ => ⟨A, cap, h1, h2, h3⟩
end Go.Proofs.Ytehdbdolhkflcaa.Hp

namespace Go.Proofs.Ytehdbdolhkflcaa.Hp
open Go.RowKit Go.Deep Base

set_option maxRecDepth 100000 in
set_option maxHeartbeats 1000000 in
theorem implHeapOk_any (A : Option Addr) (n cap lo hi : Nat) (ds : List Du) (q : Int) (w : World) (hn : ds.length = n) (hm : n ≤ 1048576) (h : DV w lo hi A ds) (hs : hi ≤ w.heap.size) :
    Calls Try.prog 96 #[.agg #[.slice A n cap, .int .i64 q]] w fun e w' => e = .returned (.bool (okH ds q)) ∧ Below w.heap.size w w' := by
  have Hn := Lib.hid hn
  have HI := Lib.hid h
  clear hn h
  go_enter Try.func96, Try.ntmps96
  go_wp2_with fail
  refine (treeOf_any A n cap lo hi ds q _ Hn.out hm (HI.out.below (bel_alloc w _) hs) (by simp; omega)).mono ?_
  rintro e w1 ⟨A1, c1, rfl, _, b1⟩
  have B1 := Lib.hid (bel_trans (bel_alloc w _) b1)
  clear b1
  go_wp2
  go_ret
  exact ⟨rfl, bel_trans B1.out (bel_alloc _ _)⟩

/-- The law's own argument in a box. -/
def LBk (w : World) (g : Nat) (v0 v1 : Value) : Prop := w.heap[g]? = some (.cells #[v0, v1] 51 (0, 0))
theorem LBk.cells {w : World} {g : Nat} {v0 v1 : Value} (h : LBk w g v0 v1) : w.cell? ⟨g, 0, none⟩ = some v0 ∧ w.cell? ⟨g, 1, none⟩ = some v1 := by
  have hc : ∀ o, w.cell? ⟨g, o, none⟩ = #[v0, v1][o]? := fun o => cell_of_row _ _ o _ _ (0, 0) h
  refine ⟨?_, ?_⟩ <;> (rw [hc]; rfl)
theorem LBk.lt {w : World} {g : Nat} {v0 v1 : Value} (h : LBk w g v0 v1) : g < w.heap.size := (Array.getElem?_eq_some_iff.1 h).1
theorem LBk.of_block {w w' : World} {g : Nat} {v0 v1 : Value} (h : LBk w g v0 v1) (e : w'.heap[g]? = w.heap[g]?) : LBk w' g v0 v1 := e.trans h
theorem LBk.below {w w' : World} {g : Nat} {v0 v1 : Value} (h : LBk w g v0 v1) (hb : Below w.heap.size w w') : LBk w' g v0 v1 := h.of_block (hb.block g h.lt)
theorem LBk.alloc {w : World} {g : Nat} {v0 v1 : Value} (h : LBk w g v0 v1) (o : Obj) : LBk (w.alloc o) g v0 v1 := h.below (bel_alloc w o)

/-- At the laws' last comparison: the box of the kept copy and that of the argument. -/
def Pair (x a : Nat) (x0 x1 a0 a1 : Value) (V : World) : Prop := Blk2 V x x0 x1 ∧ LBk V a a0 a1


end Go.Proofs.Ytehdbdolhkflcaa.Hp
