/- Words for deadlines and heaps in memory: the items as a list, what a slice of items reads, worlds that turn a range of blocks alone. What is known of a heap of the law's own type that came in: its slice reads as a list of items. Contracts of the laws' helpers on items and heaps: size, a copy, the comparison of two that read alike. -/
import Derived.Test.YtpjelojmkmednaaChecked
import Derived.Test.YtpjelojmkmednaaBase
import Derived.Laws.Rows
import Derived.Deep.MidRow
import Derived.IntWalk
import Derived.Deep.Slices
import Derived.Deep.Fields
import Derived.ChangeSame
import Derived.OpenShut
import Derived.Deep.QuietTactic
import Derived.BigQuiet
import Derived.RegionTactic
import Derived.StillTailTactics
namespace Go.Proofs.Ytpjelojmkmednaa.Hp
open Go.RowKit Go.Deep Base

structure Du where
  «at» : Int
  seq : Int
  id : Int
def zDu : Du := ⟨0, 0, 0⟩

/-- The cell of field j of an item. -/
def Du.cell (s : Du) (j : Nat) : Value := if j = 0 then .int .i64 s.at else if j = 1 then .int .i64 s.seq else .int .i64 s.id

/-- The items ds lie in block b from its head on, and may be written. -/
def Rd (w : World) (b : Nat) (ds : List Du) : Prop :=
  ∀ i, i < ds.length → w.cell? ⟨b, i * 3, none⟩ = some (.int .i64 (ds.getD i zDu).at) ∧ w.cell? ⟨b, i * 3 + 1, none⟩ = some (.int .i64 (ds.getD i zDu).seq)
    ∧ w.cell? ⟨b, i * 3 + 2, none⟩ = some (.int .i64 (ds.getD i zDu).id) ∧ ∀ j, w.frozen? ⟨b, j, none⟩ = false

/-- A slice of items at A reads as ds; it lies in a block from lo on and ahead of hi. -/
def DV (w : World) (lo hi : Nat) (A : Option Addr) (ds : List Du) : Prop :=
  0 < ds.length → ∃ g, A = some ⟨g, 0, none⟩ ∧ lo ≤ g ∧ g < hi ∧ Rd w g ds

/-- A slice of the law's own items at A reads as ds. -/
def LD (w : World) (A : Option Addr) (ds : List Du) : Prop :=
  0 < ds.length → ∃ b off, A = some ⟨b, off, none⟩ ∧ ∀ i, i < ds.length → w.cell? ⟨b, off + i * 3, none⟩ = some (.int .i64 (ds.getD i zDu).at) ∧ w.cell? ⟨b, off + i * 3 + 1, none⟩ = some (.int .i64 (ds.getD i zDu).seq)
    ∧ w.cell? ⟨b, off + i * 3 + 2, none⟩ = some (.int .i64 (ds.getD i zDu).id)

theorem Rd.of_block {w w' : World} {b : Nat} {ds : List Du} (h : Rd w b ds) (e : w'.heap[b]? = w.heap[b]?) : Rd w' b ds := by
  intro i hi
  have hc : ∀ o, w'.cell? ⟨b, o, none⟩ = w.cell? ⟨b, o, none⟩ := fun o => World.cell?_of_block (w := w) e
  have hf : ∀ o, w'.frozen? ⟨b, o, none⟩ = w.frozen? ⟨b, o, none⟩ := fun o => World.frozen?_of_block (w := w) e
  obtain ⟨h0, h1, h2, h4⟩ := h i hi
  exact ⟨(hc _).trans h0, (hc _).trans h1, (hc _).trans h2, fun j => (hf j).trans (h4 j)⟩

theorem DV.of_block {w w' : World} {lo hi : Nat} {A : Option Addr} {ds : List Du} (h : DV w lo hi A ds) (e : ∀ g, lo ≤ g → g < hi → w'.heap[g]? = w.heap[g]?) : DV w' lo hi A ds := by
  intro hp
  obtain ⟨g, rfl, h1, h2, h3⟩ := h hp
  exact ⟨g, rfl, h1, h2, h3.of_block (e g h1 h2)⟩

theorem DV.wide {w : World} {lo hi lo' hi' : Nat} {A : Option Addr} {ds : List Du} (h : DV w lo hi A ds) (h1 : lo' ≤ lo) (h2 : hi ≤ hi') : DV w lo' hi' A ds := by
  intro hp
  obtain ⟨g, rfl, h1', h2', h3⟩ := h hp
  exact ⟨g, rfl, by omega, by omega, h3⟩

theorem DV.below {w w' : World} {lo hi B : Nat} {A : Option Addr} {ds : List Du} (h : DV w lo hi A ds) (hb : Below B w w') (hB : hi ≤ B) : DV w' lo hi A ds :=
  h.of_block fun g _ h2 => hb.block g (by omega)

theorem LD.below {w w' : World} {A : Option Addr} {ds : List Du} (h : LD w A ds) (hb : Below w.heap.size w w') : LD w' A ds := by
  intro hp
  obtain ⟨b, off, rfl, hc⟩ := h hp
  have hlt := World.block_lt_of_cell? _ _ (hc 0 hp).1
  refine ⟨b, off, rfl, fun i hi => ?_⟩
  have hcc : ∀ o, w'.cell? ⟨b, o, none⟩ = w.cell? ⟨b, o, none⟩ := fun o => hb.cell hlt
  obtain ⟨h0, h1, h2⟩ := hc i hi
  exact ⟨(hcc _).trans h0, (hcc _).trans h1, (hcc _).trans h2⟩

/-- From w to w' only blocks from lo on and ahead of hi, and new ones, have turned. -/
structure Turns (lo hi : Nat) (w w' : World) : Prop where
  os : w'.os = w.os
  tape : w'.tape = w.tape
  output : w'.output = w.output
  size : w.heap.size ≤ w'.heap.size
  block : ∀ k, k < w.heap.size → (k < lo ∨ hi ≤ k) → w'.heap[k]? = w.heap[k]?

theorem Turns.below {lo hi : Nat} {w w' : World} (h : Turns lo hi w w') {B : Nat} (hB : B ≤ lo) (hs : B ≤ w.heap.size) : Below B w w' :=
  ⟨h.os, h.tape, h.output, h.size, fun k hk => h.block k (by omega) (.inl (by omega))⟩

theorem Turns.of_below {lo hi : Nat} {w w' : World} (h : Below w.heap.size w w') : Turns lo hi w w' := ⟨h.os, h.tape, h.output, h.size, fun k hk _ => h.block k hk⟩

theorem Turns.trans {lo hi : Nat} {a b c : World} (h : Turns lo hi a b) (k : Turns lo hi b c) : Turns lo hi a c :=
  ⟨k.os.trans h.os, k.tape.trans h.tape, k.output.trans h.output, Nat.le_trans h.size k.size, fun i hi' ho => (k.block i (Nat.lt_of_lt_of_le hi' h.size) ho).trans (h.block i hi' ho)⟩

theorem Turns.setCell {lo hi : Nat} {a w : World} (h : Turns lo hi a w) {p : Addr} (h1 : lo ≤ p.block) (h2 : p.block < hi) (u : Value) : Turns lo hi a (w.setCell p u) :=
  ⟨h.os, h.tape, h.output, by simpa [World.setCell] using h.size, fun k hk ho => (Below.heap_setCell w p u k (by rintro rfl; omega)).trans (h.block k hk ho)⟩

theorem DV.turns {w w' : World} {lo hi l h : Nat} {A : Option Addr} {ds : List Du} (s : DV w lo hi A ds) (t : Turns l h w w') (hd : hi ≤ l ∨ h ≤ lo) (hs : hi ≤ w.heap.size) : DV w' lo hi A ds :=
  s.of_block fun g _ h2 => t.block g (by omega) (by omega)

theorem DV.setCell {w : World} {lo hi : Nat} {A : Option Addr} {ds : List Du} (h : DV w lo hi A ds) {p : Addr} (hp : p.block < lo) (u : Value) : DV (w.setCell p u) lo hi A ds :=
  h.of_block fun g h1 _ => Below.heap_setCell w p u g (by omega)

theorem bcell {W w1 : World} (hb : Below W.heap.size W w1) : (∀ b o, b < W.heap.size → w1.cell? ⟨b, o, none⟩ = W.cell? ⟨b, o, none⟩) ∧ (∀ b o, b < W.heap.size → w1.frozen? ⟨b, o, none⟩ = W.frozen? ⟨b, o, none⟩) :=
  ⟨fun b o h => hb.cell (p := ⟨b, o, none⟩) h, fun b o h => hb.frozen (p := ⟨b, o, none⟩) h⟩

theorem some_set {w : World} {b o p : Nat} {v : Value} (h : (w.cell? ⟨b, p, none⟩).isSome = true) : ((w.setCell ⟨b, o, none⟩ v).cell? ⟨b, p, none⟩).isSome = true := by
  by_cases e : p = o
  · subst e; rw [World.cell?_setCell_same' _ _ _ h]; rfl
  · rw [World.cell?_setCell_other _ _ _ _ (fun e' => by injection e' with _ e' _; exact e e'.symm)]; exact h
theorem cell_set {w : World} {b o p : Nat} {v : Value} (h : (w.cell? ⟨b, p, none⟩).isSome = true) : (w.setCell ⟨b, o, none⟩ v).cell? ⟨b, p, none⟩ = if p = o then some v else w.cell? ⟨b, p, none⟩ := by
  by_cases e : p = o
  · subst e; rw [if_pos rfl]; exact World.cell?_setCell_same' _ _ _ h
  · rw [if_neg e, World.cell?_setCell_other _ _ _ _ (fun e' => by injection e' with _ e' _; exact e e'.symm)]
end Go.Proofs.Ytpjelojmkmednaa.Hp

namespace Go.Proofs.Ytpjelojmkmednaa.Hp
open Go.RowKit Go.Deep Go.ChangeShapes Go.WideShapes Base

instance : Inhabited Du := ⟨zDu⟩

section
variable {H : Type} {enc : TypeId × Value → H} {W : World} {base : Nat} {spare : Nat → Bool} {held : Bool}

set_option maxRecDepth 100000 in
theorem open_due {fuel : Nat} {cs : List Value} {x : DataW H × List MemPlace} (h : DataW.trod enc Try.prog W base spare held fuel 137 cs = some x) :
    ∃ s : Du, cs = [.int .i64 s.at, .int .i64 s.seq, .int .i64 s.id] := by
  have hC : Try.prog.cellsOf 137 = 3 := by kernel_rfl
  have hI : Try.prog.cellsOf 3 = 1 := by kernel_rfl
  obtain ⟨ys, k, _, _, hcl, hyl, hf⟩ := DataW.trod_struct Try.underlying137 h
  rw [hC] at hcl
  match cs, hcl, ys, hyl with
  | [q0, q1, q2], _, [y0, y1, y2], _ =>
    have g0 : DataW.trod enc Try.prog W base spare held k 3 [q0] = some y0 := by have := hf 0 _ rfl; simpa [hI] using this
    have g1 : DataW.trod enc Try.prog W base spare held k 3 [q1] = some y1 := by have := hf 1 _ rfl; simpa [hI] using this
    have g2 : DataW.trod enc Try.prog W base spare held k 3 [q2] = some y2 := by have := hf 2 _ rfl; simpa [hI] using this
    obtain ⟨n0, e0, _⟩ := DataW.trod_int Try.underlying3 g0
    obtain ⟨n1, e1, _⟩ := DataW.trod_int Try.underlying3 g1
    obtain ⟨n2, e2, _⟩ := DataW.trod_int Try.underlying3 g2
    simp at e0 e1 e2
    subst e0 e1 e2
    exact ⟨⟨n0, n1, n2⟩, rfl⟩

set_option maxRecDepth 100000 in
theorem open_dues {fuel : Nat} {cs : List Value} {x : DataW H × List MemPlace} (h : DataW.trod enc Try.prog W base spare held fuel 49 cs = some x) :
    ∃ (A : Option Addr) (n cap : Nat) (ds : List Du), cs = [.slice A n cap] ∧ ds.length = n ∧ n ≤ maxLen ∧ LD W A ds := by
  rcases open_slice Try.underlying49 h with ⟨rfl, _⟩ | ⟨a, len, cap, m, k, D, Pl, rfl, _, hl, hm, hmm, _, hi⟩
  · exact ⟨none, 0, 0, [], rfl, rfl, by simp, fun hp => absurd hp (by simp)⟩
  · have hlm : len ≤ m := by rw [hmm]; split <;> omega
    have hC : Try.prog.cellsOf 137 = 3 := by kernel_rfl
    obtain ⟨V, hV⟩ := choose_lt (α := Du) (n := len) (p := fun i s => W.cell? ((a.add (i * 3)).add 0) = some (.int .i64 s.at) ∧ W.cell? ((a.add (i * 3)).add 1) = some (.int .i64 s.seq) ∧ W.cell? ((a.add (i * 3)).add 2) = some (.int .i64 s.id)) (fun i hil => by
      obtain ⟨cs', hc, ht⟩ := hi i (by omega)
      rw [hC] at hc
      obtain ⟨_, hcl, hat⟩ := World.cells?_some hc
      obtain ⟨s, rfl⟩ := open_due ht
      exact ⟨s, hat 0 (by omega), hat 1 (by omega), hat 2 (by omega)⟩)
    refine ⟨some a, len, cap, (List.range len).map V, rfl, by simp, by omega, fun hp => ?_⟩
    simp at hp
    obtain ⟨b, off, spot⟩ := a
    have h0 := (hV 0 hp).1
    have hs : spot = none := by simpa [Addr.add] using World.cell?_spot h0
    subst hs
    refine ⟨b, off, rfl, fun i hi => ?_⟩
    simp at hi
    obtain ⟨g0, g1, g2⟩ := hV i hi
    have ea : ∀ j, ((⟨b, off, none⟩ : Addr).add (i * 3)).add j = ⟨b, off + i * 3 + j, none⟩ := fun j => by
      rw [Addr.add_mid, Addr.add_mid]
    rw [ea] at g0 g1 g2
    have hg : ((List.range len).map V).getD i zDu = V i := by simp [hi]
    rw [hg]
    exact ⟨g0, g1, g2⟩

set_option maxRecDepth 100000 in
theorem open_heap {rr : Reach} {b0 : Nat} {v : Value} {d : DataW H} {p : List MemPlace} (hv : Value.okWide Try.prog W rr b0 51 v) (h : DataW.Trod enc Try.prog W base spare held 51 v d p) :
    ∃ (A : Option Addr) (n cap : Nat) (q : Int) (ds : List Du), v = .agg #[.slice A n cap, .int .i64 q] ∧ ds.length = n ∧ n ≤ maxLen ∧ LD W A ds := by
  have hC : Try.prog.cellsOf 51 = 2 := by kernel_rfl
  have hI : Try.prog.cellsOf 3 = 1 := by kernel_rfl
  have hS : Try.prog.cellsOf 49 = 1 := by kernel_rfl
  obtain ⟨cs, rfl, hsz⟩ := okWide_struct Try.underlying51 hv
  obtain ⟨cl⟩ := cs
  obtain ⟨fuel, hf⟩ := h
  obtain ⟨ys, k, _, _, _, hyl, hg⟩ := DataW.trod_struct Try.underlying51 hf
  match cl, hsz.trans hC, ys, hyl with
  | [q0, q1], _, [y0, y1], _ =>
    have g0 : DataW.trod enc Try.prog W base spare held k 49 [q0] = some y0 := by have := hg 0 _ rfl; simpa [hS, Value.cells] using this
    have g1 : DataW.trod enc Try.prog W base spare held k 3 [q1] = some y1 := by have := hg 1 _ rfl; simpa [hI, Value.cells] using this
    obtain ⟨A, n, cap, ds, e0, hn, hm, hl⟩ := open_dues g0
    obtain ⟨n1, e1, _⟩ := DataW.trod_int Try.underlying3 g1
    simp at e0 e1
    subst e0 e1
    exact ⟨A, n, cap, n1, ds, rfl, hn, hm, hl⟩
end
end Go.Proofs.Ytpjelojmkmednaa.Hp

namespace Go.Proofs.Ytpjelojmkmednaa.Hp
open Go.RowKit Go.Deep Base

set_option maxRecDepth 100000 in
theorem toDue_any (a b c : Int) (w : World) :
    Calls Try.prog 127 #[.agg #[.int .i64 a, .int .i64 b, .int .i64 c]] w fun e w' => e = .returned (.agg #[.int .i64 a, .int .i64 b, .int .i64 c]) ∧ Below w.heap.size w w' := by
  go_enter Try.func127, Try.ntmps127
  go_wp2
  exact bodyPost_ret (v := .agg #[.int .i64 a, .int .i64 b, .int .i64 c]) (by simp [results, Try.results127, go_sem]) rfl ⟨rfl, (((Below.refl _ _).alloc (Nat.le_refl _) _).alloc (by simp) _).alloc (by simp; omega) _⟩

set_option maxRecDepth 100000 in
theorem eqDue_same (a b c : Int) (w : World) :
    Calls Try.prog 129 #[.agg #[.int .i64 a, .int .i64 b, .int .i64 c], .agg #[.int .i64 a, .int .i64 b, .int .i64 c]] w fun e w' => e = .returned (.bool true) ∧ Below w.heap.size w w' := by
  go_enter Try.func129, Try.ntmps129
  go_wp2
  go_ret
  exact ⟨rfl, ((Below.refl _ _).alloc (Nat.le_refl _) _).alloc (by simp) _⟩

theorem infoDue : (Try.prog.info? 80).map (fun i => (i.zero, i.size, i.bytes)) = some (some (.agg #[.int .i64 0, .int .i64 0, .int .i64 0]), 3, 24) := by kernel_rfl

theorem make_dues (n : Nat) (hn : n ≤ 1048576) (w : World) :
    (Instr.makeSlice 27 (.int .i64 (n : Int)) (.int .i64 (n : Int))).run Try.prog w = .ok (.slice (some ⟨w.heap.size, 0, none⟩) n n) (w.alloc (.cells (madeCells #[.int .i64 0, .int .i64 0, .int .i64 0] (n * 3)) 80)) := by
  obtain ⟨i, hi, hz, hs, hb⟩ := info_parts infoDue
  have h := run_make (P := Try.prog) w 27 80 i _ Try.underlying27 hi hz .i64 .i64 n n (by omega) (by omega) (by rw [hb]; omega) (by omega)
  simp only [Int.toNat_natCast, hs] at h
  exact h

def toF (ds : List Du) (k j : Nat) : Value := if j / 3 < k then (ds.getD (j / 3) zDu).cell (j % 3) else zDu.cell (j % 3)

def ToDs (w wr : World) (n : Nat) (ds : List Du) (k : Nat) : Prop :=
  wr.rowIs w.heap.size 80 (n * 3) (toF ds k) ∧ Below w.heap.size w wr

theorem ToDs.start (w : World) (n : Nat) (ds : List Du) : ToDs w (w.alloc (.cells (madeCells #[.int .i64 0, .int .i64 0, .int .i64 0] (n * 3)) 80)) n ds 0 := by
  refine ⟨?_, bel_alloc _ _⟩
  have h := World.rowIs_alloc w (madeCells #[.int .i64 0, .int .i64 0, .int .i64 0] (n * 3)) 80 (toF ds 0) (fun i hi => by
    rw [size_madeCells] at hi
    have hm : i % 3 = 0 ∨ i % 3 = 1 ∨ i % 3 = 2 := by omega
    rcases hm with h | h | h <;> simp [madeCells, hi, toF, Du.cell, zDu, h])
  rw [size_madeCells] at h
  exact h

theorem ToDs.later {w wr w' : World} {n k : Nat} {ds : List Du} (h : ToDs w wr n ds k) (hb : Below wr.heap.size wr w') : ToDs w w' n ds k :=
  ⟨h.1.of_block (hb.block _ h.1.lt), h.2.trans (hb.mono h.2.size)⟩

theorem ToDs.step {w wr : World} {n k : Nat} {ds : List Du} (h : ToDs w wr n ds k) {s : Du} (hs : ds.getD k zDu = s) :
    ToDs w (((wr.setCell ⟨w.heap.size, k * 3, none⟩ (.int .i64 s.at)).setCell ⟨w.heap.size, k * 3 + 1, none⟩ (.int .i64 s.seq)).setCell ⟨w.heap.size, k * 3 + 2, none⟩ (.int .i64 s.id)) n ds (k + 1) := by
  refine ⟨((((h.1.set _ _).set _ _).set _ _)).congr (fun j _ => ?_), ((h.2.setCell (Nat.le_refl _) _).setCell (Nat.le_refl _) _).setCell (Nat.le_refl _) _⟩
  unfold toF
  by_cases e2 : j = k * 3 + 2
  · subst e2; rw [if_pos rfl, if_pos (by omega), show (k * 3 + 2) / 3 = k from by omega, show (k * 3 + 2) % 3 = 2 from by omega, hs]; rfl
  rw [if_neg e2]
  by_cases e1 : j = k * 3 + 1
  · subst e1; rw [if_pos rfl, if_pos (by omega), show (k * 3 + 1) / 3 = k from by omega, show (k * 3 + 1) % 3 = 1 from by omega, hs]; rfl
  rw [if_neg e1]
  by_cases e0 : j = k * 3
  · subst e0; rw [if_pos rfl, if_pos (by omega), show (k * 3) / 3 = k from by omega, show (k * 3) % 3 = 0 from by omega, hs]; rfl
  rw [if_neg e0]
  by_cases l : j / 3 < k
  · rw [if_pos l, if_pos (by omega)]
  · rw [if_neg l, if_neg (by omega)]

theorem ToDs.zero {w wr : World} {n k : Nat} {ds : List Du} (h : ToDs w wr n ds k) (hk : k < n) :
    wr.cell? ⟨w.heap.size, k * 3, none⟩ = some (.int .i64 0) ∧ wr.cell? ⟨w.heap.size, k * 3 + 1, none⟩ = some (.int .i64 0) ∧ wr.cell? ⟨w.heap.size, k * 3 + 2, none⟩ = some (.int .i64 0)
    ∧ ∀ j, wr.frozen? ⟨w.heap.size, j, none⟩ = false := by
  refine ⟨?_, ?_, ?_, fun j => h.1.frozen j⟩
  · have := h.1.cell (i := k * 3) (by omega)
    rw [this, toF, if_neg (by omega), show k * 3 % 3 = 0 from by omega]; rfl
  · have := h.1.cell (i := k * 3 + 1) (by omega)
    rw [this, toF, if_neg (by omega), show (k * 3 + 1) % 3 = 1 from by omega]; rfl
  · have := h.1.cell (i := k * 3 + 2) (by omega)
    rw [this, toF, if_neg (by omega), show (k * 3 + 2) % 3 = 2 from by omega]; rfl

theorem rd_of_row {w : World} {b n : Nat} {ds : List Du} (h : w.rowIs b 80 (n * 3) (toF ds n)) (hn : ds.length = n) : Rd w b ds := by
  intro i hi
  refine ⟨?_, ?_, ?_, fun j => h.frozen j⟩
  · have := h.cell (i := i * 3) (by omega)
    rw [this, toF, if_pos (by omega), show i * 3 / 3 = i from by omega, show i * 3 % 3 = 0 from by omega]; rfl
  · have := h.cell (i := i * 3 + 1) (by omega)
    rw [this, toF, if_pos (by omega), show (i * 3 + 1) / 3 = i from by omega, show (i * 3 + 1) % 3 = 1 from by omega]; rfl
  · have := h.cell (i := i * 3 + 2) (by omega)
    rw [this, toF, if_pos (by omega), show (i * 3 + 2) / 3 = i from by omega, show (i * 3 + 2) % 3 = 2 from by omega]; rfl

set_option maxRecDepth 100000 in
theorem toDueS_any (A : Option Addr) (n cap : Nat) (ds : List Du) (w : World) (hn : ds.length = n) (hm : n ≤ 1048576) (h : LD w A ds) :
    Calls Try.prog 102 #[.slice A n cap] w fun e w' => e = .returned (.slice (some ⟨w.heap.size, 0, none⟩) n n) ∧ DV w' w.heap.size w'.heap.size (some ⟨w.heap.size, 0, none⟩) ds ∧ Below w.heap.size w w' := by
  have hmk := make_dues n hm
  have Hn := Lib.hid hn
  clear hn
  have HI := Lib.hid h
  clear h
  go_enter Try.func102, Try.ntmps102
  go_wp2
  clear hmk
  go_loopw [4] (fun i wr => ∃ k : Nat, k ≤ n ∧ i = .int .i64 k ∧ ToDs w wr n ds k) (fun i _ => n - (intOf i).toNat)
  case atStart => exact ⟨0, Nat.zero_le _, rfl, ToDs.start w n ds⟩
  case round =>
    obtain ⟨k, hk, rfl, hr⟩ := hrel
    by_cases hlt : k < n
    · obtain ⟨b, off, rfl, hc⟩ := HI.out.below hr.2 (by have := Hn.out; omega)
      obtain ⟨c0, c1, c2⟩ := hc k (by have := Hn.out; omega)
      clear hc
      have Hr := Lib.hid hr
      clear hr
      obtain ⟨s, hs⟩ : ∃ s, ds.getD k zDu = s := ⟨_, rfl⟩
      rw [hs] at c0 c1 c2
      have Hs := Lib.hid hs
      clear hs
      go_wp2_with fail
      refine (toDue_any _ _ _ _).mono ?_
      rintro e w1 ⟨rfl, hb⟩
      have hr := Hr.out.later hb
      obtain ⟨z0, z1, z2, zf⟩ := hr.zero hlt
      have Hq := Lib.hid (hr.step Hs.out)
      clear hr
      go_wp2
      go_roundw
      case rel => exact ⟨k + 1, by omega, by go_num, Hq.out⟩
      case measure => simp [intOf]; omega
    · have Hr := Lib.hid hr
      clear hr
      obtain rfl : k = n := by omega
      go_wp2
      go_ret
      exact ⟨rfl, fun _ => ⟨_, rfl, Nat.le_refl _, Hr.out.1.lt, rd_of_row Hr.out.1 Hn.out⟩, Hr.out.2⟩

set_option maxRecDepth 100000 in
set_option maxHeartbeats 400000 in
theorem eqDueS_same (A1 A2 : Option Addr) (n c1 c2 lo hi lo' hi' : Nat) (ds : List Du) (w : World) (hn : ds.length = n) (hm : n ≤ 1048576) (h1 : DV w lo hi A1 ds) (h2 : DV w lo' hi' A2 ds) (hs : hi ≤ w.heap.size) (hs' : hi' ≤ w.heap.size) :
    Calls Try.prog 104 #[.slice A1 n c1, .slice A2 n c2] w fun e w' => e = .returned (.bool true) ∧ Below w.heap.size w w' := by
  have Hn := Lib.hid hn
  clear hn
  have H1 := Lib.hid h1
  have H2 := Lib.hid h2
  clear h1 h2
  go_enter Try.func104, Try.ntmps104
  go_wp2
  go_loopw [5] (fun i wr => ∃ k : Nat, k ≤ n ∧ i = .int .i64 k ∧ Below w.heap.size w wr) (fun i _ => n - (intOf i).toNat)
  case atStart => exact ⟨0, Nat.zero_le _, rfl, Below.refl _ _⟩
  case round =>
    obtain ⟨k, hk, rfl, hr⟩ := hrel
    by_cases hlt : k < n
    · obtain ⟨g, rfl, _, _, hc⟩ := (H1.out.below hr hs) (by have := Hn.out; omega)
      obtain ⟨c0, c1, c2, _⟩ := hc k (by have := Hn.out; omega)
      clear hc
      obtain ⟨g', rfl, _, _, hc⟩ := (H2.out.below hr hs') (by have := Hn.out; omega)
      obtain ⟨d0, d1, d2, _⟩ := hc k (by have := Hn.out; omega)
      clear hc
      generalize ds.getD k zDu = s at c0 c1 c2 d0 d1 d2
      go_wp2
      go_still_tail 8, (by kernel_rfl)
      change wpList _ _ _ _ _ wr.drew
      go_wp2_with fail
      refine (eqDue_same _ _ _ _).mono ?_
      rintro e w1 ⟨rfl, hb⟩
      go_wp2
      go_roundw
      case rel => exact ⟨k + 1, by omega, by go_num, bel_trans hr (bel_of_drew hb)⟩
      case measure => simp [intOf]; omega
    · go_wp2
      go_ret
      exact ⟨rfl, hr⟩

set_option maxRecDepth 100000 in
theorem szHeap_any (A : Option Addr) (n cap : Nat) (q left : Int) (w : World) (hn : n ≤ 9223372036854775807) (h0 : 0 ≤ left) (h1 : left ≤ 1048576) :
    Calls Try.prog 56 #[.agg #[.slice A n cap, .int .i64 q], .int .i64 left] w fun e w' => e = .returned (.int .i64 (if left < n then -1 else left - n)) ∧ Below w.heap.size w w' := by
  by_cases hl : left < n
  · have hl' : ¬ 0 ≤ left - n := by omega
    go_enter Try.func56, Try.ntmps56
    go_wp2
    go_ret
    exact ⟨ret_int (by simp), (Below.refl _ _).alloc (Nat.le_refl _) _⟩
  · go_enter Try.func56, Try.ntmps56
    go_wp2
    go_ret
    exact ⟨ret_int (by simp), (Below.refl _ _).alloc (Nat.le_refl _) _⟩

/-- What a call that hands back a new heap leaves: its slice lies in new memory, old memory stands. -/
def NewH (w : World) (n : Nat) (ds : List Du) (q : Int) (e : Ending) (w' : World) : Prop :=
  ∃ A cap, e = .returned (.agg #[.slice A n cap, .int .i64 q]) ∧ DV w' w.heap.size w'.heap.size A ds ∧ Below w.heap.size w w'

set_option maxRecDepth 100000 in
set_option maxHeartbeats 400000 in
theorem toHeap_any (A : Option Addr) (n cap : Nat) (ds : List Du) (q : Int) (w : World) (hn : ds.length = n) (hm : n ≤ 1048576) (h : LD w A ds) :
    Calls Try.prog 58 #[.agg #[.slice A n cap, .int .i64 q]] w (NewH w n ds q) := by
  have Hn := Lib.hid hn
  clear hn
  have HI := Lib.hid h
  clear h
  go_enter Try.func58, Try.ntmps58
  go_wp2_with fail
  refine (toDueS_any A n cap ds _ Hn.out hm (HI.out.below ?_)).mono ?_
  · exact (((Below.refl _ _).alloc (Nat.le_refl _) _).alloc (by simp) _).alloc (by simp <;> omega) _
  rintro e w1 ⟨rfl, hv, hb⟩
  simp only [World.size_alloc] at hv
  have Hv := Lib.hid hv
  clear hv
  obtain ⟨hc, hf⟩ := bcell hb
  have hz : w.heap.size + 1 + 1 < w1.heap.size := by have := hb.size; simp at this; omega
  have Hb := Lib.hid hb
  clear hb
  go_wp2
  refine bodyPost_ret (v := .agg #[.slice (some ⟨w.heap.size + 1 + 1 + 1, 0, none⟩) n n, .int .i64 q]) (by simp [results, Try.results58, go_sem, hc]) rfl ⟨_, _, rfl, ?_, ?_⟩
  · refine DV.wide (lo := w.heap.size + 1 + 1 + 1) (hi := w1.heap.size) ?_ (by omega) (by simp [World.setCell])
    iterate 4 refine DV.setCell ?_ (by simp <;> omega) _
    exact Hv.out
  · iterate 4 refine Below.setCell ?_ (by simp <;> omega) _
    exact bel_trans ((((Below.refl _ _).alloc (Nat.le_refl _) _).alloc (by simp) _).alloc (by simp; omega) _) Hb.out

set_option maxRecDepth 100000 in
set_option maxHeartbeats 400000 in
theorem eqHeap_same (A1 A2 : Option Addr) (n c1 c2 lo hi lo' hi' : Nat) (ds : List Du) (q : Int) (w : World) (hn : ds.length = n) (hm : n ≤ 1048576) (h1 : DV w lo hi A1 ds) (h2 : DV w lo' hi' A2 ds) (hs : hi ≤ w.heap.size) (hs' : hi' ≤ w.heap.size) :
    Calls Try.prog 63 #[.agg #[.slice A1 n c1, .int .i64 q], .agg #[.slice A2 n c2, .int .i64 q]] w fun e w' => e = .returned (.bool true) ∧ Below w.heap.size w w' := by
  have Hn := Lib.hid hn
  clear hn
  have H1 := Lib.hid h1
  have H2 := Lib.hid h2
  clear h1 h2
  have ha : ∀ o o', Below w.heap.size w ((w.alloc o).alloc o') := fun o o' => ((Below.refl _ _).alloc (Nat.le_refl _) _).alloc (by simp) _
  have Ha := Lib.hid ha
  clear ha
  go_enter Try.func63, Try.ntmps63
  go_wp2_with fail
  refine (eqDueS_same A1 A2 n c1 c2 lo hi lo' hi' ds _ Hn.out hm (H1.out.below (Ha.out _ _) hs) (H2.out.below (Ha.out _ _) hs') (by simp; omega) (by simp; omega)).mono ?_
  rintro e w1 ⟨rfl, hb⟩
  obtain ⟨hc, hf⟩ := bcell hb
  have Hb := Lib.hid hb
  clear hb
  go_wp2
  go_ret
  exact ⟨rfl, bel_trans (Ha.out _ _) Hb.out⟩
end Go.Proofs.Ytpjelojmkmednaa.Hp
