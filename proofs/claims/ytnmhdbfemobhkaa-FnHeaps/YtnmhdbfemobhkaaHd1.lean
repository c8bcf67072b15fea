/- What the model draws for chapter 3: some list of operations, each in a block of its own. -/
import Derived.Test.YtnmhdbfemobhkaaDraw2
import Derived.Test.YtnmhdbfemobhkaaPh2
namespace Go.Proofs.Ytnmhdbfemobhkaa.Hp
open Go.RowKit Go.Deep Base Draw

/-- A drawn operation: its block, its room, its integers. -/
structure Dr where
  blk : Nat
  room : Nat
  ints : List Int
def Dr.val (r : Dr) : Value := .slice (some ⟨r.blk, 0, none⟩) r.ints.length r.room

structure OpSt (w wr : World) (g : Nat) (A : Option Addr) (n cap : Nat) (zs : List Int) (rs : List Dr) (v : Value) : Prop where
  cur : Cur wr g A n cap zs
  own : wr.ownsRow w.heap.size 29 1 v rs.length (rs.map Dr.val)
  lies : ∃ b c, v = .slice (some ⟨b, 0, none⟩) rs.length c
  each : ∀ r ∈ rs, RI wr r.blk r.ints ∧ w.heap.size ≤ r.blk ∧ r.blk < wr.heap.size ∧ some r.blk ≠ v.ownBlock ∧ (r.ints.length = 3 → r.room = 3) ∧ r.ints.length ≤ 3
  old : w.grownBy wr (some g)

/-- Within a round: the operation's three integers lie in block b. -/
structure Mid (wr W : World) (g : Nat) (A : Option Addr) (n cap : Nat) (zs : List Int) (b : Nat) (x y z : Int) : Prop where
  cur : Cur W g A n cap zs
  op : W.heap[b]? = some (.cells #[.int .i64 x, .int .i64 y, .int .i64 z] 3 (0, 0))
  old : wr.grownBy W (some g)
  lo : wr.heap.size ≤ b
  hi : b < W.heap.size

section
variable {w wr W W' : World} {g : Nat} {A : Option Addr} {n cap : Nat} {zs : List Int} {b : Nat} {x y z : Int}
theorem Mid.new (hc : Cur W g A n cap zs) (hw : wr.grownBy W (some g)) (x y z : Int) : Mid wr (W.alloc (.cells #[.int .i64 x, .int .i64 y, .int .i64 z] 3)) g A n cap zs W.heap.size x y z :=
  ⟨hc.alloc _, heap_alloc_new W _, grown_then hw (grown_alloc _ _ _), hw.size, by simp⟩
theorem Mid.draw (h : Mid wr W g A n cap zs b x y z) (hg : g < wr.heap.size) (hc : Cur W' g A n cap zs) (hw : W.grownBy W' (some g)) : Mid wr W' g A n cap zs b x y z :=
  ⟨hc, (hw.block b h.hi (fun e => by injection e with e; have := h.lo; omega)).trans h.op, grown_then h.old hw, h.lo, Nat.lt_of_lt_of_le h.hi hw.size⟩
theorem Mid.alloc (h : Mid wr W g A n cap zs b x y z) (o : Obj) : Mid wr (W.alloc o) g A n cap zs b x y z :=
  ⟨h.cur.alloc o, (Below.heap_alloc _ _ _ h.hi).trans h.op, grown_then h.old (grown_alloc _ _ _), h.lo, by simp; have := h.hi; omega⟩
theorem Mid.store (h : Mid wr W g A n cap zs b x y z) (hg : g < wr.heap.size) (i : Nat) (u : Value) {x' y' z' : Int} (e : (#[Value.int .i64 x, .int .i64 y, .int .i64 z] : Array Value).setIfInBounds i u = #[.int .i64 x', .int .i64 y', .int .i64 z']) : Mid wr (W.setCell ⟨b, i, none⟩ u) g A n cap zs b x' y' z' := by
  have hlo := h.lo
  refine ⟨h.cur.keep ((Below.refl _ _).setCell (by show g + 1 ≤ b; omega) _), by rw [heap_set h.op, e], ?_, h.lo, by simp [World.setCell]; exact h.hi⟩
  refine ⟨h.old.os, h.old.tape, h.old.output, by have := h.old.size; simp [World.setCell]; exact this, fun k hk hne => ?_⟩
  rw [heap_setCell_other _ _ _ _ (by show k ≠ b; omega)]
  exact h.old.block k hk hne
theorem Mid.ri (h : Mid wr W g A n cap zs b x y z) : RI W b [x, y, z] ∧ RI W b [x, y] := by
  have hf : ∀ j, W.frozen? ⟨b, j, none⟩ = false := fun j => frozen_of_row _ _ j _ _ h.op
  have hc : ∀ i : Nat, W.cell? ⟨b, i, none⟩ = (#[Value.int .i64 x, .int .i64 y, .int .i64 z] : Array Value)[i]? := fun i => cell_of_row _ _ i _ _ (0, 0) h.op
  constructor
  · intro i hi
    refine ⟨?_, hf⟩
    rw [hc]
    match i, hi with
    | 0, _ => rfl
    | 1, _ => rfl
    | 2, _ => rfl
  · intro i hi
    refine ⟨?_, hf⟩
    rw [hc]
    match i, hi with
    | 0, _ => rfl
    | 1, _ => rfl

theorem OpSt.push {rs : List Dr} {v v9 : Value} {w9 : World} {o : Obj} {r : Dr} (st : OpSt w wr g A n cap zs rs v) (hg : g < w.heap.size) (md : Mid wr W g A n cap zs b x y z) (hrb : r.blk = b) (hri : RI W b r.ints) (hr3 : r.ints.length = 3 → r.room = 3) (hrl : r.ints.length ≤ 3)
    (hown : w9.ownsRow w.heap.size 29 1 v9 (rs.length + 1) (rs.map Dr.val ++ [r.val])) (hgr : (W.alloc o).grownBy w9 v.ownBlock) {K : Nat} (hat : v9.ownBlock = v.ownBlock ∨ v9.ownBlock = some K) (hK : W.heap.size ≤ K) :
    OpSt w w9 g A n cap zs (rs ++ [r]) v9 := by
  subst hrb
  have hwr := st.old.size
  have hWr := md.old.size
  have hlo := md.lo
  have hhi := md.hi
  have hv := fun k e => st.own.lt k e
  have hs9 : W.heap.size + 1 ≤ w9.heap.size := by have := hgr.size; simpa using this
  have keep : ∀ k, k < W.heap.size → some k ≠ v.ownBlock → w9.heap[k]? = W.heap[k]? := fun k hk hne => (hgr.block k (by simp; omega) hne).trans (Below.heap_alloc _ _ _ hk)
  have apart : ∀ k, k < W.heap.size → some k ≠ v.ownBlock → some k ≠ v9.ownBlock := fun k hk hne => by
    rcases hat with e | e
    · rw [e]; exact hne
    · rw [e]; intro e'; injection e' with e'; omega
  have hgv : some g ≠ v.ownBlock := fun e => by have := (hv g e.symm).1; omega
  have hrv : some r.blk ≠ v.ownBlock := fun e => by have := (hv r.blk e.symm).2; omega
  have hW : w.grownBy W (some g) := grown_then st.old md.old
  have hcl := md.cur.lt
  refine ⟨?_, by rw [List.length_append, List.map_append]; exact hown, ?_, fun r' hr' => ?_, ?_⟩
  · obtain ⟨i, hh, C⟩ := md.cur
    exact ⟨i, hh, (keep g hcl hgv).trans C.blk, C.bytes.keep (fun b' o' hlt => World.cell?_of_block (keep b' (by show b' < W.heap.size; omega) (fun e => by have := (hv b' e.symm).1; omega))), C.len, C.small, C.pos, C.le⟩
  · obtain ⟨b', c', e⟩ := ownsRow_succ hown
    exact ⟨b', c', by rw [List.length_append]; exact e⟩
  · rcases List.mem_append.1 hr' with h | h
    · obtain ⟨h1, h2, h3, h4, h5, h6⟩ := st.each r' h
      have hne : some r'.blk ≠ some g := fun e => by injection e with e; omega
      exact ⟨h1.of_block ((keep _ (by omega) h4).trans (md.old.block _ h3 hne)), h2, by omega, apart _ (by omega) h4, h5, h6⟩
    · obtain rfl := List.mem_singleton.1 h
      exact ⟨hri.of_block (keep _ hhi hrv), by omega, by omega, apart _ hhi hrv, hr3, hrl⟩
  · refine ⟨hgr.os.trans hW.os, hgr.tape.trans hW.tape, hgr.output.trans hW.output, by omega, fun k hk hne => ?_⟩
    exact (keep k (by omega) (fun e => by have := (hv k e.symm).1; omega)).trans (hW.block k hk hne)
end

theorem infoInts : (Try.prog.info? 29).map (fun i => (i.zero, i.size, i.bytes)) = some (some (.slice none 0 0), 1, 24) := by kernel_rfl
end Go.Proofs.Ytnmhdbfemobhkaa.Hp
