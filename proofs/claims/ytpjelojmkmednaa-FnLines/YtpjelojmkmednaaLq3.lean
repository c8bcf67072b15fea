/- What spec.l02Copy and spec.NewQueue make. What spec.NewQueue makes. The program's own form of a queue in memory (an array of slots and four numbers in one block), and the copy of a slice of slots. What impl.NewQueue makes: the model's empty queue. -/
import Derived.Test.YtpjelojmkmednaaLq2
import Derived.Deep.RegionLaw
import Derived.Deep.AppendLies
import Derived.Deep.WholeRow
import Derived.Lib.SliceRun
import Derived.Deep.RegionHeld3
namespace Go.Proofs.Ytpjelojmkmednaa.Que
open Go.RowKit Go.Deep Base

def Sl.cells (s : Sl) : List Value := [.int .i64 s.id, .int .i64 s.prev, .int .i64 s.next, .bool s.used]
def cellsL : List Sl → List Value
  | [] => []
  | s :: r => s.cells ++ cellsL r

theorem cellsL_append (a b : List Sl) : cellsL (a ++ b) = cellsL a ++ cellsL b := by
  induction a with
  | nil => rfl
  | cons s r ih => simp only [List.cons_append, cellsL, ih, List.append_assoc]
theorem cellsL_one (s : Sl) : cellsL [s] = [.int .i64 s.id, .int .i64 s.prev, .int .i64 s.next, .bool s.used] := rfl
theorem cellsL_len (a : List Sl) : (cellsL a).length = a.length * 4 := by
  induction a with
  | nil => rfl
  | cons s r ih => simp only [cellsL, List.length_append, ih, Sl.cells, List.length_cons, List.length_nil]; omega
theorem cellsL_at : ∀ (ss : List Sl) (i j : Nat), i < ss.length → j < 4 → (cellsL ss)[i * 4 + j]? = (ss.getD i zSl).cells[j]?
  | [], i, j, h, _ => by simp at h
  | s :: r, 0, j, _, hj => by
    simp only [cellsL, Nat.zero_mul, Nat.zero_add, List.getD_cons_zero]
    rw [List.getElem?_append_left (by simp [Sl.cells]; omega)]
  | s :: r, i + 1, j, h, hj => by
    simp only [cellsL, List.getD_cons_succ]
    rw [List.getElem?_append_right (by simp [Sl.cells]; omega)]
    rw [show (i + 1) * 4 + j - s.cells.length = i * 4 + j from by simp [Sl.cells]; omega]
    exact cellsL_at r i j (by simp at h; omega) hj

theorem rd_owns {w : World} {base g n cap : Nat} {ss : List Sl} (hn : ss.length = n) (h : w.ownsRow base 91 4 (.slice (some ⟨g, 0, none⟩) n cap) n (cellsL ss)) : Rd w g ss := by
  intro i hi
  have hc : ∀ j, j < 4 → w.cell? ⟨g, i * 4 + j, none⟩ = (ss.getD i zSl).cells[j]? := fun j hj => (h.cellAt (i * 4 + j) (by omega)).trans (cellsL_at ss i j hi hj)
  exact ⟨(hc 0 (by omega)).trans rfl, (hc 1 (by omega)).trans rfl, (hc 2 (by omega)).trans rfl, (hc 3 (by omega)).trans rfl, fun j => h.frozenAt j⟩

theorem slv_owns {w : World} {base n cap : Nat} {A : Option Addr} {ss : List Sl} (hn : ss.length = n) (h : w.ownsRow base 91 4 (.slice A n cap) n (cellsL ss)) : SlV w base w.heap.size A ss := by
  intro hp
  rcases h.2 with ⟨_, h0⟩ | ⟨g, cap', cur, hv, hb, hg, _⟩
  · omega
  · injection hv with hA _ _
    subst hA
    exact ⟨g, rfl, hb, (h.lt g rfl).2, rd_owns hn h⟩

theorem new_four_at {w : World} {B : Nat} (h : w.heap.size = B) (a b c d : Value) (t : TypeId) : ∀ j u, [a, b, c, d][j]? = some u → (w.alloc (.cells #[a, b, c, d] t)).cell? ((⟨B, 0, none⟩ : Addr).add j) = some u := by
  subst h
  intro j u hj
  have ea : (⟨w.heap.size, 0, none⟩ : Addr).add j = ⟨w.heap.size, j, none⟩ := by
    unfold Addr.add; split
    · next h => subst h; rfl
    · simp
  rw [ea, cell_of_row _ _ j #[a, b, c, d] t (0, 0) (heap_alloc_new w _)]
  simpa using hj

theorem below_block {w w' : World} {B g : Nat} (h : Below B w w') (hg : g < B) : w'.heap[g]? = w.heap[g]? := h.block g hg

/-- A block of five cells that is known whole. -/
def Blk5 (w : World) (g : Nat) (v0 v1 v2 v3 v4 : Value) : Prop := w.heap[g]? = some (.cells #[v0, v1, v2, v3, v4] 26 (0, 0))

theorem Blk5.cells {w : World} {g : Nat} {v0 v1 v2 v3 v4 : Value} (h : Blk5 w g v0 v1 v2 v3 v4) :
    w.cell? ⟨g, 0, none⟩ = some v0 ∧ w.cell? ⟨g, 1, none⟩ = some v1 ∧ w.cell? ⟨g, 2, none⟩ = some v2 ∧ w.cell? ⟨g, 3, none⟩ = some v3 ∧ w.cell? ⟨g, 4, none⟩ = some v4 ∧ ∀ j, w.frozen? ⟨g, j, none⟩ = false := by
  have hc : ∀ o, w.cell? ⟨g, o, none⟩ = #[v0, v1, v2, v3, v4][o]? := fun o => cell_of_row _ _ o _ _ (0, 0) h
  refine ⟨?_, ?_, ?_, ?_, ?_, fun j => by unfold Blk5 at h; simp [World.frozen?, h]⟩ <;> (rw [hc]; rfl)
theorem Blk5.lt {w : World} {g : Nat} {v0 v1 v2 v3 v4 : Value} (h : Blk5 w g v0 v1 v2 v3 v4) : g < w.heap.size := (Array.getElem?_eq_some_iff.1 h).1
theorem Blk5.of_block {w w' : World} {g : Nat} {v0 v1 v2 v3 v4 : Value} (h : Blk5 w g v0 v1 v2 v3 v4) (e : w'.heap[g]? = w.heap[g]?) : Blk5 w' g v0 v1 v2 v3 v4 := e.trans h
theorem Blk5.alloc {w : World} {g : Nat} {v0 v1 v2 v3 v4 : Value} (h : Blk5 w g v0 v1 v2 v3 v4) (o : Obj) : Blk5 (w.alloc o) g v0 v1 v2 v3 v4 := h.of_block (Below.heap_alloc w o g h.lt)
theorem Blk5.set0 {w : World} {g : Nat} {v0 v1 v2 v3 v4 : Value} (h : Blk5 w g v0 v1 v2 v3 v4) (u : Value) : Blk5 (w.setCell ⟨g, 0, none⟩ u) g u v1 v2 v3 v4 := by
  unfold Blk5 at h ⊢
  simp [World.setCell, Array.getElem?_modify, h]

theorem far_cells {wr w1 : World} {B : Nat} {v : Value} {e : TypeId} {size k : Nat} {xs : List Value} {o : Obj} (hg : (wr.alloc o).drew.grownBy w1 v.ownBlock) (h : wr.ownsRow B e size v k xs) :
    ∀ b j, b < B ∧ b < wr.heap.size → w1.cell? ⟨b, j, none⟩ = wr.cell? ⟨b, j, none⟩ := fun b j hb => by
  have e1 : w1.heap[b]? = (wr.alloc o).heap[b]? := hg.block b (by show b < (wr.alloc o).heap.size; simp; omega) (fun e => by have := (h.lt b e.symm).1; omega)
  exact World.cell?_of_block (w := wr) (e1.trans (Below.heap_alloc wr o b hb.2))
theorem far_frozen {wr w1 : World} {B : Nat} {v : Value} {e : TypeId} {size k : Nat} {xs : List Value} {o : Obj} (hg : (wr.alloc o).drew.grownBy w1 v.ownBlock) (h : wr.ownsRow B e size v k xs) :
    ∀ b j, b < B ∧ b < wr.heap.size → w1.frozen? ⟨b, j, none⟩ = wr.frozen? ⟨b, j, none⟩ := fun b j hb => by
  have e1 : w1.heap[b]? = (wr.alloc o).heap[b]? := hg.block b (by show b < (wr.alloc o).heap.size; simp; omega) (fun e => by have := (h.lt b e.symm).1; omega)
  exact World.frozen?_of_block (w := wr) (e1.trans (Below.heap_alloc wr o b hb.2))

theorem other_cell {w : World} {b g o j : Nat} (u : Value) (_ : Unit) (h : b ≠ g) : (w.setCell ⟨g, o, none⟩ u).cell? ⟨b, j, none⟩ = w.cell? ⟨b, j, none⟩ :=
  World.cell?_setCell_other _ _ _ _ (fun e => by injection e with e _ _; exact h e.symm)

theorem grown_undrew {a b : World} {row : Option Nat} (h : a.drew.grownBy b row) : a.grownBy b row := ⟨h.os, h.tape, h.output, h.size, h.block⟩

structure CopySt (B : Nat) (w wr : World) (v f l r c : Value) (k : Nat) (ss : List Sl) : Prop where
  box : Blk5 wr (B + 1 + 1) v f l r c
  own : wr.ownsRow (B + 1 + 1 + 1) 91 4 v k (cellsL (ss.take k))
  old : Below (B + 1 + 1) w wr

theorem CopySt.step {B : Nat} {w wr w1 : World} {v v' f l r c : Value} {k : Nat} {ss : List Sl} {o : Obj} (h : CopySt B w wr v f l r c k ss) {xs : List Value} (hx : cellsL (ss.take (k + 1)) = xs) (hown : w1.ownsRow (B + 1 + 1 + 1) 91 4 v' (k + 1) xs) (hg : (wr.alloc o).grownBy w1 v.ownBlock) :
    CopySt B w (w1.setCell ⟨B + 1 + 1, 0, none⟩ v') v' f l r c (k + 1) ss := by
  have hlt := h.box.lt
  have hne : some (B + 1 + 1) ≠ v.ownBlock := fun e => by have := (h.own.lt _ e.symm).1; omega
  have hb1 : Blk5 w1 (B + 1 + 1) v f l r c := (h.box.alloc o).of_block (hg.block _ (by simp; omega) hne)
  refine ⟨hb1.set0 v', ?_, ?_⟩
  · rw [hx]
    refine hown.kept (Draw_grown_set _ _ _ _) (.inr fun e => ?_)
    have := (hown.lt _ e).1
    omega
  · exact ((h.old.alloc (by omega) o).grown hg (by simp; omega) (fun j e => by have := (h.own.lt j e).1; omega)).setCell (by simp) _

def LoopC (B : Nat) (w wr : World) (f l r c : Value) (k : Nat) (ss : List Sl) : Prop := ∃ v, CopySt B w wr v f l r c k ss

set_option maxRecDepth 100000 in
set_option maxHeartbeats 1000000 in
theorem copy_any (A : Option Addr) (n cap lo hi : Nat) (f l r c : Int) (ss : List Sl) (w : World) (hn : ss.length = n) (hm : n ≤ 1048576) (h : SlV w lo hi A ss) (hs : hi ≤ w.heap.size) :
    Calls Try.prog 109 #[.agg #[.slice A n cap, .int .i64 f, .int .i64 l, .int .i64 r, .int .i64 c]] w (NewQ w n ss f l r c) := by
  have Hn := Lib.hid hn
  clear hn
  have HI := Lib.hid h
  clear h
  go_enter Try.func109, Try.ntmps109
  go_wp2
  go_loopw [4] (fun i wr => ∃ k : Nat, k ≤ n ∧ i = .int .i64 k ∧ LoopC w.heap.size ((w.alloc (.cells #[.slice A n cap, .int .i64 f, .int .i64 l, .int .i64 r, .int .i64 c] 26)).alloc (.cells #[.slice none 0 0, .int .i64 0, .int .i64 0, .int .i64 0, .int .i64 0] 26)) wr (.int .i64 f) (.int .i64 l) (.int .i64 r) (.int .i64 c) k ss) (fun i _ => n - (intOf i).toNat)
  case atStart =>
    refine ⟨0, Nat.zero_le _, rfl, .slice none 0 0, ⟨?_, ?_, ?_⟩⟩
    · have h := heap_alloc_new ((w.alloc (.cells #[.slice A n cap, .int .i64 f, .int .i64 l, .int .i64 r, .int .i64 c] 26)).alloc (.cells #[.slice none 0 0, .int .i64 0, .int .i64 0, .int .i64 0, .int .i64 0] 26)) (.cells #[.slice none 0 0, .int .i64 f, .int .i64 l, .int .i64 r, .int .i64 c] 26)
      simp only [World.size_alloc] at h
      exact h
    · exact World.ownsRow_nil _ _ _ _
    · exact (Below.refl _ _).alloc (by simp) _
  case round =>
    obtain ⟨k, hk, rfl, v, hst⟩ := hrel
    have Hst := Lib.hid hst
    clear hst
    obtain ⟨b0, _, _, _, _, _⟩ := (Blk5.of_block (w := (w.alloc (.cells #[.slice A n cap, .int .i64 f, .int .i64 l, .int .i64 r, .int .i64 c] 26)).alloc (.cells #[.slice none 0 0, .int .i64 0, .int .i64 0, .int .i64 0, .int .i64 0] 26)) (Blk5.alloc (heap_alloc_new w _) _) (Hst.out.old.block w.heap.size (by omega))).cells
    obtain ⟨x0, x1, x2, x3, x4, xf⟩ := Hst.out.box.cells
    by_cases hlt : k < n
    · have Hb : Hid (Below w.heap.size w wr) := ((((Below.refl _ _).alloc (Nat.le_refl _) _).alloc (by simp) _).trans (Hst.out.old.mono (by omega)))
      obtain ⟨g, rfl, hg1, hg2, hcs⟩ := (HI.out.below Hb.out hs) (by have := Hn.out; omega)
      obtain ⟨c0, c1, c2, c3, _⟩ := hcs k (by have := Hn.out; omega)
      clear hcs
      have Hx : Hid (cellsL (ss.take (k + 1)) = cellsL (ss.take k) ++ [.int .i64 (ss.getD k zSl).id, .int .i64 (ss.getD k zSl).prev, .int .i64 (ss.getD k zSl).next, .bool (ss.getD k zSl).used]) := by
        have hk' : k < ss.length := by have := Hn.out; omega
        show _ = _
        rw [List.take_succ_eq_append_getElem hk', cellsL_append, ← cellsL_one]; simp [List.getD_eq_getElem?_getD, hk']
      generalize ss.getD k zSl = s at c0 c1 c2 c3 Hx
      obtain ⟨i0, hi0, hz0, hz1, hz2⟩ := info_parts infoSlot
      have Hi0 := Lib.hid hi0
      have Hz0 := Lib.hid hz0
      have Hz1 := Lib.hid hz1
      have Hz2 := Lib.hid hz2
      clear hi0 hz0 hz1 hz2
      have hsz := Hst.out.box.lt
      have hne : some (w.heap.size + 1 + 1) ≠ v.ownBlock := fun e => by have := (Hst.out.own.lt _ e.symm).1; omega
      have hne2 : some (w.heap.size) ≠ v.ownBlock := fun e => by have := (Hst.out.own.lt _ e.symm).1; omega
      have hne3 : some g ≠ v.ownBlock := fun e => by have := (Hst.out.own.lt _ e.symm).1; omega
      have HH : Hid ((w.heap.size + 1 + 1 < w.heap.size + 1 + 1 + 1 ∧ w.heap.size + 1 + 1 < wr.heap.size) ∧ (w.heap.size < w.heap.size + 1 + 1 + 1 ∧ w.heap.size < wr.heap.size) ∧ (g < w.heap.size + 1 + 1 + 1 ∧ g < wr.heap.size)) := ⟨by omega, by omega, by omega⟩
      have HG : Hid (w.heap.size ≠ w.heap.size + 1 + 1 ∧ g ≠ w.heap.size + 1 + 1) := ⟨by omega, by omega⟩
      have hk0 : (0 : Int) ≤ (k : Int) := Int.natCast_nonneg _
      have hk1 : (k : Int) < (n : Int) := by omega
      go_wp2
      go_region_law
        ((refine step_append_lies _ (by rfl) _ _ _ (by rfl) (w.heap.size + 1 + 1 + 1) 91 i0 _ 4 32 Try.underlying24 Hi0.out Hz0.out Hz1.out Hz2.out rfl (by omega) v k _ (by rfl) ((Hst.out.own.alloc _).drew)
            ⟨wr.heap.size, 0, none⟩ 1 1 [.int .i64 s.id, .int .i64 s.prev, .int .i64 s.next, .bool s.used] (by rfl) (by rfl) (new_four_at (w := wr) rfl _ _ _ _ _) (by simp [Value.oneCell'])
            (by omega) (by unfold maxLen; omega) (by omega) (by simp; omega) (wr.heap.size + 1) (by simp) ?_; intro gg cap' w1 hown hgrow hat hlt'; have yq := (far_cells hgrow Hst.out.own (w.heap.size + 1 + 1) 0 HH.out.1).trans x0; have yf := (far_frozen hgrow Hst.out.own (w.heap.size + 1 + 1) 0 HH.out.1).trans (xf 0)))
      all_goals
        have HQ := Lib.hid (Hst.out.step Hx.out hown (grown_undrew hgrow))
        clear hown hgrow hat hlt' yq yf hne hne2 hne3 hk0 hk1
        go_wp2
        go_roundw
        case rel => exact ⟨k + 1, by omega, by go_num, _, HQ.out⟩
        case measure => simp [intOf]; omega
    · obtain rfl : k = n := by omega
      obtain ⟨A', cap', rfl⟩ := owns_form Hst.out.own
      obtain ⟨z0, z1, z2, z3, z4, zf⟩ := (Blk5.of_block (w := (w.alloc (.cells #[.slice A k cap, .int .i64 f, .int .i64 l, .int .i64 r, .int .i64 c] 26)).alloc (.cells #[.slice none 0 0, .int .i64 0, .int .i64 0, .int .i64 0, .int .i64 0] 26)) (g := w.heap.size + 1) (by have h := heap_alloc_new (w.alloc (.cells #[.slice A k cap, .int .i64 f, .int .i64 l, .int .i64 r, .int .i64 c] 26)) (.cells #[.slice none 0 0, .int .i64 0, .int .i64 0, .int .i64 0, .int .i64 0] 26); rw [World.size_alloc] at h; exact h) (Hst.out.old.block (w.heap.size + 1) (by omega))).cells
      go_wp2
      refine bodyPost_ret (v := .agg #[.slice A' k cap', .int .i64 f, .int .i64 l, .int .i64 r, .int .i64 c]) (by simp [results, Try.results109, go_sem, z0, z1, z2, z3, z4]) rfl ⟨A', cap', rfl, ?_, ?_⟩
      · have e : ss.take k = ss := List.take_of_length_le (by have := Hn.out; omega)
        have ho := Hst.out.own
        rw [e] at ho
        refine SlV.wide (lo := w.heap.size + 1 + 1 + 1) (hi := wr.heap.size) ?_ (by omega) (by simp [World.setCell])
        iterate 5 refine SlV.setCell ?_ (by simp <;> omega) _
        exact slv_owns Hn.out ho
      · iterate 5 refine Below.setCell ?_ (by simp <;> omega) _
        exact (((Below.refl _ _).alloc (Nat.le_refl _) _).alloc (by simp) _).trans (Hst.out.old.mono (by omega))
end Go.Proofs.Ytpjelojmkmednaa.Que

namespace Go.Proofs.Ytpjelojmkmednaa.Que
open Go.RowKit Go.Deep Base

def newAt (i : Nat) : Sl := ⟨0, -1, if i + 1 = 60 then -1 else (i : Int) + 1, false⟩
def newS : List Sl := (List.range 60).map newAt
theorem newS_len : newS.length = 60 := by simp [newS]
theorem newS_at {i : Nat} (h : i < 60) : newS.getD i zSl = newAt i := by simp [newS, h]
theorem newS_take {k : Nat} (h : k < 60) : newS.take (k + 1) = newS.take k ++ [newAt k] := by
  rw [List.take_succ_eq_append_getElem (by rw [newS_len]; exact h)]
  simp [newS]

structure NewSt (B : Nat) (w wr : World) (v : Value) (k : Nat) : Prop where
  box : Blk5 wr (B + 1) v (.int .i64 (-1)) (.int .i64 (-1)) (.int .i64 0) (.int .i64 0)
  own : wr.ownsRow (B + 1 + 1) 91 4 v k (cellsL (newS.take k))
  old : Below (B + 1) w wr

theorem NewSt.step {B : Nat} {w wr w1 : World} {v v' : Value} {k : Nat} {o : Obj} (h : NewSt B w wr v k) {xs : List Value} (hx : cellsL (newS.take (k + 1)) = xs) (hown : w1.ownsRow (B + 1 + 1) 91 4 v' (k + 1) xs) (hg : (wr.alloc o).grownBy w1 v.ownBlock) :
    NewSt B w (w1.setCell ⟨B + 1, 0, none⟩ v') v' (k + 1) := by
  have hlt := h.box.lt
  have hne : some (B + 1) ≠ v.ownBlock := fun e => by have := (h.own.lt _ e.symm).1; omega
  have hb1 : Blk5 w1 (B + 1) v (.int .i64 (-1)) (.int .i64 (-1)) (.int .i64 0) (.int .i64 0) := (h.box.alloc o).of_block (hg.block _ (by simp; omega) hne)
  refine ⟨hb1.set0 v', ?_, ?_⟩
  · rw [hx]
    refine hown.kept (Draw_grown_set _ _ _ _) (.inr fun e => ?_)
    have := (hown.lt _ e).1
    omega
  · exact ((h.old.alloc (by omega) o).grown hg (by simp; omega) (fun j e => by have := (h.own.lt j e).1; omega)).setCell (by simp) _

def LoopN (B : Nat) (w wr : World) (k : Nat) : Prop := ∃ v, NewSt B w wr v k

set_option maxRecDepth 100000 in
set_option maxHeartbeats 1000000 in
theorem specNew_any (w : World) : Calls Try.prog 64 #[] w (NewQ w 60 newS (-1) (-1) 0 0) := by
  go_enter Try.func64, Try.ntmps64
  go_wp2
  go_loopw [2] (fun i wr => ∃ k : Nat, k ≤ 60 ∧ i = .int .i64 k ∧ LoopN w.heap.size (w.alloc (.cells #[.slice none 0 0, .int .i64 0, .int .i64 0, .int .i64 0, .int .i64 0] 26)) wr k) (fun i _ => 60 - (intOf i).toNat)
  case atStart =>
    refine ⟨0, Nat.zero_le _, rfl, .slice none 0 0, ⟨?_, ?_, ?_⟩⟩
    · have h := heap_alloc_new (w.alloc (.cells #[.slice none 0 0, .int .i64 0, .int .i64 0, .int .i64 0, .int .i64 0] 26)) (.cells #[.slice none 0 0, .int .i64 (-1), .int .i64 (-1), .int .i64 0, .int .i64 0] 26)
      simp only [World.size_alloc] at h
      exact h
    · exact World.ownsRow_nil _ _ _ _
    · exact (Below.refl _ _).alloc (by simp) _
  case round =>
    obtain ⟨k, hk, rfl, v, hst⟩ := hrel
    have Hst := Lib.hid hst
    clear hst
    obtain ⟨x0, x1, x2, x3, x4, xf⟩ := Hst.out.box.cells
    by_cases hlt : k < 60
    · obtain ⟨i0, hi0, hz0, hz1, hz2⟩ := info_parts infoSlot
      have Hi0 := Lib.hid hi0
      have Hz0 := Lib.hid hz0
      have Hz1 := Lib.hid hz1
      have Hz2 := Lib.hid hz2
      clear hi0 hz0 hz1 hz2
      have hsz := Hst.out.box.lt
      obtain ⟨nx, hnx⟩ : ∃ nx, (newAt k).next = nx := ⟨_, rfl⟩
      have Hx : Hid (cellsL (newS.take (k + 1)) = cellsL (newS.take k) ++ [.int .i64 0, .int .i64 (-1), .int .i64 nx, .bool false]) := by
        show _ = _
        rw [newS_take hlt, cellsL_append, ← hnx]; rfl
      by_cases h60 : k + 1 = 60
      · have h1 : ((k : Int) + 1 == 60) = true := beq_iff_eq.2 (by omega)
        obtain rfl : -1 = nx := by rw [← hnx]; show _ = if k + 1 = 60 then _ else _; rw [if_pos h60]
        clear hnx h60
        go_wp2_with (at_builtin; refine wpList_append_own _ rfl _ _ 24 rfl (w.heap.size + 1 + 1) 91 i0 _ 4 32 Try.underlying24 Hi0.out Hz0.out Hz1.out Hz2.out rfl (by decide) _ _ _ rfl (Hst.out.own.alloc _) ⟨wr.heap.size, 0, none⟩ 1 1 [.int .i64 0, .int .i64 (-1), .int .i64 (-1), .bool false] rfl rfl ?c1h ?c2h ?c3h ?c4h ?c5h ?_)
        case c1h => exact new_four_at (w := wr) rfl _ _ _ _ _
        case c2h => simp [Value.oneCell']
        case c3h => unfold maxLen; omega
        case c4h => omega
        case c5h => simp; omega
        · intro v' w1 hown hg _
          have hne : some (w.heap.size + 1) ≠ v.ownBlock := fun e => by have := (Hst.out.own.lt _ e.symm).1; omega
          obtain ⟨y0, _, _, _, _, yf⟩ := ((Hst.out.box.alloc (.cells #[.int .i64 0, .int .i64 (-1), .int .i64 (-1), .bool false] 91)).of_block (hg.block _ (by simp; omega) hne)).cells
          have HQ := Lib.hid (Hst.out.step Hx.out hown hg)
          obtain ⟨A', cap', rfl⟩ := owns_form hown
          clear hown hg hne
          go_wp2
          go_roundw
          case rel => exact ⟨k + 1, by omega, by go_num, _, HQ.out⟩
          case measure => simp [intOf]; omega
      · have h1 : ((k : Int) + 1 == 60) = false := beq_eq_false_iff_ne.2 (by omega)
        obtain rfl : (k : Int) + 1 = nx := by rw [← hnx]; show _ = if k + 1 = 60 then _ else _; rw [if_neg h60]
        clear hnx h60
        go_wp2_with (at_builtin; refine wpList_append_own _ rfl _ _ 24 rfl (w.heap.size + 1 + 1) 91 i0 _ 4 32 Try.underlying24 Hi0.out Hz0.out Hz1.out Hz2.out rfl (by decide) _ _ _ rfl (Hst.out.own.alloc _) ⟨wr.heap.size, 0, none⟩ 1 1 [.int .i64 0, .int .i64 (-1), .int .i64 ((k : Int) + 1), .bool false] rfl rfl ?c1h2 ?c2h2 ?c3h2 ?c4h2 ?c5h2 ?_)
        case c1h2 => exact new_four_at (w := wr) rfl _ _ _ _ _
        case c2h2 => simp [Value.oneCell']
        case c3h2 => unfold maxLen; omega
        case c4h2 => omega
        case c5h2 => simp; omega
        · intro v' w1 hown hg _
          have hne : some (w.heap.size + 1) ≠ v.ownBlock := fun e => by have := (Hst.out.own.lt _ e.symm).1; omega
          obtain ⟨y0, _, _, _, _, yf⟩ := ((Hst.out.box.alloc (.cells #[.int .i64 0, .int .i64 (-1), .int .i64 ((k : Int) + 1), .bool false] 91)).of_block (hg.block _ (by simp; omega) hne)).cells
          have HQ := Lib.hid (Hst.out.step Hx.out hown hg)
          obtain ⟨A', cap', rfl⟩ := owns_form hown
          clear hown hg hne
          go_wp2
          go_roundw
          case rel => exact ⟨k + 1, by omega, by go_num, _, HQ.out⟩
          case measure => simp [intOf]; omega
    · obtain rfl : k = 60 := by omega
      obtain ⟨A', cap', rfl⟩ := owns_form Hst.out.own
      obtain ⟨z0, z1, z2, z3, z4, zf⟩ := (Blk5.of_block (w := w.alloc (.cells #[.slice none 0 0, .int .i64 0, .int .i64 0, .int .i64 0, .int .i64 0] 26)) (g := w.heap.size) (heap_alloc_new w _) (Hst.out.old.block w.heap.size (by omega))).cells
      go_wp2
      refine bodyPost_ret (v := .agg #[.slice A' 60 cap', .int .i64 (-1), .int .i64 (-1), .int .i64 0, .int .i64 0]) (by simp [results, Try.results64, go_sem, z0, z1, z2, z3, z4]) rfl ⟨A', cap', rfl, ?_, ?_⟩
      · have e : newS.take 60 = newS := List.take_of_length_le (by rw [newS_len]; omega)
        have ho := Hst.out.own
        rw [e] at ho
        refine SlV.wide (lo := w.heap.size + 1 + 1) (hi := wr.heap.size) ?_ (by omega) (by simp [World.setCell])
        iterate 5 refine SlV.setCell ?_ (by simp <;> omega) _
        exact slv_owns newS_len ho
      · iterate 5 refine Below.setCell ?_ (by simp <;> omega) _
        exact ((Below.refl _ _).alloc (Nat.le_refl _) _).trans (Hst.out.old.mono (by omega))
end Go.Proofs.Ytpjelojmkmednaa.Que

namespace Go.Proofs.Ytpjelojmkmednaa.Que
open Go.RowKit Go.Deep Base

def lkF (ss : List Sl) (f l r c : Int) (o : Nat) : Value :=
  if o < 240 then (sl ss (o / 4)).at (o % 4) else if o = 240 then .int .i64 f else if o = 241 then .int .i64 l else if o = 242 then .int .i64 r else .int .i64 c

def lkA (ss : List Sl) (f l r c : Int) : Array Value := (Array.range 244).map (lkF ss f l r c)
theorem lkA_size (ss : List Sl) (f l r c : Int) : (lkA ss f l r c).size = 244 := by simp [lkA]
theorem lkA_at (ss : List Sl) (f l r c : Int) {o : Nat} (h : o < 244) : (lkA ss f l r c)[o]? = some (lkF ss f l r c o) := by simp [lkA, h]
theorem lkA_past (ss : List Sl) (f l r c : Int) {o : Nat} (h : ¬ o < 244) : (lkA ss f l r c)[o]? = none := by simp [lkA]; omega

/-- The program's form of a queue lies in block b. -/
def Lk (w : World) (b : Nat) (ss : List Sl) (f l r c : Int) : Prop := w.heap[b]? = some (.cells (lkA ss f l r c) 94 (0, 0))

theorem Lk.row {w : World} {b : Nat} {ss : List Sl} {f l r c : Int} (h : Lk w b ss f l r c) : w.rowIs b 94 244 (lkF ss f l r c) := ⟨_, h, lkA_size _ _ _ _ _, fun _ hi => lkA_at _ _ _ _ _ hi⟩
theorem lk_of_row {w : World} {b : Nat} {ss : List Sl} {f l r c : Int} (h : w.rowIs b 94 244 (lkF ss f l r c)) : Lk w b ss f l r c := by
  obtain ⟨cs, hb, hn, hc⟩ := h
  unfold Lk
  rw [hb]
  have : cs = lkA ss f l r c := by
    apply Array.ext_getElem?
    intro i
    by_cases hi : i < 244
    · rw [hc i hi, lkA_at _ _ _ _ _ hi]
    · rw [lkA_past _ _ _ _ _ hi, Array.getElem?_eq_none (by omega)]
  rw [this]
theorem Lk.of_block {w w' : World} {b : Nat} {ss : List Sl} {f l r c : Int} (h : Lk w b ss f l r c) (e : w'.heap[b]? = w.heap[b]?) : Lk w' b ss f l r c := e.trans h
theorem Lk.lt {w : World} {b : Nat} {ss : List Sl} {f l r c : Int} (h : Lk w b ss f l r c) : b < w.heap.size := h.row.lt
theorem Lk.alloc {w : World} {b : Nat} {ss : List Sl} {f l r c : Int} (h : Lk w b ss f l r c) (o : Obj) : Lk (w.alloc o) b ss f l r c := h.of_block (Below.heap_alloc w o b h.lt)
theorem Lk.drew {w : World} {b : Nat} {ss : List Sl} {f l r c : Int} (h : Lk w b ss f l r c) : Lk w.drew b ss f l r c := h
theorem Lk.below {w w' : World} {b : Nat} {ss : List Sl} {f l r c : Int} (h : Lk w b ss f l r c) (hb : Below w.heap.size w w') : Lk w' b ss f l r c := h.of_block (hb.block b h.lt)

theorem Lk.nums {w : World} {b : Nat} {ss : List Sl} {f l r c : Int} (h : Lk w b ss f l r c) :
    w.cell? ⟨b, 240, none⟩ = some (.int .i64 f) ∧ w.cell? ⟨b, 241, none⟩ = some (.int .i64 l) ∧ w.cell? ⟨b, 242, none⟩ = some (.int .i64 r) ∧ w.cell? ⟨b, 243, none⟩ = some (.int .i64 c) ∧ ∀ j, w.frozen? ⟨b, j, none⟩ = false :=
  ⟨h.row.cell (by omega), h.row.cell (by omega), h.row.cell (by omega), h.row.cell (by omega), fun j => h.row.frozen j⟩

theorem Lk.slot {w : World} {b : Nat} {ss : List Sl} {f l r c : Int} (h : Lk w b ss f l r c) {i : Nat} (hi : i < 60) :
    w.cell? ⟨b, i * 4, none⟩ = some (.int .i64 (sl ss i).id) ∧ w.cell? ⟨b, i * 4 + 1, none⟩ = some (.int .i64 (sl ss i).prev) ∧ w.cell? ⟨b, i * 4 + 2, none⟩ = some (.int .i64 (sl ss i).next) ∧ w.cell? ⟨b, i * 4 + 3, none⟩ = some (.bool (sl ss i).used) := by
  have hc : ∀ j, j < 4 → w.cell? ⟨b, i * 4 + j, none⟩ = some ((sl ss i).at j) := fun j hj => by
    rw [h.row.cell (i := i * 4 + j) (by omega), lkF, if_pos (by omega), show (i * 4 + j) / 4 = i from by omega, show (i * 4 + j) % 4 = j from by omega]
  exact ⟨hc 0 (by omega), hc 1 (by omega), hc 2 (by omega), hc 3 (by omega)⟩

theorem Lk.rd {w : World} {b : Nat} {ss : List Sl} {f l r c : Int} (h : Lk w b ss f l r c) (hn : ss.length = 60) : Rd w b ss := by
  intro i hi
  obtain ⟨h0, h1, h2, h3⟩ := h.slot (i := i) (by omega)
  exact ⟨h0, h1, h2, h3, h.nums.2.2.2.2⟩

/-- A store of field j of slot i. -/
theorem Lk.setF {w : World} {b : Nat} {ss : List Sl} {f l r c : Int} (h : Lk w b ss f l r c) {i j : Nat} (hi : i < 60) (hj : j < 4) (hn : ss.length = 60) {s : Sl} {v : Value} (hv : s.at j = v) (hs : ∀ k, k < 4 → k ≠ j → s.at k = (sl ss i).at k) :
    Lk (w.setCell ⟨b, i * 4 + j, none⟩ v) b (ss.set i s) f l r c := by
  refine lk_of_row ((h.row.set (i * 4 + j) v).congr fun o ho => ?_)
  by_cases e : o = i * 4 + j
  · subst e
    rw [if_pos rfl, lkF, if_pos (by omega), show (i * 4 + j) / 4 = i from by omega, show (i * 4 + j) % 4 = j from by omega, sl_set _ _ _ _ (by omega), if_pos rfl, hv]
  · rw [if_neg e]
    unfold lkF
    by_cases ho' : o < 240
    · rw [if_pos ho', if_pos ho', sl_set _ _ _ _ (by omega)]
      by_cases ei : o / 4 = i
      · rw [if_pos ei, ei]
        exact (hs (o % 4) (by omega) (by omega)).symm
      · rw [if_neg ei]
    · rw [if_neg ho', if_neg ho']

theorem Lk.setN {w : World} {b : Nat} {ss : List Sl} {f l r c : Int} (h : Lk w b ss f l r c) (f' l' r' c' : Int) (o : Nat) (ho : 240 ≤ o) (v : Value) (hv : lkF ss f' l' r' c' o = v) (hs : ∀ k, 240 ≤ k → k < 244 → k ≠ o → lkF ss f' l' r' c' k = lkF ss f l r c k) :
    Lk (w.setCell ⟨b, o, none⟩ v) b ss f' l' r' c' := by
  refine lk_of_row ((h.row.set o v).congr fun k hk => ?_)
  by_cases e : k = o
  · subst e; rw [if_pos rfl, hv]
  · rw [if_neg e]
    by_cases hk' : k < 240
    · unfold lkF; rw [if_pos hk', if_pos hk']
    · exact (hs k (by omega) hk e).symm

theorem Lk.setFirst {w : World} {b : Nat} {ss : List Sl} {f l r c : Int} (h : Lk w b ss f l r c) (x : Int) : Lk (w.setCell ⟨b, 240, none⟩ (.int .i64 x)) b ss x l r c :=
  h.setN x l r c 240 (by omega) _ rfl fun k h1 h2 h3 => by
    have : k = 241 ∨ k = 242 ∨ k = 243 := by omega
    rcases this with rfl | rfl | rfl <;> rfl
theorem Lk.setLast {w : World} {b : Nat} {ss : List Sl} {f l r c : Int} (h : Lk w b ss f l r c) (x : Int) : Lk (w.setCell ⟨b, 241, none⟩ (.int .i64 x)) b ss f x r c :=
  h.setN f x r c 241 (by omega) _ rfl fun k h1 h2 h3 => by
    have : k = 240 ∨ k = 242 ∨ k = 243 := by omega
    rcases this with rfl | rfl | rfl <;> rfl
theorem Lk.setFree {w : World} {b : Nat} {ss : List Sl} {f l r c : Int} (h : Lk w b ss f l r c) (x : Int) : Lk (w.setCell ⟨b, 242, none⟩ (.int .i64 x)) b ss f l x c :=
  h.setN f l x c 242 (by omega) _ rfl fun k h1 h2 h3 => by
    have : k = 240 ∨ k = 241 ∨ k = 243 := by omega
    rcases this with rfl | rfl | rfl <;> rfl
theorem Lk.setCount {w : World} {b : Nat} {ss : List Sl} {f l r c : Int} (h : Lk w b ss f l r c) (x : Int) : Lk (w.setCell ⟨b, 243, none⟩ (.int .i64 x)) b ss f l r x :=
  h.setN f l r x 243 (by omega) _ rfl fun k h1 h2 h3 => by
    have : k = 240 ∨ k = 241 ∨ k = 242 := by omega
    rcases this with rfl | rfl | rfl <;> rfl

theorem oldcell {w w1 : World} {o : Obj} (hb : Below (w.alloc o).drew.heap.size (w.alloc o).drew w1) : ∀ b j, b < w.heap.size → w1.cell? ⟨b, j, none⟩ = w.cell? ⟨b, j, none⟩ := fun b j h =>
  (hb.cell (p := ⟨b, j, none⟩) (by show b < (w.alloc o).heap.size; simp; omega)).trans (World.cell?_alloc_lt w o ⟨b, j, none⟩ h)

theorem newbox {w w1 : World} {v0 v1 v2 v3 v4 : Value} {t : TypeId} (hb : Below (w.alloc (.cells #[v0, v1, v2, v3, v4] t)).drew.heap.size (w.alloc (.cells #[v0, v1, v2, v3, v4] t)).drew w1) :
    w1.cell? ⟨w.heap.size, 0, none⟩ = some v0 ∧ w1.cell? ⟨w.heap.size, 1, none⟩ = some v1 ∧ w1.cell? ⟨w.heap.size, 2, none⟩ = some v2 ∧ w1.cell? ⟨w.heap.size, 3, none⟩ = some v3 ∧ w1.cell? ⟨w.heap.size, 4, none⟩ = some v4 ∧ ∀ j, w1.frozen? ⟨w.heap.size, j, none⟩ = false := by
  have e : w1.heap[w.heap.size]? = some (.cells #[v0, v1, v2, v3, v4] t (0, 0)) := (hb.block w.heap.size (by show _ < (w.alloc _).heap.size; simp)).trans (heap_alloc_new w _)
  have hc : ∀ o, w1.cell? ⟨w.heap.size, o, none⟩ = #[v0, v1, v2, v3, v4][o]? := fun o => cell_of_row _ _ o _ _ (0, 0) e
  refine ⟨?_, ?_, ?_, ?_, ?_, fun j => by simp [World.frozen?, e]⟩ <;> (rw [hc]; rfl)

theorem other5 {w : World} {b g j o0 o1 o2 o3 o4 : Nat} {u0 u1 u2 u3 u4 : Value} (h : b ≠ g) :
    (((((w.setCell ⟨g, o0, none⟩ u0).setCell ⟨g, o1, none⟩ u1).setCell ⟨g, o2, none⟩ u2).setCell ⟨g, o3, none⟩ u3).setCell ⟨g, o4, none⟩ u4).cell? ⟨b, j, none⟩ = w.cell? ⟨b, j, none⟩ := by
  rw [other_cell _ () h, other_cell _ () h, other_cell _ () h, other_cell _ () h, other_cell _ () h]

/-- What a call that hands back a new slice of slots leaves. -/
def NewS (w : World) (n : Nat) (ss : List Sl) (e : Ending) (w' : World) : Prop :=
  ∃ A cap, e = .returned (.slice A n cap) ∧ SlV w' w.heap.size w'.heap.size A ss ∧ Below w.heap.size w w'

theorem news_rd {w : World} {g : Nat} {ss : List Sl} (h : Rd w g ss) : ∀ j u, (cellsL ss)[j]? = some u → w.cell? ((⟨g, 0, none⟩ : Addr).add j) = some u := by
  intro j u hj
  have hlt : j < (cellsL ss).length := (List.getElem?_eq_some_iff.1 hj).1
  rw [cellsL_len] at hlt
  have ea : (⟨g, 0, none⟩ : Addr).add j = ⟨g, j, none⟩ := by
    unfold Addr.add; split
    · next h => subst h; rfl
    · simp
  rw [ea]
  have hi : j / 4 < ss.length := by omega
  have e := cellsL_at ss (j / 4) (j % 4) hi (by omega)
  rw [show j / 4 * 4 + j % 4 = j from by omega, hj] at e
  obtain ⟨h0, h1, h2, h3, _⟩ := h (j / 4) hi
  have hm : j % 4 = 0 ∨ j % 4 = 1 ∨ j % 4 = 2 ∨ j % 4 = 3 := by omega
  rcases hm with hm | hm | hm | hm <;> rw [hm] at e <;> simp [Sl.cells] at e <;> subst e
  · rw [show j = j / 4 * 4 from by omega]; simpa [List.getD_eq_getElem?_getD] using h0
  · rw [show j = j / 4 * 4 + 1 from by omega]; simpa [List.getD_eq_getElem?_getD, show (j / 4 * 4 + 1) / 4 = j / 4 from by omega] using h1
  · rw [show j = j / 4 * 4 + 2 from by omega]; simpa [List.getD_eq_getElem?_getD, show (j / 4 * 4 + 2) / 4 = j / 4 from by omega] using h2
  · rw [show j = j / 4 * 4 + 3 from by omega]; simpa [List.getD_eq_getElem?_getD, show (j / 4 * 4 + 3) / 4 = j / 4 from by omega] using h3

theorem cells_one (ss : List Sl) : ∀ u ∈ cellsL ss, u.oneCell' = true := by
  induction ss with
  | nil => simp [cellsL]
  | cons s r ih =>
    intro u hu
    simp only [cellsL, Sl.cells, List.mem_append] at hu
    rcases hu with hu | hu
    · simp at hu; rcases hu with rfl | rfl | rfl | rfl <;> rfl
    · exact ih u hu

set_option maxRecDepth 100000 in
set_option maxHeartbeats 400000 in
theorem clone_any (g n cap : Nat) (ss : List Sl) (w : World) (hn : ss.length = n) (hm : n ≤ 1048576) (h : Rd w g ss) (hg : g < w.heap.size) :
    Calls Try.prog 113 #[.slice (some ⟨g, 0, none⟩) n cap] w (NewS w n ss) := by
  have Hn := Lib.hid hn
  clear hn
  have HI := Lib.hid h
  clear h
  obtain ⟨i0, hi0, hz0, hz1, hz2⟩ := info_parts infoSlot
  have Hi0 := Lib.hid hi0
  have Hz0 := Lib.hid hz0
  have Hz1 := Lib.hid hz1
  have Hz2 := Lib.hid hz2
  clear hi0 hz0 hz1 hz2
  have hnil := fun W => Lib.run_eql_slice_nil (P := Try.prog) W 24 91 (some ⟨g, 0, none⟩) n cap 0 0 Try.underlying24
  go_enter Try.func113, Try.ntmps113
  go_wp2_with (at_builtin; refine wpList_append_own _ rfl _ _ 24 rfl w.heap.size 91 i0 _ 4 32 Try.underlying24 Hi0.out Hz0.out Hz1.out Hz2.out rfl (by decide) _ 0 [] rfl ?c0h ⟨g, 0, none⟩ n cap (cellsL ss) rfl ?c6h ?c1h ?c2h ?c3h ?c4h ?c5h ?_)
  case c0h =>
    have h := World.ownsRow_lit (base := w.heap.size) (e := 91) (size := 4) w #[] 0 (Nat.le_refl _) (by simp) (by simp)
    simp at h
    exact h
  case c6h => rw [cellsL_len, Hn.out]
  case c1h => exact news_rd (HI.out.of_block (Below.heap_alloc w _ g hg))
  case c2h => exact cells_one ss
  case c3h => unfold maxLen; omega
  case c4h => omega
  case c5h => simp
  · intro v' w1 hown hgr _
    obtain ⟨A', cap', rfl⟩ := owns_form hown
    have Ho := Lib.hid hown
    have Hg := Lib.hid hgr
    clear hown hgr
    go_wp2
    go_ret
    refine ⟨A', cap', rfl, slv_owns Hn.out Ho.out, (bel_alloc w _).grown Hg.out (by simp) (fun k e => ?_)⟩
    simp [Value.ownBlock] at e
    omega

set_option maxRecDepth 100000 in
theorem clone_nil (w : World) : Calls Try.prog 113 #[.slice none 0 0] w fun e w' => e = .returned (.slice none 0 0) ∧ w = w' := by
  have hnil := fun W => Lib.run_eql_slice_nil (P := Try.prog) W 24 91 none 0 0 0 0 Try.underlying24
  go_enter Try.func113, Try.ntmps113
  go_wp2
  go_ret
  exact ⟨rfl, rfl⟩

set_option maxRecDepth 100000 in
set_option maxHeartbeats 1000000 in
theorem queue_any (b : Nat) (f l r c : Int) (ss : List Sl) (w : World) (hn : ss.length = 60) (h : Lk w b ss f l r c) :
    Calls Try.prog 77 #[.pointer (some ⟨b, 0, none⟩)] w (NewQ w 60 ss f l r c) := by
  obtain ⟨n0, n1, n2, n3, _⟩ := h.nums
  have hlt := h.lt
  have Hn := Lib.hid hn
  have HI := Lib.hid h
  clear h hn
  have HG : Hid (b ≠ w.heap.size) := Nat.ne_of_lt hlt
  go_enter Try.func77, Try.ntmps77
  go_wp2_with fail
  go_region_held3 (fun w' => w'.cell? ⟨b, 240, none⟩ = some (.int .i64 f) ∧ w'.cell? ⟨b, 241, none⟩ = some (.int .i64 l) ∧ w'.cell? ⟨b, 242, none⟩ = some (.int .i64 r) ∧ w'.cell? ⟨b, 243, none⟩ = some (.int .i64 c))
    (first
      | with_reducible exact ⟨(Hc.out _ _ hlt).trans n0, (Hc.out _ _ hlt).trans n1, (Hc.out _ _ hlt).trans n2, (Hc.out _ _ hlt).trans n3⟩
      | with_reducible exact ⟨(other5 HG.out).trans ((Hc.out _ _ hlt).trans n0), (other5 HG.out).trans ((Hc.out _ _ hlt).trans n1), (other5 HG.out).trans ((Hc.out _ _ hlt).trans n2), (other5 HG.out).trans ((Hc.out _ _ hlt).trans n3)⟩
      | go_keep)
    ((go_at_call 113; refine (clone_any b 60 _ ss _ Hn.out (by omega) ((HI.out.alloc _).drew.rd Hn.out) (HI.out.alloc _).drew.lt).mono ?_; rintro e w1 ⟨A', cap', rfl, hv, hb⟩; have Hc := Lib.hid (oldcell hb); obtain ⟨d0, d1, d2, d3, d4, df⟩ := newbox hb; have Hb := Lib.hid hb; have Hv := Lib.hid hv; clear hb hv))
  go_wp2
  refine bodyPost_ret (v := .agg #[.slice A' 60 cap', .int .i64 f, .int .i64 l, .int .i64 r, .int .i64 c]) (by simp [results, Try.results77, go_sem, d0, d1, d2, d3, d4]) rfl ⟨A', cap', rfl, ?_, ?_⟩
  · have hv := Hv.out
    have hz : (w.alloc (.cells #[.slice none 0 0, .int .i64 0, .int .i64 0, .int .i64 0, .int .i64 0] 26)).drew.heap.size = w.heap.size + 1 := by show (w.alloc _).heap.size = _; simp
    rw [hz] at hv
    refine SlV.wide (lo := w.heap.size + 1) (hi := w1.heap.size) ?_ (by omega) (by simp [World.setCell])
    iterate 5 refine SlV.setCell ?_ (by simp <;> omega) _
    exact hv
  · iterate 5 refine Below.setCell ?_ (by simp <;> omega) _
    exact (bel_alloc w _).trans ((bel_of_drew Hb.out).mono (by simp))

theorem zero_links : Try.zeroCells94 = lkA (List.replicate 60 zSl) 0 0 0 0 := by kernel_rfl
theorem info_links : (Try.prog.info? 94).map (·.size) = some 244 := by kernel_rfl
end Go.Proofs.Ytpjelojmkmednaa.Que

namespace Go.Proofs.Ytpjelojmkmednaa.Que
open Go.RowKit Go.Deep Base

theorem lkA_one (ss : List Sl) (f l r c : Int) : (lkA ss f l r c).all (·.oneCell') = true := by
  rw [Array.all_eq_true_iff_forall_mem]
  intro v hv
  obtain ⟨i, hi, rfl⟩ := Array.mem_map.1 hv
  unfold lkF Sl.at
  repeat' split
  all_goals rfl

theorem lkA_set240 (ss : List Sl) (f l r c x : Int) : (lkA ss f l r c).setIfInBounds 240 (.int .i64 x) = lkA ss x l r c := by
  apply Array.ext_getElem?
  intro i
  rw [Array.getElem?_setIfInBounds]
  by_cases e : 240 = i
  · subst e; rw [if_pos rfl, if_pos (by rw [lkA_size]; omega), lkA_at _ _ _ _ _ (by omega)]; rfl
  · rw [if_neg e]
    by_cases hi : i < 244
    · rw [lkA_at _ _ _ _ _ hi, lkA_at _ _ _ _ _ hi]
      unfold lkF
      have e' : ¬ i = 240 := fun h => e h.symm
      simp only [e', if_false]
    · rw [lkA_past _ _ _ _ _ hi, lkA_past _ _ _ _ _ hi]
theorem lkA_set241 (ss : List Sl) (f l r c x : Int) : (lkA ss f l r c).setIfInBounds 241 (.int .i64 x) = lkA ss f x r c := by
  apply Array.ext_getElem?
  intro i
  rw [Array.getElem?_setIfInBounds]
  by_cases e : 241 = i
  · subst e; rw [if_pos rfl, if_pos (by rw [lkA_size]; omega), lkA_at _ _ _ _ _ (by omega)]; rfl
  · rw [if_neg e]
    by_cases hi : i < 244
    · rw [lkA_at _ _ _ _ _ hi, lkA_at _ _ _ _ _ hi]
      unfold lkF
      have e' : ¬ i = 241 := fun h => e h.symm
      simp only [e', if_false]
    · rw [lkA_past _ _ _ _ _ hi, lkA_past _ _ _ _ _ hi]

theorem store_links (w : World) (c c' : Array Value) (hc : c.size = 244) (ss : List Sl) (f l r n : Int) (h : c' = lkA ss f l r n) :
    (storeCells ⟨w.heap.size, 0, none⟩ c'.toList).run Try.prog (w.alloc (.cells c 94)) = .ok () (w.alloc (.cells (lkA ss f l r n) 94)) := by
  subst h
  exact run_storeCells_new w 94 c _ (by rw [info_links, lkA_size]) (by rw [hc, lkA_size]) (lkA_one _ _ _ _ _)

theorem Lk.next {w : World} {b : Nat} {ss : List Sl} {f l r c : Int} (h : Lk w b ss f l r c) {i : Nat} (hi : i < 60) (hn : ss.length = 60) (x : Int) : Lk (w.setCell ⟨b, i * 4 + 2, none⟩ (.int .i64 x)) b (ss.set i (wNext (sl ss i) x)) f l r c := by
  refine h.setF hi (j := 2) (by omega) hn rfl (fun j hj hne => ?_)
  have : j = 0 ∨ j = 1 ∨ j = 3 := by omega
  rcases this with rfl | rfl | rfl <;> rfl
theorem Lk.prev {w : World} {b : Nat} {ss : List Sl} {f l r c : Int} (h : Lk w b ss f l r c) {i : Nat} (hi : i < 60) (hn : ss.length = 60) (x : Int) : Lk (w.setCell ⟨b, i * 4 + 1, none⟩ (.int .i64 x)) b (ss.set i (wPrev (sl ss i) x)) f l r c := by
  refine h.setF hi (j := 1) (by omega) hn rfl (fun j hj hne => ?_)
  have : j = 0 ∨ j = 2 ∨ j = 3 := by omega
  rcases this with rfl | rfl | rfl <;> rfl

/-- The slots behind k rounds. -/
def newTo (k : Nat) : List Sl := (List.range 60).map fun i => if i < k then ⟨0, -1, (i : Int) + 1, false⟩ else zSl
theorem newTo_len (k : Nat) : (newTo k).length = 60 := by simp [newTo]
theorem newTo_at {k i : Nat} (h : i < 60) : sl (newTo k) i = if i < k then ⟨0, -1, (i : Int) + 1, false⟩ else zSl := by simp [newTo, sl, h]
theorem newTo_zero : newTo 0 = List.replicate 60 zSl := by decide +kernel
theorem list_ext {a b : List Sl} (h1 : a.length = 60) (h2 : b.length = 60) (h : ∀ i, i < 60 → sl a i = sl b i) : a = b := by
  apply List.ext_getElem?
  intro i
  by_cases hi : i < 60
  · have := h i hi
    unfold sl at this
    rw [List.getD_eq_getElem?_getD, List.getD_eq_getElem?_getD, List.getElem?_eq_getElem (by omega), List.getElem?_eq_getElem (by omega)] at this
    rw [List.getElem?_eq_getElem (by omega), List.getElem?_eq_getElem (by omega)]
    simpa using this
  · rw [List.getElem?_eq_none (by omega), List.getElem?_eq_none (by omega)]
theorem newTo_step {k : Nat} (h : k < 60) : ((newTo k).set k (wPrev (sl (newTo k) k) (-1))).set k (wNext (sl ((newTo k).set k (wPrev (sl (newTo k) k) (-1))) k) ((k : Int) + 1)) = newTo (k + 1) := by
  have hz : sl (newTo k) k = zSl := by rw [newTo_at h, if_neg (by omega)]
  have hz' : sl ((newTo k).set k (wPrev (sl (newTo k) k) (-1))) k = wPrev zSl (-1) := by rw [sl_set _ _ _ _ (by rw [newTo_len]; omega), if_pos rfl, hz]
  rw [hz', hz]
  refine list_ext (by simp [newTo_len]) (newTo_len _) fun i hi => ?_
  by_cases e : i = k
  · subst e
    rw [sl_set _ _ _ _ (by simp [newTo_len]; omega), if_pos rfl, newTo_at hi, if_pos (by omega)]; rfl
  · rw [sl_set _ _ _ _ (by simp [newTo_len]; omega), if_neg e, sl_set _ _ _ _ (by rw [newTo_len]; omega), if_neg e, newTo_at hi, newTo_at hi]
    by_cases l : i < k
    · rw [if_pos l, if_pos (by omega)]
    · rw [if_neg l, if_neg (by omega)]
theorem newTo_end : (newTo 60).set 59 (wNext (sl (newTo 60) 59) (-1)) = newS := by
  have hz : sl (newTo 60) 59 = ⟨0, -1, 60, false⟩ := by rw [newTo_at (by omega), if_pos (by omega)]; rfl
  rw [hz]
  refine list_ext (by simp [newTo_len]) newS_len fun i hi => ?_
  rw [sl_set _ _ _ _ (by rw [newTo_len]; omega), show sl newS i = newAt i from newS_at hi]
  unfold newAt
  by_cases e : i = 59
  · subst e; rfl
  · rw [if_neg e, newTo_at hi, if_pos hi, if_neg (by omega)]

set_option maxRecDepth 100000 in
set_option maxHeartbeats 1000000 in
theorem implNew_any (w : World) : Calls Try.prog 40 #[] w (NewQ w 60 newS (-1) (-1) 0 0) := by
  have hsc : Sem.run Try.prog (storeCells ⟨w.heap.size + 1, 0, none⟩ ((Try.zeroCells94.toList.set 240 (.int .i64 (-1))).set 241 (.int .i64 (-1)))) ((w.alloc (.cells #[.slice none 0 0, .int .i64 0, .int .i64 0, .int .i64 0, .int .i64 0] 26)).alloc (.cells Try.zeroCells94 94))
      = .ok () ((w.alloc (.cells #[.slice none 0 0, .int .i64 0, .int .i64 0, .int .i64 0, .int .i64 0] 26)).alloc (.cells (lkA (newTo 0) (-1) (-1) 0 0) 94)) := by
    have h := store_links (w.alloc (.cells #[.slice none 0 0, .int .i64 0, .int .i64 0, .int .i64 0, .int .i64 0] 26)) Try.zeroCells94 ((Try.zeroCells94.setIfInBounds 240 (.int .i64 (-1))).setIfInBounds 241 (.int .i64 (-1))) (by rw [zero_links, lkA_size]) (newTo 0) (-1) (-1) 0 0 (by rw [zero_links, lkA_set240, lkA_set241, newTo_zero])
    simpa using h
  go_enter Try.func40, Try.ntmps40
  go_wp2
  clear hsc
  go_loopw [4] (fun i wr => ∃ k : Nat, k ≤ 60 ∧ i = .int .i64 k ∧ Lk wr (w.heap.size + 1) (newTo k) (-1) (-1) 0 0 ∧ Below (w.heap.size + 1) (w.alloc (.cells #[.slice none 0 0, .int .i64 0, .int .i64 0, .int .i64 0, .int .i64 0] 26)) wr) (fun i _ => 60 - (intOf i).toNat)
  case atStart =>
    refine ⟨0, Nat.zero_le _, rfl, ?_, (Below.refl _ _).alloc (by simp) _⟩
    have h := heap_alloc_new (w.alloc (.cells #[.slice none 0 0, .int .i64 0, .int .i64 0, .int .i64 0, .int .i64 0] 26)) (.cells (lkA (newTo 0) (-1) (-1) 0 0) 94)
    simp only [World.size_alloc] at h
    exact h
  case round =>
    obtain ⟨k, hk, rfl, hL, hold⟩ := hrel
    by_cases hlt : k < 60
    · obtain ⟨c0, c1, c2, c3⟩ := hL.slot hlt
      have cf := hL.nums.2.2.2.2
      have h2 := (hL.prev hlt (newTo_len _) (-1)).next hlt (by simp [newTo_len]) ((k : Int) + 1)
      rw [newTo_step hlt] at h2
      have H2 := Lib.hid h2
      have Hold := Lib.hid hold
      clear h2 hL hold
      generalize sl (newTo k) k = s at c0 c1 c2 c3
      go_wp2
      go_roundw
      case rel => exact ⟨k + 1, by omega, by go_num, H2.out, (Hold.out.setCell (by simp) _).setCell (by simp) _⟩
      case measure => simp [intOf]; omega
    · obtain rfl : k = 60 := by omega
      obtain ⟨c0, c1, c2, c3⟩ := hL.slot (i := 59) (by omega)
      have cf := hL.nums.2.2.2.2
      have h1 := hL.next (i := 59) (by omega) (newTo_len _) (-1)
      rw [newTo_end] at h1
      have H1 := Lib.hid h1
      have Hold := Lib.hid hold
      clear h1 hL hold
      generalize sl (newTo 60) 59 = s at c0 c1 c2 c3
      go_wp2_with fail
      refine (queue_any (w.heap.size + 1) (-1) (-1) 0 0 newS _ newS_len H1.out).mono ?_
      rintro e w1 ⟨A', cap', rfl, hv, hb⟩
      have hsz : (wr.setCell ⟨w.heap.size + 1, 238, none⟩ (.int .i64 (-1))).heap.size = wr.heap.size := by simp [World.setCell]
      have hlt1 := H1.out.lt
      rw [hsz] at hv hlt1
      have Hb : Hid (Below (w.heap.size + 1) (w.alloc (.cells #[.slice none 0 0, .int .i64 0, .int .i64 0, .int .i64 0, .int .i64 0] 26)) w1) := (Hold.out.setCell (p := ⟨w.heap.size + 1, 238, none⟩) (by simp) (.int .i64 (-1))).trans (hb.mono (by rw [hsz]; omega))
      have Hv := Lib.hid hv
      clear hv hb hsz
      obtain ⟨z0, z1, z2, z3, z4, zf⟩ := (Blk5.of_block (w := w.alloc (.cells #[.slice none 0 0, .int .i64 0, .int .i64 0, .int .i64 0, .int .i64 0] 26)) (g := w.heap.size) (heap_alloc_new w _) (Hb.out.block w.heap.size (by omega))).cells
      go_wp2
      refine bodyPost_ret (v := .agg #[.slice A' 60 cap', .int .i64 (-1), .int .i64 (-1), .int .i64 0, .int .i64 0]) (by simp [results, Try.results40, go_sem, z0, z1, z2, z3, z4]) rfl ⟨A', cap', rfl, ?_, ?_⟩
      · refine SlV.wide (lo := wr.heap.size) (hi := w1.heap.size) ?_ (by omega) (by simp [World.setCell])
        iterate 5 refine SlV.setCell ?_ (by simp <;> omega) _
        exact Hv.out
      · iterate 5 refine Below.setCell ?_ (by simp <;> omega) _
        exact (bel_alloc w _).trans (Hb.out.mono (by omega))
end Go.Proofs.Ytpjelojmkmednaa.Que
