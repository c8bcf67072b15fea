/- What spec.l02Copy and spec.NewQueue make. -/
import Derived.Test.YtjbfmagedkmngaaQue5
import Derived.Deep.RegionLaw
import Derived.Deep.AppendLies
namespace Go.Proofs.Ytjbfmagedkmngaa.Que
open Go.RowKit Go.Deep Base

def Sl.cells (s : Sl) : List Value := [.int .i64 s.id, .int .i64 s.prev, .int .i64 s.next, .bool s.used]
def cellsL : List Sl → List Value
  | [] => []
  | s :: r => s.cells ++ cellsL r

theorem cellsL_append (a b : List Sl) : cellsL (a ++ b) = cellsL a ++ cellsL b := by
  induction a with
  | nil => rfl
  | cons s r ih => simp only [List.cons_append, cellsL, ih, List.append_assoc]
theorem cellsL_one (s : Sl) : cellsL [s] = [.int .i64 s.id, .int .i64 s.prev, .int .i64 s.next, .bool s.used] := rfl
theorem cellsL_len (a : List Sl) : (cellsL a).length = a.length * 4 := by
  induction a with
  | nil => rfl
  | cons s r ih => simp only [cellsL, List.length_append, ih, Sl.cells, List.length_cons, List.length_nil]; omega
theorem cellsL_at : ∀ (ss : List Sl) (i j : Nat), i < ss.length → j < 4 → (cellsL ss)[i * 4 + j]? = (ss.getD i zSl).cells[j]?
  | [], i, j, h, _ => by simp at h
  | s :: r, 0, j, _, hj => by
    simp only [cellsL, Nat.zero_mul, Nat.zero_add, List.getD_cons_zero]
    rw [List.getElem?_append_left (by simp [Sl.cells]; omega)]
  | s :: r, i + 1, j, h, hj => by
    simp only [cellsL, List.getD_cons_succ]
    rw [List.getElem?_append_right (by simp [Sl.cells]; omega)]
    rw [show (i + 1) * 4 + j - s.cells.length = i * 4 + j from by simp [Sl.cells]; omega]
    exact cellsL_at r i j (by simp at h; omega) hj

theorem rd_owns {w : World} {base g n cap : Nat} {ss : List Sl} (hn : ss.length = n) (h : w.ownsRow base 51 4 (.slice (some ⟨g, 0, none⟩) n cap) n (cellsL ss)) : Rd w g ss := by
  intro i hi
  have hc : ∀ j, j < 4 → w.cell? ⟨g, i * 4 + j, none⟩ = (ss.getD i zSl).cells[j]? := fun j hj => (h.cellAt (i * 4 + j) (by omega)).trans (cellsL_at ss i j hi hj)
  exact ⟨(hc 0 (by omega)).trans rfl, (hc 1 (by omega)).trans rfl, (hc 2 (by omega)).trans rfl, (hc 3 (by omega)).trans rfl, fun j => h.frozenAt j⟩

theorem slv_owns {w : World} {base n cap : Nat} {A : Option Addr} {ss : List Sl} (hn : ss.length = n) (h : w.ownsRow base 51 4 (.slice A n cap) n (cellsL ss)) : SlV w base w.heap.size A ss := by
  intro hp
  rcases h.2 with ⟨_, h0⟩ | ⟨g, cap', cur, hv, hb, hg, _⟩
  · omega
  · injection hv with hA _ _
    subst hA
    exact ⟨g, rfl, hb, (h.lt g rfl).2, rd_owns hn h⟩

theorem new_four_at {w : World} {B : Nat} (h : w.heap.size = B) (a b c d : Value) (t : TypeId) : ∀ j u, [a, b, c, d][j]? = some u → (w.alloc (.cells #[a, b, c, d] t)).cell? ((⟨B, 0, none⟩ : Addr).add j) = some u := by
  subst h
  intro j u hj
  have ea : (⟨w.heap.size, 0, none⟩ : Addr).add j = ⟨w.heap.size, j, none⟩ := by
    unfold Addr.add; split
    · next h => subst h; rfl
    · simp
  rw [ea, cell_of_row _ _ j #[a, b, c, d] t (0, 0) (heap_alloc_new w _)]
  simpa using hj

theorem below_block {w w' : World} {B g : Nat} (h : Below B w w') (hg : g < B) : w'.heap[g]? = w.heap[g]? := h.block g hg

/-- A block of five cells that is known whole. -/
def Blk5 (w : World) (g : Nat) (v0 v1 v2 v3 v4 : Value) : Prop := w.heap[g]? = some (.cells #[v0, v1, v2, v3, v4] 26 (0, 0))

theorem Blk5.cells {w : World} {g : Nat} {v0 v1 v2 v3 v4 : Value} (h : Blk5 w g v0 v1 v2 v3 v4) :
    w.cell? ⟨g, 0, none⟩ = some v0 ∧ w.cell? ⟨g, 1, none⟩ = some v1 ∧ w.cell? ⟨g, 2, none⟩ = some v2 ∧ w.cell? ⟨g, 3, none⟩ = some v3 ∧ w.cell? ⟨g, 4, none⟩ = some v4 ∧ ∀ j, w.frozen? ⟨g, j, none⟩ = false := by
  have hc : ∀ o, w.cell? ⟨g, o, none⟩ = #[v0, v1, v2, v3, v4][o]? := fun o => cell_of_row _ _ o _ _ (0, 0) h
  refine ⟨?_, ?_, ?_, ?_, ?_, fun j => by unfold Blk5 at h; simp [World.frozen?, h]⟩ <;> (rw [hc]; rfl)
theorem Blk5.lt {w : World} {g : Nat} {v0 v1 v2 v3 v4 : Value} (h : Blk5 w g v0 v1 v2 v3 v4) : g < w.heap.size := (Array.getElem?_eq_some_iff.1 h).1
theorem Blk5.of_block {w w' : World} {g : Nat} {v0 v1 v2 v3 v4 : Value} (h : Blk5 w g v0 v1 v2 v3 v4) (e : w'.heap[g]? = w.heap[g]?) : Blk5 w' g v0 v1 v2 v3 v4 := e.trans h
theorem Blk5.alloc {w : World} {g : Nat} {v0 v1 v2 v3 v4 : Value} (h : Blk5 w g v0 v1 v2 v3 v4) (o : Obj) : Blk5 (w.alloc o) g v0 v1 v2 v3 v4 := h.of_block (Below.heap_alloc w o g h.lt)
theorem Blk5.set0 {w : World} {g : Nat} {v0 v1 v2 v3 v4 : Value} (h : Blk5 w g v0 v1 v2 v3 v4) (u : Value) : Blk5 (w.setCell ⟨g, 0, none⟩ u) g u v1 v2 v3 v4 := by
  unfold Blk5 at h ⊢
  simp [World.setCell, Array.getElem?_modify, h]

theorem far_cells {wr w1 : World} {B : Nat} {v : Value} {e : TypeId} {size k : Nat} {xs : List Value} {o : Obj} (hg : (wr.alloc o).drew.grownBy w1 v.ownBlock) (h : wr.ownsRow B e size v k xs) :
    ∀ b j, b < B ∧ b < wr.heap.size → w1.cell? ⟨b, j, none⟩ = wr.cell? ⟨b, j, none⟩ := fun b j hb => by
  have e1 : w1.heap[b]? = (wr.alloc o).heap[b]? := hg.block b (by show b < (wr.alloc o).heap.size; simp; omega) (fun e => by have := (h.lt b e.symm).1; omega)
  exact World.cell?_of_block (w := wr) (e1.trans (Below.heap_alloc wr o b hb.2))
theorem far_frozen {wr w1 : World} {B : Nat} {v : Value} {e : TypeId} {size k : Nat} {xs : List Value} {o : Obj} (hg : (wr.alloc o).drew.grownBy w1 v.ownBlock) (h : wr.ownsRow B e size v k xs) :
    ∀ b j, b < B ∧ b < wr.heap.size → w1.frozen? ⟨b, j, none⟩ = wr.frozen? ⟨b, j, none⟩ := fun b j hb => by
  have e1 : w1.heap[b]? = (wr.alloc o).heap[b]? := hg.block b (by show b < (wr.alloc o).heap.size; simp; omega) (fun e => by have := (h.lt b e.symm).1; omega)
  exact World.frozen?_of_block (w := wr) (e1.trans (Below.heap_alloc wr o b hb.2))

theorem other_cell {w : World} {b g o j : Nat} (u : Value) (_ : Unit) (h : b ≠ g) : (w.setCell ⟨g, o, none⟩ u).cell? ⟨b, j, none⟩ = w.cell? ⟨b, j, none⟩ :=
  World.cell?_setCell_other _ _ _ _ (fun e => by injection e with e _ _; exact h e.symm)

theorem grown_undrew {a b : World} {row : Option Nat} (h : a.drew.grownBy b row) : a.grownBy b row := ⟨h.os, h.tape, h.output, h.size, h.block⟩

structure CopySt (B : Nat) (w wr : World) (v f l r c : Value) (k : Nat) (ss : List Sl) : Prop where
  box : Blk5 wr (B + 1 + 1) v f l r c
  own : wr.ownsRow (B + 1 + 1 + 1) 51 4 v k (cellsL (ss.take k))
  old : Below (B + 1 + 1) w wr

theorem CopySt.step {B : Nat} {w wr w1 : World} {v v' f l r c : Value} {k : Nat} {ss : List Sl} {o : Obj} (h : CopySt B w wr v f l r c k ss) {xs : List Value} (hx : cellsL (ss.take (k + 1)) = xs) (hown : w1.ownsRow (B + 1 + 1 + 1) 51 4 v' (k + 1) xs) (hg : (wr.alloc o).grownBy w1 v.ownBlock) :
    CopySt B w (w1.setCell ⟨B + 1 + 1, 0, none⟩ v') v' f l r c (k + 1) ss := by
  have hlt := h.box.lt
  have hne : some (B + 1 + 1) ≠ v.ownBlock := fun e => by have := (h.own.lt _ e.symm).1; omega
  have hb1 : Blk5 w1 (B + 1 + 1) v f l r c := (h.box.alloc o).of_block (hg.block _ (by simp; omega) hne)
  refine ⟨hb1.set0 v', ?_, ?_⟩
  · rw [hx]
    refine hown.kept (Draw_grown_set _ _ _ _) (.inr fun e => ?_)
    have := (hown.lt _ e).1
    omega
  · exact ((h.old.alloc (by omega) o).grown hg (by simp; omega) (fun j e => by have := (h.own.lt j e).1; omega)).setCell (by simp) _

def LoopC (B : Nat) (w wr : World) (f l r c : Value) (k : Nat) (ss : List Sl) : Prop := ∃ v, CopySt B w wr v f l r c k ss

set_option maxHeartbeats 1000000 in
theorem copy_any (A : Option Addr) (n cap lo hi : Nat) (f l r c : Int) (ss : List Sl) (w : World) (hn : ss.length = n) (hm : n ≤ 1048576) (h : SlV w lo hi A ss) (hs : hi ≤ w.heap.size) :
    Calls Try.prog 59 #[.agg #[.slice A n cap, .int .i64 f, .int .i64 l, .int .i64 r, .int .i64 c]] w (NewQ w n ss f l r c) := by
  have Hn := Lib.hid hn
  clear hn
  have HI := Lib.hid h
  clear h
  go_enter Try.func59, Try.ntmps59
  go_wp2
  go_loopw [4] (fun i wr => ∃ k : Nat, k ≤ n ∧ i = .int .i64 k ∧ LoopC w.heap.size ((w.alloc (.cells #[.slice A n cap, .int .i64 f, .int .i64 l, .int .i64 r, .int .i64 c] 26)).alloc (.cells #[.slice none 0 0, .int .i64 0, .int .i64 0, .int .i64 0, .int .i64 0] 26)) wr (.int .i64 f) (.int .i64 l) (.int .i64 r) (.int .i64 c) k ss) (fun i _ => n - (intOf i).toNat)
  case atStart =>
    refine ⟨0, Nat.zero_le _, rfl, .slice none 0 0, ⟨?_, ?_, ?_⟩⟩
    · have h := heap_alloc_new ((w.alloc (.cells #[.slice A n cap, .int .i64 f, .int .i64 l, .int .i64 r, .int .i64 c] 26)).alloc (.cells #[.slice none 0 0, .int .i64 0, .int .i64 0, .int .i64 0, .int .i64 0] 26)) (.cells #[.slice none 0 0, .int .i64 f, .int .i64 l, .int .i64 r, .int .i64 c] 26)
      simp only [World.size_alloc] at h
      exact h
    · exact World.ownsRow_nil _ _ _ _
    · exact (Below.refl _ _).alloc (by simp) _
  case round =>
    obtain ⟨k, hk, rfl, v, hst⟩ := hrel
    have Hst := Lib.hid hst
    clear hst
    obtain ⟨b0, _, _, _, _, _⟩ := (Blk5.of_block (w := (w.alloc (.cells #[.slice A n cap, .int .i64 f, .int .i64 l, .int .i64 r, .int .i64 c] 26)).alloc (.cells #[.slice none 0 0, .int .i64 0, .int .i64 0, .int .i64 0, .int .i64 0] 26)) (Blk5.alloc (heap_alloc_new w _) _) (Hst.out.old.block w.heap.size (by omega))).cells
    obtain ⟨x0, x1, x2, x3, x4, xf⟩ := Hst.out.box.cells
    by_cases hlt : k < n
    · have Hb : Hid (Below w.heap.size w wr) := ((((Below.refl _ _).alloc (Nat.le_refl _) _).alloc (by simp) _).trans (Hst.out.old.mono (by omega)))
      obtain ⟨g, rfl, hg1, hg2, hcs⟩ := (HI.out.below Hb.out hs) (by have := Hn.out; omega)
      obtain ⟨c0, c1, c2, c3, _⟩ := hcs k (by have := Hn.out; omega)
      clear hcs
      have Hx : Hid (cellsL (ss.take (k + 1)) = cellsL (ss.take k) ++ [.int .i64 (ss.getD k zSl).id, .int .i64 (ss.getD k zSl).prev, .int .i64 (ss.getD k zSl).next, .bool (ss.getD k zSl).used]) := by
        have hk' : k < ss.length := by have := Hn.out; omega
        show _ = _
        rw [List.take_succ_eq_append_getElem hk', cellsL_append, ← cellsL_one]; simp [List.getD_eq_getElem?_getD, hk']
      generalize ss.getD k zSl = s at c0 c1 c2 c3 Hx
      obtain ⟨i0, hi0, hz0, hz1, hz2⟩ := info_parts infoSlot
      have Hi0 := Lib.hid hi0
      have Hz0 := Lib.hid hz0
      have Hz1 := Lib.hid hz1
      have Hz2 := Lib.hid hz2
      clear hi0 hz0 hz1 hz2
      have hsz := Hst.out.box.lt
      have hne : some (w.heap.size + 1 + 1) ≠ v.ownBlock := fun e => by have := (Hst.out.own.lt _ e.symm).1; omega
      have hne2 : some (w.heap.size) ≠ v.ownBlock := fun e => by have := (Hst.out.own.lt _ e.symm).1; omega
      have hne3 : some g ≠ v.ownBlock := fun e => by have := (Hst.out.own.lt _ e.symm).1; omega
      have HH : Hid ((w.heap.size + 1 + 1 < w.heap.size + 1 + 1 + 1 ∧ w.heap.size + 1 + 1 < wr.heap.size) ∧ (w.heap.size < w.heap.size + 1 + 1 + 1 ∧ w.heap.size < wr.heap.size) ∧ (g < w.heap.size + 1 + 1 + 1 ∧ g < wr.heap.size)) := ⟨by omega, by omega, by omega⟩
      have HG : Hid (w.heap.size ≠ w.heap.size + 1 + 1 ∧ g ≠ w.heap.size + 1 + 1) := ⟨by omega, by omega⟩
      have hk0 : (0 : Int) ≤ (k : Int) := Int.natCast_nonneg _
      have hk1 : (k : Int) < (n : Int) := by omega
      go_wp2
      go_region_law
        ((refine step_append_lies _ (by rfl) _ _ _ (by rfl) (w.heap.size + 1 + 1 + 1) 51 i0 _ 4 32 Try.underlying24 Hi0.out Hz0.out Hz1.out Hz2.out rfl (by omega) v k _ (by rfl) ((Hst.out.own.alloc _).drew)
            ⟨wr.heap.size, 0, none⟩ 1 1 [.int .i64 s.id, .int .i64 s.prev, .int .i64 s.next, .bool s.used] (by rfl) (by rfl) (new_four_at (w := wr) rfl _ _ _ _ _) (by simp [Value.oneCell'])
            (by omega) (by unfold maxLen; omega) (by omega) (by simp; omega) (wr.heap.size + 1) (by simp) ?_; intro gg cap' w1 hown hgrow hat hlt'; have yq := (far_cells hgrow Hst.out.own (w.heap.size + 1 + 1) 0 HH.out.1).trans x0; have yf := (far_frozen hgrow Hst.out.own (w.heap.size + 1 + 1) 0 HH.out.1).trans (xf 0)))
      all_goals
        have HQ := Lib.hid (Hst.out.step Hx.out hown (grown_undrew hgrow))
        clear hown hgrow hat hlt' yq yf hne hne2 hne3 hk0 hk1
        go_wp2
        go_roundw
        case rel => exact ⟨k + 1, by omega, by go_num, _, HQ.out⟩
        case measure => simp [intOf]; omega
    · obtain rfl : k = n := by omega
      obtain ⟨A', cap', rfl⟩ := owns_form Hst.out.own
      obtain ⟨z0, z1, z2, z3, z4, zf⟩ := (Blk5.of_block (w := (w.alloc (.cells #[.slice A k cap, .int .i64 f, .int .i64 l, .int .i64 r, .int .i64 c] 26)).alloc (.cells #[.slice none 0 0, .int .i64 0, .int .i64 0, .int .i64 0, .int .i64 0] 26)) (g := w.heap.size + 1) (by have h := heap_alloc_new (w.alloc (.cells #[.slice A k cap, .int .i64 f, .int .i64 l, .int .i64 r, .int .i64 c] 26)) (.cells #[.slice none 0 0, .int .i64 0, .int .i64 0, .int .i64 0, .int .i64 0] 26); rw [World.size_alloc] at h; exact h) (Hst.out.old.block (w.heap.size + 1) (by omega))).cells
      go_wp2
      refine bodyPost_ret (v := .agg #[.slice A' k cap', .int .i64 f, .int .i64 l, .int .i64 r, .int .i64 c]) (by simp [results, Try.results59, go_sem, z0, z1, z2, z3, z4]) rfl ⟨A', cap', rfl, ?_, ?_⟩
      · have e : ss.take k = ss := List.take_of_length_le (by have := Hn.out; omega)
        have ho := Hst.out.own
        rw [e] at ho
        refine SlV.wide (lo := w.heap.size + 1 + 1 + 1) (hi := wr.heap.size) ?_ (by omega) (by simp [World.setCell])
        iterate 5 refine SlV.setCell ?_ (by simp <;> omega) _
        exact slv_owns Hn.out ho
      · iterate 5 refine Below.setCell ?_ (by simp <;> omega) _
        exact (((Below.refl _ _).alloc (Nat.le_refl _) _).alloc (by simp) _).trans (Hst.out.old.mono (by omega))
end Go.Proofs.Ytjbfmagedkmngaa.Que
