/- Sets of states: those that one event leads to (wider). -/
import Derived.Test.YtoknjofdpnjioaaDoorCn5
import Derived.WalkMore
import Derived.ScopeJumps
namespace Go.Proofs.YtoknjofdpnjioaaDoor.Cn
open Go.RowKit Go.Deep Base Rw

/-- The states behind the first e events of state i are taken in. -/
def widE (m : List Bool) (i : Nat) : Nat → List Bool
  | 0 => m
  | e + 1 => (widE m i e).set (goF (i * 7 + e)).toNat true
/-- Those of the first i states of x. -/
def widI (x : List Bool) : Nat → List Bool
  | 0 => x
  | i + 1 => if x.getD i false then widE (widI x i) i 7 else widI x i
def wid (x : List Bool) : List Bool := widI x 5

theorem widE_len (m : List Bool) (i e : Nat) : (widE m i e).length = m.length := by
  induction e with
  | zero => rfl
  | succ e ih => simp only [widE, List.length_set, ih]
theorem widI_len (x : List Bool) (i : Nat) : (widI x i).length = x.length := by
  induction i with
  | zero => rfl
  | succ i ih =>
    simp only [widI]
    split
    · rw [widE_len, ih]
    · exact ih

/-- A set of states in a block. -/
structure BS (w : World) (m : Nat) (l : List Bool) : Prop where
  len : l.length = 5
  cell : ∀ i, i < 5 → w.cell? ⟨m, i, none⟩ = some (.bool (l.getD i false))
  free : ∀ j, w.frozen? ⟨m, j, none⟩ = false

theorem BS.of_block {w w' : World} {m : Nat} {l : List Bool} (h : BS w m l) (e : w'.heap[m]? = w.heap[m]?) : BS w' m l :=
  ⟨h.len, fun i hi => (World.cell?_of_block e).trans (h.cell i hi), fun j => (World.frozen?_of_block e).trans (h.free j)⟩
theorem BS.lt {w : World} {m : Nat} {l : List Bool} (h : BS w m l) : m < w.heap.size := World.block_lt_of_cell? _ _ (h.cell 0 (by omega))
theorem BS.set {w : World} {m : Nat} {l : List Bool} (h : BS w m l) (k : Nat) : BS (w.setCell ⟨m, k, none⟩ (.bool true)) m (l.set k true) := by
  refine ⟨by simp [h.len], fun i hi => ?_, fun j => by rw [World.frozen?_setCell]; exact h.free j⟩
  rw [cell_set (by rw [h.cell i hi]; rfl), h.cell i hi, List.getD_eq_getElem?_getD, List.getD_eq_getElem?_getD, List.getElem?_set]
  have := h.len
  by_cases e : i = k
  · subst e; simp [this, hi]
  · rw [if_neg e, if_neg (fun h => e h.symm)]
theorem BS.put {w : World} {m : Nat} {l : List Bool} (h : BS w m l) (k : Nat) (y : Bool) : BS (w.setCell ⟨m, k, none⟩ (.bool y)) m (l.set k y) := by
  refine ⟨by simp [h.len], fun i hi => ?_, fun j => by rw [World.frozen?_setCell]; exact h.free j⟩
  rw [cell_set (by rw [h.cell i hi]; rfl), h.cell i hi, List.getD_eq_getElem?_getD, List.getD_eq_getElem?_getD, List.getElem?_set]
  have := h.len
  by_cases e : i = k
  · subst e; simp [this, hi]
  · rw [if_neg e, if_neg (fun h => e h.symm)]
theorem BS.put5 {w : World} {m : Nat} {l : List Bool} (h : BS w m l) (y0 y1 y2 y3 y4 : Bool) : BS (((((w.setCell ⟨m, 0, none⟩ (.bool y0)).setCell ⟨m, 1, none⟩ (.bool y1)).setCell ⟨m, 2, none⟩ (.bool y2)).setCell ⟨m, 3, none⟩ (.bool y3)).setCell ⟨m, 4, none⟩ (.bool y4)) m [y0, y1, y2, y3, y4] := by
  have h5 := ((((h.put 0 y0).put 1 y1).put 2 y2).put 3 y3).put 4 y4
  obtain ⟨_, _, _, _, _, rfl⟩ : ∃ a0 a1 a2 a3 a4, l = [a0, a1, a2, a3, a4] := by
    match l, h.len with
    | [a0, a1, a2, a3, a4], _ => exact ⟨a0, a1, a2, a3, a4, rfl⟩
  exact h5
theorem setNew {lo hi : Nat} {a w : World} (h : Turns lo hi a w) {p : Addr} (hp : a.heap.size ≤ p.block) (u : Value) : Turns lo hi a (w.setCell p u) :=
  ⟨h.os, h.tape, h.output, by simpa [World.setCell] using h.size, fun k hk ho => (heap_setCell_other _ _ _ _ (by omega)).trans (h.block k hk ho)⟩
theorem turnsPut5 {lo hi m : Nat} {a w : World} (h : Turns lo hi a w) (hp : a.heap.size ≤ m) (y0 y1 y2 y3 y4 : Bool) : Turns lo hi a (((((w.setCell ⟨m, 0, none⟩ (.bool y0)).setCell ⟨m, 1, none⟩ (.bool y1)).setCell ⟨m, 2, none⟩ (.bool y2)).setCell ⟨m, 3, none⟩ (.bool y3)).setCell ⟨m, 4, none⟩ (.bool y4)) :=
  setNew (p := ⟨m, 4, none⟩) (setNew (p := ⟨m, 3, none⟩) (setNew (p := ⟨m, 2, none⟩) (setNew (p := ⟨m, 1, none⟩) (setNew (p := ⟨m, 0, none⟩) h hp _) hp _) hp _) hp _) hp _
theorem Cht.put5 {b m : Nat} {w : World} (h : Cht w b) (hp : b ≠ m) (y0 y1 y2 y3 y4 : Bool) : Cht (((((w.setCell ⟨m, 0, none⟩ (.bool y0)).setCell ⟨m, 1, none⟩ (.bool y1)).setCell ⟨m, 2, none⟩ (.bool y2)).setCell ⟨m, 3, none⟩ (.bool y3)).setCell ⟨m, 4, none⟩ (.bool y4)) b :=
  h.of_block ((heap_setCell_other _ _ _ _ hp).trans ((heap_setCell_other _ _ _ _ hp).trans ((heap_setCell_other _ _ _ _ hp).trans ((heap_setCell_other _ _ _ _ hp).trans (heap_setCell_other _ _ _ _ hp)))))
theorem BS.new {w : World} {t : TypeId} (x0 x1 x2 x3 x4 : Bool) : BS (w.alloc (.cells #[.bool x0, .bool x1, .bool x2, .bool x3, .bool x4] t)) w.heap.size [x0, x1, x2, x3, x4] := by
  have e := heap_alloc_new w (.cells #[.bool x0, .bool x1, .bool x2, .bool x3, .bool x4] t)
  refine ⟨rfl, fun i hi => ?_, fun j => World.frozen?_alloc_new _ _ t j⟩
  rw [cell_of_row _ _ i _ t (0, 0) e]
  match i, hi with
  | 0, _ | 1, _ | 2, _ | 3, _ | 4, _ => rfl
theorem BS.cells {w : World} {m : Nat} {l : List Bool} (h : BS w m l) : ∃ x0 x1 x2 x3 x4, l = [x0, x1, x2, x3, x4] ∧ w.cell? ⟨m, 0, none⟩ = some (.bool x0) ∧ w.cell? ⟨m, 1, none⟩ = some (.bool x1) ∧ w.cell? ⟨m, 2, none⟩ = some (.bool x2) ∧ w.cell? ⟨m, 3, none⟩ = some (.bool x3) ∧ w.cell? ⟨m, 4, none⟩ = some (.bool x4) := by
  match l, h with
  | [x0, x1, x2, x3, x4], h => exact ⟨x0, x1, x2, x3, x4, rfl, h.cell 0 (by omega), h.cell 1 (by omega), h.cell 2 (by omega), h.cell 3 (by omega), h.cell 4 (by omega)⟩
  | [], h => exact absurd h.len (by simp)
  | [_], h => exact absurd h.len (by simp)
  | [_, _], h => exact absurd h.len (by simp)
  | [_, _, _], h => exact absurd h.len (by simp)
  | [_, _, _, _], h => exact absurd h.len (by simp)
  | _ :: _ :: _ :: _ :: _ :: _ :: _, h => exact absurd h.len (by simp)

theorem go_lt : ∀ i, i < 35 → 0 ≤ goF i ∧ goF i < 5 := by decide

set_option maxRecDepth 100000 in
theorem bit_at (x0 x1 x2 x3 x4 : Bool) (k : Nat) (hk : k < 5) (w : World) : (Instr.index 63 (.agg #[.bool x0, .bool x1, .bool x2, .bool x3, .bool x4]) (.int .i64 (k : Int))).run Tryd.prog w = .ok (.bool ([x0, x1, x2, x3, x4].getD k false)) w := by
  match k, hk with
  | 0, _ | 1, _ | 2, _ | 3, _ | 4, _ => rfl

theorem wpList_bit {ops : Array Oper} {rest : List Oper} {op : Oper} {a : Act} {w : World} {Q : Exit → Act → World → Prop} (hgd : op.guard = none) (x ix : Operand) (ho : op.op = .index 63 x ix)
    (x0 x1 x2 x3 x4 : Bool) (k : Nat) (hk : k < 5) (hx : a.eval x = .agg #[.bool x0, .bool x1, .bool x2, .bool x3, .bool x4]) (hi : a.eval ix = .int .i64 (k : Int))
    (h : wpList Tryd.prog ops Q rest (a.put op.dst (.bool ([x0, x1, x2, x3, x4].getD k false))) w) : wpList Tryd.prog ops Q (op :: rest) a w :=
  wpList_plain hgd fun _ hK => by
    have hr := bit_at x0 x1 x2 x3 x4 k hk w
    unfold Oper.wp execOp
    simp only [ho, hx, hi, Sem.run_bind, hr, Sem.run_pure, Result.andThen_ok]
    exact hK _ _ h

/-- Between two rounds: the chart, the set so far in a new block. -/
structure WdSt (b m : Nat) (W wr : World) (l : List Bool) : Prop where
  set : BS wr m l
  new : W.heap.size ≤ m
  old : Turns b (b + 1) W wr
  ch : Cht wr b

theorem WdSt.keep {b m : Nat} {W wr w2 : World} {l : List Bool} (h : WdSt b m W wr l) (hb : b < W.heap.size) (ht : Turns b (b + 1) wr w2) (hc : Cht w2 b) : WdSt b m W w2 l :=
  ⟨h.set.of_block (ht.block m h.set.lt (by have := h.new; omega)), h.new, h.old.trans ht, hc⟩
theorem WdSt.store {b m : Nat} {W wr : World} {l : List Bool} (h : WdSt b m W wr l) (hb : b < W.heap.size) (k : Nat) : WdSt b m W (wr.setCell ⟨m, k, none⟩ (.bool true)) (l.set k true) :=
  ⟨h.set.set k, h.new, ⟨h.old.os, h.old.tape, h.old.output, by simpa [World.setCell] using h.old.size, fun i hi ho => (heap_setCell_other _ _ _ _ (by have := h.new; show i ≠ m; omega)).trans (h.old.block i hi ho)⟩, h.ch.of_block (heap_setCell_other _ _ _ _ (by have := h.new; show b ≠ m; omega))⟩

set_option maxRecDepth 100000 in
set_option maxHeartbeats 1600000 in
theorem wider_any (b : Nat) (x0 x1 x2 x3 x4 : Bool) (w : World) (hc : Cht w b) (hm : Mvs w) (hb1 : b ≠ 1) :
    Calls Tryd.prog 46 #[.pointer (some ⟨b, 0, none⟩), .agg #[.bool x0, .bool x1, .bool x2, .bool x3, .bool x4]] w
      fun e w' => (∃ y0 y1 y2 y3 y4, e = .returned (.agg #[.bool y0, .bool y1, .bool y2, .bool y3, .bool y4]) ∧ wid [x0, x1, x2, x3, x4] = [y0, y1, y2, y3, y4]) ∧ Cht w' b ∧ Turns b (b + 1) w w' := by
  have HM := Lib.hid hm
  have HC := Lib.hid hc
  have hbl : b < w.heap.size := hc.lt
  clear hm hc
  go_enter Tryd.func46, Tryd.ntmps46
  go_wp2
  obtain ⟨W1, hW1⟩ : ∃ W1, (w.alloc (.cells #[.bool x0, .bool x1, .bool x2, .bool x3, .bool x4] 63)).alloc (.cells #[.bool false, .bool false, .bool false, .bool false, .bool false] 63) = W1 := ⟨_, rfl⟩
  have hs1 : W1.heap.size = w.heap.size + 1 + 1 := by rw [← hW1]; simp
  have B1 : Hid (Below w.heap.size w W1) := Lib.hid (by rw [← hW1]; exact bel_trans (bel_alloc _ _) (bel_alloc _ _))
  have R1 : Hid (BS W1 (w.heap.size + 1) [false, false, false, false, false]) := Lib.hid (by rw [← hW1]; have := BS.new (w := w.alloc (.cells #[.bool x0, .bool x1, .bool x2, .bool x3, .bool x4] 63)) (t := 63) false false false false false; simpa using this)
  rw [hW1]
  clear hW1
  obtain ⟨m, hm⟩ : ∃ m, m = w.heap.size + 1 + 1 := ⟨_, rfl⟩
  have S1 : Hid (WdSt b m W1 (W1.alloc (.cells #[.bool x0, .bool x1, .bool x2, .bool x3, .bool x4] 63)) (widI [x0, x1, x2, x3, x4] 0)) := Lib.hid (by
    rw [hm, ← hs1]
    exact ⟨BS.new x0 x1 x2 x3 x4, Nat.le_refl _, Turns.of_below (bel_alloc _ _), (HC.out.below B1.out).below (bel_alloc _ _)⟩)
  obtain ⟨r, hr⟩ : ∃ r, r = w.heap.size + 1 := ⟨_, rfl⟩
  rw [← hr] at hm R1 ⊢
  rw [← hm]
  have Hs1 := Lib.hid hs1
  have hbW : b < W1.heap.size := by omega
  have hrW : r < W1.heap.size := by omega
  have hrb : r ≠ b := by omega
  have hwr : w.heap.size ≤ r := by omega
  have hmW : W1.heap.size ≤ m := by omega
  have hwW : w.heap.size ≤ W1.heap.size := by omega
  clear hs1 hm hr
  go_loopw [13] (fun i wr => ∃ k : Nat, k ≤ 5 ∧ i = .int .i64 k ∧ WdSt b m W1 wr (widI [x0, x1, x2, x3, x4] k)) (fun i _ => 5 - (intOf i).toNat)
  case atStart => exact ⟨0, by omega, rfl, S1.out⟩
  case round =>
    obtain ⟨k, hk, rfl, hst⟩ := hrel
    obtain ⟨wo, rfl⟩ : ∃ wo, wo = wr := ⟨_, rfl⟩
    have Hst := Lib.hid hst
    clear hst S1
    by_cases hlt : k < 5
    · have Hx : Hid (widI [x0, x1, x2, x3, x4] (k + 1) = if [x0, x1, x2, x3, x4].getD k false then widE (widI [x0, x1, x2, x3, x4] k) k 7 else widI [x0, x1, x2, x3, x4] k) := Lib.hid rfl
      have HB := fun {ops : Array Oper} {rest : List Oper} {op : Oper} {a : Act} {w : World} {Q : Exit → Act → World → Prop} (hgd : op.guard = none) (x ix : Operand) (ho : op.op = .index 63 x ix) (hx : a.eval x = .agg #[.bool x0, .bool x1, .bool x2, .bool x3, .bool x4]) (hi : a.eval ix = .int .i64 (k : Int)) h => wpList_bit (ops := ops) (rest := rest) (op := op) (a := a) (w := w) (Q := Q) hgd x ix ho x0 x1 x2 x3 x4 k hlt hx hi h
      have hxl : (widI [x0, x1, x2, x3, x4] k).length = 5 := by rw [widI_len]; rfl
      generalize [x0, x1, x2, x3, x4].getD k false = xk at Hx HB
      generalize widI [x0, x1, x2, x3, x4] k = lk at Hst Hx hxl
      cases xk
      · have Hx' : Hid (widI [x0, x1, x2, x3, x4] (k + 1) = lk) := Lib.hid (by rw [Hx.out]; rfl)
        go_wp2_with (refine HB rfl (.tmp 12) (.tmp 13) rfl rfl rfl ?_)
        go_loopw [8] (fun e wr => e = .int .i64 0 ∧ wr = wo) (fun _ _ => 0)
        case atStart => exact ⟨rfl, rfl⟩
        case round =>
          obtain ⟨rfl, rfl⟩ := hrel
          go_wp2
          go_roundw
          case rel => exact ⟨k + 1, by omega, by go_num, by rw [Hx'.out]; exact Hst.out⟩
          case measure => simp [intOf]; omega
      · have Hx' : Hid (widI [x0, x1, x2, x3, x4] (k + 1) = widE lk k 7) := Lib.hid (by rw [Hx.out]; rfl)
        go_wp2_with (refine HB rfl (.tmp 12) (.tmp 13) rfl rfl rfl ?_)
        go_loopw [8] (fun e wr => ∃ j : Nat, j ≤ 7 ∧ e = .int .i64 j ∧ WdSt b m W1 wr (widE lk k j)) (fun e _ => 7 - (intOf e).toNat)
        case atStart => exact ⟨0, by omega, rfl, Hst.out⟩
        case round =>
          obtain ⟨j, hj, rfl, hsi⟩ := hrel
          have Hsi := Lib.hid hsi
          clear hsi
          by_cases hlt2 : j < 7
          · obtain ⟨hg0, hg5⟩ := go_lt (k * 7 + j) (by omega)
            have HSt := Lib.hid (fun w => step_any b (k : Int) (j : Int) w)
            have hgo : go (k : Int) (j : Int) = goF (k * 7 + j) := by
              have h1 : isS (k : Int) = true := by simp [isS]; omega
              have h2 : isE (j : Int) = true := by simp [isE]; omega
              simp [go, h1, h2]
            rw [hgo] at HSt
            have Hw : Hid (widE lk k (j + 1) = (widE lk k j).set (goF (k * 7 + j)).toNat true) := Lib.hid rfl
            clear hgo
            generalize goF (k * 7 + j) = gg at HSt hg0 hg5 Hw
            obtain ⟨gn, rfl⟩ : ∃ gn : Nat, gg = (gn : Int) := ⟨gg.toNat, by omega⟩
            rw [Int.toNat_natCast] at Hw
            go_wp2_with fail
            refine (HSt.out _ Hsi.out.ch (HM.out.turn ((Turns.of_below B1.out).trans Hsi.out.old) (by omega)) hb1).mono ?_
            rintro e w2 ⟨rfl, hc2, ht2⟩
            replace Hsi := Lib.hid (Hsi.out.keep hbW ht2 hc2)
            clear hc2 ht2
            have c1 := Hsi.out.set.cell gn (by omega)
            have z1 := Hsi.out.set.free gn
            generalize (widE lk k j).getD gn false = old at c1
            go_wp2
            go_roundw
            case rel => exact ⟨j + 1, by omega, by go_num, by rw [Hw.out]; exact Hsi.out.store hbW gn⟩
            case measure => simp [intOf]; omega
          · obtain rfl : j = 7 := by omega
            go_wp2
            go_roundw
            case rel => exact ⟨k + 1, by omega, by go_num, by rw [Hx'.out]; exact Hsi.out⟩
            case measure => simp [intOf]; omega
    · obtain rfl : k = 5 := by omega
      obtain ⟨y0, y1, y2, y3, y4, hy, c0, c1, c2, c3, c4⟩ := Hst.out.set.cells
      have HR := Lib.hid (R1.out.of_block (Hst.out.old.block r hrW (by omega)))
      obtain ⟨_, _, _, _, _, _, d0, d1, d2, d3, d4⟩ := HR.out.cells
      have f0 := HR.out.free 0
      have f1 := HR.out.free 1
      have f2 := HR.out.free 2
      have f3 := HR.out.free 3
      have f4 := HR.out.free 4
      have Hy := Lib.hid hy
      clear hy
      go_wp2
      obtain ⟨_, _, _, _, _, ee, e0, e1, e2, e3, e4⟩ := (HR.out.put5 y0 y1 y2 y3 y4).cells
      injection ee with q0 ee
      injection ee with q1 ee
      injection ee with q2 ee
      injection ee with q3 ee
      injection ee with q4 _
      subst q0 q1 q2 q3 q4
      have hT := turnsPut5 ((Turns.of_below (lo := b) (hi := b + 1) B1.out).trans Hst.out.old) hwr y0 y1 y2 y3 y4
      have hC := Hst.out.ch.put5 hrb.symm y0 y1 y2 y3 y4
      clear c0 c1 c2 c3 c4 d0 d1 d2 d3 d4 f0 f1 f2 f3 f4
      generalize ((((wo.setCell ⟨r, 0, none⟩ (.bool y0)).setCell ⟨r, 1, none⟩ (.bool y1)).setCell ⟨r, 2, none⟩ (.bool y2)).setCell ⟨r, 3, none⟩ (.bool y3)).setCell ⟨r, 4, none⟩ (.bool y4) = wf at e0 e1 e2 e3 e4 hT hC ⊢
      refine bodyPost_ret (v := .agg #[.bool y0, .bool y1, .bool y2, .bool y3, .bool y4]) (by simp [results, Tryd.results46, go_sem, e0, e1, e2, e3, e4]) rfl ⟨⟨y0, y1, y2, y3, y4, rfl, Hy.out⟩, hC, hT⟩

/-- The sets behind k widenings. -/
def widN (x : List Bool) : Nat → List Bool
  | 0 => x
  | k + 1 => wid (widN x k)
def one (f : Nat) : List Bool := (List.replicate 5 false).set f true
def reach (f : Nat) : List Bool := widN (one f) 3

theorem reach_next : ∀ f, f < 5 → ∀ i, i < 4 → (widN (one f) i = reach f ∨ (i < 3 ∧ wid (widN (one f) i) ≠ widN (one f) i)) := by decide
theorem reach_stop : ∀ f, f < 5 → wid (reach f) = reach f := by decide

end Go.Proofs.YtoknjofdpnjioaaDoor.Cn
