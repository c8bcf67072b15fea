/- The state of the law on queues between two rounds: the queue in its box, the plain list beside it. -/
import Derived.Test.YtjbfmagedkmngaaQx1
import Derived.Test.YtjbfmagedkmngaaLi1
import Derived.Test.YtjbfmagedkmngaaQue9
namespace Go.Proofs.Ytjbfmagedkmngaa.Que
open Go.RowKit Go.Deep Base Rng

theorem slv_at {w : World} {lo hi : Nat} {A : Option Addr} {ss : List Sl} (h : SlV w lo hi A ss) (hp : 0 < ss.length) : ∃ g, lo ≤ g ∧ g < hi ∧ SlV w g (g + 1) A ss := by
  obtain ⟨g, h1, h2, h3, h4⟩ := h hp
  exact ⟨g, h2, h3, fun _ => ⟨g, h1, Nat.le_refl _, Nat.lt_succ_self _, h4⟩⟩

theorem ql_new : QL newS (-1) (-1) 0 0 [] := by
  obtain ⟨us, fs, v⟩ := ok_val (ss := newS) (first := -1) (last := -1) (free := 0) (count := 0) (by decide +kernel)
  refine ⟨us, fs, v, ?_⟩
  have hc := v.cnt
  have : us.length = 0 := by omega
  rw [List.eq_nil_of_length_eq_zero this]
  rfl

/-- The queue's part: its box and its slots. -/
def QP (wr : World) (qb g : Nat) (ss : List Sl) (f l r c : Int) (A : Option Addr) (cq : Nat) : Prop :=
  Blk5 wr qb (.slice A 60 cq) (.int .i64 f) (.int .i64 l) (.int .i64 r) (.int .i64 c) ∧ SlV wr g (g + 1) A ss ∧ g ≠ qb ∧ g < wr.heap.size

structure QSt (w wr : World) (qb b off n cap : Nat) (L : List Int) (g : Nat) (ss : List Sl) (f l r c : Int) (A : Option Addr) (cq : Nat) : Prop where
  q : QP wr qb g ss f l r c A cq
  ql : QL ss f l r c L
  li : Li wr w.heap.size b off n cap L
  old : Below w.heap.size w wr
  qlow : w.heap.size ≤ qb
  qne : qb ≠ b
  gne : g ≠ b

theorem QP.keep {wr w2 : World} {qb g : Nat} {ss : List Sl} {f l r c : Int} {A : Option Addr} {cq : Nat} (h : QP wr qb g ss f l r c A cq) (e1 : w2.heap[qb]? = wr.heap[qb]?) (e2 : w2.heap[g]? = wr.heap[g]?) (hs : wr.heap.size ≤ w2.heap.size) : QP w2 qb g ss f l r c A cq := by
  refine ⟨h.1.of_block e1, h.2.1.of_block (fun k h1 h2 => ?_), h.2.2.1, Nat.lt_of_lt_of_le h.2.2.2 hs⟩
  have hk : k = g := by omega
  rw [hk]
  exact e2

theorem QSt.keep {w wr w2 : World} {qb b off n cap g cq : Nat} {L : List Int} {ss : List Sl} {f l r c : Int} {A : Option Addr} (h : QSt w wr qb b off n cap L g ss f l r c A cq) (hb : Below wr.heap.size wr w2) : QSt w w2 qb b off n cap L g ss f l r c A cq :=
  ⟨h.q.keep (hb.block _ h.q.1.lt) (hb.block _ h.q.2.2.2) hb.size, h.ql, h.li.below hb h.li.lt, h.old.trans (hb.mono h.old.size), h.qlow, h.qne, h.gne⟩

/-- The box of the queue behind five stores. -/
theorem five {w : World} {g : Nat} {a0 a1 a2 a3 a4 : Value} (h : Blk5 w g a0 a1 a2 a3 a4) (v0 v1 v2 v3 v4 : Value) : Blk5 (((((w.setCell ⟨g, 0, none⟩ v0).setCell ⟨g, 1, none⟩ v1).setCell ⟨g, 2, none⟩ v2).setCell ⟨g, 3, none⟩ v3).setCell ⟨g, 4, none⟩ v4) g v0 v1 v2 v3 v4 := by
  unfold Blk5 at h ⊢
  simp [World.setCell, Array.getElem?_modify, h]

/-- The new queue is stored into the box: w2 is the world behind the call and what the list has become there. -/
theorem QSt.put {w wr w2 : World} {qb b off n cap g cq b' off' n' cap' c0 : Nat} {L L' : List Int} {ss ss' : List Sl} {f l r c f' l' r' c' : Int} {A A' : Option Addr} (h : QSt w wr qb b off n cap L g ss f l r c A cq) (eq : w2.heap[qb]? = wr.heap[qb]?) (hold : Below w.heap.size w w2)
    (hs : SlV w2 c0 w2.heap.size A' ss') (hc0 : wr.heap.size ≤ c0) (hnb : ∀ g', A' = some ⟨g', 0, none⟩ → g' ≠ b') (hq : QL ss' f' l' r' c' L') (hl : Li w2 w.heap.size b' off' n' cap' L') (hb' : qb ≠ b') (cq' : Nat) :
    ∃ g', QSt w (((((w2.setCell ⟨qb, 0, none⟩ (.slice A' 60 cq')).setCell ⟨qb, 1, none⟩ (.int .i64 f')).setCell ⟨qb, 2, none⟩ (.int .i64 l')).setCell ⟨qb, 3, none⟩ (.int .i64 r')).setCell ⟨qb, 4, none⟩ (.int .i64 c')) qb b' off' n' cap' L' g' ss' f' l' r' c' A' cq' := by
  have hp : 0 < ss'.length := by rw [hq.len]; omega
  obtain ⟨g', h1, h2, h3⟩ := slv_at hs hp
  obtain ⟨gg, e1, e2, e3, e4⟩ := h3 hp
  have hgg : gg = g' := by omega
  subst hgg
  have hlt := h.q.1.lt
  have hne : gg ≠ qb := by omega
  have hblk : ∀ k, k ≠ qb → (((((w2.setCell ⟨qb, 0, none⟩ (.slice A' 60 cq')).setCell ⟨qb, 1, none⟩ (.int .i64 f')).setCell ⟨qb, 2, none⟩ (.int .i64 l')).setCell ⟨qb, 3, none⟩ (.int .i64 r')).setCell ⟨qb, 4, none⟩ (.int .i64 c')).heap[k]? = w2.heap[k]? := fun k hk => by
    rw [heap_setCell_other _ _ _ _ hk, heap_setCell_other _ _ _ _ hk, heap_setCell_other _ _ _ _ hk, heap_setCell_other _ _ _ _ hk, heap_setCell_other _ _ _ _ hk]
  have hsz : (((((w2.setCell ⟨qb, 0, none⟩ (.slice A' 60 cq')).setCell ⟨qb, 1, none⟩ (.int .i64 f')).setCell ⟨qb, 2, none⟩ (.int .i64 l')).setCell ⟨qb, 3, none⟩ (.int .i64 r')).setCell ⟨qb, 4, none⟩ (.int .i64 c')).heap.size = w2.heap.size := by simp [World.setCell]
  refine ⟨gg, ⟨five (h.q.1.of_block eq) _ _ _ _ _, h3.of_block (fun k k1 k2 => hblk k (by omega)), hne, by rw [hsz]; exact h2⟩, hq, hl.of_block (hblk _ (fun e => hb' e.symm)) (by rw [hsz]; exact hl.lt), ?_, h.qlow, hb', hnb gg e1⟩
  exact ((((hold.setCell h.qlow _).setCell h.qlow _).setCell h.qlow _).setCell h.qlow _).setCell h.qlow _
end Go.Proofs.Ytjbfmagedkmngaa.Que
