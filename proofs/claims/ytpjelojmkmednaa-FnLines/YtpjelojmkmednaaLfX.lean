/- A slice of integers somewhere in a block, with what room it has: cut at the front, grown by append in place or anew. A queue as a plain list of Ids: what pushing, popping, finding and removing make of the list. The state of the law on queues between two rounds: the queue in its box, the plain list beside it. The laws' helpers that the law on queues calls: big, at, within, same. -/
import Derived.Test.YtpjelojmkmednaaBase
import Derived.ArgAppend
import Derived.Laws.Rows
import Derived.Laws.OwnMore
import Derived.Test.YtpjelojmkmednaaLqB
import Derived.Test.YtpjelojmkmednaaLq3
import Derived.Test.YtpjelojmkmednaaLqD
namespace Go.Proofs.Ytpjelojmkmednaa.Base
open Go.RowKit Go.Deep

/-- The slice ⟨b, off⟩ of n integers with room for cap: it reads L, its room may be written; its block lies from lo on. -/
structure Li (w : World) (lo b off n cap : Nat) (L : List Int) : Prop where
  len : L.length = n
  le : n ≤ cap
  low : lo ≤ b
  lt : b < w.heap.size
  cells : ∀ i, i < n → w.cell? ⟨b, off + i, none⟩ = some (.int .i64 (L.getD i 0))
  room : ∀ i, i < cap → (w.cell? ⟨b, off + i, none⟩).isSome = true ∧ w.frozen? ⟨b, off + i, none⟩ = false

theorem Li.ints {w : World} {lo b off n cap : Nat} {L : List Int} (h : Li w lo b off n cap L) : Ints w (some ⟨b, off, none⟩) L := fun _ => ⟨b, off, rfl, fun i hi => h.cells i (by have := h.len; omega)⟩

theorem Li.of_block {w w' : World} {lo b off n cap : Nat} {L : List Int} (h : Li w lo b off n cap L) (e : w'.heap[b]? = w.heap[b]?) (hs : b < w'.heap.size) : Li w' lo b off n cap L :=
  ⟨h.len, h.le, h.low, hs, fun i hi => (World.cell?_of_block e).trans (h.cells i hi), fun i hi => ⟨by rw [World.cell?_of_block e]; exact (h.room i hi).1, (World.frozen?_of_block e).trans (h.room i hi).2⟩⟩
theorem Li.below {w w' : World} {lo b off n cap B : Nat} {L : List Int} (h : Li w lo b off n cap L) (hb : Below B w w') (hB : b < B) : Li w' lo b off n cap L :=
  h.of_block (hb.block b hB) (Nat.lt_of_lt_of_le h.lt hb.size)

theorem Li.empty (w : World) (t : TypeId) : Li (w.alloc (.cells #[] t)) w.heap.size w.heap.size 0 0 0 [] :=
  ⟨rfl, Nat.le_refl _, Nat.le_refl _, by simp, fun i hi => absurd hi (by omega), fun i hi => absurd hi (by omega)⟩

/-- The first is cut off. -/
theorem Li.tail {w : World} {lo b off n cap : Nat} {a : Int} {t : List Int} (h : Li w lo b off (n + 1) cap (a :: t)) : Li w lo b (off + 1) n (cap - 1) t := by
  have h1 := h.le
  refine ⟨by have := h.len; simpa using this, by omega, h.low, h.lt, fun i hi => ?_, fun i hi => ?_⟩
  · have := h.cells (i + 1) (by omega)
    rw [show off + (i + 1) = off + 1 + i from by omega] at this
    simpa using this
  · have := h.room (i + 1) (by omega)
    rw [show off + (i + 1) = off + 1 + i from by omega] at this
    exact this

theorem Li.set {w : World} {lo b off n cap : Nat} {L : List Int} (h : Li w lo b off n cap L) (hr : n + 1 ≤ cap) (x : Int) : Li (w.setCell ⟨b, off + n, none⟩ (.int .i64 x)) lo b off (n + 1) cap (L ++ [x]) := by
  have hl := h.len
  refine ⟨by simp [hl], hr, h.low, by simp [World.setCell]; exact h.lt, fun i hi => ?_, fun i hi => ⟨?_, ?_⟩⟩
  · by_cases e : i = n
    · subst e
      rw [World.cell?_setCell_same' _ _ _ (h.room i (by omega)).1]
      simp [List.getD_eq_getElem?_getD, ← hl]
    · rw [World.cell?_setCell_other _ _ _ _ (fun e' => by injection e' with _ e' _; omega), h.cells i (by omega)]
      simp [List.getD_eq_getElem?_getD, List.getElem?_append_left (show i < L.length by omega)]
  · by_cases e : i = n
    · subst e
      rw [World.cell?_setCell_same' _ _ _ (h.room i hi).1]; rfl
    · rw [World.cell?_setCell_other _ _ _ _ (fun e' => by injection e' with _ e' _; omega)]
      exact (h.room i hi).1
  · rw [World.frozen?_setCell]; exact (h.room i hi).2

/-- The slice has moved into a new row. -/
theorem Li.grow {w' : World} {lo n nb : Nat} {e : TypeId} {L : List Int} {v' : Value} {x : Int} (hl : L.length = n) (hown : w'.ownsRow nb e 1 v' (n + 1) (L.map (Value.int .i64) ++ [.int .i64 x])) (hlo : lo ≤ nb) :
    ∃ g cap', v' = .slice (some ⟨g, 0, none⟩) (n + 1) cap' ∧ nb ≤ g ∧ Li w' lo g 0 (n + 1) cap' (L ++ [x]) := by
  have hfull := hown
  rcases hown.2 with ⟨_, h0⟩ | ⟨g, cap', cur, hv, hb, hg, h1, h2, h3, h4⟩
  · omega
  · subst hv
    refine ⟨g, cap', rfl, hb, by simp [hl], h1, by omega, (hfull.lt g rfl).2, fun i hi => ?_, fun i hi => ⟨?_, ?_⟩⟩
    · rw [Nat.zero_add, hfull.cellAt i (by omega)]
      by_cases hi2 : i < n
      · rw [List.getElem?_append_left (by simp [hl]; exact hi2)]
        simp [List.getD_eq_getElem?_getD, List.getElem?_append_left (show i < L.length by omega), show i < L.length by omega]
      · have : i = n := by omega
        subst this
        simp [List.getD_eq_getElem?_getD, ← hl]
    · rw [Nat.zero_add, cell_of_row _ _ i _ _ (0, 0) hg]
      simp
      omega
    · simp [World.frozen?, hg]
end Go.Proofs.Ytpjelojmkmednaa.Base

namespace Go.Proofs.Ytpjelojmkmednaa.Que
open Go.RowKit Go.Deep Base Rng

def idsL (ss : List Sl) (us : List Nat) : List Int := us.map fun u => (sl ss u).id
/-- The queue is valid and lists L. -/
def QL (ss : List Sl) (f l r c : Int) (L : List Int) : Prop := ∃ us fs, Val ss f l r c us fs ∧ idsL ss us = L

theorem QL.ok {ss : List Sl} {f l r c : Int} {L : List Int} (h : QL ss f l r c L) : okQ ss f l r c = true := by
  obtain ⟨us, fs, v, _⟩ := h
  exact val_ok v
theorem QL.len {ss : List Sl} {f l r c : Int} {L : List Int} (h : QL ss f l r c L) : ss.length = 60 := by
  obtain ⟨us, fs, v, _⟩ := h
  exact v.len
theorem QL.few {ss : List Sl} {f l r c : Int} {L : List Int} (h : QL ss f l r c L) : L.length ≤ 60 ∧ c = L.length := by
  obtain ⟨us, fs, v, rfl⟩ := h
  have h1 := v.full
  have h2 := v.cnt
  simp [idsL] at h1 ⊢
  omega
theorem QL.nodup {ss : List Sl} {f l r c : Int} {L : List Int} (h : QL ss f l r c L) : L.Nodup := by
  obtain ⟨us, fs, v, rfl⟩ := h
  exact v.ids
theorem QL.ids {ss : List Sl} {f l r c : Int} {L : List Int} (h : QL ss f l r c L) : ∀ x ∈ L, 1 ≤ x ∧ x ≤ 1000000000 := by
  obtain ⟨us, fs, v, rfl⟩ := h
  intro x hx
  obtain ⟨u, hu, rfl⟩ := List.mem_map.1 hx
  have := seg_used v.seg u hu
  exact ⟨this.2.1, this.2.2⟩

theorem qx_none {ss : List Sl} {us : List Nat} {id : Int} (h : id ∉ idsL ss us) : placeF ss us id = -1 :=
  find_not (fun y hy e => h (List.mem_map.2 ⟨y, hy, e⟩))
theorem qx_some {ss : List Sl} {us : List Nat} {id : Int} (h : id ∈ idsL ss us) : ∃ pre x suf, us = pre ++ x :: suf ∧ (sl ss x).id = id ∧ (∀ y ∈ pre, (sl ss y).id ≠ id) ∧ placeF ss us id = ((x : Nat) : Int) := by
  induction us with
  | nil => simp [idsL] at h
  | cons a t ih =>
    by_cases ha : (sl ss a).id = id
    · exact ⟨[], a, t, rfl, ha, fun y hy => by simp at hy, find_here (pre := []) (fun y hy => by simp at hy) ha⟩
    · have ht : id ∈ idsL ss t := by
        simp only [idsL, List.map_cons, List.mem_cons] at h
        rcases h with h | h
        · exact absurd h.symm ha
        · exact h
      obtain ⟨pre, x, suf, rfl, h1, h2, _⟩ := ih ht
      have h3 : ∀ y ∈ a :: pre, (sl ss y).id ≠ id := fun y hy => by
        rcases List.mem_cons.1 hy with rfl | hy
        · exact ha
        · exact h2 y hy
      exact ⟨a :: pre, x, suf, rfl, h1, h3, find_here (pre := a :: pre) h3 h1⟩

theorem QL.push {ss : List Sl} {f l r c : Int} {L : List Int} {id : Int} (h : QL ss f l r c L) (h1 : 1 ≤ id) (h2 : id ≤ 1000000000) :
    (canPush ss f l r c id = true ∧ id ∉ L ∧ L.length < 60 ∧ 0 ≤ r ∧ QL (pushS ss l r id) (if l = -1 then r else f) r (sl ss r.toNat).next (c + 1) (L ++ [id]))
    ∨ (canPush ss f l r c id = false ∧ ¬ (id ∉ L ∧ L.length < 60)) := by
  obtain ⟨us, fs, v, rfl⟩ := h
  have hlen : (idsL ss us).length = us.length := by simp [idsL]
  have hfull := v.full
  rw [List.length_append] at hfull
  have hpl := placeA_val id v
  by_cases hm : id ∈ idsL ss us
  · right
    refine ⟨?_, fun hh => hh.1 hm⟩
    obtain ⟨pre, x, suf, _, _, _, hx⟩ := qx_some hm
    unfold canPush
    rw [hpl, hx]
    have : (((x : Nat) : Int) == -1) = false := by simp
    rw [this]
    simp
  · cases fs with
    | nil =>
      right
      have hr : r = -1 := v.fch
      refine ⟨?_, fun hh => by have := hh.2; rw [hlen] at this; simp at hfull; omega⟩
      unfold canPush
      rw [hr]
      simp
    | cons x fs =>
      left
      have hr : r = (x : Int) := v.fch.1
      obtain ⟨v1, hids⟩ := push_val v h1 h2 hm
      refine ⟨?_, hm, ?_, by omega, ?_⟩
      · unfold canPush
        rw [val_ok v, hpl, qx_none hm, idB_true h1 h2, hr]
        simp
      · rw [hlen]; simp at hfull; omega
      · refine ⟨us ++ [x], fs, ?_, hids⟩
        rw [hr] at v1 ⊢
        rw [Int.toNat_natCast]
        exact v1

theorem erase_mid (pre suf : List Int) (x : Int) : (pre ++ x :: suf).eraseIdx pre.length = pre ++ suf := by
  induction pre with
  | nil => rfl
  | cons a t ih => simp [ih]

theorem QL.rem {ss : List Sl} {f l r c : Int} {pre suf fs : List Nat} {x : Nat} (v : Val ss f l r c (pre ++ x :: suf) fs) :
    canRem ss f l r c (x : Int) = true ∧ QL (remS ss r x) (if (sl ss x).prev = -1 then (sl ss x).next else f) (if (sl ss x).next = -1 then (sl ss x).prev else l) (x : Int) (c - 1) (idsL ss (pre ++ suf)) := by
  obtain ⟨v1, hids⟩ := rem_val v
  have hx : x < 60 := v.lt x (by simp)
  have hu := (seg_used v.seg x (by simp)).1
  refine ⟨?_, pre ++ suf, x :: fs, v1, hids⟩
  unfold canRem
  rw [val_ok v, Int.toNat_natCast, hu]
  simp
  omega

/-- The first is taken. -/
theorem QL.pop {ss : List Sl} {f l r c : Int} {L : List Int} (h : QL ss f l r c L) :
    (L = [] ∧ canRem ss f l r c f = false)
    ∨ ∃ a t, L = a :: t ∧ canRem ss f l r c f = true ∧ (sl ss f.toNat).id = a ∧ QL (remS ss r f.toNat) (if (sl ss f.toNat).prev = -1 then (sl ss f.toNat).next else f) (if (sl ss f.toNat).next = -1 then (sl ss f.toNat).prev else l) f (c - 1) t := by
  obtain ⟨us, fs, v, rfl⟩ := h
  cases us with
  | nil =>
    left
    have hf : f = -1 := by have := v.seg; exact this.2.symm
    refine ⟨rfl, ?_⟩
    unfold canRem
    rw [hf]
    simp
  | cons x t =>
    right
    have hf : f = (x : Int) := v.seg.1
    have hr := QL.rem (pre := []) v
    refine ⟨(sl ss x).id, idsL ss t, rfl, ?_⟩
    rw [hf, Int.toNat_natCast]
    rw [hf] at hr
    exact ⟨hr.1, rfl, hr.2⟩

/-- The one at k is found and taken. -/
theorem QL.take {ss : List Sl} {f l r c : Int} {L : List Int} {k : Nat} (h : QL ss f l r c L) (hk : k < L.length) :
    ∃ x : Nat, placeA ss f l r c (L.getD k 0) = (x : Int) ∧ canRem ss f l r c (x : Int) = true ∧ (sl ss x).id = L.getD k 0
      ∧ QL (remS ss r x) (if (sl ss x).prev = -1 then (sl ss x).next else f) (if (sl ss x).next = -1 then (sl ss x).prev else l) (x : Int) (c - 1) (L.eraseIdx k) := by
  have hnd := h.nodup
  obtain ⟨us, fs, v, rfl⟩ := h
  have hm : (idsL ss us).getD k 0 ∈ idsL ss us := by
    rw [List.getD_eq_getElem?_getD, List.getElem?_eq_getElem hk]
    exact List.getElem_mem hk
  obtain ⟨pre, x, suf, rfl, h1, h2, h3⟩ := qx_some hm
  have hr := QL.rem v
  refine ⟨x, by rw [placeA_val _ v, h3], hr.1, h1, ?_⟩
  have hkk : k = (idsL ss pre).length := by
    have e : idsL ss (pre ++ x :: suf) = idsL ss pre ++ (sl ss x).id :: idsL ss suf := by simp [idsL]
    rw [e] at hk h1 hnd
    have hl : (idsL ss pre).length < (idsL ss pre ++ (sl ss x).id :: idsL ss suf).length := by simp
    have e1 : (idsL ss pre ++ (sl ss x).id :: idsL ss suf)[k] = (idsL ss pre ++ (sl ss x).id :: idsL ss suf)[(idsL ss pre).length] := by
      have e2 : (idsL ss pre ++ (sl ss x).id :: idsL ss suf)[(idsL ss pre).length] = (sl ss x).id := by simp
      rw [e2]
      refine Eq.trans ?_ h1.symm
      rw [List.getD_eq_getElem?_getD, List.getElem?_eq_getElem hk]
      rfl
    exact (List.getElem_inj hnd).1 e1
  have e : idsL ss (pre ++ x :: suf) = idsL ss pre ++ (sl ss x).id :: idsL ss suf := by simp [idsL]
  rw [e, hkk, erase_mid]
  have e2 : idsL ss (pre ++ suf) = idsL ss pre ++ idsL ss suf := by simp [idsL]
  rw [← e2]
  exact hr.2
end Go.Proofs.Ytpjelojmkmednaa.Que

namespace Go.Proofs.Ytpjelojmkmednaa.Que
open Go.RowKit Go.Deep Base Rng

theorem slv_at {w : World} {lo hi : Nat} {A : Option Addr} {ss : List Sl} (h : SlV w lo hi A ss) (hp : 0 < ss.length) : ∃ g, lo ≤ g ∧ g < hi ∧ SlV w g (g + 1) A ss := by
  obtain ⟨g, h1, h2, h3, h4⟩ := h hp
  exact ⟨g, h2, h3, fun _ => ⟨g, h1, Nat.le_refl _, Nat.lt_succ_self _, h4⟩⟩

theorem ql_new : QL newS (-1) (-1) 0 0 [] := by
  obtain ⟨us, fs, v⟩ := ok_val (ss := newS) (first := -1) (last := -1) (free := 0) (count := 0) (by decide +kernel)
  refine ⟨us, fs, v, ?_⟩
  have hc := v.cnt
  have : us.length = 0 := by omega
  rw [List.eq_nil_of_length_eq_zero this]
  rfl

/-- The queue's part: its box and its slots. -/
def QP (wr : World) (qb g : Nat) (ss : List Sl) (f l r c : Int) (A : Option Addr) (cq : Nat) : Prop :=
  Blk5 wr qb (.slice A 60 cq) (.int .i64 f) (.int .i64 l) (.int .i64 r) (.int .i64 c) ∧ SlV wr g (g + 1) A ss ∧ g ≠ qb ∧ g < wr.heap.size

structure QSt (w wr : World) (qb b off n cap : Nat) (L : List Int) (g : Nat) (ss : List Sl) (f l r c : Int) (A : Option Addr) (cq : Nat) : Prop where
  q : QP wr qb g ss f l r c A cq
  ql : QL ss f l r c L
  li : Li wr w.heap.size b off n cap L
  old : Below w.heap.size w wr
  qlow : w.heap.size ≤ qb
  qne : qb ≠ b
  gne : g ≠ b

theorem QP.keep {wr w2 : World} {qb g : Nat} {ss : List Sl} {f l r c : Int} {A : Option Addr} {cq : Nat} (h : QP wr qb g ss f l r c A cq) (e1 : w2.heap[qb]? = wr.heap[qb]?) (e2 : w2.heap[g]? = wr.heap[g]?) (hs : wr.heap.size ≤ w2.heap.size) : QP w2 qb g ss f l r c A cq := by
  refine ⟨h.1.of_block e1, h.2.1.of_block (fun k h1 h2 => ?_), h.2.2.1, Nat.lt_of_lt_of_le h.2.2.2 hs⟩
  have hk : k = g := by omega
  rw [hk]
  exact e2

theorem QSt.keep {w wr w2 : World} {qb b off n cap g cq : Nat} {L : List Int} {ss : List Sl} {f l r c : Int} {A : Option Addr} (h : QSt w wr qb b off n cap L g ss f l r c A cq) (hb : Below wr.heap.size wr w2) : QSt w w2 qb b off n cap L g ss f l r c A cq :=
  ⟨h.q.keep (hb.block _ h.q.1.lt) (hb.block _ h.q.2.2.2) hb.size, h.ql, h.li.below hb h.li.lt, h.old.trans (hb.mono h.old.size), h.qlow, h.qne, h.gne⟩

/-- The box of the queue behind five stores. -/
theorem five {w : World} {g : Nat} {a0 a1 a2 a3 a4 : Value} (h : Blk5 w g a0 a1 a2 a3 a4) (v0 v1 v2 v3 v4 : Value) : Blk5 (((((w.setCell ⟨g, 0, none⟩ v0).setCell ⟨g, 1, none⟩ v1).setCell ⟨g, 2, none⟩ v2).setCell ⟨g, 3, none⟩ v3).setCell ⟨g, 4, none⟩ v4) g v0 v1 v2 v3 v4 := by
  unfold Blk5 at h ⊢
  simp [World.setCell, Array.getElem?_modify, h]

/-- The new queue is stored into the box: w2 is the world behind the call and what the list has become there. -/
theorem QSt.put {w wr w2 : World} {qb b off n cap g cq b' off' n' cap' c0 : Nat} {L L' : List Int} {ss ss' : List Sl} {f l r c f' l' r' c' : Int} {A A' : Option Addr} (h : QSt w wr qb b off n cap L g ss f l r c A cq) (eq : w2.heap[qb]? = wr.heap[qb]?) (hold : Below w.heap.size w w2)
    (hs : SlV w2 c0 w2.heap.size A' ss') (hc0 : wr.heap.size ≤ c0) (hnb : ∀ g', A' = some ⟨g', 0, none⟩ → g' ≠ b') (hq : QL ss' f' l' r' c' L') (hl : Li w2 w.heap.size b' off' n' cap' L') (hb' : qb ≠ b') (cq' : Nat) :
    ∃ g', QSt w (((((w2.setCell ⟨qb, 0, none⟩ (.slice A' 60 cq')).setCell ⟨qb, 1, none⟩ (.int .i64 f')).setCell ⟨qb, 2, none⟩ (.int .i64 l')).setCell ⟨qb, 3, none⟩ (.int .i64 r')).setCell ⟨qb, 4, none⟩ (.int .i64 c')) qb b' off' n' cap' L' g' ss' f' l' r' c' A' cq' := by
  have hp : 0 < ss'.length := by rw [hq.len]; omega
  obtain ⟨g', h1, h2, h3⟩ := slv_at hs hp
  obtain ⟨gg, e1, e2, e3, e4⟩ := h3 hp
  have hgg : gg = g' := by omega
  subst hgg
  have hlt := h.q.1.lt
  have hne : gg ≠ qb := by omega
  have hblk : ∀ k, k ≠ qb → (((((w2.setCell ⟨qb, 0, none⟩ (.slice A' 60 cq')).setCell ⟨qb, 1, none⟩ (.int .i64 f')).setCell ⟨qb, 2, none⟩ (.int .i64 l')).setCell ⟨qb, 3, none⟩ (.int .i64 r')).setCell ⟨qb, 4, none⟩ (.int .i64 c')).heap[k]? = w2.heap[k]? := fun k hk => by
    rw [heap_setCell_other _ _ _ _ hk, heap_setCell_other _ _ _ _ hk, heap_setCell_other _ _ _ _ hk, heap_setCell_other _ _ _ _ hk, heap_setCell_other _ _ _ _ hk]
  have hsz : (((((w2.setCell ⟨qb, 0, none⟩ (.slice A' 60 cq')).setCell ⟨qb, 1, none⟩ (.int .i64 f')).setCell ⟨qb, 2, none⟩ (.int .i64 l')).setCell ⟨qb, 3, none⟩ (.int .i64 r')).setCell ⟨qb, 4, none⟩ (.int .i64 c')).heap.size = w2.heap.size := by simp [World.setCell]
  refine ⟨gg, ⟨five (h.q.1.of_block eq) _ _ _ _ _, h3.of_block (fun k k1 k2 => hblk k (by omega)), hne, by rw [hsz]; exact h2⟩, hq, hl.of_block (hblk _ (fun e => hb' e.symm)) (by rw [hsz]; exact hl.lt), ?_, h.qlow, hb', hnb gg e1⟩
  exact ((((hold.setCell h.qlow _).setCell h.qlow _).setCell h.qlow _).setCell h.qlow _).setCell h.qlow _
end Go.Proofs.Ytpjelojmkmednaa.Que

namespace Go.Proofs.Ytpjelojmkmednaa.Que
open Go.RowKit Go.Deep Base Rng

/-- The bytes zs lie at A. -/
def Bts (w : World) (A : Option Addr) (zs : List Int) : Prop :=
  (∀ i, i < zs.length → 0 ≤ zs.getD i 0 ∧ zs.getD i 0 ≤ 255) ∧ (0 < zs.length → ∃ b off, A = some ⟨b, off, none⟩ ∧ ∀ i, i < zs.length → w.cell? ⟨b, off + i, none⟩ = some (.int .u8 (zs.getD i 0)))
theorem Bts.below {w w' : World} {A : Option Addr} {zs : List Int} (h : Bts w A zs) (hb : Below w.heap.size w w') : Bts w' A zs :=
  ⟨h.1, fun hp => by
    obtain ⟨b, off, rfl, hc⟩ := h.2 hp
    exact ⟨b, off, rfl, fun i hi => (hb.cell (World.block_lt_of_cell? _ _ (hc i hi))).trans (hc i hi)⟩⟩
theorem bts_of {w : World} {a : Option Addr} {len cap : Nat} {zs : List Int} (h : IsRow .u8 w a len cap zs) : Bts w a (zs.take len) := by
  have hl := h.len.2.2
  rcases h with ⟨rfl, rfl, rfl, rfl⟩ | ⟨x, rfl, hl', hm, hz, hcell, hwf⟩
  · exact ⟨fun i hi => by simp at hi, fun hp => by simp at hp⟩
  · refine ⟨fun i hi => ?_, fun hp => ?_⟩
    · have hi' : i < zs.length := by omega
      have e : (zs.take len).getD i 0 = zs[i] := by simp [List.getD_eq_getElem?_getD, hi', show i < len by omega]
      rw [e]
      exact bounds_u8 (hwf _ (List.getElem_mem hi'))
    · have hne : 0 < zs.length := by omega
      obtain ⟨b, off, spot⟩ := x
      have h0 := hcell 0 hne
      have hs : spot = none := by simpa [Addr.add] using World.cell?_spot h0
      subst hs
      refine ⟨b, off, rfl, fun i hi => ?_⟩
      have hi' : i < zs.length := by omega
      have := hcell i hi'
      rw [Addr.add_mid] at this
      rw [this]
      simp [List.getD_eq_getElem?_getD, show i < len by omega]

set_option maxRecDepth 100000 in
theorem big_any (A : Option Addr) (n cap : Nat) (w : World) (hm : n ≤ maxLen) : Calls Try.prog 12 #[.slice A n cap] w fun e w' => e = .returned (.bool (decide (1048576 < n))) ∧ w = w' := by
  unfold maxLen at hm
  go_enter Try.func12, Try.ntmps12
  go_wp2
  go_ret
  exact ⟨ret_bool (by simp; omega), rfl⟩

set_option maxRecDepth 100000 in
theorem at_any (A : Option Addr) (n cap : Nat) (zs : List Int) (k : Nat) (hk : k ≤ 1000) (w : World) (hn : zs.length = n) (hs : n ≤ 1048576) (hb : Bts w A zs) :
    Calls Try.prog 14 #[.slice A n cap, .int .i64 k] w fun e w' => (∃ x, e = .returned (.int .i64 x) ∧ 0 ≤ x ∧ x ≤ 255) ∧ w = w' := by
  have HB := Lib.hid hb
  have HN := Lib.hid hn
  clear hb hn
  by_cases h0 : k < n
  · obtain ⟨b, off, rfl, hcb⟩ := HB.out.2 (by have := HN.out; omega)
    have hz := HB.out.1 k (by have := HN.out; omega)
    have cz := hcb k (by have := HN.out; omega)
    clear hcb
    generalize zs.getD k 0 = z at hz cz
    obtain ⟨z0, z1⟩ := hz
    have h0' : (k : Int) < (n : Int) := by omega
    have hk0 : (0 : Int) ≤ (k : Int) := by omega
    go_enter Try.func14, Try.ntmps14
    go_wp2
    go_ret
    exact ⟨⟨z, rfl, z0, by omega⟩, rfl⟩
  · have h0' : ¬ (k : Int) < (n : Int) := by omega
    have hm : 0 ≤ ((k : Int) * 13 + (n : Int) * 5).tmod 256 ∧ ((k : Int) * 13 + (n : Int) * 5).tmod 256 ≤ 255 := by
      rw [Int.tmod_eq_emod_of_nonneg (by omega)]; omega
    go_enter Try.func14, Try.ntmps14
    go_wp2
    go_ret
    exact ⟨⟨_, rfl, by omega, by omega⟩, rfl⟩

set_option maxRecDepth 100000 in
set_option maxHeartbeats 400000 in
theorem within_any (A : Option Addr) (n cap : Nat) (L : List Int) (x : Int) (w : World) (hn : L.length = n) (hm : n ≤ 1048576) (h : Ints w A L) :
    Calls Try.prog 18 #[.slice A n cap, .int .i64 x] w fun e w' => e = .returned (.bool (decide (x ∈ L))) ∧ Below w.heap.size w w' := by
  have Hn := Lib.hid hn
  have HI := Lib.hid h
  clear hn h
  go_enter Try.func18, Try.ntmps18
  go_wp2
  go_loop [5] (fun i => ∃ k : Nat, k ≤ n ∧ i = .int .i64 k ∧ ∀ j, j < k → L.getD j 0 ≠ x) (fun i => n - (intOf i).toNat)
  case atStart => exact ⟨0, Nat.zero_le _, rfl, fun j hj => absurd hj (by omega)⟩
  case round =>
    obtain ⟨k, hk, rfl, hno⟩ := hrel
    have Hno := Lib.hid hno
    clear hno
    by_cases hlt : k < n
    · obtain ⟨b, off, rfl, hc⟩ := HI.out (by have := Hn.out; omega)
      have hck := hc k (by have := Hn.out; omega)
      clear hc
      obtain ⟨z, hz⟩ : ∃ z, L.getD k 0 = z := ⟨_, rfl⟩
      rw [hz] at hck
      have Hz := Lib.hid hz
      clear hz
      by_cases hzx : z = x
      · have Hm : Hid (x ∈ L) := by
          show x ∈ L
          rw [← hzx, ← Hz.out, List.getD_eq_getElem?_getD, List.getElem?_eq_getElem (by have := Hn.out; omega)]
          exact List.getElem_mem _
        subst hzx
        go_wp2
        go_ret
        exact ⟨ret_bool (decide_eq_true Hm.out).symm, Below.refl _ _⟩
      · have e1 : (z == x) = false := by simpa using hzx
        have Hzx : Hid (z ≠ x) := hzx
        clear hzx
        go_wp2
        go_round
        case rel =>
          refine ⟨k + 1, by omega, by go_num, fun j hj => ?_⟩
          by_cases e : j = k
          · subst e; rw [Hz.out]; exact Hzx.out
          · exact Hno.out j (by omega)
        case measure => simp [intOf]; omega
    · have Hm : Hid (x ∉ L) := by
        show x ∉ L
        intro hm
        obtain ⟨j, hj, e⟩ := List.getElem_of_mem hm
        have := Hno.out j (by have := Hn.out; omega)
        rw [List.getD_eq_getElem?_getD, List.getElem?_eq_getElem hj] at this
        exact this e
      go_wp2
      go_ret
      exact ⟨ret_bool (decide_eq_false Hm.out).symm, Below.refl _ _⟩

set_option maxRecDepth 100000 in
set_option maxHeartbeats 400000 in
theorem same_same (A1 A2 : Option Addr) (n c1 c2 : Nat) (zs : List Int) (w : World) (hn : zs.length = n) (hm : n ≤ 1048576) (h1 : Ints w A1 zs) (h2 : Ints w A2 zs) :
    Calls Try.prog 20 #[.slice A1 n c1, .slice A2 n c2] w fun e w' => e = .returned (.bool true) ∧ Below w.heap.size w w' := by
  have Hn := Lib.hid hn
  clear hn
  have H1 := Lib.hid h1
  have H2 := Lib.hid h2
  clear h1 h2
  go_enter Try.func20, Try.ntmps20
  go_wp2
  go_loopw [5] (fun i wr => ∃ k : Nat, k ≤ n ∧ i = .int .i64 k ∧ Below w.heap.size w wr) (fun i _ => n - (intOf i).toNat)
  case atStart => exact ⟨0, Nat.zero_le _, rfl, Below.refl _ _⟩
  case round =>
    obtain ⟨k, hk, rfl, hr⟩ := hrel
    by_cases hlt : k < n
    · obtain ⟨b, off, rfl, hc⟩ := H1.out.below hr (by have := Hn.out; omega)
      have hc1 := hc k (by have := Hn.out; omega)
      clear hc
      obtain ⟨b', off', rfl, hc⟩ := H2.out.below hr (by have := Hn.out; omega)
      have hc2 := hc k (by have := Hn.out; omega)
      clear hc
      generalize zs.getD k 0 = z at hc1 hc2
      go_wp2
      go_region
      all_goals
        go_wp2
        go_roundw
        case rel => exact ⟨k + 1, by omega, by go_num, by repeat (first | exact hr | apply Below.drew)⟩
        case measure => simp [intOf]; omega
    · go_wp2
      go_ret
      exact ⟨rfl, hr⟩
end Go.Proofs.Ytpjelojmkmednaa.Que
