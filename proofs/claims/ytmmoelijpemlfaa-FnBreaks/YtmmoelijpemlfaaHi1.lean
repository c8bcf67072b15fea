/- A history of breakers in memory: a row of breakers that grows, the rows of their failures, and a row of answers that grows beside it. -/
import Derived.Test.YtmmoelijpemlfaaEv1
import Derived.Test.YtmmoelijpemlfaaBc5
namespace Go.Proofs.Ytmmoelijpemlfaa.Bk
open Go.RowKit Go.Deep Base Rw

/-- A breaker and where its failures lie. -/
structure En where
  b : Br
  A : Option Addr
  cap : Nat
def zEn : En := ⟨zBr, none, 0⟩
def En.cells (e : En) : List Value := [.int .i64 e.b.state, .slice e.A e.b.fails.length e.cap, .int .i64 e.b.till]
def cellsE : List En → List Value
  | [] => []
  | e :: r => e.cells ++ cellsE r
theorem cellsE_append (a b : List En) : cellsE (a ++ b) = cellsE a ++ cellsE b := by
  induction a with
  | nil => rfl
  | cons s r ih => simp only [List.cons_append, cellsE, ih, List.append_assoc]
theorem cellsE_one (e : En) : cellsE [e] = e.cells := by simp [cellsE]
theorem cellsE_len (a : List En) : (cellsE a).length = a.length * 3 := by
  induction a with
  | nil => rfl
  | cons s r ih => simp only [cellsE, List.length_append, ih, En.cells, List.length_cons, List.length_nil]; omega
theorem cellsE_at : ∀ (es : List En) (i j : Nat), i < es.length → j < 3 → (cellsE es)[i * 3 + j]? = (es.getD i zEn).cells[j]?
  | [], i, j, h, _ => by simp at h
  | s :: r, 0, j, _, hj => by
    simp only [cellsE, Nat.zero_mul, Nat.zero_add, List.getD_cons_zero]
    rw [List.getElem?_append_left (by simp [En.cells]; omega)]
  | s :: r, i + 1, j, h, hj => by
    simp only [cellsE, List.getD_cons_succ]
    rw [List.getElem?_append_right (by simp [En.cells]; omega)]
    rw [show (i + 1) * 3 + j - s.cells.length = i * 3 + j from by simp [En.cells]; omega]
    exact cellsE_at r i j (by simp at h; omega) hj

/-- The failures of an entry lie in a block of their own, apart from the two rows. -/
def RowE (w : World) (B : Nat) (e : En) (v va : Value) : Prop :=
  0 < e.b.fails.length → ∃ g, e.A = some ⟨g, 0, none⟩ ∧ B ≤ g ∧ g < w.heap.size ∧ RI w g e.b.fails ∧ some g ≠ v.ownBlock ∧ some g ≠ va.ownBlock
theorem RowE.iv {w : World} {B : Nat} {e : En} {v va : Value} (h : RowE w B e v va) : IV w B w.heap.size e.A e.b.fails := fun hp => by
  obtain ⟨g, h1, h2, h3, h4, _⟩ := h hp
  exact ⟨g, h1, h2, h3, h4⟩

structure HSt (B : Nat) (W wr : World) (v va : Value) (es : List En) (ts : List Int) : Prop where
  own : wr.ownsRow B 31 3 v es.length (cellsE es)
  ans : wr.ownsRow B 3 1 va ts.length (ts.map (Value.int .i64))
  rows : ∀ i, i < es.length → RowE wr B (es.getD i zEn) v va
  ne : ∀ r, v.ownBlock = some r → va.ownBlock ≠ some r
  old : Below B W wr
  low : B ≤ wr.heap.size

theorem HSt.keep {B : Nat} {W wr w2 : World} {v va : Value} {es : List En} {ts : List Int} (h : HSt B W wr v va es ts) (hb : Below wr.heap.size wr w2) : HSt B W w2 v va es ts := by
  refine ⟨h.own.kept (grown_below hb none) (by cases v.ownBlock <;> simp), h.ans.kept (grown_below hb none) (by cases va.ownBlock <;> simp), fun i hi hp => ?_, h.ne, h.old.trans (hb.mono h.low), Nat.le_trans h.low hb.size⟩
  obtain ⟨g, h1, h2, h3, h4, h5, h6⟩ := h.rows i hi hp
  exact ⟨g, h1, h2, Nat.lt_of_lt_of_le h3 hb.size, h4.of_block (hb.block g h3), h5, h6⟩

theorem HSt.push {B : Nat} {W wr w1 : World} {v v' va : Value} {es : List En} {ts : List Int} {o : Obj} (h : HSt B W wr v va es ts) (e : En) (hrow : RowE wr B e v va)
    (hown : w1.ownsRow B 31 3 v' (es.length + 1) (cellsE es ++ e.cells)) (hg : (wr.alloc o).grownBy w1 v.ownBlock) (hat : v'.ownBlock = v.ownBlock ∨ v'.ownBlock = some (wr.heap.size + 1)) : HSt B W w1 v' va (es ++ [e]) ts := by
  have hsz : wr.heap.size + 1 ≤ w1.heap.size := by have := hg.size; simpa using this
  have hblk : ∀ k, k < wr.heap.size → some k ≠ v.ownBlock → w1.heap[k]? = wr.heap[k]? := fun k h1 h2 => (hg.block k (by simp; omega) h2).trans (Below.heap_alloc wr o k h1)
  have hrow' : ∀ e, RowE wr B e v va → RowE w1 B e v' va := fun e he hp => by
    obtain ⟨g, h1, h2, h3, h4, h5, h6⟩ := he hp
    refine ⟨g, h1, h2, by omega, h4.of_block (hblk g h3 h5), ?_, h6⟩
    rcases hat with e' | e'
    · rw [e']; exact h5
    · rw [e']; intro e''; injection e'' with e''; omega
  refine ⟨?_, ?_, fun i hi => ?_, ?_, ?_, Nat.le_trans h.low (by omega)⟩
  · rw [List.length_append, cellsE_append, cellsE_one]; exact hown
  · refine (h.ans.alloc o).kept hg ?_
    cases hv : va.ownBlock with
    | none => exact .inl rfl
    | some r => exact .inr (fun e' => h.ne r e'.symm hv)
  · rw [List.length_append] at hi
    simp at hi
    by_cases hl : i < es.length
    · have : (es ++ [e]).getD i zEn = es.getD i zEn := by simp [List.getD_eq_getElem?_getD, List.getElem?_append_left hl]
      rw [this]
      exact hrow' _ (h.rows i hl)
    · have hi' : i = es.length := by omega
      have : (es ++ [e]).getD i zEn = e := by subst hi'; simp [List.getD_eq_getElem?_getD]
      rw [this]
      exact hrow' _ hrow
  · intro r hr
    rcases hat with e' | e'
    · exact h.ne r (e' ▸ hr)
    · rw [e'] at hr
      injection hr with hr
      intro h2
      have := (h.ans.lt r h2).2
      omega
  · exact (h.old.alloc h.low o).grown hg (by simp; have := h.low; omega) (fun j e' => by have := (h.own.lt j e').1; omega)

theorem HSt.tell {B : Nat} {W wr w1 : World} {v va va' : Value} {es : List En} {ts : List Int} {o : Obj} {x : Int} (h : HSt B W wr v va es ts)
    (hown : w1.ownsRow B 3 1 va' (ts.length + 1) (ts.map (Value.int .i64) ++ [.int .i64 x])) (hg : (wr.alloc o).grownBy w1 va.ownBlock) (hat : va'.ownBlock = va.ownBlock ∨ va'.ownBlock = some (wr.heap.size + 1)) : HSt B W w1 v va' es (ts ++ [x]) := by
  have hsz : wr.heap.size + 1 ≤ w1.heap.size := by have := hg.size; simpa using this
  have hblk : ∀ k, k < wr.heap.size → some k ≠ va.ownBlock → w1.heap[k]? = wr.heap[k]? := fun k h1 h2 => (hg.block k (by simp; omega) h2).trans (Below.heap_alloc wr o k h1)
  refine ⟨?_, ?_, fun i hi hp => ?_, ?_, ?_, Nat.le_trans h.low (by omega)⟩
  · refine (h.own.alloc o).kept hg ?_
    cases hv : v.ownBlock with
    | none => exact .inl rfl
    | some r => exact .inr (fun e' => h.ne r hv e'.symm)
  · rw [List.length_append, List.map_append]; exact hown
  · obtain ⟨g, h1, h2, h3, h4, h5, h6⟩ := h.rows i hi hp
    refine ⟨g, h1, h2, by omega, h4.of_block (hblk g h3 h6), h5, ?_⟩
    rcases hat with e' | e'
    · rw [e']; exact h6
    · rw [e']; intro e''; injection e'' with e''; omega
  · intro r hr
    rcases hat with e' | e'
    · rw [e']; exact h.ne r hr
    · rw [e']
      intro e''
      injection e'' with e''
      have := (h.own.lt r hr).2
      omega
  · exact (h.old.alloc h.low o).grown hg (by simp; have := h.low; omega) (fun j e' => by have := (h.ans.lt j e').1; omega)

/-- What an entry of the row reads. -/
theorem HSt.at {B : Nat} {W wr : World} {v va : Value} {es : List En} {ts : List Int} (h : HSt B W wr v va es ts) {i : Nat} (hi : i < es.length) :
    ∃ g cap, v = .slice (some ⟨g, 0, none⟩) es.length cap ∧ B ≤ g ∧ g < wr.heap.size ∧ ∀ i, i < es.length → wr.cell? ⟨g, i * 3, none⟩ = some (.int .i64 (es.getD i zEn).b.state) ∧ wr.cell? ⟨g, i * 3 + 1, none⟩ = some (.slice (es.getD i zEn).A (es.getD i zEn).b.fails.length (es.getD i zEn).cap) ∧ wr.cell? ⟨g, i * 3 + 2, none⟩ = some (.int .i64 (es.getD i zEn).b.till) := by
  rcases h.own.2 with ⟨hv, h0⟩ | ⟨g, cap, cur, hv, hb, hg, _⟩
  · omega
  · have hown := h.own
    rw [hv] at hown
    refine ⟨g, cap, hv, hb, (hown.lt g rfl).2, fun i hi => ?_⟩
    have hc : ∀ j, j < 3 → wr.cell? ⟨g, i * 3 + j, none⟩ = (es.getD i zEn).cells[j]? := fun j hj => (hown.cellAt (i * 3 + j) (by omega)).trans (cellsE_at es i j hi hj)
    exact ⟨(hc 0 (by omega)).trans rfl, (hc 1 (by omega)).trans rfl, (hc 2 (by omega)).trans rfl⟩

/-- The row with the new breaker alone in it; the answers nil, or an empty row behind it. -/
theorem HSt.first (W : World) : HSt W.heap.size W (W.alloc (.cells #[.int .i64 0, .slice none 0 0, .int .i64 0] 31)) (.slice (some ⟨W.heap.size, 0, none⟩) 1 1) (.slice none 0 0) [zEn] [] := by
  refine ⟨?_, World.ownsRow_nil _ _ _ _, fun i hi hp => ?_, fun r _ => by simp [Value.ownBlock], bel_alloc _ _, by simp⟩
  · have h := World.ownsRow_lit (base := W.heap.size) (e := 31) (size := 3) W #[.int .i64 0, .slice none 0 0, .int .i64 0] 1 (Nat.le_refl _) (by decide) (by simp)
    simpa [cellsE, En.cells, zEn, zBr] using h
  · simp at hi
    subst hi
    simp [zEn, zBr] at hp
theorem HSt.first2 (W : World) : HSt W.heap.size W ((W.alloc (.cells #[.int .i64 0, .slice none 0 0, .int .i64 0] 31)).alloc (.cells #[] 3)) (.slice (some ⟨W.heap.size, 0, none⟩) 1 1) (.slice (some ⟨W.heap.size + 1, 0, none⟩) 0 0) [zEn] [] := by
  have h := (HSt.first W).keep (bel_alloc _ (.cells #[] 3))
  refine ⟨h.own, ?_, fun i hi hp => ?_, fun r hr => ?_, h.old, h.low⟩
  · have h2 := World.ownsRow_lit (base := W.heap.size) (e := 3) (size := 1) (W.alloc (.cells #[.int .i64 0, .slice none 0 0, .int .i64 0] 31)) #[] 0 (by simp) (by simp) (by simp)
    simpa using h2
  · simp at hi
    subst hi
    simp [zEn, zBr] at hp
  · simp [Value.ownBlock] at hr ⊢
    omega

theorem new_three {w : World} {B : Nat} (h : w.heap.size = B) (a b c : Value) (t : TypeId) : ∀ j u, [a, b, c][j]? = some u → (w.alloc (.cells #[a, b, c] t)).cell? ((⟨B, 0, none⟩ : Addr).add j) = some u := by
  subst h
  intro j u hj
  have ea : (⟨w.heap.size, 0, none⟩ : Addr).add j = ⟨w.heap.size, j, none⟩ := by
    unfold Addr.add; split
    · next h => subst h; rfl
    · simp
  rw [ea, cell_of_row _ _ j #[a, b, c] t (0, 0) (heap_alloc_new w _)]
  simpa using hj
theorem infoBreaker : (Try.prog.info? 31).map (fun i => (i.zero, i.size, i.bytes)) = some (some (.agg #[.int .i64 0, .slice none 0 0, .int .i64 0]), 3, 40) := by kernel_rfl

/-- The breaker behind the first k events. -/
def hB (c : Nat → Int) (evs : List (Int × Int)) (k : Nat) : Br := runR c zBr (evs.take k)
theorem hB_zero (c : Nat → Int) (evs : List (Int × Int)) : hB c evs 0 = zBr := rfl
theorem take_snoc {evs : List (Int × Int)} {k : Nat} (h : k < evs.length) : evs.take (k + 1) = evs.take k ++ [evs.getD k (0, 0)] := by
  rw [List.take_succ_eq_append_getElem h]; simp [List.getD_eq_getElem?_getD, h]
theorem hB_succ {c : Nat → Int} {evs : List (Int × Int)} {k : Nat} (h : k < evs.length) : hB c evs (k + 1) = (stepR c (hB c evs k) (evs.getD k (0, 0))).1 := by
  unfold hB
  rw [take_snoc h, run_snoc]
/-- What is told of the first k events. -/
def hT (c : Nat → Int) (evs : List (Int × Int)) (k : Nat) : List Int := toldR c zBr (evs.take k)
theorem hT_succ {c : Nat → Int} {evs : List (Int × Int)} {k : Nat} (h : k < evs.length) : hT c evs (k + 1) = hT c evs k ++ [(stepR c (hB c evs k) (evs.getD k (0, 0))).2] := by
  unfold hT hB
  rw [take_snoc h, told_snoc]
theorem hT_len {c : Nat → Int} {evs : List (Int × Int)} {k : Nat} (h : k ≤ evs.length) : (hT c evs k).length = k := by
  unfold hT
  rw [told_len, List.length_take]
  omega
/-- The entries are the breakers behind 0 .. k events. -/
structure Hist (c : Nat → Int) (evs : List (Int × Int)) (k : Nat) (es : List En) (ts : List Int) : Prop where
  len : es.length = k + 1
  each : ∀ i, i ≤ k → (es.getD i zEn).b = hB c evs i
  told : ts = hT c evs k
theorem Hist.zero (c : Nat → Int) (evs : List (Int × Int)) : Hist c evs 0 [zEn] [] := by
  refine ⟨rfl, fun i hi => ?_, rfl⟩
  obtain rfl : i = 0 := by omega
  rfl
theorem Hist.step {c : Nat → Int} {evs : List (Int × Int)} {k : Nat} {es : List En} {ts : List Int} (h : Hist c evs k es ts) (hk : k < evs.length) {e : En} {x : Int} (hb : e.b = (stepR c (hB c evs k) (evs.getD k (0, 0))).1) (hx : x = (stepR c (hB c evs k) (evs.getD k (0, 0))).2) : Hist c evs (k + 1) (es ++ [e]) (ts ++ [x]) := by
  refine ⟨by simp [h.len], fun i hi => ?_, by rw [hT_succ hk, h.told, hx]⟩
  by_cases hl : i < es.length
  · rw [show (es ++ [e]).getD i zEn = es.getD i zEn by simp [List.getD_eq_getElem?_getD, List.getElem?_append_left hl]]
    exact h.each i (by have := h.len; omega)
  · have hi' : i = es.length := by have := h.len; omega
    rw [show (es ++ [e]).getD i zEn = e by subst hi'; simp [List.getD_eq_getElem?_getD], hb, ← hB_succ hk]
    rw [hi', h.len]
end Go.Proofs.Ytmmoelijpemlfaa.Bk
