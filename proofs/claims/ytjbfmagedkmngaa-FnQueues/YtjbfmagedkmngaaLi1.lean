/- A slice of integers somewhere in a block, with what room it has: cut at the front, grown by append in place or anew. -/
import Derived.Test.YtjbfmagedkmngaaBase
import Derived.ArgAppend
import Derived.Laws.Rows
import Derived.Laws.OwnMore
namespace Go.Proofs.Ytjbfmagedkmngaa.Base
open Go.RowKit Go.Deep

/-- The slice ⟨b, off⟩ of n integers with room for cap: it reads L, its room may be written; its block lies from lo on. -/
structure Li (w : World) (lo b off n cap : Nat) (L : List Int) : Prop where
  len : L.length = n
  le : n ≤ cap
  low : lo ≤ b
  lt : b < w.heap.size
  cells : ∀ i, i < n → w.cell? ⟨b, off + i, none⟩ = some (.int .i64 (L.getD i 0))
  room : ∀ i, i < cap → (w.cell? ⟨b, off + i, none⟩).isSome = true ∧ w.frozen? ⟨b, off + i, none⟩ = false

theorem Li.ints {w : World} {lo b off n cap : Nat} {L : List Int} (h : Li w lo b off n cap L) : Ints w (some ⟨b, off, none⟩) L := fun _ => ⟨b, off, rfl, fun i hi => h.cells i (by have := h.len; omega)⟩

theorem Li.of_block {w w' : World} {lo b off n cap : Nat} {L : List Int} (h : Li w lo b off n cap L) (e : w'.heap[b]? = w.heap[b]?) (hs : b < w'.heap.size) : Li w' lo b off n cap L :=
  ⟨h.len, h.le, h.low, hs, fun i hi => (World.cell?_of_block e).trans (h.cells i hi), fun i hi => ⟨by rw [World.cell?_of_block e]; exact (h.room i hi).1, (World.frozen?_of_block e).trans (h.room i hi).2⟩⟩
theorem Li.below {w w' : World} {lo b off n cap B : Nat} {L : List Int} (h : Li w lo b off n cap L) (hb : Below B w w') (hB : b < B) : Li w' lo b off n cap L :=
  h.of_block (hb.block b hB) (Nat.lt_of_lt_of_le h.lt hb.size)

theorem Li.empty (w : World) (t : TypeId) : Li (w.alloc (.cells #[] t)) w.heap.size w.heap.size 0 0 0 [] :=
  ⟨rfl, Nat.le_refl _, Nat.le_refl _, by simp, fun i hi => absurd hi (by omega), fun i hi => absurd hi (by omega)⟩

/-- The first is cut off. -/
theorem Li.tail {w : World} {lo b off n cap : Nat} {a : Int} {t : List Int} (h : Li w lo b off (n + 1) cap (a :: t)) : Li w lo b (off + 1) n (cap - 1) t := by
  have h1 := h.le
  refine ⟨by have := h.len; simpa using this, by omega, h.low, h.lt, fun i hi => ?_, fun i hi => ?_⟩
  · have := h.cells (i + 1) (by omega)
    rw [show off + (i + 1) = off + 1 + i from by omega] at this
    simpa using this
  · have := h.room (i + 1) (by omega)
    rw [show off + (i + 1) = off + 1 + i from by omega] at this
    exact this

theorem Li.set {w : World} {lo b off n cap : Nat} {L : List Int} (h : Li w lo b off n cap L) (hr : n + 1 ≤ cap) (x : Int) : Li (w.setCell ⟨b, off + n, none⟩ (.int .i64 x)) lo b off (n + 1) cap (L ++ [x]) := by
  have hl := h.len
  refine ⟨by simp [hl], hr, h.low, by simp [World.setCell]; exact h.lt, fun i hi => ?_, fun i hi => ⟨?_, ?_⟩⟩
  · by_cases e : i = n
    · subst e
      rw [World.cell?_setCell_same' _ _ _ (h.room i (by omega)).1]
      simp [List.getD_eq_getElem?_getD, ← hl]
    · rw [World.cell?_setCell_other _ _ _ _ (fun e' => by injection e' with _ e' _; omega), h.cells i (by omega)]
      simp [List.getD_eq_getElem?_getD, List.getElem?_append_left (show i < L.length by omega)]
  · by_cases e : i = n
    · subst e
      rw [World.cell?_setCell_same' _ _ _ (h.room i hi).1]; rfl
    · rw [World.cell?_setCell_other _ _ _ _ (fun e' => by injection e' with _ e' _; omega)]
      exact (h.room i hi).1
  · rw [World.frozen?_setCell]; exact (h.room i hi).2

/-- The slice has moved into a new row. -/
theorem Li.grow {w' : World} {lo n nb : Nat} {e : TypeId} {L : List Int} {v' : Value} {x : Int} (hl : L.length = n) (hown : w'.ownsRow nb e 1 v' (n + 1) (L.map (Value.int .i64) ++ [.int .i64 x])) (hlo : lo ≤ nb) :
    ∃ g cap', v' = .slice (some ⟨g, 0, none⟩) (n + 1) cap' ∧ nb ≤ g ∧ Li w' lo g 0 (n + 1) cap' (L ++ [x]) := by
  have hfull := hown
  rcases hown.2 with ⟨_, h0⟩ | ⟨g, cap', cur, hv, hb, hg, h1, h2, h3, h4⟩
  · omega
  · subst hv
    refine ⟨g, cap', rfl, hb, by simp [hl], h1, by omega, (hfull.lt g rfl).2, fun i hi => ?_, fun i hi => ⟨?_, ?_⟩⟩
    · rw [Nat.zero_add, hfull.cellAt i (by omega)]
      by_cases hi2 : i < n
      · rw [List.getElem?_append_left (by simp [hl]; exact hi2)]
        simp [List.getD_eq_getElem?_getD, List.getElem?_append_left (show i < L.length by omega), show i < L.length by omega]
      · have : i = n := by omega
        subst this
        simp [List.getD_eq_getElem?_getD, ← hl]
    · rw [Nat.zero_add, cell_of_row _ _ i _ _ (0, 0) hg]
      simp
      omega
    · simp [World.frozen?, hg]
end Go.Proofs.Ytjbfmagedkmngaa.Base
