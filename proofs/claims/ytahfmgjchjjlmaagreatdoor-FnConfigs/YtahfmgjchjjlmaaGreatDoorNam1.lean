/- Rows of strings that a call has made: compared, marked, held; FieldNames; its law walked. -/
import Derived.Test.YtahfmgjchjjlmaaGreatDoorMtx1
import Derived.StillTailTactics
import Derived.Deep.RegionHeld3
namespace Go.Proofs.YtahfmgjchjjlmaaGreatDoor.Nam
open Go.RowKit Go.Deep Base

def RS (w : World) (g : Nat) (ss : List ByteArray) : Prop := ∀ i, i < ss.length → w.cell? ⟨g, i, none⟩ = some (.string (ss.getD i ByteArray.empty)) ∧ ∀ j, w.frozen? ⟨g, j, none⟩ = false
theorem RS.of_block {w w' : World} {g : Nat} {ss : List ByteArray} (h : RS w g ss) (e : w'.heap[g]? = w.heap[g]?) : RS w' g ss := fun i hi =>
  ⟨(World.cell?_of_block e).trans (h i hi).1, fun j => (World.frozen?_of_block e).trans ((h i hi).2 j)⟩

/-- The first i texts of a row are marks from k on. -/
def MarkSt (w wr : World) (g n k : Nat) (ss : List ByteArray) (i : Nat) : Prop :=
  (∀ j, j < n → wr.cell? ⟨g, j, none⟩ = some (.string (if j < i then Num.mtx (k + j) else ss.getD j ByteArray.empty)) ∧ ∀ o, wr.frozen? ⟨g, o, none⟩ = false)
  ∧ w.heap.size ≤ wr.heap.size ∧ wr.os = w.os ∧ wr.tape = w.tape ∧ wr.output = w.output ∧ ∀ b, b < w.heap.size → b ≠ g → wr.heap[b]? = w.heap[b]?

theorem MarkSt.below {w a b : World} {g n k i : Nat} {ss : List ByteArray} (h : MarkSt w a g n k ss i) (hb : Below a.heap.size a b) (hg : g < w.heap.size) : MarkSt w b g n k ss i := by
  obtain ⟨h1, h2, h3, h4, h5, h6⟩ := h
  have e := hb.block g (Nat.lt_of_lt_of_le hg h2)
  refine ⟨fun j hj => ⟨(World.cell?_of_block e).trans (h1 j hj).1, fun o => (World.frozen?_of_block e).trans ((h1 j hj).2 o)⟩, Nat.le_trans h2 hb.size, hb.os.trans h3, hb.tape.trans h4, hb.output.trans h5, fun b' hb' hne => (hb.block b' (Nat.lt_of_lt_of_le hb' h2)).trans (h6 b' hb' hne)⟩

theorem MarkSt.step {w a : World} {g n k i : Nat} {ss : List ByteArray} (h : MarkSt w a g n k ss i) : MarkSt w (a.setCell ⟨g, i, none⟩ (.string (Num.mtx (k + i)))) g n k ss (i + 1) := by
  obtain ⟨h1, h2, h3, h4, h5, h6⟩ := h
  refine ⟨fun j hj => ⟨?_, fun o => by rw [World.frozen?_setCell]; exact (h1 j hj).2 o⟩, by simpa [World.setCell] using h2, h3, h4, h5, fun b' hb' hne => (heap_setCell_other a _ _ _ hne).trans (h6 b' hb' hne)⟩
  by_cases e : j = i
  · subst e
    rw [World.cell?_setCell_same' _ _ _ (by rw [(h1 j hj).1]; rfl), if_pos (by omega)]
  · rw [World.cell?_setCell_other _ _ _ _ (fun e' => by injection e' with _ e' _; exact e e'.symm), (h1 j hj).1]
    by_cases l : j < i
    · rw [if_pos l, if_pos (by omega)]
    · rw [if_neg l, if_neg (by omega)]

def nmL : List ByteArray := [⟨#[109, 105, 110]⟩, ⟨#[109, 97, 120]⟩, ⟨#[119, 97, 105, 116]⟩, ⟨#[108, 105, 102, 101]⟩, ⟨#[105, 100, 108, 101]⟩, ⟨#[107, 101, 101, 112]⟩, ⟨#[108, 101, 97, 107]⟩, ⟨#[98, 97, 115, 101]⟩, ⟨#[99, 97, 112]⟩, ⟨#[106, 105, 116, 116, 101, 114]⟩, ⟨#[119, 105, 110, 100, 111, 119]⟩, ⟨#[116, 114, 105, 112, 115]⟩, ⟨#[99, 111, 111, 108]⟩, ⟨#[100, 114, 97, 105, 110]⟩]
theorem nm_new (w : World) (t : TypeId) : RS (w.alloc (.cells #[.string ⟨#[109, 105, 110]⟩, .string ⟨#[109, 97, 120]⟩, .string ⟨#[119, 97, 105, 116]⟩, .string ⟨#[108, 105, 102, 101]⟩, .string ⟨#[105, 100, 108, 101]⟩, .string ⟨#[107, 101, 101, 112]⟩, .string ⟨#[108, 101, 97, 107]⟩, .string ⟨#[98, 97, 115, 101]⟩, .string ⟨#[99, 97, 112]⟩, .string ⟨#[106, 105, 116, 116, 101, 114]⟩, .string ⟨#[119, 105, 110, 100, 111, 119]⟩, .string ⟨#[116, 114, 105, 112, 115]⟩, .string ⟨#[99, 111, 111, 108]⟩, .string ⟨#[100, 114, 97, 105, 110]⟩] t)) w.heap.size nmL := by
  intro i hi
  have e := heap_alloc_new w (.cells (nmL.map Value.string).toArray t)
  refine ⟨?_, fun j => by have e' : (w.alloc (.cells (nmL.map Value.string).toArray t)).heap[w.heap.size]? = some (.cells (nmL.map Value.string).toArray t (0, 0)) := e; exact frozen_of_row _ _ j _ t e'⟩
  show (w.alloc (.cells (nmL.map Value.string).toArray t)).cell? ⟨w.heap.size, i, none⟩ = _
  rw [cell_of_row _ _ i _ t (0, 0) e]
  simp [hi]

set_option maxHeartbeats 800000 in
theorem specNames_any (w : World) : Calls Tryz.prog 16 #[] w fun e w' => e = .returned (.slice (some ⟨w.heap.size, 0, none⟩) 14 14) ∧ RS w' w.heap.size nmL ∧ Below w.heap.size w w' ∧ w.heap.size < w'.heap.size := by
  have HN := Lib.hid (fun t => nm_new w t)
  go_enter Tryz.func16, Tryz.ntmps16
  go_wp2
  go_ret
  exact ⟨rfl, HN.out _, bel_alloc _ _, by simp⟩

set_option maxHeartbeats 800000 in
theorem implNames_any (w : World) : Calls Tryz.prog 9 #[] w fun e w' => e = .returned (.slice (some ⟨w.heap.size, 0, none⟩) 14 14) ∧ RS w' w.heap.size nmL ∧ Below w.heap.size w w' ∧ w.heap.size < w'.heap.size := by
  have HN := Lib.hid (fun t => nm_new w t)
  go_enter Tryz.func9, Tryz.ntmps9
  go_wp2
  go_ret
  exact ⟨rfl, HN.out _, bel_alloc _ _, by simp⟩


end Go.Proofs.YtahfmgjchjjlmaaGreatDoor.Nam
