/- The reference's ParseConfig: what leads up to the lines. -/
import Derived.Test.YtahfmgjchjjlmaaDoorRc2
namespace Go.Proofs.YtahfmgjchjjlmaaDoor.Fm
open Go.RowKit Go.Deep Base Cf Ct Num Parts

def SpEnd (l : List UInt8) (w : World) (e : Ending) (w' : World) : Prop := ∃ v code, e = .returned (.tuple #[.agg #[.int .i64 (v 0), .int .i64 (v 1), .int .i64 (v 2), .int .i64 (v 3), .int .i64 (v 4), .int .i64 (v 5), .int .i64 (v 6), .int .i64 (v 7), .int .i64 (v 8), .int .i64 (v 9), .int .i64 (v 10), .int .i64 (v 11), .int .i64 (v 12), .int .i64 (v 13)], .int .i64 code]) ∧ Ans dflt l v code ∧ Below w.heap.size w w'

set_option maxRecDepth 100000 in
set_option maxHeartbeats 2000000 in
theorem specParse_long (s : ByteArray) (w : World) (hs : s.size ≤ 1048576) (hl : 1000 < s.size) : Calls Tryd.prog 8 #[.string s] w (SpEnd s.data.toList w) := by
  have hli : (1000 : Int) < (s.size : Int) := by omega
  have HA : Hid (Ans dflt s.data.toList zero14 (-1)) := .inl ⟨by rw [Array.length_toList]; exact hl, rfl, rfl⟩
  go_enter Tryd.func8, Tryd.ntmps8
  go_wp2
  exact bodyPost_ret (v := .tuple #[.agg #[.int .i64 (zero14 0), .int .i64 (zero14 1), .int .i64 (zero14 2), .int .i64 (zero14 3), .int .i64 (zero14 4), .int .i64 (zero14 5), .int .i64 (zero14 6), .int .i64 (zero14 7), .int .i64 (zero14 8), .int .i64 (zero14 9), .int .i64 (zero14 10), .int .i64 (zero14 11), .int .i64 (zero14 12), .int .i64 (zero14 13)], .int .i64 (-1)]) (by simp [results, Tryd.results8, go_sem, zero14]) rfl ⟨zero14, -1, rfl, HA.out, bel_alloc _ _⟩

/-- The lines that the reference goes over. -/
theorem lines_cut {ss : List ByteArray} {l : List UInt8} {m : Nat} (h : ss.map (·.data.toList) = parts 10 l) (hn : ss.length = m + 1) (he : (ss.getD m ByteArray.empty).size = 0) : (ss.take m).map (·.data.toList) = linesT l := by
  have hm : m < ss.length := by omega
  have e1 : ss.getD m ByteArray.empty = ss[m] := by rw [List.getD_eq_getElem?_getD, List.getElem?_eq_getElem hm]; rfl
  have e2 : ss[m].data.toList = [] := by
    rw [e1] at he
    have : ss[m].data.toList.length = 0 := by rw [Array.length_toList]; exact he
    exact List.length_eq_zero_iff.1 this
  have e3 : (parts 10 l).getLast? = some [] := by
    rw [← h, List.getLast?_eq_getElem?, List.length_map, hn, Nat.add_sub_cancel, List.getElem?_map, List.getElem?_eq_getElem hm]
    simp [e2]
  unfold linesT
  rw [if_pos e3, ← h, List.dropLast_eq_take, List.length_map, hn, Nat.add_sub_cancel, List.map_take]

theorem lines_whole {ss : List ByteArray} {l : List UInt8} {m : Nat} (h : ss.map (·.data.toList) = parts 10 l) (hn : ss.length = m + 1) (he : (ss.getD m ByteArray.empty).size ≠ 0) : ss.map (·.data.toList) = linesT l := by
  have hm : m < ss.length := by omega
  have e1 : ss.getD m ByteArray.empty = ss[m] := by rw [List.getD_eq_getElem?_getD, List.getElem?_eq_getElem hm]; rfl
  have e3 : (parts 10 l).getLast? ≠ some [] := by
    rw [← h, List.getLast?_eq_getElem?, List.length_map, hn, Nat.add_sub_cancel, List.getElem?_map, List.getElem?_eq_getElem hm]
    simp
    intro e
    apply he
    rw [e1]
    have : ss[m].data.size = 0 := by rw [e]; rfl
    exact this
  unfold linesT
  rw [if_neg e3]
  exact h

theorem strs_take {w : World} {A : Option Addr} {ss : List ByteArray} {m : Nat} (h : Strs w A ss) (hm : m ≤ ss.length) : Strs w A (ss.take m) := by
  intro hp
  rw [List.length_take] at hp
  obtain ⟨b, off, hA, hc⟩ := h (by omega)
  refine ⟨b, off, hA, fun i hi => ?_⟩
  rw [List.length_take] at hi
  rw [hc i (by omega), List.getD_eq_getElem?_getD, List.getD_eq_getElem?_getD, List.getElem?_take_of_lt (by omega)]

theorem bytes_nil {x : ByteArray} (h : x.size = 0) : x = ⟨#[]⟩ := by
  obtain ⟨⟨q⟩⟩ := x
  cases q
  · rfl
  · simp [ByteArray.size] at h

theorem list_some {x : ByteArray} (h : ¬ x.size = 0) : x.data.toList ≠ [] := by
  intro e
  apply h
  have := congrArg List.length e
  rw [Array.length_toList] at this
  exact this

theorem bytes_some {x : ByteArray} (h : ¬ x.size = 0) : x.toList.isEmpty = false := by
  rw [ByteArray.toList_eq]
  cases e : x.data.toList with
  | nil => exact absurd e (list_some h)
  | cons a q => rfl

theorem head_at {x : ByteArray} (hp : 0 < x.size) : x.data.toList.head? = some x[0] := by
  have hl : x.data.toList.length = x.size := by rw [Array.length_toList]; rfl
  rw [List.head?_eq_getElem?, List.getElem?_eq_getElem (by omega)]
  rfl

theorem head_yes {x : ByteArray} (hp : 0 < x.size) (h : x.data.toList.head? = some 35) : ((x[0].toNat : Int) == 35) = true := by
  rw [head_at hp] at h
  rw [Option.some.inj h]
  rfl

theorem head_no {x : ByteArray} (hp : 0 < x.size) (h : ¬ x.data.toList.head? = some 35) : ((x[0].toNat : Int) == 35) = false := by
  rw [head_at hp] at h
  rw [beq_eq_false_iff_ne]
  intro e
  exact h (congrArg some (UInt8.toNat_inj.1 (show x[0].toNat = 35 by omega)))

theorem two_of {ss : List ByteArray} (h : ss.length = 2) : ∃ p0 p1, ss = [p0, p1] := by
  match ss, h with
  | [a, b], _ => exact ⟨a, b, rfl⟩

theorem part_size {l : List UInt8} {c : UInt8} {a b : ByteArray} (h : parts c l = [a.data.toList, b.data.toList]) (hl : l.length ≤ 1048576) : b.size ≤ 1048576 := by
  have h1 := parts_len c l b.data.toList (by rw [h]; simp)
  rw [Array.length_toList] at h1
  have e : b.data.size = b.size := rfl
  omega

theorem setL_two {c : Nat → Int} {d : Nat → Bool} {l : List UInt8} {a b : List UInt8} (h : parts 61 l = [a, b]) :
    ((readT b).2 = false → setL c d l = none) ∧ ((readT b).2 = true → fieldAt a = none → setL c d l = none) ∧ ((readT b).2 = true → ∀ i, fieldAt a = some i → (d i = true → setL c d l = none) ∧ (d i = false → setL c d l = some (upd c i (readT b).1, updB d i))) := by
  unfold setL
  rw [h]
  refine ⟨fun h1 => by simp [h1], fun h1 h2 => by simp [h1, h2], fun h1 i h2 => ⟨fun h3 => by simp [h1, h2, h3], fun h3 => by simp [h1, h2, h3]⟩⟩

theorem setL_other {c : Nat → Int} {d : Nat → Bool} {l : List UInt8} (h : (parts 61 l).length ≠ 2) : setL c d l = none := by
  unfold setL
  match h2 : parts 61 l, h with
  | [], _ => rfl
  | [a], _ => rfl
  | [a, b], h => exact absurd rfl h
  | a :: b :: e :: r, _ => rfl

/-- Where the reference has found a name among the first j. -/
def atL (p : List UInt8) : Nat → Int
  | 0 => -1
  | j + 1 => if (nmB j).data.toList = p then (j : Int) else atL p j

theorem atL_yes {p : List UInt8} {j : Nat} (h : (nmB j).data.toList = p) : atL p (j + 1) = (j : Int) := if_pos h
theorem atL_no {p : List UInt8} {j : Nat} (h : ¬ (nmB j).data.toList = p) : atL p (j + 1) = atL p j := if_neg h

theorem atL_miss {p : List UInt8} : ∀ j, (∀ i, i < j → (nmB i).data.toList ≠ p) → atL p j = -1
  | 0, _ => rfl
  | j + 1, h => by rw [atL_no (h j (by omega))]; exact atL_miss j fun i hi => h i (by omega)

theorem atL_none {p : List UInt8} (h : fieldAt p = none) : atL p 14 = -1 := by
  refine atL_miss 14 fun i hi e => ?_
  have h1 := fieldAt_some hi
  rw [e, h] at h1
  cases h1

theorem atL_hit {p : List UInt8} {i : Nat} (hi : (nmB i).data.toList = p) (hu : ∀ j, j < 14 → (nmB j).data.toList = p → j = i) : ∀ j, i < j → j ≤ 14 → atL p j = (i : Int)
  | 0, h, _ => by omega
  | j + 1, h, h14 => by
    by_cases e : j = i
    · subst e; exact atL_yes hi
    · rw [atL_no fun he => e (hu j (by omega) he)]
      exact atL_hit hi hu j (by omega) (by omega)

theorem atL_some {p : List UInt8} {i : Nat} (h : fieldAt p = some i) : atL p 14 = (i : Int) := by
  obtain ⟨hi, he⟩ := fieldAt_of h
  refine atL_hit he (fun j hj hp => ?_) 14 hi (Nat.le_refl _)
  have h1 := fieldAt_some hj
  rw [hp, h] at h1
  exact (Option.some.inj h1).symm

theorem rowB_at {W : World} {b : Nat} {d : Nat → Bool} {t : TypeId} (h : W.heap[b]? = some (.cells #[.bool (d 0), .bool (d 1), .bool (d 2), .bool (d 3), .bool (d 4), .bool (d 5), .bool (d 6), .bool (d 7), .bool (d 8), .bool (d 9), .bool (d 10), .bool (d 11), .bool (d 12), .bool (d 13)] t (0, 0))) (i : Nat) (hi : i < 14) : W.cell? ⟨b, i, none⟩ = some (.bool (d i)) := by
  rw [cell_of_row _ _ i _ _ (0, 0) h]
  match i, hi with
  | 0, _ | 1, _ | 2, _ | 3, _ | 4, _ | 5, _ | 6, _ | 7, _ | 8, _ | 9, _ | 10, _ | 11, _ | 12, _ | 13, _ => rfl

theorem rowB_upd {W : World} {b : Nat} {d : Nat → Bool} {t : TypeId} (h : W.heap[b]? = some (.cells #[.bool (d 0), .bool (d 1), .bool (d 2), .bool (d 3), .bool (d 4), .bool (d 5), .bool (d 6), .bool (d 7), .bool (d 8), .bool (d 9), .bool (d 10), .bool (d 11), .bool (d 12), .bool (d 13)] t (0, 0))) (i : Nat) (hi : i < 14) {u : Nat → Bool} (hu : u = updB d i) : (W.setCell ⟨b, i, none⟩ (.bool true)).heap[b]? = some (.cells #[.bool (u 0), .bool (u 1), .bool (u 2), .bool (u 3), .bool (u 4), .bool (u 5), .bool (u 6), .bool (u 7), .bool (u 8), .bool (u 9), .bool (u 10), .bool (u 11), .bool (u 12), .bool (u 13)] t (0, 0)) := by
  subst hu
  rw [heap_set h]
  match i, hi with
  | 0, _ | 1, _ | 2, _ | 3, _ | 4, _ | 5, _ | 6, _ | 7, _ | 8, _ | 9, _ | 10, _ | 11, _ | 12, _ | 13, _ => rfl

theorem string_farB {w : World} {g o b : Nat} {s : ByteArray} {d : Nat → Bool} {t : TypeId} (h : w.cell? ⟨g, o, none⟩ = some (.string s)) (hb : w.heap[b]? = some (.cells #[.bool (d 0), .bool (d 1), .bool (d 2), .bool (d 3), .bool (d 4), .bool (d 5), .bool (d 6), .bool (d 7), .bool (d 8), .bool (d 9), .bool (d 10), .bool (d 11), .bool (d 12), .bool (d 13)] t (0, 0))) : g ≠ b := by
  rintro rfl
  rw [cell_of_row _ _ o _ _ (0, 0) hb] at h
  have := Array.mem_of_getElem? h
  simp at this

/-- A line's text while the rows of values and marks turn. -/
theorem rows_turn {w w' : World} {g off vb sb k : Nat} {ss : List ByteArray} {c : Nat → Int} {d : Nat → Bool} {t t' : TypeId} (h : Strs w (some ⟨g, off, none⟩) ss) (hT : Turn vb sb w w') (hv : w.heap[vb]? = some (.cells #[.int .i64 (c 0), .int .i64 (c 1), .int .i64 (c 2), .int .i64 (c 3), .int .i64 (c 4), .int .i64 (c 5), .int .i64 (c 6), .int .i64 (c 7), .int .i64 (c 8), .int .i64 (c 9), .int .i64 (c 10), .int .i64 (c 11), .int .i64 (c 12), .int .i64 (c 13)] t (0, 0))) (hs : w.heap[sb]? = some (.cells #[.bool (d 0), .bool (d 1), .bool (d 2), .bool (d 3), .bool (d 4), .bool (d 5), .bool (d 6), .bool (d 7), .bool (d 8), .bool (d 9), .bool (d 10), .bool (d 11), .bool (d 12), .bool (d 13)] t' (0, 0))) (hk : k < ss.length) :
    w'.cell? ⟨g, off + k, none⟩ = some (.string (ss.getD k ByteArray.empty)) := by
  obtain ⟨g', off', hA, hc⟩ := h (by omega)
  cases hA
  have hc1 := hc k hk
  exact (World.cell?_of_block (hT.block g (World.block_lt_of_cell? _ _ hc1) (string_far hc1 hv) (string_farB hc1 hs))).trans hc1

def f14 : Nat → Bool := fun _ => false

theorem make14 (W : World) : (Instr.makeSlice 45 (.int .i64 14) (.int .i64 14)).run Tryd.prog W = .ok (.slice (some ⟨W.heap.size, 0, none⟩) 14 14) (W.alloc (.cells #[.bool false, .bool false, .bool false, .bool false, .bool false, .bool false, .bool false, .bool false, .bool false, .bool false, .bool false, .bool false, .bool false, .bool false] 4)) := by kernel_rfl

end Go.Proofs.YtahfmgjchjjlmaaDoor.Fm
