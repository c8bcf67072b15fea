/- What parsing a configuration answers, as plain mathematics. -/
import Derived.Test.YtahfmgjchjjlmaaDoorSet1
import Derived.Test.YtahfmgjchjjlmaaDoorCfg4
namespace Go.Proofs.YtahfmgjchjjlmaaDoor.Fm
open Go.RowKit Go.Deep Base Cf Ct Num Parts

def lineL (c : Nat → Int) (d : Nat → Bool) (line : List UInt8) : Option ((Nat → Int) × (Nat → Bool)) :=
  if line = [] ∨ line.head? = some 35 then some (c, d) else setL c d line

/-- The configuration and the fields set behind the first k lines. -/
def afterL (c0 : Nat → Int) (ls : List (List UInt8)) : Nat → Option ((Nat → Int) × (Nat → Bool))
  | 0 => some (c0, fun _ => false)
  | k + 1 => match afterL c0 ls k with
    | some (c, d) => lineL c d (ls.getD k [])
    | none => none

def zero14 : Nat → Int := fun _ => 0

/-- What ParseConfig owes at the text l: v and code. -/
def Ans (c0 : Nat → Int) (l : List UInt8) (v : Nat → Int) (code : Int) : Prop :=
  (1000 < l.length ∧ v = zero14 ∧ code = -1) ∨ (l.length ≤ 1000 ∧
    ((∃ k, k < (linesT l).length ∧ afterL c0 (linesT l) k ≠ none ∧ afterL c0 (linesT l) (k + 1) = none ∧ v = zero14 ∧ code = (k : Int) + 1) ∨
     (∃ c d, afterL c0 (linesT l) (linesT l).length = some (c, d) ∧ ((okC c = true ∧ v = c ∧ code = 0) ∨ (okC c = false ∧ v = zero14 ∧ code = -1)))))

theorem after_none {c0 : Nat → Int} {ls : List (List UInt8)} {k : Nat} (h : afterL c0 ls k = none) : ∀ j, k ≤ j → afterL c0 ls j = none := by
  intro j hj
  induction j with
  | zero => obtain rfl : k = 0 := by omega
            exact h
  | succ j ih =>
    rcases Nat.lt_or_ge j k with h1 | h1
    · obtain rfl : k = j + 1 := by omega
      exact h
    · unfold afterL
      rw [ih h1]

theorem Ans.det {c0 : Nat → Int} {l : List UInt8} {v v' : Nat → Int} {q q' : Int} (h : Ans c0 l v q) (h' : Ans c0 l v' q') : v = v' ∧ q = q' := by
  rcases h with ⟨h1, rfl, rfl⟩ | ⟨h1, h⟩ <;> rcases h' with ⟨h1', rfl, rfl⟩ | ⟨h1', h'⟩
  · exact ⟨rfl, rfl⟩
  · omega
  · omega
  · rcases h with ⟨k, hk, h2, h3, rfl, rfl⟩ | ⟨c, d, h2, h3⟩ <;> rcases h' with ⟨k', hk', h2', h3', rfl, rfl⟩ | ⟨c', d', h2', h3'⟩
    · have : k = k' := by
        rcases Nat.lt_trichotomy k k' with h | h | h
        · exact absurd (after_none h3 k' (by omega)) h2'
        · exact h
        · exact absurd (after_none h3' k (by omega)) h2
      subst this
      exact ⟨rfl, rfl⟩
    · rw [after_none h3 _ (by omega)] at h2'
      cases h2'
    · rw [after_none h3' _ (by omega)] at h2
      cases h2
    · rw [h2] at h2'
      cases h2'
      rcases h3 with ⟨e, rfl, rfl⟩ | ⟨e, rfl, rfl⟩ <;> rcases h3' with ⟨e', rfl, rfl⟩ | ⟨e', rfl, rfl⟩
      · exact ⟨rfl, rfl⟩
      · rw [e] at e'; cases e'
      · rw [e] at e'; cases e'
      · exact ⟨rfl, rfl⟩

theorem parts_len (c : UInt8) (l : List UInt8) : ∀ p ∈ parts c l, p.length ≤ l.length := by
  induction l with
  | nil => intro p hp; simp [parts] at hp; subst hp; simp
  | cons b r ih =>
    intro p hp
    unfold parts at hp
    split at hp
    · rcases List.mem_cons.1 hp with rfl | hp
      · simp
      · have := ih p hp; simp; omega
    · cases h : parts c r with
      | nil => exact absurd h (parts_ne c r)
      | cons q qs =>
        rw [h] at hp
        rcases List.mem_cons.1 hp with rfl | hp
        · have := ih q (by rw [h]; simp); simp; omega
        · have := ih p (by rw [h]; simp [hp]); simp; omega

theorem lines_len (l : List UInt8) : ∀ p ∈ linesT l, p.length ≤ l.length := by
  intro p hp
  unfold linesT at hp
  split at hp
  · exact parts_len 10 l p (List.dropLast_subset _ hp)
  · exact parts_len 10 l p hp

theorem line_size {ss : List ByteArray} {l : List UInt8} (h : ss.map (·.data.toList) = linesT l) (hl : l.length ≤ 1000) {k : Nat} (hk : k < ss.length) : (ss.getD k ByteArray.empty).size ≤ 1000 ∧ (linesT l).getD k [] = (ss.getD k ByteArray.empty).data.toList := by
  have e : (linesT l).getD k [] = (ss.getD k ByteArray.empty).data.toList := by
    rw [← h, List.getD_eq_getElem?_getD, List.getD_eq_getElem?_getD, List.getElem?_map, List.getElem?_eq_getElem hk]
    rfl
  refine ⟨?_, e⟩
  have hm : (linesT l).getD k [] ∈ linesT l := by
    have hk2 : k < (linesT l).length := by rw [← h, List.length_map]; exact hk
    rw [List.getD_eq_getElem?_getD, List.getElem?_eq_getElem hk2]
    exact List.getElem_mem hk2
  have := lines_len l _ hm
  rw [e, Array.length_toList] at this
  have e2 : (ss.getD k ByteArray.empty).data.size = (ss.getD k ByteArray.empty).size := rfl
  omega

theorem after_step {c0 : Nat → Int} {ls : List (List UInt8)} {k : Nat} {c : Nat → Int} {d : Nat → Bool} (h : afterL c0 ls k = some (c, d)) : afterL c0 ls (k + 1) = lineL c d (ls.getD k []) := by
  conv => lhs; unfold afterL
  rw [h]
end Go.Proofs.YtahfmgjchjjlmaaDoor.Fm
