/- Maps from numbers to true that a call makes; what duesOk answers. -/
import Derived.Test.YtnmhdbfemobhkaaHp5
import Derived.RangeFuncNested
import Derived.RangeFuncLeaves
namespace Go.Proofs.Ytnmhdbfemobhkaa.Hp
open Go.RowKit Go.Deep Base

def entry (x : Int) (i : Nat) : MapEntry := { key := .int .i64 x, val := .bool true, born := i }
def entries : List Int → Nat → List MapEntry
  | [], _ => []
  | x :: r, i => entry x i :: entries r (i + 1)
def mapObj (ids : List Int) : Obj := .map (entries ids 0).toArray ids.length

theorem entries_len : ∀ (ids : List Int) (i : Nat), (entries ids i).length = ids.length
  | [], _ => rfl
  | _ :: r, i => by simp [entries, entries_len r (i + 1)]
theorem entries_snoc : ∀ (ids : List Int) (x : Int) (i : Nat), entries (ids ++ [x]) i = entries ids i ++ [entry x (i + ids.length)]
  | [], x, i => by simp [entries]
  | y :: r, x, i => by
    simp [entries, entries_snoc r x (i + 1)]
    rw [show i + 1 + r.length = i + (r.length + 1) from by omega]

theorem find_now (x : Int) : ∀ (ids : List Int) (i k : Nat), ∃ r, Instr.findNow (.int .i64) (.int .i64 x) (entries ids i) k = some r ∧ (r.map (·.2)) = if ids.contains x then some (.bool true) else none
  | [], i, k => ⟨none, rfl, rfl⟩
  | y :: r, i, k => by
    by_cases e : x = y
    · subst e
      refine ⟨some (k, .bool true), ?_, ?_⟩
      · simp [entries, entry, Instr.findNow, Instr.sameNow]
      · simp
    · obtain ⟨q, h1, h2⟩ := find_now x r (i + 1) (k + 1)
      refine ⟨q, ?_, ?_⟩
      · have hb : (x == y) = false := beq_eq_false_iff_ne.2 e
        simp [entries, entry, Instr.findNow, Instr.sameNow, hb, h1]
      · rw [h2]; simp [e]

theorem check_int (b : Bool) (x : Int) (w : World) : (Instr.checkKey b 10000 3 (.int .i64 x)).run Try.prog w = .ok () w := by
  unfold Instr.checkKey
  simp [Sem.run_bind, run_underlying Try.underlying3]

theorem find_key (x : Int) (ids : List Int) (w : World) : ∃ r, (Instr.findKey 3 (.int .i64 x) (entries ids 0)).run Try.prog w = .ok r w ∧ (r.map (·.2)) = if ids.contains x then some (.bool true) else none := by
  obtain ⟨r, h1, h2⟩ := find_now x ids 0 0
  exact ⟨r, by simp [Instr.findKey, Sem.run_bind, run_underlying Try.underlying3, h1], h2⟩

theorem get_map {w : World} {mb : Nat} {ids : List Int} (h : w.heap[mb]? = some (mapObj ids)) : (getObj mb).run Try.prog w = .ok (mapObj ids) w := by simp [getObj, Sem.run, h, mapObj]

theorem look_ids {w : World} {mb : Nat} {ids : List Int} (h : w.heap[mb]? = some (mapObj ids)) (x : Int) : (Instr.lookup 99 (.map (some mb)) (.int .i64 x) false).run Try.prog w = .ok (.bool (ids.contains x)) w := by
  obtain ⟨r, h1, h2⟩ := find_key x ids w
  have hz : (zeroValue 4).run Try.prog w = .ok (.bool false) w := Try.zeroValue4 w
  have hg := get_map h
  have he : ∀ b, (Instr.checkKey b 10000 3 (.int .i64 x)).run Try.prog w = .ok () w := fun b => check_int b x w
  cases hc : ids.contains x
  · rw [hc] at h2
    have : r = none := by simpa using h2
    subst this
    simp [Instr.lookup, Sem.run_bind, run_underlying Try.underlying99, hg, mapObj, he, h1, hz]
  · rw [hc] at h2
    obtain ⟨q, rfl, hq⟩ : ∃ q, r = some q ∧ q.2 = .bool true := by simpa using h2
    obtain ⟨q1, q2⟩ := q
    simp at hq
    subst hq
    simp [Instr.lookup, Sem.run_bind, run_underlying Try.underlying99, hg, mapObj, he, h1]

theorem put_ids {w : World} {mb : Nat} {ids : List Int} (h : w.heap[mb]? = some (mapObj ids)) {x : Int} (hx : ids.contains x = false) :
    (Instr.mapUpdate 99 (.map (some mb)) (.int .i64 x) (.bool true)).run Try.prog w = .ok () (w.putObj mb (mapObj (ids ++ [x]))) := by
  obtain ⟨r, h1, h2⟩ := find_key x ids w
  rw [hx] at h2
  have : r = none := by simpa using h2
  subst this
  have hg := get_map h
  have hs : (setObj mb (mapObj (ids ++ [x]))).run Try.prog w = .ok () (w.putObj mb (mapObj (ids ++ [x]))) := by simp [setObj, Sem.run, h, World.putObj, mapObj]
  have e2 : mapObj (ids ++ [x]) = Obj.map (entries ids 0 ++ [({ key := .int .i64 x, val := .bool true, born := ids.length } : MapEntry)]).toArray (ids.length + 1) := by simp [mapObj, entries_snoc, entry]
  have he := check_int false x w
  unfold mapObj at hg
  simp [Instr.mapUpdate, Sem.run_bind, run_underlying Try.underlying99, hg, he, h1]
  rw [e2] at hs ⊢
  exact hs

theorem find_old (x : Int) : ∀ (ids : List Int) (i k : Nat), ids.contains x = true → ∃ j, Instr.findNow (.int .i64) (.int .i64 x) (entries ids i) k = some (some (k + j, .bool true)) ∧ (entries ids i)[j]? = some (entry x (i + j))
  | [], _, _, h => by simp at h
  | y :: r, i, k, h => by
    by_cases e : x = y
    · subst e
      exact ⟨0, by simp [entries, entry, Instr.findNow, Instr.sameNow], by simp [entries]⟩
    · have hr : r.contains x = true := by simpa [e] using h
      obtain ⟨j, h1, h2⟩ := find_old x r (i + 1) (k + 1) hr
      have hb : (x == y) = false := beq_eq_false_iff_ne.2 e
      refine ⟨j + 1, ?_, ?_⟩
      · rw [show k + (j + 1) = k + 1 + j from by omega, ← h1]
        simp [entries, entry, Instr.findNow, Instr.sameNow, hb]
      · rw [show i + (j + 1) = i + 1 + j from by omega, ← h2]
        simp [entries]

theorem put_old {w : World} {mb : Nat} {ids : List Int} (h : w.heap[mb]? = some (mapObj ids)) {x : Int} (hx : ids.contains x = true) :
    (Instr.mapUpdate 99 (.map (some mb)) (.int .i64 x) (.bool true)).run Try.prog w = .ok () (w.putObj mb (mapObj ids)) := by
  obtain ⟨j, h1, h2⟩ := find_old x ids 0 0 hx
  rw [Nat.zero_add] at h1 h2
  have hf : (Instr.findKey 3 (.int .i64 x) (entries ids 0)).run Try.prog w = .ok (some (j, .bool true)) w := by simp [Instr.findKey, Sem.run_bind, run_underlying Try.underlying3, h1]
  have hg := get_map h
  have hs : (setObj mb (mapObj ids)).run Try.prog w = .ok () (w.putObj mb (mapObj ids)) := by simp [setObj, Sem.run, h, World.putObj, mapObj]
  have he := check_int false x w
  have hmod : ((entries ids 0).modify j fun e => { key := .int .i64 x, val := .bool true, born := e.born }) = entries ids 0 := by
    apply List.ext_getElem?
    intro i
    rw [List.getElem?_modify]
    by_cases e : j = i
    · subst e
      rw [h2]
      simp [entry]
    · simp [e]
  have hsb : Instr.sameBits 10000 (.int .i64 x) (.int .i64 x) = true := by simp [Instr.sameBits]
  unfold mapObj at hg
  simp [Instr.mapUpdate, Sem.run_bind, run_underlying Try.underlying99, hg, he, hf, h2, entry, Instr.keyThatStays]
  rw [if_pos hsb, hmod]
  exact hs

/-- The keys that a map holds when the first k numbers have been put in. -/
structure Keys (key : Nat → Int) (k : Nat) (S : List Int) : Prop where
  mem : ∀ x, S.contains x = true ↔ ∃ i, i < k ∧ key i = x
  few : S.length ≤ k
  full : S.length = k ↔ ∀ i j, j < i → i < k → key j ≠ key i
theorem Keys.zero (key : Nat → Int) : Keys key 0 [] := ⟨fun x => by simp, by simp, by simp⟩
theorem Keys.old {key : Nat → Int} {k : Nat} {S : List Int} (h : Keys key k S) (hx : S.contains (key k) = true) : Keys key (k + 1) S := by
  obtain ⟨i, hi, he⟩ := (h.mem _).1 hx
  refine ⟨fun x => ?_, by have := h.few; omega, ?_⟩
  · rw [h.mem]
    constructor
    · rintro ⟨j, hj, e⟩; exact ⟨j, by omega, e⟩
    · rintro ⟨j, hj, e⟩
      by_cases ej : j = k
      · subst ej; exact ⟨i, hi, by rw [he, e]⟩
      · exact ⟨j, by omega, e⟩
  · constructor
    · intro hl; have := h.few; omega
    · intro hd; exact absurd he (hd k i hi (by omega))
theorem Keys.new {key : Nat → Int} {k : Nat} {S : List Int} (h : Keys key k S) (hx : S.contains (key k) = false) : Keys key (k + 1) (S ++ [key k]) := by
  have hno : ∀ i, i < k → key i ≠ key k := fun i hi e => by
    rw [(h.mem (key k)).2 ⟨i, hi, e⟩] at hx; cases hx
  refine ⟨fun x => ?_, by have := h.few; simp; omega, ?_⟩
  · have h1 : (S ++ [key k]).contains x = true ↔ S.contains x = true ∨ x = key k := by simp
    rw [h1, h.mem]
    constructor
    · rintro (⟨j, hj, e⟩ | e)
      · exact ⟨j, by omega, e⟩
      · exact ⟨k, by omega, e.symm⟩
    · rintro ⟨j, hj, e⟩
      by_cases ej : j = k
      · subst ej; exact .inr e.symm
      · exact .inl ⟨j, by omega, e⟩
  · rw [List.length_append, List.length_singleton]
    constructor
    · intro hl i j hj hi
      by_cases ei : i = k
      · subst ei; exact hno j hj
      · exact h.full.1 (by omega) i j hj (by omega)
    · intro hd
      have := h.full.2 (fun i j hj hi => hd i j hj (by omega))
      omega

/-- Putting in one number more. -/
theorem put_key {w : World} {mb k : Nat} {key : Nat → Int} {S : List Int} (h : w.heap[mb]? = some (mapObj S)) (hk : Keys key k S) {x : Int} (hx : key k = x) :
    ∃ S', Keys key (k + 1) S' ∧ (Instr.mapUpdate 99 (.map (some mb)) (.int .i64 x) (.bool true)).run Try.prog w = .ok () (w.putObj mb (mapObj S')) := by
  subst hx
  cases hc : S.contains (key k)
  · exact ⟨_, hk.new hc, put_ids h hc⟩
  · exact ⟨_, hk.old hc, put_old h hc⟩

theorem put_turn {w W : World} {mb : Nat} {S S' : List Int} (h : W.heap[mb]? = some (mapObj S)) (hb : Below w.heap.size w W) (hm : w.heap.size ≤ mb) : (W.putObj mb (mapObj S')).heap[mb]? = some (mapObj S') ∧ Below w.heap.size w (W.putObj mb (mapObj S')) ∧ (∀ k, k ≠ mb → (W.putObj mb (mapObj S')).heap[k]? = W.heap[k]?) ∧ (W.putObj mb (mapObj S')).heap.size = W.heap.size := by
  refine ⟨World.putObj_heap_same (Array.getElem?_eq_some_iff.1 h).1, ⟨hb.os, hb.tape, hb.output, by simpa [World.putObj] using hb.size, fun k hk => (World.putObj_heap_other (by omega)).trans (hb.block k hk)⟩, fun k hk => World.putObj_heap_other hk, by simp [World.putObj]⟩

def eachB (ds : List Du) (q : Int) (n : Nat) : Bool := (List.range n).all fun i => okD q (ds.getD i zDu)
def apartB (key : Nat → Int) (n : Nat) : Bool := (List.range n).all fun i => (List.range i).all fun j => !(key j == key i)
theorem apartB_iff {key : Nat → Int} {n : Nat} : apartB key n = true ↔ ∀ i j, j < i → i < n → key j ≠ key i := by
  unfold apartB
  rw [List.all_eq_true]
  constructor
  · intro h i j hj hi
    have h1 := h i (List.mem_range.2 hi)
    rw [List.all_eq_true] at h1
    simpa using h1 j (List.mem_range.2 hj)
  · intro h i hi
    rw [List.mem_range] at hi
    rw [List.all_eq_true]
    intro j hj
    rw [List.mem_range] at hj
    simpa using h i j hj hi
theorem keys_len {key : Nat → Int} {n : Nat} {S : List Int} (h : Keys key n S) : ((S.length : Int) == (n : Int)) = apartB key n := by
  rw [Bool.eq_iff_iff, apartB_iff, ← h.full]
  simp
  omega
theorem eachB_true {ds : List Du} {q : Int} {n : Nat} (h : ∀ i, i < n → okD q (ds.getD i zDu) = true) : eachB ds q n = true := by
  unfold eachB; rw [List.all_eq_true]; exact fun i hi => h i (List.mem_range.1 hi)
theorem eachB_false {ds : List Du} {q : Int} {n k : Nat} (hk : k < n) (h : okD q (ds.getD k zDu) = false) : eachB ds q n = false := by
  cases e : eachB ds q n
  · rfl
  · unfold eachB at e
    rw [List.all_eq_true] at e
    have := e k (List.mem_range.2 hk)
    rw [h] at this
    cases this

def duesB (ds : List Du) (q : Int) (n : Nat) : Bool := decide (n ≤ 100) && eachB ds q n && (apartB (fun i => (ds.getD i zDu).seq) n && apartB (fun i => (ds.getD i zDu).id) n)

theorem okH_eq (ds : List Du) (q : Int) : okH ds q = (Tick.isT q && duesB ds q ds.length && ordB ds ds.length) := by
  rw [Bool.eq_iff_iff]
  constructor
  · intro h
    have v := okH_val h
    unfold duesB
    rw [v.tick, eachB_true v.each, ordB_true v.heap, apartB_iff.2 (fun i j hj hi => (v.apart i j hj hi).2), apartB_iff.2 (fun i j hj hi => (v.apart i j hj hi).1)]
    simp [v.few]
  · intro h
    unfold duesB at h
    simp only [Bool.and_eq_true, decide_eq_true_eq, apartB_iff] at h
    obtain ⟨⟨h1, ⟨h2, h3⟩, h4, h5⟩, h6⟩ := h
    unfold eachB at h3
    unfold ordB at h6
    rw [List.all_eq_true] at h3 h6
    refine okH_true ⟨h2, h1, fun i hi => h3 i (List.mem_range.2 hi), fun i j hj hi => ⟨h5 i j hj hi, h4 i j hj hi⟩, fun k hk hi => ?_⟩
    have h7 := h6 k (List.mem_range.2 hi)
    have e : (k == 0) = false := by simp; omega
    rw [e] at h7
    simpa using h7
end Go.Proofs.Ytnmhdbfemobhkaa.Hp
