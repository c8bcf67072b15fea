/- A map from numbers to true in memory: put, look-up, an entry struck, its length. -/
import Derived.Test.YtpjelojmkmednaaChecked
import Derived.Test.YtpjelojmkmednaaBase
import Derived.RangeFuncNested
import Derived.RangeFuncLeaves
namespace Go.Proofs.Ytpjelojmkmednaa.Ln
open Go.RowKit Go.Deep Base

def kv (e : MapEntry) : Value × Value := (e.key, e.val)
def vals (S : List Int) : List (Value × Value) := S.map fun x => (.int .i64 x, .bool true)

/-- Block mb is a map that holds just the numbers of S, each with true. -/
def Im (w : World) (mb : Nat) (S : List Int) : Prop := ∃ es clock, w.heap[mb]? = some (.map es clock) ∧ es.toList.map kv = vals S

theorem Im.of_block {w w' : World} {mb : Nat} {S : List Int} (h : Im w mb S) (e : w'.heap[mb]? = w.heap[mb]?) : Im w' mb S := by
  obtain ⟨es, c, h1, h2⟩ := h
  exact ⟨es, c, e.trans h1, h2⟩
theorem Im.lt {w : World} {mb : Nat} {S : List Int} (h : Im w mb S) : mb < w.heap.size := by
  obtain ⟨es, c, h1, h2⟩ := h
  exact (Array.getElem?_eq_some_iff.1 h1).1
theorem Im.zero {w : World} {mb c : Nat} (h : w.heap[mb]? = some (.map #[] c)) : Im w mb [] := ⟨_, _, h, rfl⟩

theorem find_no (x : Int) : ∀ (S : List Int) (es : List MapEntry) (k : Nat), es.map kv = vals S → x ∉ S → Instr.findNow (.int .i64) (.int .i64 x) es k = some none
  | [], [], k, _, _ => rfl
  | [], e :: es, k, h, _ => by simp [vals] at h
  | y :: l, [], k, h, _ => by simp [vals] at h
  | y :: l, e :: es, k, h, hn => by
    simp only [vals, List.map_cons, List.cons.injEq, kv, Prod.mk.injEq] at h
    have hb : (x == y) = false := beq_eq_false_iff_ne.2 fun e => hn (by simp [e])
    simp only [Instr.findNow, h.1.1, Instr.sameNow, hb]
    simpa using find_no x l es (k + 1) h.2 fun hz => hn (by simp [hz])

theorem find_yes (x : Int) : ∀ (S : List Int) (es : List MapEntry) (k : Nat), es.map kv = vals S → x ∈ S →
    ∃ j, Instr.findNow (.int .i64) (.int .i64 x) es k = some (some (k + j, .bool true)) ∧ (es.eraseIdx j).map kv = vals (S.erase x) ∧ j < es.length
  | [], _, _, _, hx => by cases hx
  | y :: l, [], k, h, _ => by simp [vals] at h
  | y :: l, e :: es, k, h, hx => by
    simp only [vals, List.map_cons, List.cons.injEq, kv, Prod.mk.injEq] at h
    by_cases ey : y = x
    · subst ey
      refine ⟨0, ?_, ?_, by simp⟩
      · simp [Instr.findNow, h.1.1, Instr.sameNow, h.1.2]
      · simpa [vals] using h.2
    · have hb : (x == y) = false := beq_eq_false_iff_ne.2 fun e => ey e.symm
      have hxl : x ∈ l := by
        rcases List.mem_cons.1 hx with h | h
        · exact absurd h.symm ey
        · exact h
      obtain ⟨j, h1, h2, h3⟩ := find_yes x l es (k + 1) h.2 hxl
      refine ⟨j + 1, ?_, ?_, by simp; omega⟩
      · simp only [Instr.findNow, h.1.1, Instr.sameNow, hb]
        rw [show k + (j + 1) = k + 1 + j from by omega]
        simpa using h1
      · have he : (y :: l).erase x = y :: l.erase x := by rw [List.erase_cons]; simp [ey]
        rw [he]
        simp only [List.eraseIdx_cons_succ, List.map_cons, vals, kv, h.1.1, h.1.2]
        exact congrArg _ h2

theorem check_int (b : Bool) (x : Int) (w : World) : (Instr.checkKey b 10000 3 (.int .i64 x)).run Try.prog w = .ok () w := by
  unfold Instr.checkKey
  simp [Sem.run_bind, run_underlying Try.underlying3]

theorem find_key {x : Int} {es : List MapEntry} {r : Option (Nat × Value)} (h : Instr.findNow (.int .i64) (.int .i64 x) es 0 = some r) (w : World) : (Instr.findKey 3 (.int .i64 x) es).run Try.prog w = .ok r w := by
  simp [Instr.findKey, Sem.run_bind, run_underlying Try.underlying3, h]

theorem get_map {w : World} {mb c : Nat} {es : Array MapEntry} (h : w.heap[mb]? = some (.map es c)) : (getObj mb).run Try.prog w = .ok (.map es c) w := by simp [getObj, Sem.run, h]

theorem look_ids {w : World} {mb : Nat} {S : List Int} (h : Im w mb S) (x : Int) : (Instr.lookup 123 (.map (some mb)) (.int .i64 x) false).run Try.prog w = .ok (.bool (decide (x ∈ S))) w := by
  obtain ⟨es, c, h1, h2⟩ := h
  have hg := get_map h1
  have he : ∀ q, (Instr.checkKey q 10000 3 (.int .i64 x)).run Try.prog w = .ok () w := fun q => check_int q _ w
  have hz : (zeroValue 4).run Try.prog w = .ok (.bool false) w := Try.zeroValue4 w
  by_cases hx : x ∈ S
  · obtain ⟨j, h3, _, _⟩ := find_yes x S es.toList 0 h2 hx
    have hf := find_key h3 w
    rw [decide_eq_true hx]
    simp [Instr.lookup, Sem.run_bind, run_underlying Try.underlying123, hg, he, hf]
  · have h3 := find_no x S es.toList 0 h2 hx
    have hf := find_key h3 w
    rw [decide_eq_false hx]
    simp [Instr.lookup, Sem.run_bind, run_underlying Try.underlying123, hg, he, hf, hz]

theorem put_below {w W : World} {mb n : Nat} (o : Obj) (hb : Below n w W) (hm : n ≤ mb) : Below n w (W.putObj mb o) :=
  ⟨hb.os, hb.tape, hb.output, by simpa [World.putObj] using hb.size, fun k hk => (World.putObj_heap_other (by omega)).trans (hb.block k hk)⟩

theorem set_run {w : World} {mb c : Nat} {es : Array MapEntry} {o' : Obj} (h : w.heap[mb]? = some (.map es c)) : (setObj mb o').run Try.prog w = .ok () (w.putObj mb o') := by simp [setObj, Sem.run, h, World.putObj]

theorem put_new {w : World} {mb : Nat} {S : List Int} {x : Int} (h : Im w mb S) (hn : x ∉ S) :
    ∃ o, (Instr.mapUpdate 123 (.map (some mb)) (.int .i64 x) (.bool true)).run Try.prog w = .ok () (w.putObj mb o) ∧ Im (w.putObj mb o) mb (S ++ [x]) := by
  obtain ⟨es, c, h1, h2⟩ := h
  have h3 := find_no x S es.toList 0 h2 hn
  have hf := find_key h3 w
  have hg := get_map h1
  have he := check_int false x w
  have hs := set_run (o' := .map (es.push { key := .int .i64 x, val := .bool true, born := c }) (c + 1)) h1
  refine ⟨.map (es.push { key := .int .i64 x, val := .bool true, born := c }) (c + 1), ?_, es.push { key := .int .i64 x, val := .bool true, born := c }, c + 1, World.putObj_heap_same (Array.getElem?_eq_some_iff.1 h1).1, ?_⟩
  · simp only [Instr.mapUpdate, Sem.run_bind, run_underlying Try.underlying123, hg, he, hf, Result.andThen]
    exact hs
  · rw [Array.toList_push, List.map_append, h2]
    simp [vals, kv]

theorem del_yes {w : World} {mb : Nat} {S : List Int} {x : Int} (h : Im w mb S) (hx : x ∈ S) :
    ∃ o, (Builtin.delete_ #[123, 3] 0 #[.map (some mb), .int .i64 x]).run Try.prog w = .ok (.tuple #[]) (w.putObj mb o) ∧ Im (w.putObj mb o) mb (S.erase x) := by
  obtain ⟨es, c, h1, h2⟩ := h
  obtain ⟨j, h3, h4, h5⟩ := find_yes x S es.toList 0 h2 hx
  rw [Nat.zero_add] at h3
  have hf := find_key h3 w
  have hg := get_map h1
  have he : ∀ q, (Instr.checkKey q 10000 3 (.int .i64 x)).run Try.prog w = .ok () w := fun q => check_int q _ w
  have hs := set_run (o' := .map (es.eraseIdxIfInBounds j) c) h1
  refine ⟨.map (es.eraseIdxIfInBounds j) c, ?_, es.eraseIdxIfInBounds j, c, World.putObj_heap_same (Array.getElem?_eq_some_iff.1 h1).1, ?_⟩
  · simp only [Builtin.delete_]
    simp [Sem.run_bind, run_underlying Try.underlying123, hg, he, hf, hs, Result.andThen]
  · have hj : j < es.size := by simpa using h5
    rw [show (es.eraseIdxIfInBounds j).toList = es.toList.eraseIdx j by simp [Array.eraseIdxIfInBounds, hj]]
    exact h4

theorem len_ids {w : World} {mb : Nat} {S : List Int} (h : Im w mb S) : (Builtin.len_ #[123] 3 #[.map (some mb)]).run Try.prog w = .ok (.int .i64 (S.length : Int)) w := by
  obtain ⟨es, c, h1, h2⟩ := h
  have hl : es.size = S.length := by
    have := congrArg List.length h2
    simpa [vals] using this
  rw [← hl]
  exact run_len_map (w := w) _ _ _ es _ (by kernel_rfl) h1
end Go.Proofs.Ytpjelojmkmednaa.Ln
