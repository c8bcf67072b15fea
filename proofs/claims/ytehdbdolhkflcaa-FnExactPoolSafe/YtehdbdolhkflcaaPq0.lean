/- What PoolSafe answers, as the program and as the reference puts it together: the same. Plain mathematics, and a number that is put into a map again. -/
import Derived.Test.YtehdbdolhkflcaaPm0
namespace Go.Proofs.Ytehdbdolhkflcaa.Po
open Go.RowKit Base Tick

def cnt (cs : List Cn) (s : Int) : Nat := (cs.filter fun k => k.1 1 == s).length
def wants (p : Pl) : Int := min (max ((cnt p.cs 3 : Int) + (Ln.llA p.x).length) (p.c 0)) (p.c 1)
theorem cnt_take_succ (cs : List Cn) (s : Int) (i : Nat) (h : i < cs.length) : cnt (cs.take (i + 1)) s = cnt (cs.take i) s + (if (cs.getD i zCn).1 1 = s then 1 else 0) := by
  have e : cs.getD i zCn = cs[i] := by simp [List.getD_eq_getElem?_getD, h]
  rw [e, List.take_succ_eq_append_getElem h]
  unfold cnt
  rw [List.filter_append, List.length_append]
  by_cases hs : cs[i].1 1 = s
  · rw [if_pos hs]; simp [hs]
  · rw [if_neg hs]; simp [hs]
theorem cnt_le (cs : List Cn) (s : Int) : cnt cs s ≤ cs.length := List.length_filter_le _ _

/-- One connection is in order: valid, not closed, its number above the one before and below the next. -/
def conB (nc bf : Int) (k : Cn) : Bool := Kn.okN k.1 k.2 && !(k.1 1 == 4) && decide (bf < k.1 0) && decide (k.1 0 < nc)
def csB (nc : Int) : Int → List Cn → Bool
  | _, [] => true
  | bf, k :: ks => conB nc bf k && csB nc (k.1 0) ks
/-- The tickets of those that are held. -/
def hold (cs : List Cn) : List Int := (cs.filter fun k => k.1 1 == 3).map fun k => k.1 4
/-- The numbers as a set: each once, in the order of their first coming. -/
def put1 (S : List Int) (t : Int) : List Int := if t ∈ S then S else S ++ [t]
def setOf (ts : List Int) : List Int := ts.foldl put1 []
def waitB (nt : Int) (S ts : List Int) : Bool := ts.all fun t => decide (t < nt) && !decide (t ∈ S)
def tkB (p : Pl) : Bool := waitB p.nt (setOf (hold p.cs)) (Ln.llA p.x) && ((setOf (hold p.cs)).length == cnt p.cs 3)
def connsB (p : Pl) : Bool := decide (p.cs.length ≤ 12) && csB p.nc 0 p.cs
def safeB (p : Pl) : Bool := connsB p && tkB p && Ln.okL p.x && Bk.okB p.b && Cf.okC p.c

theorem put1_mem (S : List Int) (t u : Int) : u ∈ put1 S t ↔ u ∈ S ∨ u = t := by
  unfold put1
  split
  · next h => exact ⟨.inl, fun h' => h'.elim id (fun e => e ▸ h)⟩
  · simp
theorem fold_mem : ∀ (ts S : List Int) (u : Int), u ∈ ts.foldl put1 S ↔ u ∈ S ∨ u ∈ ts
  | [], S, u => by simp
  | t :: ts, S, u => by
    rw [List.foldl_cons, fold_mem ts, put1_mem, List.mem_cons, or_assoc]
theorem set_mem (ts : List Int) (u : Int) : u ∈ setOf ts ↔ u ∈ ts := by unfold setOf; rw [fold_mem]; simp
theorem fold_len : ∀ (ts S : List Int), S.Nodup → (ts.foldl put1 S).length ≤ S.length + ts.length ∧ ((ts.foldl put1 S).length = S.length + ts.length ↔ (ts.Nodup ∧ ∀ t ∈ ts, t ∉ S))
  | [], S, _ => by simp
  | t :: ts, S, hS => by
    rw [List.foldl_cons]
    by_cases h : t ∈ S
    · have e : put1 S t = S := if_pos h
      rw [e]
      have h1 := (fold_len ts S hS).1
      refine ⟨by simp only [List.length_cons]; omega, ⟨fun h' => by simp only [List.length_cons] at h'; omega, fun h' => absurd h (h'.2 t (by simp))⟩⟩
    · have e : put1 S t = S ++ [t] := if_neg h
      rw [e]
      have hS' : (S ++ [t]).Nodup := by
        rw [List.nodup_append]
        refine ⟨hS, by simp, fun a ha b hb => ?_⟩
        rw [List.mem_singleton] at hb
        rintro rfl
        exact h (hb ▸ ha)
      have h1 := fold_len ts (S ++ [t]) hS'
      rw [List.length_append, List.length_singleton] at h1
      refine ⟨by simp only [List.length_cons]; omega, ?_⟩
      rw [List.length_cons, show S.length + (ts.length + 1) = S.length + 1 + ts.length from by omega, h1.2, List.nodup_cons]
      constructor
      · rintro ⟨h2, h3⟩
        refine ⟨⟨fun h4 => h3 t h4 (by simp), h2⟩, fun u hu => ?_⟩
        rcases List.mem_cons.1 hu with rfl | hu
        · exact h
        · exact fun h4 => h3 u hu (by simp [h4])
      · rintro ⟨⟨h2, h3⟩, h4⟩
        refine ⟨h3, fun u hu hm => ?_⟩
        rw [List.mem_append, List.mem_singleton] at hm
        rcases hm with hm | rfl
        · exact h4 u (by simp [hu]) hm
        · exact h2 hu
theorem set_len (ts : List Int) : (setOf ts).length = ts.length ↔ ts.Nodup := by
  have h := (fold_len ts [] List.nodup_nil).2
  simp only [List.length_nil, Nat.zero_add] at h
  unfold setOf
  rw [h]
  simp
theorem hold_len (cs : List Cn) : (hold cs).length = cnt cs 3 := by unfold hold cnt; rw [List.length_map]
theorem hold_take_succ (cs : List Cn) (i : Nat) (h : i < cs.length) : hold (cs.take (i + 1)) = hold (cs.take i) ++ (if (cs.getD i zCn).1 1 = 3 then [(cs.getD i zCn).1 4] else []) := by
  have e : cs.getD i zCn = cs[i] := by simp [List.getD_eq_getElem?_getD, h]
  rw [e, List.take_succ_eq_append_getElem h]
  unfold hold
  rw [List.filter_append, List.map_append]
  by_cases hs : cs[i].1 1 = 3
  · rw [if_pos hs]; simp [hs]
  · rw [if_neg hs]; simp [hs]
theorem tkB_iff (p : Pl) : tkB p = true ↔ (hold p.cs).Nodup ∧ ∀ t ∈ Ln.llA p.x, t < p.nt ∧ t ∉ hold p.cs := by
  unfold tkB waitB
  rw [Bool.and_eq_true, beq_iff_eq, ← hold_len, set_len, List.all_eq_true]
  simp only [Bool.and_eq_true, decide_eq_true_eq, Bool.not_eq_true', decide_eq_false_iff_not, set_mem]
  exact ⟨fun h => ⟨h.2, h.1⟩, fun h => ⟨h.2, h.1⟩⟩

/-- The reference goes through the connections once: what it asks of the one at a place. -/
def refB (nc : Int) (ws : List Int) (cs : List Cn) (i : Nat) : Bool :=
  let k := cs.getD i zCn
  Kn.okN k.1 k.2 && !(k.1 1 == 4) && decide (k.1 0 < nc) && (i == 0 || decide ((cs.getD (i - 1) zCn).1 0 < k.1 0)) &&
    (!(k.1 1 == 3) || (!decide (k.1 4 ∈ ws) && (List.range i).all fun j => !((cs.getD j zCn).1 4 == k.1 4)))
def refS (p : Pl) : Bool := Cf.okC p.c && Ln.okL p.x && Bk.okB p.b && decide (p.cs.length ≤ 12) && ((List.range p.cs.length).all fun i => refB p.nc (Ln.llA p.x) p.cs i) && (Ln.llA p.x).all fun t => decide (t < p.nt)

theorem csB_iff (nc : Int) : ∀ (cs : List Cn) (bf : Int), csB nc bf cs = true ↔ ∀ i, i < cs.length → conB nc (if i = 0 then bf else (cs.getD (i - 1) zCn).1 0) (cs.getD i zCn) = true
  | [], bf => by simp [csB]
  | k :: ks, bf => by
    unfold csB
    rw [Bool.and_eq_true, csB_iff nc ks (k.1 0)]
    constructor
    · rintro ⟨h0, h⟩ i hi
      match i with
      | 0 => exact h0
      | i + 1 =>
        have := h i (by simpa using hi)
        simp only [List.getD_cons_succ, Nat.add_sub_cancel, Nat.add_eq_zero_iff, Nat.succ_ne_self, and_false, if_false]
        match i, this with
        | 0, this => exact this
        | j + 1, this => exact this
    · intro h
      refine ⟨h 0 (by simp), fun i hi => ?_⟩
      have := h (i + 1) (by simpa using hi)
      simp only [List.getD_cons_succ, Nat.add_sub_cancel, Nat.add_eq_zero_iff, Nat.succ_ne_self, and_false, if_false] at this
      match i, this with
      | 0, this => exact this
      | j + 1, this => exact this

theorem nodup_hold (cs : List Cn) (h : ∀ i, i < cs.length → (cs.getD i zCn).1 1 = 3 → ∀ j, j < i → (cs.getD j zCn).1 1 = 3 → (cs.getD j zCn).1 4 ≠ (cs.getD i zCn).1 4) : (hold cs).Nodup := by
  unfold hold
  rw [List.Nodup, List.pairwise_map, List.pairwise_filter, List.pairwise_iff_getElem]
  intro i j hi hj hij h1 h2
  have := h j hj (by simpa [List.getD_eq_getElem?_getD, hj] using h2) i hij (by simpa [List.getD_eq_getElem?_getD, hi] using h1)
  simpa [List.getD_eq_getElem?_getD, hi, hj] using this
theorem hold_nodup (cs : List Cn) (h : (hold cs).Nodup) (i j : Nat) (hi : i < cs.length) (hij : j < i) (h3 : (cs.getD i zCn).1 1 = 3) (h4 : (cs.getD j zCn).1 1 = 3) : (cs.getD j zCn).1 4 ≠ (cs.getD i zCn).1 4 := by
  unfold hold at h
  rw [List.Nodup, List.pairwise_map, List.pairwise_filter, List.pairwise_iff_getElem] at h
  have hj : j < cs.length := by omega
  have := h j i hj hi hij (by simpa [List.getD_eq_getElem?_getD, hj] using h4) (by simpa [List.getD_eq_getElem?_getD, hi] using h3)
  simpa [List.getD_eq_getElem?_getD, hi, hj] using this
theorem mem_hold (cs : List Cn) (t : Int) : t ∈ hold cs ↔ ∃ i, i < cs.length ∧ (cs.getD i zCn).1 1 = 3 ∧ (cs.getD i zCn).1 4 = t := by
  unfold hold
  rw [List.mem_map]
  constructor
  · rintro ⟨k, hk, e⟩
    rw [List.mem_filter] at hk
    obtain ⟨i, hi, e'⟩ := List.getElem_of_mem hk.1
    refine ⟨i, hi, ?_, ?_⟩ <;> rw [List.getD_eq_getElem?_getD, List.getElem?_eq_getElem hi, Option.getD_some, e']
    · simpa using hk.2
    · exact e
  · rintro ⟨i, hi, h3, e⟩
    rw [List.getD_eq_getElem?_getD, List.getElem?_eq_getElem hi, Option.getD_some] at h3 e
    exact ⟨cs[i], List.mem_filter.2 ⟨List.getElem_mem hi, by simpa using h3⟩, e⟩
/-- A valid connection has a holder just when it is held. -/
theorem ok_tick {k : Nat → Int} {t : Bool} (h : Kn.okN k t = true) : (k 1 = 3 → 1 ≤ k 4) ∧ (k 1 ≠ 3 → k 4 = 0) ∧ 1 ≤ k 0 := by
  unfold Kn.okN at h
  simp only [Bool.and_eq_true, beq_iff_eq] at h
  obtain ⟨⟨⟨⟨⟨h0, _⟩, _⟩, _⟩, _⟩, h⟩ := h
  refine ⟨fun e => ?_, fun e => ?_, (Tick.inB_iff.1 h0).1⟩
  · rw [if_pos e] at h
    exact (Tick.inB_iff.1 h).1
  · rw [if_neg e] at h
    simp at h
    exact h.1
theorem ref_safe (p : Pl) : refS p = safeB p := by
  rw [Bool.eq_iff_iff]
  unfold refS safeB connsB
  simp only [Bool.and_eq_true, decide_eq_true_eq]
  rw [tkB_iff, csB_iff]
  simp only [List.all_eq_true, List.mem_range, decide_eq_true_eq]
  constructor
  · rintro ⟨⟨⟨⟨⟨hc, hl⟩, hb⟩, hf⟩, hr⟩, hw⟩
    have hr' : ∀ i, i < p.cs.length → Kn.okN (p.cs.getD i zCn).1 (p.cs.getD i zCn).2 = true ∧ (p.cs.getD i zCn).1 1 ≠ 4 ∧ (p.cs.getD i zCn).1 0 < p.nc ∧ (i = 0 ∨ (p.cs.getD (i - 1) zCn).1 0 < (p.cs.getD i zCn).1 0) ∧ ((p.cs.getD i zCn).1 1 ≠ 3 ∨ ((p.cs.getD i zCn).1 4 ∉ Ln.llA p.x ∧ ∀ j, j < i → (p.cs.getD j zCn).1 4 ≠ (p.cs.getD i zCn).1 4)) := fun i hi => by
      have := hr i hi
      unfold refB at this
      simpa [and_assoc] using this
    refine ⟨⟨⟨⟨⟨hf, fun i hi => ?_⟩, nodup_hold _ fun i hi h3 j hj h4 => ?_, fun t ht => ⟨hw t ht, fun hm => ?_⟩⟩, hl⟩, hb⟩, hc⟩
    · obtain ⟨h1, h2, h3, h4, h5⟩ := hr' i hi
      unfold conB
      simp only [Bool.and_eq_true, decide_eq_true_eq, Bool.not_eq_true', beq_eq_false_iff_ne]
      refine ⟨⟨⟨h1, h2⟩, ?_⟩, h3⟩
      by_cases hz : i = 0
      · rw [if_pos hz]
        have := (ok_tick h1).2.2
        omega
      · rw [if_neg hz]
        exact h4.resolve_left hz
    · exact ((hr' i hi).2.2.2.2.resolve_left (by simpa using h3)).2 j hj
    · obtain ⟨i, hi, h3, rfl⟩ := (mem_hold _ _).1 hm
      exact ((hr' i hi).2.2.2.2.resolve_left (by simpa using h3)).1 ht
  · rintro ⟨⟨⟨⟨⟨hf, hr⟩, hn, hw⟩, hl⟩, hb⟩, hc⟩
    have hr' : ∀ i, i < p.cs.length → Kn.okN (p.cs.getD i zCn).1 (p.cs.getD i zCn).2 = true ∧ (p.cs.getD i zCn).1 1 ≠ 4 ∧ (if i = 0 then 0 else (p.cs.getD (i - 1) zCn).1 0) < (p.cs.getD i zCn).1 0 ∧ (p.cs.getD i zCn).1 0 < p.nc := fun i hi => by
      have := hr i hi
      unfold conB at this
      simpa [and_assoc] using this
    refine ⟨⟨⟨⟨⟨hc, hl⟩, hb⟩, hf⟩, fun i hi => ?_⟩, fun t ht => (hw t ht).1⟩
    obtain ⟨h1, h2, h3, h4⟩ := hr' i hi
    unfold refB
    simp only [Bool.and_eq_true, decide_eq_true_eq, Bool.not_eq_true', beq_eq_false_iff_ne, Bool.or_eq_true, beq_iff_eq, List.all_eq_true, List.mem_range, decide_eq_false_iff_not]
    refine ⟨⟨⟨⟨h1, h2⟩, h4⟩, ?_⟩, ?_⟩
    · by_cases hz : i = 0
      · exact .inl hz
      · rw [if_neg hz] at h3
        exact .inr h3
    · by_cases hs : (p.cs.getD i zCn).1 1 = 3
      · refine .inr ⟨fun hm => (hw _ hm).2 ((mem_hold _ _).2 ⟨i, hi, hs, rfl⟩), fun j hj => ?_⟩
        by_cases hs' : (p.cs.getD j zCn).1 1 = 3
        · exact hold_nodup _ hn i j hi hj hs hs'
        · have e1 := (ok_tick (hr' j (by omega)).1).2.1 hs'
          have e2 := (ok_tick h1).1 hs
          omega
      · exact .inl hs

theorem find_at (x : Int) : ∀ (S : List Int) (es : List MapEntry) (k : Nat), es.map Ln.kv = Ln.vals S → x ∈ S →
    ∃ j, Instr.findNow (.int .i64) (.int .i64 x) es k = some (some (k + j, .bool true)) ∧ ∃ e, es[j]? = some e ∧ e.key = .int .i64 x ∧ e.val = .bool true
  | [], [], k, _, hx => by cases hx
  | [], _ :: _, k, _, hx => by cases hx
  | y :: l, [], k, h, _ => by simp [Ln.vals] at h
  | y :: l, e :: es, k, h, hx => by
    simp only [Ln.vals, List.map_cons, List.cons.injEq, Ln.kv, Prod.mk.injEq] at h
    by_cases ey : y = x
    · subst ey
      exact ⟨0, by simp [Instr.findNow, h.1.1, Instr.sameNow, h.1.2], e, rfl, h.1.1, h.1.2⟩
    · have hb : (x == y) = false := beq_eq_false_iff_ne.2 fun e => ey e.symm
      have hxl : x ∈ l := (List.mem_cons.1 hx).resolve_left fun e => ey e.symm
      obtain ⟨j, h1, h2⟩ := find_at x l es (k + 1) h.2 hxl
      refine ⟨j + 1, ?_, h2⟩
      simp only [Instr.findNow, h.1.1, Instr.sameNow, hb]
      rw [show k + (j + 1) = k + 1 + j from by omega]
      simpa using h1

theorem map_modify_same {α β : Type} (f : α → β) (g : α → α) : ∀ (l : List α) (j : Nat), (∀ e, l[j]? = some e → f (g e) = f e) → (l.modify j g).map f = l.map f
  | [], j, _ => by simp
  | e :: l, 0, h => by simp [h e rfl]
  | e :: l, j + 1, h => by simp [map_modify_same f g l j fun e he => h e (by simpa using he)]

/-- A number that is in the map already is put into it again. -/
theorem put_again {w : World} {mb : Nat} {S : List Int} {x : Int} (h : Ln.Im w mb S) (hx : x ∈ S) :
    ∃ o, (Instr.mapUpdate 118 (.map (some mb)) (.int .i64 x) (.bool true)).run Try.prog w = .ok () (w.putObj mb o) ∧ Ln.Im (w.putObj mb o) mb S := by
  obtain ⟨es, c, h1, h2⟩ := h
  obtain ⟨j, h3, e, h4, h5, h6⟩ := find_at x S es.toList 0 h2 hx
  rw [Nat.zero_add] at h3
  have hf := Ln.find_key h3 w
  have hg := Ln.get_map h1
  have he := Ln.check_int false x w
  have h4' : es[j]? = some e := by simpa using h4
  have hk : ((es[j]?).map (·.key)).getD (.int .i64 x) = .int .i64 x := by rw [h4']; exact h5
  have hb : Instr.sameBits 10000 (.int .i64 x) (.int .i64 x) = true := by simp [Instr.sameBits]
  have hs := Ln.set_run (o' := .map (es.modify j fun e => { e with key := .int .i64 x, val := .bool true }) c) h1
  refine ⟨.map (es.modify j fun e => { e with key := .int .i64 x, val := .bool true }) c, ?_, es.modify j fun e => { e with key := .int .i64 x, val := .bool true }, c, World.putObj_heap_same (Array.getElem?_eq_some_iff.1 h1).1, ?_⟩
  · simp only [Instr.mapUpdate, Sem.run_bind, run_underlying Try.underlying118, hg, he, hf, Result.andThen, hk, Instr.keyThatStays, hb, if_true]
    exact hs
  · rw [Array.toList_modify, map_modify_same _ _ _ _ fun e' he' => ?_, h2]
    rw [h4] at he'
    cases he'
    simp [Ln.kv, h5, h6]
end Go.Proofs.Ytehdbdolhkflcaa.Po
