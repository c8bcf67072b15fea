/- A map from the names of a configuration's fields to their places, in memory: its look-up, a new entry, an entry struck. -/
import Derived.Test.YtahfmgjchjjlmaaGreatDoorCt1
import Derived.RangeFuncNested
import Derived.RangeFuncLeaves
namespace Go.Proofs.YtahfmgjchjjlmaaGreatDoor.Fm
open Go.RowKit Go.Deep Base Cf Ct

def ptr (b i : Nat) : Value := .pointer (some ⟨b, i, none⟩)
def vals (b : Nat) (l : List Nat) : List (Value × Value) := l.map fun i => (.string (nmB i), ptr b i)
def kv (e : MapEntry) : Value × Value := (e.key, e.val)

/-- Block mb is a map that holds just the fields of l, each at its place in block b. -/
def Fm (w : World) (mb b : Nat) (l : List Nat) : Prop := ∃ es clock, w.heap[mb]? = some (.map es clock) ∧ es.toList.map kv = vals b l

theorem Fm.of_block {w w' : World} {mb b : Nat} {l : List Nat} (h : Fm w mb b l) (e : w'.heap[mb]? = w.heap[mb]?) : Fm w' mb b l := by
  obtain ⟨es, c, h1, h2⟩ := h
  exact ⟨es, c, e.trans h1, h2⟩

theorem Fm.lt {w : World} {mb b : Nat} {l : List Nat} (h : Fm w mb b l) : mb < w.heap.size := by
  obtain ⟨es, c, h1, h2⟩ := h
  exact Cv.row_lt h1

theorem bytes_no {s t : ByteArray} (h : s ≠ t) : (s == t) = false := by
  cases e : s == t
  · rfl
  · exact absurd (MapKept.bytes_beq _ _ |>.1 e) h

theorem bytes_yes (s : ByteArray) : (s == s) = true := (MapKept.bytes_beq _ _).2 rfl

theorem nm_inj {i j : Nat} (hi : i < 14) (hj : j < 14) (h : nmB i = nmB j) : i = j := by
  have hall : ((List.range 14).all fun i => (List.range 14).all fun j => !(nmB i == nmB j) || (i == j)) = true := by kernel_rfl
  rw [List.all_eq_true] at hall
  have h1 := hall i (List.mem_range.2 hi)
  rw [List.all_eq_true] at h1
  have h2 := h1 j (List.mem_range.2 hj)
  rw [h, bytes_yes] at h2
  simpa using h2

theorem find_no (s : ByteArray) (b : Nat) : ∀ (l : List Nat) (es : List MapEntry) (k : Nat), es.map kv = vals b l → (∀ y, y ∈ l → nmB y ≠ s) → Instr.findNow .string (.string s) es k = some none
  | [], [], k, _, _ => rfl
  | [], e :: es, k, h, _ => by simp [vals] at h
  | y :: l, [], k, h, _ => by simp [vals] at h
  | y :: l, e :: es, k, h, hn => by
    simp only [vals, List.map_cons, List.cons.injEq, kv, Prod.mk.injEq] at h
    have hb : (s == nmB y) = false := bytes_no fun e => hn y (by simp) e.symm
    simp only [Instr.findNow, h.1.1, Instr.sameNow, hb]
    exact find_no s b l es (k + 1) h.2 fun z hz => hn z (by simp [hz])

theorem find_yes (x b : Nat) : ∀ (l : List Nat) (es : List MapEntry) (k : Nat), es.map kv = vals b l → x ∈ l → (∀ y, y ∈ l → nmB y = nmB x → y = x) →
    ∃ j, Instr.findNow .string (.string (nmB x)) es k = some (some (k + j, ptr b x)) ∧ (es.eraseIdx j).map kv = vals b (l.erase x) ∧ j < es.length
  | [], _, _, _, hx, _ => by cases hx
  | y :: l, [], k, h, _, _ => by simp [vals] at h
  | y :: l, e :: es, k, h, hx, hu => by
    simp only [vals, List.map_cons, List.cons.injEq, kv, Prod.mk.injEq] at h
    by_cases ey : y = x
    · subst ey
      refine ⟨0, ?_, ?_, by simp⟩
      · simp [Instr.findNow, h.1.1, Instr.sameNow, h.1.2, bytes_yes]
      · simpa [vals] using h.2
    · have hb : (nmB x == nmB y) = false := bytes_no fun e => ey (hu y (by simp) e.symm)
      have hxl : x ∈ l := by
        rcases List.mem_cons.1 hx with h | h
        · exact absurd h.symm ey
        · exact h
      obtain ⟨j, h1, h2, h3⟩ := find_yes x b l es (k + 1) h.2 hxl fun z hz => hu z (by simp [hz])
      refine ⟨j + 1, ?_, ?_, by simp; omega⟩
      · simp only [Instr.findNow, h.1.1, Instr.sameNow, hb]
        rw [h1, show k + 1 + j = k + (j + 1) by omega]
      · have he : (y :: l).erase x = y :: l.erase x := by rw [List.erase_cons]; simp [ey]
        rw [he]
        simp only [List.eraseIdx_cons_succ, List.map_cons, vals, kv, h.1.1, h.1.2]
        exact congrArg _ h2

theorem check_str (b : Bool) (s : ByteArray) (w : World) : (Instr.checkKey b 10000 9 (.string s)).run Tryz.prog w = .ok () w := by
  unfold Instr.checkKey
  simp [Sem.run_bind, run_underlying Tryz.underlying9]

theorem find_key {s : ByteArray} {es : List MapEntry} {r : Option (Nat × Value)} (h : Instr.findNow .string (.string s) es 0 = some r) (w : World) : (Instr.findKey 9 (.string s) es).run Tryz.prog w = .ok r w := by
  simp [Instr.findKey, Sem.run_bind, run_underlying Tryz.underlying9, h]

theorem get_map {w : World} {mb c : Nat} {es : Array MapEntry} (h : w.heap[mb]? = some (.map es c)) : (getObj mb).run Tryz.prog w = .ok (.map es c) w := by simp [getObj, Sem.run, h]

theorem zero_ptr (w : World) : (zeroValue 42).run Tryz.prog w = .ok (.pointer none) w := Tryz.zeroValue42 w

theorem look_yes {w : World} {mb b x : Nat} {l : List Nat} (h : Fm w mb b l) (hx : x ∈ l) (hl : ∀ y, y ∈ l → y < 14) :
    (Instr.lookup 38 (.map (some mb)) (.string (nmB x)) false).run Tryz.prog w = .ok (ptr b x) w := by
  obtain ⟨es, c, h1, h2⟩ := h
  obtain ⟨j, h3, _, _⟩ := find_yes x b l es.toList 0 h2 hx fun y hy e => nm_inj (hl y hy) (hl x hx) e
  have hf := find_key h3 w
  have hg := get_map h1
  have he : ∀ q, (Instr.checkKey q 10000 9 (.string (nmB x))).run Tryz.prog w = .ok () w := fun q => check_str q _ w
  simp [Instr.lookup, Sem.run_bind, run_underlying Tryz.underlying38, hg, he, hf]

theorem look_no {w : World} {mb b : Nat} {s : ByteArray} {l : List Nat} (h : Fm w mb b l) (hn : ∀ y, y ∈ l → nmB y ≠ s) :
    (Instr.lookup 38 (.map (some mb)) (.string s) false).run Tryz.prog w = .ok (.pointer none) w := by
  obtain ⟨es, c, h1, h2⟩ := h
  have h3 := find_no s b l es.toList 0 h2 hn
  have hf := find_key h3 w
  have hg := get_map h1
  have hz := zero_ptr w
  have he : ∀ q, (Instr.checkKey q 10000 9 (.string s)).run Tryz.prog w = .ok () w := fun q => check_str q _ w
  simp [Instr.lookup, Sem.run_bind, run_underlying Tryz.underlying38, hg, he, hf, hz]

theorem put_below {w W : World} {mb n : Nat} (o : Obj) (hb : Below n w W) (hm : n ≤ mb) : Below n w (W.putObj mb o) :=
  ⟨hb.os, hb.tape, hb.output, by simpa [World.putObj] using hb.size, fun k hk => (World.putObj_heap_other (by omega)).trans (hb.block k hk)⟩

theorem set_run {w : World} {mb c : Nat} {es : Array MapEntry} {o' : Obj} (h : w.heap[mb]? = some (.map es c)) : (setObj mb o').run Tryz.prog w = .ok () (w.putObj mb o') := by simp [setObj, Sem.run, h, World.putObj]

theorem put_new {w : World} {mb b k : Nat} {l : List Nat} (h : Fm w mb b l) (hk : k < 14) (hn : k ∉ l) (hl : ∀ y, y ∈ l → y < 14) :
    ∃ o, (Instr.mapUpdate 38 (.map (some mb)) (.string (nmB k)) (ptr b k)).run Tryz.prog w = .ok () (w.putObj mb o) ∧ Fm (w.putObj mb o) mb b (l ++ [k]) := by
  obtain ⟨es, c, h1, h2⟩ := h
  have h3 := find_no (nmB k) b l es.toList 0 h2 fun y hy e => hn (by rw [← nm_inj (hl y hy) hk e]; exact hy)
  have hf := find_key h3 w
  have hg := get_map h1
  have he := check_str false (nmB k) w
  have hs := set_run (o' := .map (es.push { key := .string (nmB k), val := ptr b k, born := c }) (c + 1)) h1
  refine ⟨.map (es.push { key := .string (nmB k), val := ptr b k, born := c }) (c + 1), ?_, es.push { key := .string (nmB k), val := ptr b k, born := c }, c + 1, World.putObj_heap_same (Array.getElem?_eq_some_iff.1 h1).1, ?_⟩
  · simp only [Instr.mapUpdate, Sem.run_bind, run_underlying Tryz.underlying38, hg, he, hf, Result.andThen]
    exact hs
  · rw [Array.toList_push, List.map_append, h2]
    simp [vals, kv]

theorem del_yes {w : World} {mb b x : Nat} {l : List Nat} (h : Fm w mb b l) (hx : x ∈ l) (hl : ∀ y, y ∈ l → y < 14) :
    ∃ o, (Builtin.delete_ #[38, 9] 3 #[.map (some mb), .string (nmB x)]).run Tryz.prog w = .ok (.tuple #[]) (w.putObj mb o) ∧ Fm (w.putObj mb o) mb b (l.erase x) := by
  obtain ⟨es, c, h1, h2⟩ := h
  obtain ⟨j, h3, h4, h5⟩ := find_yes x b l es.toList 0 h2 hx fun y hy e => nm_inj (hl y hy) (hl x hx) e
  rw [Nat.zero_add] at h3
  have hf := find_key h3 w
  have hg := get_map h1
  have he : ∀ q, (Instr.checkKey q 10000 9 (.string (nmB x))).run Tryz.prog w = .ok () w := fun q => check_str q _ w
  have hs := set_run (o' := .map (es.eraseIdxIfInBounds j) c) h1
  refine ⟨.map (es.eraseIdxIfInBounds j) c, ?_, es.eraseIdxIfInBounds j, c, World.putObj_heap_same (Array.getElem?_eq_some_iff.1 h1).1, ?_⟩
  · simp only [Builtin.delete_]
    simp [Sem.run_bind, run_underlying Tryz.underlying38, hg, he, hf, hs, Result.andThen]
  · have hj : j < es.size := by simpa using h5
    rw [show (es.eraseIdxIfInBounds j).toList = es.toList.eraseIdx j by simp [Array.eraseIdxIfInBounds, hj]]
    exact h4

/-- How many of n numbers are not in l. -/
def left (l : List Nat) (n : Nat) : Nat := ((List.range n).filter fun i => !l.contains i).length

theorem left_zero {l : List Nat} {n : Nat} (h : left l n = 0) : ∀ i, i < n → i ∈ l := by
  intro i hi
  unfold left at h
  have h1 := List.length_eq_zero_iff.1 h
  rw [List.filter_eq_nil_iff] at h1
  simpa using h1 i (List.mem_range.2 hi)

theorem left_step {l : List Nat} {k : Nat} : ∀ {n : Nat}, k < n → k ∉ l → left l n = left (l ++ [k]) n + 1
  | 0, h, _ => by omega
  | n + 1, h, hn => by
    unfold left
    rw [List.range_succ, List.filter_append, List.filter_append, List.length_append, List.length_append]
    by_cases e : k = n
    · subst e
      have hsame : (List.range k).filter (fun i => !l.contains i) = (List.range k).filter fun i => !(l ++ [k]).contains i := by
        apply List.filter_congr
        intro i hi
        have := List.mem_range.1 hi
        have h2 : (i == k) = false := by simp; omega
        simp
        intro _
        omega
      rw [hsame]
      simp [hn]
    · have ih := left_step (n := n) (by omega) hn
      unfold left at ih
      rw [ih]
      have h2 : (!l.contains n) = !(l ++ [k]).contains n := by
        simp
        intro _ h
        exact e h.symm
      simp only [List.filter_cons, List.filter_nil, h2]
      omega

theorem getD_set_ne' {xs : Array Bool} {i j : Nat} (h : i ≠ j) (d : Bool) : (xs.setIfInBounds i true).getD j d = xs.getD j d := by
  simp [h]

/-- One entry's operation. -/
theorem ins_op {ops : Array Oper} {Q : Exit → Act → World → Prop} {a : Act} {i mb : Nat} {w : World} {K : Act → World → Prop} {T ty : TypeId} {m k v : Operand} {key val : Value} {ps : String} {af : Array Edge} {o : Obj}
    (ho : ops[i]? = some { dst := none, op := .insert T m k v, type := ty, pos := ps, after := af, guard := none }) (hm : a.eval m = .map (some mb)) (hk : a.eval k = key) (hv : a.eval v = val)
    (hr : (Instr.mapUpdate T (.map (some mb)) key val).run Tryz.prog w = .ok () (w.putObj mb o)) (hK : K a (w.putObj mb o)) : wpOp Tryz.prog ops Q i K a w := by
  unfold wpOp
  simp only [ho, Region.wanted, if_true]
  refine .inl ?_
  simp [Oper.wp, execOp, hm, hk, hv, hr, Oper.upon, Act.put, hK]

/-- Entries laid by operations that wait only for what has come up, in whatever order they come up; two operations more wait for all of them. -/
theorem fill {ops : Array Oper} {Q : Exit → Act → World → Prop} {a : Act} {mb b : Nat} (base : World) (hm : base.heap.size ≤ mb) (r : Nat)
    (hrd : ∀ k, k < 14 → ∃ o, ops[4 * k + 4]? = some o ∧ ∀ e ∈ o.after, e.on < 59 ∧ (e.on = 0 ∨ e.on % 4 ≠ 0) ∧ e.on < 57)
    (hlate : ∃ o o', ops[57]? = some o ∧ ops[58]? = some o' ∧ (∀ k, k < 14 → ∃ e ∈ o.after, e.on = 4 * k + 4 ∧ Region.binds .any e = true) ∧ ∃ e ∈ o'.after, e.on = 57 ∧ Region.binds .any e = true)
    (hst : ∀ k, k < 14 → ∀ w, ∀ K : Act → World → Prop, ∀ o, (Instr.mapUpdate 38 (.map (some mb)) (.string (nmB k)) (ptr b k)).run Tryz.prog w = .ok () (w.putObj mb o) → K a (w.putObj mb o) → wpOp Tryz.prog ops Q (4 * k + 4) K a w)
    (hQ : ∀ w' l' listed', listed'.size = 59 → (∀ i, i < 57 → listed'.getD i true = true) → listed'.getD 57 true = false → listed'.getD 58 true = false → (∀ k, k < 14 → k ∈ l') → (∀ y, y ∈ l' → y < 14) → l'.Nodup → Fm w' mb b l' → Below base.heap.size base w' →
      wpAnyH Tryz.prog .any ops Q (fun _ => True) r listed' a w') :
    ∀ (fuel : Nat) (listed : Array Bool) (l : List Nat) (w : World), listed.size = 59 → (∀ i, listed.getD i true = false ↔ (∃ k, k < 14 ∧ i = 4 * k + 4 ∧ k ∉ l) ∨ i = 57 ∨ i = 58) →
      left l 14 = fuel → (∀ y, y ∈ l → y < 14) → l.Nodup → Fm w mb b l → Below base.heap.size base w →
      wpAnyH Tryz.prog .any ops Q (fun _ => True) (r + fuel) listed a w := by
  intro fuel
  induction fuel with
  | zero =>
    intro listed l w hsz hls hfu hl hnd hF hB
    have hall := left_zero hfu
    refine hQ w l listed hsz (fun i hi => ?_) ((hls 57).2 (.inr (.inl rfl))) ((hls 58).2 (.inr (.inr rfl))) hall hl hnd hF hB
    cases h : listed.getD i true
    · rcases (hls i).1 h with ⟨k, hk, _, hn⟩ | h | h
      · exact absurd (hall k hk) hn
      · omega
      · omega
    · rfl
  | succ fuel ih =>
    intro listed l w hsz hls hfu hl hnd hF hB
    have hex : ∃ k, k < 14 ∧ k ∉ l := by
      by_cases h : ∃ k, k < 14 ∧ k ∉ l
      · exact h
      · exfalso
        have : left l 14 = 0 := by
          unfold left
          rw [List.length_eq_zero_iff, List.filter_eq_nil_iff]
          intro i hi
          have hi' := List.mem_range.1 hi
          simp
          exact Classical.byContradiction fun hn => h ⟨i, hi', hn⟩
        omega
    have hget : ∀ i, i < 59 → listed.getD i true = listed.getD i false := fun i hi => by simp [hsz, hi]
    refine ⟨fun h0 => ?_, fun i hi => ?_⟩
    · exfalso
      obtain ⟨k, hk, hn⟩ := hex
      have hm : 4 * k + 4 ∈ Region.ready .any ops listed := by
        obtain ⟨o, ho, hoe⟩ := hrd k hk
        refine mem_ready.2 ⟨(hls _).2 (.inl ⟨k, hk, rfl, hn⟩), o, ho, fun e he _ => ?_⟩
        obtain ⟨h1, h2, h3⟩ := hoe e he
        rw [← hget e.on h1]
        cases h : listed.getD e.on true
        · rcases (hls _).1 h with ⟨k', hk', e', _⟩ | h | h
          · rcases h2 with h | h
            · omega
            · exfalso; apply h; omega
          · omega
          · omega
        · rfl
      rw [h0] at hm
      cases hm
    · obtain ⟨h1, o, ho, hoe⟩ := mem_ready.1 hi
      obtain ⟨o57, o58, ho57, ho58, hl57, e58, he58, hon58, hb58⟩ := hlate
      rcases (hls i).1 h1 with ⟨k, hk, rfl, hn⟩ | rfl | rfl
      · obtain ⟨ob, ho, hF'⟩ := put_new hF hk hn hl
        refine hst k hk w _ ob ho ⟨trivial, ih (listed.setIfInBounds (4 * k + 4) true) (l ++ [k]) _ (by simpa using hsz) ?_ ?_ ?_ ?_ hF' (put_below ob hB hm)⟩
        · intro i
          by_cases e : 4 * k + 4 = i
          · subst e
            have : (listed.setIfInBounds (4 * k + 4) true).getD (4 * k + 4) true = true := by
              simp [hsz, show 4 * k + 4 < 59 by omega]
            rw [this]
            constructor
            · intro h; cases h
            · rintro (⟨k', hk', e', hn'⟩ | h | h)
              · have : k' = k := by omega
                subst this
                simp at hn'
              · omega
              · omega
          · rw [getD_set_ne' e, hls i]
            constructor
            · rintro (⟨k', hk', e', hn'⟩ | h)
              · exact .inl ⟨k', hk', e', by simp; exact ⟨hn', by omega⟩⟩
              · exact .inr h
            · rintro (⟨k', hk', e', hn'⟩ | h)
              · simp at hn'
                exact .inl ⟨k', hk', e', hn'.1⟩
              · exact .inr h
        · have := left_step hk hn
          omega
        · intro y hy
          rcases List.mem_append.1 hy with h | h
          · exact hl y h
          · simp at h; omega
        · rw [List.nodup_append]
          exact ⟨hnd, by simp, fun x hx y hy => by simp at hy; rintro rfl; subst hy; exact hn hx⟩
      · exfalso
        obtain ⟨k, hk, hn⟩ := hex
        rw [ho57] at ho
        cases ho
        obtain ⟨e, he, hon, hb⟩ := hl57 k hk
        have h2 := hoe e he hb
        rw [hon, ← hget _ (by omega), (hls _).2 (.inl ⟨k, hk, rfl, hn⟩)] at h2
        cases h2
      · exfalso
        rw [ho58] at ho
        cases ho
        have h2 := hoe e58 he58 hb58
        rw [hon58, ← hget _ (by omega), (hls _).2 (.inr (.inl rfl))] at h2
        cases h2

theorem listed_iff {listed : Array Bool} (h : ((List.range 59).all fun i => (listed.getD i true == !((i % 4 == 0 && i != 0) || i == 57 || i == 58))) = true) (hs : listed.size = 59) : ∀ i, listed.getD i true = false ↔ (∃ k, k < 14 ∧ i = 4 * k + 4 ∧ k ∉ ([] : List Nat)) ∨ i = 57 ∨ i = 58 := by
  intro i
  rcases Nat.lt_or_ge i 59 with hi | hi
  · have h1 := List.all_eq_true.1 h i (List.mem_range.2 hi)
    rw [beq_iff_eq.1 h1]
    constructor
    · intro h2
      simp at h2
      have h3 : (i % 4 = 0 ∧ i ≠ 0) ∨ i = 57 ∨ i = 58 := by omega
      rcases h3 with h2 | h2 | h2
      · exact .inl ⟨i / 4 - 1, by omega, by omega, by simp⟩
      · exact .inr (.inl h2)
      · exact .inr (.inr h2)
    · rintro (⟨k, hk, rfl, -⟩ | rfl | rfl)
      · simp
      · rfl
      · rfl
  · constructor
    · intro h2
      simp [hs, Nat.not_lt.2 hi] at h2
    · rintro (⟨k, hk, rfl, -⟩ | rfl | rfl) <;> omega

theorem listed_last {listed : Array Bool} (hs : listed.size = 59) (h : ∀ i, i < 57 → listed.getD i true = true) (h7 : listed.getD 57 true = false) (h8 : listed.getD 58 true = false) : listed = Array.replicate 57 true ++ #[false, false] := by
  apply Array.ext
  · simp [hs]
  · intro i hi _
    have e : listed[i] = listed.getD i true := by simp [hi]
    rw [e]
    rcases Nat.lt_or_ge i 57 with h1 | h1
    · rw [h i h1, Array.getElem_append_left (by simpa using h1)]
      simp
    · have : i = 57 ∨ i = 58 := by omega
      rcases this with rfl | rfl
      · rw [h7]; rfl
      · rw [h8]; rfl
end Go.Proofs.YtahfmgjchjjlmaaGreatDoor.Fm
