/- Maps from numbers to true that a call makes; what duesOk answers. What duesOk answers. -/
import Derived.Test.YtpjelojmkmednaaLh2
import Derived.RangeFuncNested
import Derived.RangeFuncLeaves
namespace Go.Proofs.Ytpjelojmkmednaa.Hp
open Go.RowKit Go.Deep Base

def entry (x : Int) (i : Nat) : MapEntry := { key := .int .i64 x, val := .bool true, born := i }
def entries : List Int → Nat → List MapEntry
  | [], _ => []
  | x :: r, i => entry x i :: entries r (i + 1)
def mapObj (ids : List Int) : Obj := .map (entries ids 0).toArray ids.length

theorem entries_len : ∀ (ids : List Int) (i : Nat), (entries ids i).length = ids.length
  | [], _ => rfl
  | _ :: r, i => by simp [entries, entries_len r (i + 1)]
theorem entries_snoc : ∀ (ids : List Int) (x : Int) (i : Nat), entries (ids ++ [x]) i = entries ids i ++ [entry x (i + ids.length)]
  | [], x, i => by simp [entries]
  | y :: r, x, i => by
    simp [entries, entries_snoc r x (i + 1)]
    rw [show i + 1 + r.length = i + (r.length + 1) from by omega]

theorem find_now (x : Int) : ∀ (ids : List Int) (i k : Nat), ∃ r, Instr.findNow (.int .i64) (.int .i64 x) (entries ids i) k = some r ∧ (r.map (·.2)) = if ids.contains x then some (.bool true) else none
  | [], i, k => ⟨none, rfl, rfl⟩
  | y :: r, i, k => by
    by_cases e : x = y
    · subst e
      refine ⟨some (k, .bool true), ?_, ?_⟩
      · simp [entries, entry, Instr.findNow, Instr.sameNow]
      · simp
    · obtain ⟨q, h1, h2⟩ := find_now x r (i + 1) (k + 1)
      refine ⟨q, ?_, ?_⟩
      · have hb : (x == y) = false := beq_eq_false_iff_ne.2 e
        simp [entries, entry, Instr.findNow, Instr.sameNow, hb, h1]
      · rw [h2]; simp [e]

theorem check_int (b : Bool) (x : Int) (w : World) : (Instr.checkKey b 10000 3 (.int .i64 x)).run Try.prog w = .ok () w := by
  unfold Instr.checkKey
  simp [Sem.run_bind, run_underlying Try.underlying3]

theorem find_key (x : Int) (ids : List Int) (w : World) : ∃ r, (Instr.findKey 3 (.int .i64 x) (entries ids 0)).run Try.prog w = .ok r w ∧ (r.map (·.2)) = if ids.contains x then some (.bool true) else none := by
  obtain ⟨r, h1, h2⟩ := find_now x ids 0 0
  exact ⟨r, by simp [Instr.findKey, Sem.run_bind, run_underlying Try.underlying3, h1], h2⟩

theorem get_map {w : World} {mb : Nat} {ids : List Int} (h : w.heap[mb]? = some (mapObj ids)) : (getObj mb).run Try.prog w = .ok (mapObj ids) w := by simp [getObj, Sem.run, h, mapObj]

theorem look_ids {w : World} {mb : Nat} {ids : List Int} (h : w.heap[mb]? = some (mapObj ids)) (x : Int) : (Instr.lookup 123 (.map (some mb)) (.int .i64 x) false).run Try.prog w = .ok (.bool (ids.contains x)) w := by
  obtain ⟨r, h1, h2⟩ := find_key x ids w
  have hz : (zeroValue 4).run Try.prog w = .ok (.bool false) w := Try.zeroValue4 w
  have hg := get_map h
  have he : ∀ b, (Instr.checkKey b 10000 3 (.int .i64 x)).run Try.prog w = .ok () w := fun b => check_int b x w
  cases hc : ids.contains x
  · rw [hc] at h2
    have : r = none := by simpa using h2
    subst this
    simp [Instr.lookup, Sem.run_bind, run_underlying Try.underlying123, hg, mapObj, he, h1, hz]
  · rw [hc] at h2
    obtain ⟨q, rfl, hq⟩ : ∃ q, r = some q ∧ q.2 = .bool true := by simpa using h2
    obtain ⟨q1, q2⟩ := q
    simp at hq
    subst hq
    simp [Instr.lookup, Sem.run_bind, run_underlying Try.underlying123, hg, mapObj, he, h1]

theorem put_ids {w : World} {mb : Nat} {ids : List Int} (h : w.heap[mb]? = some (mapObj ids)) {x : Int} (hx : ids.contains x = false) :
    (Instr.mapUpdate 123 (.map (some mb)) (.int .i64 x) (.bool true)).run Try.prog w = .ok () (w.putObj mb (mapObj (ids ++ [x]))) := by
  obtain ⟨r, h1, h2⟩ := find_key x ids w
  rw [hx] at h2
  have : r = none := by simpa using h2
  subst this
  have hg := get_map h
  have hs : (setObj mb (mapObj (ids ++ [x]))).run Try.prog w = .ok () (w.putObj mb (mapObj (ids ++ [x]))) := by simp [setObj, Sem.run, h, World.putObj, mapObj]
  have e2 : mapObj (ids ++ [x]) = Obj.map (entries ids 0 ++ [({ key := .int .i64 x, val := .bool true, born := ids.length } : MapEntry)]).toArray (ids.length + 1) := by simp [mapObj, entries_snoc, entry]
  have he := check_int false x w
  unfold mapObj at hg
  simp [Instr.mapUpdate, Sem.run_bind, run_underlying Try.underlying123, hg, he, h1]
  rw [e2] at hs ⊢
  exact hs

theorem find_old (x : Int) : ∀ (ids : List Int) (i k : Nat), ids.contains x = true → ∃ j, Instr.findNow (.int .i64) (.int .i64 x) (entries ids i) k = some (some (k + j, .bool true)) ∧ (entries ids i)[j]? = some (entry x (i + j))
  | [], _, _, h => by simp at h
  | y :: r, i, k, h => by
    by_cases e : x = y
    · subst e
      exact ⟨0, by simp [entries, entry, Instr.findNow, Instr.sameNow], by simp [entries]⟩
    · have hr : r.contains x = true := by simpa [e] using h
      obtain ⟨j, h1, h2⟩ := find_old x r (i + 1) (k + 1) hr
      have hb : (x == y) = false := beq_eq_false_iff_ne.2 e
      refine ⟨j + 1, ?_, ?_⟩
      · rw [show k + (j + 1) = k + 1 + j from by omega, ← h1]
        simp [entries, entry, Instr.findNow, Instr.sameNow, hb]
      · rw [show i + (j + 1) = i + 1 + j from by omega, ← h2]
        simp [entries]

theorem put_old {w : World} {mb : Nat} {ids : List Int} (h : w.heap[mb]? = some (mapObj ids)) {x : Int} (hx : ids.contains x = true) :
    (Instr.mapUpdate 123 (.map (some mb)) (.int .i64 x) (.bool true)).run Try.prog w = .ok () (w.putObj mb (mapObj ids)) := by
  obtain ⟨j, h1, h2⟩ := find_old x ids 0 0 hx
  rw [Nat.zero_add] at h1 h2
  have hf : (Instr.findKey 3 (.int .i64 x) (entries ids 0)).run Try.prog w = .ok (some (j, .bool true)) w := by simp [Instr.findKey, Sem.run_bind, run_underlying Try.underlying3, h1]
  have hg := get_map h
  have hs : (setObj mb (mapObj ids)).run Try.prog w = .ok () (w.putObj mb (mapObj ids)) := by simp [setObj, Sem.run, h, World.putObj, mapObj]
  have he := check_int false x w
  have hmod : ((entries ids 0).modify j fun e => { key := .int .i64 x, val := .bool true, born := e.born }) = entries ids 0 := by
    apply List.ext_getElem?
    intro i
    rw [List.getElem?_modify]
    by_cases e : j = i
    · subst e
      rw [h2]
      simp [entry]
    · simp [e]
  have hsb : Instr.sameBits 10000 (.int .i64 x) (.int .i64 x) = true := by simp [Instr.sameBits]
  unfold mapObj at hg
  simp [Instr.mapUpdate, Sem.run_bind, run_underlying Try.underlying123, hg, he, hf, h2, entry, Instr.keyThatStays]
  rw [if_pos hsb, hmod]
  exact hs

/-- The keys that a map holds when the first k numbers have been put in. -/
structure Keys (key : Nat → Int) (k : Nat) (S : List Int) : Prop where
  mem : ∀ x, S.contains x = true ↔ ∃ i, i < k ∧ key i = x
  few : S.length ≤ k
  full : S.length = k ↔ ∀ i j, j < i → i < k → key j ≠ key i
theorem Keys.zero (key : Nat → Int) : Keys key 0 [] := ⟨fun x => by simp, by simp, by simp⟩
theorem Keys.old {key : Nat → Int} {k : Nat} {S : List Int} (h : Keys key k S) (hx : S.contains (key k) = true) : Keys key (k + 1) S := by
  obtain ⟨i, hi, he⟩ := (h.mem _).1 hx
  refine ⟨fun x => ?_, by have := h.few; omega, ?_⟩
  · rw [h.mem]
    constructor
    · rintro ⟨j, hj, e⟩; exact ⟨j, by omega, e⟩
    · rintro ⟨j, hj, e⟩
      by_cases ej : j = k
      · subst ej; exact ⟨i, hi, by rw [he, e]⟩
      · exact ⟨j, by omega, e⟩
  · constructor
    · intro hl; have := h.few; omega
    · intro hd; exact absurd he (hd k i hi (by omega))
theorem Keys.new {key : Nat → Int} {k : Nat} {S : List Int} (h : Keys key k S) (hx : S.contains (key k) = false) : Keys key (k + 1) (S ++ [key k]) := by
  have hno : ∀ i, i < k → key i ≠ key k := fun i hi e => by
    rw [(h.mem (key k)).2 ⟨i, hi, e⟩] at hx; cases hx
  refine ⟨fun x => ?_, by have := h.few; simp; omega, ?_⟩
  · have h1 : (S ++ [key k]).contains x = true ↔ S.contains x = true ∨ x = key k := by simp
    rw [h1, h.mem]
    constructor
    · rintro (⟨j, hj, e⟩ | e)
      · exact ⟨j, by omega, e⟩
      · exact ⟨k, by omega, e.symm⟩
    · rintro ⟨j, hj, e⟩
      by_cases ej : j = k
      · subst ej; exact .inr e.symm
      · exact .inl ⟨j, by omega, e⟩
  · rw [List.length_append, List.length_singleton]
    constructor
    · intro hl i j hj hi
      by_cases ei : i = k
      · subst ei; exact hno j hj
      · exact h.full.1 (by omega) i j hj (by omega)
    · intro hd
      have := h.full.2 (fun i j hj hi => hd i j hj (by omega))
      omega

/-- Putting in one number more. -/
theorem put_key {w : World} {mb k : Nat} {key : Nat → Int} {S : List Int} (h : w.heap[mb]? = some (mapObj S)) (hk : Keys key k S) {x : Int} (hx : key k = x) :
    ∃ S', Keys key (k + 1) S' ∧ (Instr.mapUpdate 123 (.map (some mb)) (.int .i64 x) (.bool true)).run Try.prog w = .ok () (w.putObj mb (mapObj S')) := by
  subst hx
  cases hc : S.contains (key k)
  · exact ⟨_, hk.new hc, put_ids h hc⟩
  · exact ⟨_, hk.old hc, put_old h hc⟩

theorem put_turn {w W : World} {mb : Nat} {S S' : List Int} (h : W.heap[mb]? = some (mapObj S)) (hb : Below w.heap.size w W) (hm : w.heap.size ≤ mb) : (W.putObj mb (mapObj S')).heap[mb]? = some (mapObj S') ∧ Below w.heap.size w (W.putObj mb (mapObj S')) ∧ (∀ k, k ≠ mb → (W.putObj mb (mapObj S')).heap[k]? = W.heap[k]?) ∧ (W.putObj mb (mapObj S')).heap.size = W.heap.size := by
  refine ⟨World.putObj_heap_same (Array.getElem?_eq_some_iff.1 h).1, ⟨hb.os, hb.tape, hb.output, by simpa [World.putObj] using hb.size, fun k hk => (World.putObj_heap_other (by omega)).trans (hb.block k hk)⟩, fun k hk => World.putObj_heap_other hk, by simp [World.putObj]⟩

def eachB (ds : List Du) (q : Int) (n : Nat) : Bool := (List.range n).all fun i => okD q (ds.getD i zDu)
def apartB (key : Nat → Int) (n : Nat) : Bool := (List.range n).all fun i => (List.range i).all fun j => !(key j == key i)
theorem apartB_iff {key : Nat → Int} {n : Nat} : apartB key n = true ↔ ∀ i j, j < i → i < n → key j ≠ key i := by
  unfold apartB
  rw [List.all_eq_true]
  constructor
  · intro h i j hj hi
    have h1 := h i (List.mem_range.2 hi)
    rw [List.all_eq_true] at h1
    simpa using h1 j (List.mem_range.2 hj)
  · intro h i hi
    rw [List.mem_range] at hi
    rw [List.all_eq_true]
    intro j hj
    rw [List.mem_range] at hj
    simpa using h i j hj hi
theorem keys_len {key : Nat → Int} {n : Nat} {S : List Int} (h : Keys key n S) : ((S.length : Int) == (n : Int)) = apartB key n := by
  rw [Bool.eq_iff_iff, apartB_iff, ← h.full]
  simp
  omega
theorem eachB_true {ds : List Du} {q : Int} {n : Nat} (h : ∀ i, i < n → okD q (ds.getD i zDu) = true) : eachB ds q n = true := by
  unfold eachB; rw [List.all_eq_true]; exact fun i hi => h i (List.mem_range.1 hi)
theorem eachB_false {ds : List Du} {q : Int} {n k : Nat} (hk : k < n) (h : okD q (ds.getD k zDu) = false) : eachB ds q n = false := by
  cases e : eachB ds q n
  · rfl
  · unfold eachB at e
    rw [List.all_eq_true] at e
    have := e k (List.mem_range.2 hk)
    rw [h] at this
    cases this

def duesB (ds : List Du) (q : Int) (n : Nat) : Bool := decide (n ≤ 100) && eachB ds q n && (apartB (fun i => (ds.getD i zDu).seq) n && apartB (fun i => (ds.getD i zDu).id) n)

theorem okH_eq (ds : List Du) (q : Int) : okH ds q = (Tick.isT q && duesB ds q ds.length && ordB ds ds.length) := by
  rw [Bool.eq_iff_iff]
  constructor
  · intro h
    have v := okH_val h
    unfold duesB
    rw [v.tick, eachB_true v.each, ordB_true v.heap, apartB_iff.2 (fun i j hj hi => (v.apart i j hj hi).2), apartB_iff.2 (fun i j hj hi => (v.apart i j hj hi).1)]
    simp [v.few]
  · intro h
    unfold duesB at h
    simp only [Bool.and_eq_true, decide_eq_true_eq, apartB_iff] at h
    obtain ⟨⟨h1, ⟨h2, h3⟩, h4, h5⟩, h6⟩ := h
    unfold eachB at h3
    unfold ordB at h6
    rw [List.all_eq_true] at h3 h6
    refine okH_true ⟨h2, h1, fun i hi => h3 i (List.mem_range.2 hi), fun i j hj hi => ⟨h5 i j hj hi, h4 i j hj hi⟩, fun k hk hi => ?_⟩
    have h7 := h6 k (List.mem_range.2 hi)
    have e : (k == 0) = false := by simp; omega
    rw [e] at h7
    simpa using h7
end Go.Proofs.Ytpjelojmkmednaa.Hp

namespace Go.Proofs.Ytpjelojmkmednaa.Hp
open Go.RowKit Go.Deep Base

structure DuesI (w : World) (ds : List Du) (q : Int) (k : Nat) (wr : World) (S1 S2 : List Int) : Prop where
  m1 : wr.heap[w.heap.size]? = some (mapObj S1)
  m2 : wr.heap[w.heap.size + 1]? = some (mapObj S2)
  k1 : Keys (fun i => (ds.getD i zDu).seq) k S1
  k2 : Keys (fun i => (ds.getD i zDu).id) k S2
  old : Below w.heap.size w wr
  each : ∀ i, i < k → okD q (ds.getD i zDu) = true

theorem duesB_many {ds : List Du} {q : Int} {n : Nat} (h : 100 < n) : duesB ds q n = false := by
  unfold duesB
  rw [decide_eq_false (by omega)]
  rfl
theorem duesB_each {ds : List Du} {q : Int} {n k : Nat} (hk : k < n) (h : okD q (ds.getD k zDu) = false) : duesB ds q n = false := by
  unfold duesB
  rw [eachB_false hk h]
  simp

set_option maxRecDepth 100000 in
set_option maxHeartbeats 2000000 in
theorem duesOk_any (A : Option Addr) (n cap lo hi : Nat) (ds : List Du) (q : Int) (w : World) (hn : ds.length = n) (hm : n ≤ 1048576) (h : DV w lo hi A ds) (hs : hi ≤ w.heap.size) :
    Calls Try.prog 117 #[.slice A n cap, .int .i64 q] w fun e w' => e = .returned (.bool (duesB ds q n)) ∧ Below w.heap.size w w' := by
  have Hn := Lib.hid hn
  have HI := Lib.hid h
  clear hn h
  by_cases h100 : 100 < n
  · have Ho := Lib.hid (duesB_many (ds := ds) (q := q) h100)
    go_enter Try.func117, Try.ntmps117
    go_wp2
    go_ret
    exact ⟨by rw [Ho.out]; rfl, Below.refl _ _⟩
  have hmm := @run_makeMap Try.prog
  go_enter Try.func117, Try.ntmps117
  go_wp2
  clear hmm
  go_loopw [16] (fun i wr => ∃ k : Nat, k ≤ n ∧ i = .int .i64 k ∧ ∃ S1 S2, DuesI w ds q k wr S1 S2) (fun i _ => n - (intOf i).toNat)
  case atStart =>
    refine ⟨0, Nat.zero_le _, rfl, [], [], ⟨?_, ?_, Keys.zero _, Keys.zero _, ((Below.refl _ _).alloc (Nat.le_refl _) _).alloc (by simp) _, fun i h => absurd h (by omega)⟩⟩
    · exact (Below.heap_alloc _ _ _ (by simp)).trans (heap_alloc_new w _)
    · have h := heap_alloc_new (w.alloc (.map #[] 0)) (.map #[] 0)
      rw [World.size_alloc] at h
      exact h
  case round =>
    obtain ⟨k, hk, rfl, S1, S2, hi⟩ := hrel
    have Hi := Lib.hid hi
    have hz2 : w.heap.size + 1 < wr.heap.size := (Array.getElem?_eq_some_iff.1 hi.m2).1
    clear hi
    by_cases hlt : k < n
    · obtain ⟨g, rfl, hg1, hg2, hrd⟩ := (HI.out.below Hi.out.old hs) (by have := Hn.out; omega)
      obtain ⟨c0, c1, c2, _⟩ := hrd k (by have := Hn.out; omega)
      obtain ⟨dat, dseq, did, hd⟩ : ∃ a b c, ds.getD k zDu = ⟨a, b, c⟩ := ⟨_, _, _, rfl⟩
      rw [hd] at c0 c1 c2
      dsimp only at c0 c1 c2
      have Hd := Lib.hid hd
      clear hd hrd
      have hk0 : (0 : Int) ≤ (k : Int) := by omega
      have hk1 : (k : Int) < (n : Int) := by omega
      go_wp2_with fail
      refine (Tick.implTickOk_any dat _).mono ?_
      rintro e w1 ⟨rfl, b1⟩
      have i1 : w1.cell? ⟨wr.heap.size, 1, none⟩ = some (.int .i64 dseq) := (b1.cell (p := ⟨wr.heap.size, 1, none⟩) (by simp)).trans (by simp [go_sem])
      have i2 : w1.cell? ⟨wr.heap.size, 2, none⟩ = some (.int .i64 did) := (b1.cell (p := ⟨wr.heap.size, 2, none⟩) (by simp)).trans (by simp [go_sem])
      have B1 := Lib.hid (bel_trans (bel_alloc wr _) b1)
      have hzw : wr.heap.size < w1.heap.size := by have := b1.size; simp at this; omega
      clear b1 c0 c1 c2
      cases h1 : Tick.isT dat
      · have Ho := Lib.hid (duesB_each (ds := ds) (q := q) hlt (by rw [Hd.out]; unfold okD; rw [h1]; rfl))
        clear h1
        go_wp2
        go_ret
        exact ⟨by rw [Ho.out]; rfl, Hi.out.old.trans (B1.out.mono Hi.out.old.size)⟩
      have H1 := Lib.hid h1
      clear h1
      by_cases h2 : dseq < 1
      · have Ho := Lib.hid (duesB_each (ds := ds) (q := q) hlt (by rw [Hd.out]; unfold okD; rw [Tick.inB_false (x := dseq) (l := 1) (h := q) (.inl h2)]; simp))
        go_wp2
        go_ret
        exact ⟨by rw [Ho.out]; rfl, Hi.out.old.trans (B1.out.mono Hi.out.old.size)⟩
      by_cases h3 : q < dseq
      · have Ho := Lib.hid (duesB_each (ds := ds) (q := q) hlt (by rw [Hd.out]; unfold okD; rw [Tick.inB_false (x := dseq) (l := 1) (h := q) (.inr h3)]; simp))
        go_wp2
        go_ret
        exact ⟨by rw [Ho.out]; rfl, Hi.out.old.trans (B1.out.mono Hi.out.old.size)⟩
      have H23 : Hid (Tick.inB dseq 1 q = true) := Tick.inB_true (by omega) (by omega)
      go_wp2_with fail
      refine (idOk_any did _).mono ?_
      rintro e w' ⟨rfl, rfl⟩
      cases h4 : Tick.inB did 1 1000000000
      · have Ho := Lib.hid (duesB_each (ds := ds) (q := q) hlt (by rw [Hd.out]; unfold okD; rw [h4]; simp))
        clear h4
        go_wp2
        go_ret
        exact ⟨by rw [Ho.out]; rfl, Hi.out.old.trans (B1.out.mono Hi.out.old.size)⟩
      have Hok : Hid (okD q (ds.getD k zDu) = true) := by rw [Hd.out]; unfold okD; rw [H1.out, H23.out, h4]; rfl
      clear h4
      have hBw : Below w.heap.size w w1 := Hi.out.old.trans (B1.out.mono Hi.out.old.size)
      have hm1 : w1.heap[w.heap.size]? = some (mapObj S1) := (B1.out.block _ (by omega)).trans Hi.out.m1
      have hm2 : w1.heap[w.heap.size + 1]? = some (mapObj S2) := (B1.out.block _ (by omega)).trans Hi.out.m2
      obtain ⟨T1, hT1, hp1⟩ := put_key (w := w1.drew) hm1 Hi.out.k1 (x := dseq) (by show (ds.getD k zDu).seq = dseq; rw [Hd.out])
      obtain ⟨M1, hM1⟩ : ∃ M1, w1.drew.putObj w.heap.size (mapObj T1) = M1 := ⟨_, rfl⟩
      obtain ⟨a1, a2, a3, a4⟩ := put_turn (w := w) (W := w1.drew) (S' := T1) hm1 ⟨hBw.os, hBw.tape, hBw.output, hBw.size, hBw.block⟩ (Nat.le_refl _)
      rw [hM1] at hp1 a1 a2 a3 a4
      obtain ⟨T2, hT2, hp2⟩ := put_key (w := M1) ((a3 _ (by omega)).trans hm2) Hi.out.k2 (x := did) (by show (ds.getD k zDu).id = did; rw [Hd.out])
      obtain ⟨M2, hM2⟩ : ∃ M2, M1.putObj (w.heap.size + 1) (mapObj T2) = M2 := ⟨_, rfl⟩
      obtain ⟨e1, e2, e3, e4⟩ := put_turn (w := w) (W := M1) (S' := T2) ((a3 _ (by omega)).trans hm2) a2 (by omega)
      rw [hM2] at hp2 e1 e2 e3 e4
      have HQ : Hid (DuesI w ds q (k + 1) M2 T1 T2) := ⟨(e3 _ (by omega)).trans a1, e1, hT1, hT2, e2, fun i hi => by
        by_cases e : i = k
        · subst e; exact Hok.out
        · exact Hi.out.each i (by omega)⟩
      have j1 : M1.cell? ⟨wr.heap.size, 1, none⟩ = some (.int .i64 dseq) := (World.cell?_of_block (w := w1.drew) (a3 wr.heap.size (by omega))).trans i1
      have j2 : M1.cell? ⟨wr.heap.size, 2, none⟩ = some (.int .i64 did) := (World.cell?_of_block (w := w1.drew) (a3 wr.heap.size (by omega))).trans i2
      have f1 : M2.cell? ⟨wr.heap.size, 1, none⟩ = some (.int .i64 dseq) := (World.cell?_of_block (w := M1) (e3 wr.heap.size (by omega))).trans j1
      have f2 : M2.cell? ⟨wr.heap.size, 2, none⟩ = some (.int .i64 did) := (World.cell?_of_block (w := M1) (e3 wr.heap.size (by omega))).trans j2
      clear hM1 hM2 hm1 hm2 a1 a2 a3 a4 e1 e2 e3 e4 hT1 hT2 hBw
      go_wp2_with fail
      go_region
      all_goals
        go_wp2
        go_roundw
        case rel => exact ⟨k + 1, by omega, by go_num, T1, T2, HQ.out⟩
        case measure => simp [intOf]; omega
    · obtain rfl : k = n := by omega
      have hl1 : (Builtin.len_ #[123] 3 #[.map (some w.heap.size)]).run Try.prog wr = .ok (.int .i64 (S1.length : Int)) wr := by
        obtain ⟨es, hes, hml⟩ : ∃ es : Array MapEntry, es.size = S1.length ∧ wr.heap[w.heap.size]? = some (.map es S1.length) := ⟨_, by simp [entries_len], Hi.out.m1⟩
        rw [← hes]
        exact run_len_map (w := wr) _ _ _ es _ (by kernel_rfl) hml
      have hl2 : (Builtin.len_ #[123] 3 #[.map (some (w.heap.size + 1))]).run Try.prog wr = .ok (.int .i64 (S2.length : Int)) wr := by
        obtain ⟨es, hes, hml⟩ : ∃ es : Array MapEntry, es.size = S2.length ∧ wr.heap[w.heap.size + 1]? = some (.map es S2.length) := ⟨_, by simp [entries_len], Hi.out.m2⟩
        rw [← hes]
        exact run_len_map (w := wr) _ _ _ es _ (by kernel_rfl) hml
      have Hk1 := Lib.hid (keys_len Hi.out.k1)
      have Hk2 := Lib.hid (keys_len Hi.out.k2)
      have Ho : Hid (duesB ds q k = (apartB (fun i => (ds.getD i zDu).seq) k && apartB (fun i => (ds.getD i zDu).id) k)) := by
        show duesB ds q k = _
        unfold duesB
        rw [eachB_true Hi.out.each, decide_eq_true (by omega)]
        rfl
      cases hs1 : ((S1.length : Int) == (k : Int))
      · have Hs1 := Lib.hid hs1
        go_wp2
        go_ret
        exact ⟨by rw [Ho.out, ← Hk1.out, Hs1.out]; rfl, Hi.out.old⟩
      · have Hs1 := Lib.hid hs1
        go_wp2
        go_ret
        exact ⟨by rw [Ho.out, ← Hk1.out, ← Hk2.out, Hs1.out]; rfl, Hi.out.old⟩
end Go.Proofs.Ytpjelojmkmednaa.Hp
