/- Which item comes before another; what a valid heap is. -/
import Derived.Test.YtnmhdbfemobhkaaHp1
import Derived.Test.YtnmhdbfemobhkaaHtk
import Derived.Outline
namespace Go.Proofs.Ytnmhdbfemobhkaa.Hp
open Go.RowKit Go.Deep Base

def before (a b : Du) : Bool := decide (a.at < b.at) || ((a.at == b.at) && decide (a.seq < b.seq))

theorem sooner_any (a b c d e f : Int) (w : World) :
    Calls Try.prog 78 #[.agg #[.int .i64 a, .int .i64 b, .int .i64 c], .agg #[.int .i64 d, .int .i64 e, .int .i64 f]] w fun en w' => en = .returned (.bool (before ⟨a, b, c⟩ ⟨d, e, f⟩)) ∧ Below w.heap.size w w' := by
  have hB : ∀ o o', Below w.heap.size w ((w.alloc o).alloc o') := fun o o' => ((Below.refl _ _).alloc (Nat.le_refl _) _).alloc (by simp) _
  have HB := Lib.hid hB
  clear hB
  by_cases h1 : a < d
  · go_enter Try.func78, Try.ntmps78
    go_wp2
    go_ret
    exact ⟨by simp [before, h1], HB.out _ _⟩
  · by_cases h2 : a = d
    · subst h2
      by_cases h3 : b < e
      · go_enter Try.func78, Try.ntmps78
        go_wp2
        go_ret
        exact ⟨by simp [before, h3], HB.out _ _⟩
      · go_enter Try.func78, Try.ntmps78
        go_wp2
        go_ret
        exact ⟨by simp [before, h3], HB.out _ _⟩
    · have h2b : (a == d) = false := by simpa using h2
      go_enter Try.func78, Try.ntmps78
      go_wp2
      go_ret
      exact ⟨by simp [before, h1, h2], HB.out _ _⟩

theorem specBefore_any (a b c d e f : Int) (w : World) :
    Calls Try.prog 53 #[.agg #[.int .i64 a, .int .i64 b, .int .i64 c], .agg #[.int .i64 d, .int .i64 e, .int .i64 f]] w fun en w' => en = .returned (.bool (before ⟨a, b, c⟩ ⟨d, e, f⟩)) ∧ Below w.heap.size w w' := by
  have hB : ∀ o o', Below w.heap.size w ((w.alloc o).alloc o') := fun o o' => ((Below.refl _ _).alloc (Nat.le_refl _) _).alloc (by simp) _
  have HB := Lib.hid hB
  clear hB
  by_cases h1 : a < d
  · go_enter Try.func53, Try.ntmps53
    go_wp2
    go_ret
    exact ⟨by simp [before, h1], HB.out _ _⟩
  · by_cases h2 : a = d
    · subst h2
      by_cases h3 : b < e
      · go_enter Try.func53, Try.ntmps53
        go_wp2
        go_ret
        exact ⟨by simp [before, h3], HB.out _ _⟩
      · go_enter Try.func53, Try.ntmps53
        go_wp2
        go_ret
        exact ⟨by simp [before, h3], HB.out _ _⟩
    · have h2b : (a == d) = false := by simpa using h2
      go_enter Try.func53, Try.ntmps53
      go_wp2
      go_ret
      exact ⟨by simp [before, h1, h2], HB.out _ _⟩

theorem idOk_any (x : Int) (w : World) : Calls Try.prog 65 #[.int .i64 x] w fun e w' => e = .returned (.bool (Tick.inB x 1 1000000000)) ∧ w = w' := by
  by_cases h1 : 1 ≤ x
  · by_cases h2 : x ≤ 1000000000
    · rw [Tick.inB_true h1 h2]
      go_enter Try.func65, Try.ntmps65
      go_wp2
      go_ret
      exact ⟨rfl, rfl⟩
    · rw [Tick.inB_false (.inr (by omega))]
      go_enter Try.func65, Try.ntmps65
      go_wp2
      go_ret
      exact ⟨rfl, rfl⟩
  · rw [Tick.inB_false (.inl (by omega))]
    go_enter Try.func65, Try.ntmps65
    go_wp2
    go_ret
    exact ⟨rfl, rfl⟩

/-- One item alone. -/
def okD (q : Int) (d : Du) : Bool := Tick.isT d.at && Tick.inB d.seq 1 q && Tick.inB d.id 1 1000000000
/-- The item ahead of which place k may not come. -/
def par (k : Nat) : Nat := (k - 1) / 2

/-- A valid heap. -/
structure HV (ds : List Du) (q : Int) : Prop where
  few : ds.length ≤ 100
  tick : Tick.isT q = true
  each : ∀ i, i < ds.length → okD q (ds.getD i zDu) = true
  apart : ∀ i j, j < i → i < ds.length → (ds.getD j zDu).id ≠ (ds.getD i zDu).id ∧ (ds.getD j zDu).seq ≠ (ds.getD i zDu).seq
  heap : ∀ k, 0 < k → k < ds.length → before (ds.getD k zDu) (ds.getD (par k) zDu) = false

/-- The same, reckoned. -/
def okH (ds : List Du) (q : Int) : Bool :=
  decide (ds.length ≤ 100) && Tick.isT q && (List.range ds.length).all fun i =>
    okD q (ds.getD i zDu) && ((List.range i).all fun j => !((ds.getD j zDu).id == (ds.getD i zDu).id) && !((ds.getD j zDu).seq == (ds.getD i zDu).seq)) && (i == 0 || !before (ds.getD i zDu) (ds.getD (par i) zDu))
theorem okH_true {ds : List Du} {q : Int} (h : HV ds q) : okH ds q = true := by
  unfold okH
  rw [Bool.and_eq_true, Bool.and_eq_true, List.all_eq_true]
  refine ⟨⟨by simpa using h.few, h.tick⟩, fun i hi => ?_⟩
  rw [List.mem_range] at hi
  rw [Bool.and_eq_true, Bool.and_eq_true, List.all_eq_true]
  refine ⟨⟨h.each i hi, fun j hj => ?_⟩, ?_⟩
  · rw [List.mem_range] at hj
    obtain ⟨h1, h2⟩ := h.apart i j hj hi
    rw [beq_eq_false_iff_ne.2 h1, beq_eq_false_iff_ne.2 h2]; rfl
  · by_cases e : i = 0
    · subst e; rfl
    · rw [h.heap i (by omega) hi]; simp
theorem okH_val {ds : List Du} {q : Int} (h : okH ds q = true) : HV ds q := by
  unfold okH at h
  rw [Bool.and_eq_true, Bool.and_eq_true, List.all_eq_true] at h
  obtain ⟨⟨h1, h2⟩, h3⟩ := h
  have h4 : ∀ i, i < ds.length → okD q (ds.getD i zDu) = true ∧ (∀ j, j < i → (ds.getD j zDu).id ≠ (ds.getD i zDu).id ∧ (ds.getD j zDu).seq ≠ (ds.getD i zDu).seq) ∧ (0 < i → before (ds.getD i zDu) (ds.getD (par i) zDu) = false) := fun i hi => by
    have h5 := h3 i (List.mem_range.2 hi)
    rw [Bool.and_eq_true, Bool.and_eq_true, List.all_eq_true] at h5
    obtain ⟨⟨a1, a2⟩, a3⟩ := h5
    refine ⟨a1, fun j hj => ?_, fun h0 => ?_⟩
    · have := a2 j (List.mem_range.2 hj)
      simpa using this
    · have e : (i == 0) = false := by simp; omega
      rw [e] at a3
      simpa using a3
  exact ⟨by simpa using h1, h2, fun i hi => (h4 i hi).1, fun i j hj hi => (h4 i hi).2.1 j hj, fun k hk hi => (h4 k hi).2.2 hk⟩
theorem okH_false {ds : List Du} {q : Int} (h : ¬ HV ds q) : okH ds q = false := by
  cases e : okH ds q
  · rfl
  · exact absurd (okH_val e) h
end Go.Proofs.Ytnmhdbfemobhkaa.Hp
