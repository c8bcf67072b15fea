/- Lists of rows of integers that a call makes; the reference's lists of events. -/
import Derived.Test.YtoknjofdpnjioaaDoorCn5
namespace Go.Proofs.YtoknjofdpnjioaaDoor.Cn
open Go.RowKit Go.Deep Base Rw

/-- The lists for the first k events. -/
def outL (sub : Int → List (List Int)) (f : Int) : Nat → List (List Int)
  | 0 => []
  | k + 1 => outL sub f k ++ (if go f (k : Int) = f then [] else (sub (go f (k : Int))).map fun l => (k : Int) :: l)
/-- All lists of n events that lead from f to t, each of which changes the state. -/
def lstL (t : Int) : Nat → Int → List (List Int)
  | 0, f => if f = t then [[]] else []
  | n + 1, f => outL (lstL t n) f 7

theorem outL_len {sub : Int → List (List Int)} {f : Int} {M : Nat} (h : ∀ x, (sub x).length ≤ M) (k : Nat) : (outL sub f k).length ≤ k * M := by
  induction k with
  | zero => simp [outL]
  | succ k ih =>
    simp only [outL, List.length_append]
    have : (if go f (k : Int) = f then [] else (sub (go f (k : Int))).map fun l => (k : Int) :: l).length ≤ M := by
      split
      · simp
      · rw [List.length_map]; exact h _
    have e : (k + 1) * M = k * M + M := by rw [Nat.add_mul, Nat.one_mul]
    omega
theorem lstL_len (t : Int) (n : Nat) (f : Int) : (lstL t n f).length ≤ 7 ^ n := by
  induction n generalizing f with
  | zero => simp only [lstL]; split <;> simp
  | succ n ih =>
    have := outL_len (f := f) ih 7
    simp only [lstL]
    rw [Nat.pow_succ]
    omega
theorem outL_short {sub : Int → List (List Int)} {f : Int} {M : Nat} (h : ∀ x, ∀ l ∈ sub x, l.length ≤ M) (k : Nat) : ∀ l ∈ outL sub f k, l.length ≤ M + 1 := by
  induction k with
  | zero => simp [outL]
  | succ k ih =>
    intro l hl
    simp only [outL, List.mem_append] at hl
    rcases hl with hl | hl
    · exact ih l hl
    · split at hl
      · simp at hl
      · rw [List.mem_map] at hl
        obtain ⟨x, hx, rfl⟩ := hl
        have := h _ x hx
        simp; omega
theorem lstL_short (t : Int) (n : Nat) (f : Int) : ∀ l ∈ lstL t n f, l.length ≤ n := by
  induction n generalizing f with
  | zero =>
    intro l hl
    simp only [lstL] at hl
    split at hl
    · simp at hl; simp [hl]
    · simp at hl
  | succ n ih => exact outL_short ih 7

/-- A row of integers: its slice, its integers. -/
structure Rv where
  val : Value
  ints : List Int

/-- A row of rows. -/
structure RR (B : Nat) (wr : World) (v : Value) (rs : List Rv) : Prop where
  own : wr.ownsRow B 24 1 v rs.length (rs.map Rv.val)
  each : ∀ r ∈ rs, wr.ownsRow B 3 1 r.val r.ints.length (r.ints.map (Value.int .i64))
  some : ∀ r ∈ rs, ∃ g c, r.val = .slice (Option.some ⟨g, 0, none⟩) r.ints.length c

theorem apart {w : World} {B1 B2 e1 e2 s1 s2 n1 n2 : Nat} {v1 v2 : Value} {x1 x2 : List Value} (h1 : w.ownsRow B1 e1 s1 v1 n1 x1) (h2 : w.ownsRow B2 e2 s2 v2 n2 x2) (he : e1 ≠ e2) : v1.ownBlock = none ∨ v1.ownBlock ≠ v2.ownBlock := by
  rcases h1.2 with ⟨rfl, _⟩ | ⟨g1, c1, cu1, rfl, _, hg1, _⟩
  · exact .inl rfl
  · rcases h2.2 with ⟨rfl, _⟩ | ⟨g2, c2, cu2, rfl, _, hg2, _⟩
    · exact .inr (by simp [Value.ownBlock])
    · refine .inr fun e => ?_
      simp [Value.ownBlock] at e
      subst e
      rw [hg1] at hg2
      injection hg2 with hg2
      injection hg2 with _ h _
      exact he h

theorem owns_wide {w : World} {B B' e s n : Nat} {v : Value} {xs : List Value} (h : w.ownsRow B e s v n xs) (hB : B' ≤ B) : w.ownsRow B' e s v n xs := by
  refine ⟨h.1, ?_⟩
  rcases h.2 with h | ⟨g, c, cu, h1, h2, h3⟩
  · exact .inl h
  · exact .inr ⟨g, c, cu, h1, Nat.le_trans hB h2, h3⟩

theorem own_keep {w w2 : World} {B e s n : Nat} {v : Value} {xs : List Value} (h : w.ownsRow B e s v n xs) (hb : Below w.heap.size w w2) : w2.ownsRow B e s v n xs :=
  h.kept (grown_below hb none) (by cases v.ownBlock <;> simp)

theorem RR.keep {B : Nat} {wr w2 : World} {v : Value} {rs : List Rv} (h : RR B wr v rs) (hb : Below wr.heap.size wr w2) : RR B w2 v rs :=
  ⟨own_keep h.own hb, fun r hr => own_keep (h.each r hr) hb, h.some⟩
theorem RR.wide {B B' : Nat} {wr : World} {v : Value} {rs : List Rv} (h : RR B wr v rs) (hB : B' ≤ B) : RR B' wr v rs :=
  ⟨owns_wide h.own hB, fun r hr => owns_wide (h.each r hr) hB, h.some⟩
/-- Another row of rows has grown. -/
theorem RR.but {B B2 n : Nat} {wr w2 : World} {v u : Value} {rs : List Rv} {xs : List Value} (h : RR B wr v rs) (hu : wr.ownsRow B2 24 1 u n xs) (hg : wr.grownBy w2 u.ownBlock) (ha : v.ownBlock = none ∨ v.ownBlock ≠ u.ownBlock) : RR B w2 v rs :=
  ⟨h.own.kept hg ha, fun r hr => (h.each r hr).kept hg (apart (h.each r hr) hu (by decide)), h.some⟩
theorem RR.push {B : Nat} {wr w2 : World} {v v' : Value} {rs : List Rv} {r : Rv} (h : RR B wr v rs) (hr : wr.ownsRow B 3 1 r.val r.ints.length (r.ints.map (Value.int .i64))) (hs : ∃ g c, r.val = .slice (Option.some ⟨g, 0, none⟩) r.ints.length c)
    (hown : w2.ownsRow B 24 1 v' (rs.length + 1) (rs.map Rv.val ++ [r.val])) (hg : wr.grownBy w2 v.ownBlock) : RR B w2 v' (rs ++ [r]) := by
  refine ⟨by simpa using hown, fun x hx => ?_, fun x hx => ?_⟩
  · rw [List.mem_append, List.mem_singleton] at hx
    rcases hx with hx | rfl
    · exact (h.each x hx).kept hg (apart (h.each x hx) h.own (by decide))
    · exact hr.kept hg (apart hr h.own (by decide))
  · rw [List.mem_append, List.mem_singleton] at hx
    rcases hx with hx | rfl
    · exact h.some x hx
    · exact hs

/-- How l07Lists ends. -/
def ListsEnd (t : Int) (n : Nat) (f : Int) (w : World) (e : Ending) (w' : World) : Prop := ∃ v rs, e = .returned v ∧ rs.map Rv.ints = lstL t n f ∧ RR w.heap.size w' v rs ∧ Below w.heap.size w w'

theorem infoRow : (Tryd.prog.info? 24).map (fun i => (i.zero, i.size, i.bytes)) = some (some (.slice none 0 0), 1, 24) := by kernel_rfl

theorem go_isS {f : Int} (hf : isS f = true) (e : Nat) (he : e < 7) : isS (go f (e : Int)) = true := by
  have h2 : isE (e : Int) = true := by simp [isE]; omega
  rcases isS_cases hf with rfl | rfl | rfl | rfl | rfl <;> (match e, he with | 0, _ | 1, _ | 2, _ | 3, _ | 4, _ | 5, _ | 6, _ => rfl)

set_option maxRecDepth 100000 in
set_option maxHeartbeats 1600000 in
theorem lists_zero (f t : Int) (w : World) : Calls Tryd.prog 38 #[.int .i64 f, .int .i64 t, .int .i64 0] w (ListsEnd t 0 f w) := by
  go_enter Tryd.func38, Tryd.ntmps38
  by_cases h : f = t
  · subst h
    go_wp2
    go_ret
    have o1 := World.ownsRow_lit (base := w.heap.size) (e := 3) (size := 1) (w.alloc (.cells #[] 24)) #[] 0 (by simp) (by simp) (by simp)
    have o2 := World.ownsRow_lit (base := w.heap.size) (e := 24) (size := 1) ((w.alloc (.cells #[] 24)).alloc (.cells #[] 3)) #[.slice (some ⟨w.heap.size + 1, 0, none⟩) 0 0] 1 (by simp; omega) (by unfold maxLen; omega) (by simp)
    rw [World.size_alloc] at o1
    rw [World.size_alloc, World.size_alloc] at o2
    refine ⟨_, [⟨.slice (some ⟨w.heap.size + 1, 0, none⟩) 0 0, []⟩], rfl, by simp [lstL], ⟨o2, ?_, ?_⟩, bel_trans (bel_alloc _ _) (bel_trans (bel_alloc _ _) (bel_alloc _ _))⟩
    · intro r hr
      rw [List.mem_singleton] at hr
      subst hr
      exact o1.alloc _
    · intro r hr
      rw [List.mem_singleton] at hr
      subst hr
      exact ⟨_, _, rfl⟩
  · go_wp2
    go_ret
    exact ⟨_, [], rfl, by simp [lstL, h], ⟨World.ownsRow_nil _ _ _ _, by simp, by simp⟩, bel_alloc _ _⟩
end Go.Proofs.YtoknjofdpnjioaaDoor.Cn
