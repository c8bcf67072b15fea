/- The breaker of chapter 6 as a pure model: what a dial, a failure and a success make of it; each keeps it valid. -/
import Derived.Test.YtmmoelijpemlfaaCfg0
namespace Go.Proofs.Ytmmoelijpemlfaa.Bk
open Go.RowKit Base Tick Cf

structure Br where
  state : Int
  fails : List Int
  till : Int

def zBr : Br := ⟨0, [], 0⟩

/-- Ascending, equal neighbours let in. -/
def upB : List Int → Bool
  | [] => true
  | [_] => true
  | a :: b :: l => decide (a ≤ b) && upB (b :: l)

def okB (b : Br) : Bool := inB b.state 0 2 && isT b.till && decide (b.fails.length ≤ 20) && !(b.state == 0 && b.till != 0) && !(b.state != 0 && decide (0 < b.fails.length)) && b.fails.all isT && upB b.fails

/-- A valid breaker, limb by limb. -/
structure OkB (b : Br) : Prop where
  s0 : 0 ≤ b.state
  s1 : b.state ≤ 2
  t0 : 0 ≤ b.till
  t1 : b.till ≤ 1000000000
  few : b.fails.length ≤ 20
  shut : b.state = 0 → b.till = 0
  none : b.state ≠ 0 → b.fails = []
  ticks : ∀ x ∈ b.fails, isT x = true
  up : upB b.fails = true

theorem okB_iff {b : Br} : okB b = true ↔ OkB b := by
  unfold okB
  simp only [Bool.and_eq_true, inB_iff, isT_iff, decide_eq_true_eq, List.all_eq_true, Bool.not_eq_true', Bool.and_eq_false_iff]
  constructor
  · rintro ⟨⟨⟨⟨⟨⟨⟨a, b1⟩, c, d⟩, e⟩, f⟩, g⟩, h⟩, i⟩
    refine ⟨a, b1, c, d, e, fun hs => ?_, fun hs => ?_, fun x hx => isT_iff.2 (h x hx), i⟩
    · rcases f with f | f
      · simp [hs] at f
      · simpa using f
    · rcases g with g | g
      · simp [hs] at g
      · simp at g; exact g
  · rintro ⟨a, b1, c, d, e, f, g, h, i⟩
    refine ⟨⟨⟨⟨⟨⟨⟨a, b1⟩, c, d⟩, e⟩, ?_⟩, ?_⟩, fun x hx => isT_iff.1 (h x hx)⟩, i⟩
    · by_cases hs : b.state = 0
      · right; simp [f hs]
      · left; simp [hs]
    · by_cases hs : b.state = 0
      · left; simp [hs]
      · right; simp [g hs]

def mayD (b : Br) (now : Int) : Bool := okB b && isT now && (b.state == 0 || (b.state == 1 && decide (b.till ≤ now)))
def dialR (b : Br) (now : Int) : Br × Bool := if mayD b now = true then (if b.state = 1 then ({ b with state := 2 }, true) else (b, true)) else (b, false)
/-- The failures that are still within the window, and the new one. -/
def keptF (c : Nat → Int) (b : Br) (now : Int) : List Int := b.fails.filter (fun x => decide (now - c 10 ≤ x)) ++ [now]
def canF (c : Nat → Int) (b : Br) (now : Int) : Bool := okC c && okB b && isT now && !(decide (0 < b.fails.length) && decide (now < b.fails.getD (b.fails.length - 1) 0))
def openR (c : Nat → Int) (now : Int) : Br := ⟨1, [], lim (now + c 12)⟩
def failR (c : Nat → Int) (b : Br) (now : Int) : Br × Bool :=
  if canF c b now = true then
    if b.state = 2 then (openR c now, true)
    else if b.state = 1 then (b, true)
    else if c 11 ≤ (keptF c b now).length then (openR c now, true)
    else ({ b with fails := keptF c b now }, true)
  else (b, false)
def succR (b : Br) : Br × Bool := if okB b = true then (if b.state = 2 then (zBr, true) else (b, true)) else (b, false)

theorem zBr_ok : OkB zBr := ⟨by decide, by decide, by decide, by decide, by decide, fun _ => rfl, fun h => absurd rfl h, fun x hx => (by cases hx), rfl⟩

theorem dial_ok {b : Br} (h : OkB b) (now : Int) : OkB (dialR b now).1 := by
  unfold dialR
  split
  · split
    · next hs => exact ⟨(by show (0 : Int) ≤ 2; omega), (by show (2 : Int) ≤ 2; omega), h.t0, h.t1, h.few, fun h' => absurd h' (by show ¬ (2 : Int) = 0; omega), fun _ => h.none (by omega), h.ticks, h.up⟩
    · exact h
  · exact h

theorem succ_ok {b : Br} (h : OkB b) : OkB (succR b).1 := by
  unfold succR
  split
  · split
    · exact zBr_ok
    · exact h
  · exact h

theorem up_tail {a : Int} {l : List Int} (h : upB (a :: l) = true) : upB l = true := by
  cases l with
  | nil => rfl
  | cons b l => unfold upB at h; simp only [Bool.and_eq_true] at h; exact h.2

theorem up_le {a : Int} : ∀ {l : List Int}, upB (a :: l) = true → ∀ x ∈ l, a ≤ x := by
  intro l
  induction l generalizing a with
  | nil => intro _ x hx; cases hx
  | cons b l ih =>
    intro h x hx
    have h1 : a ≤ b := by unfold upB at h; simp only [Bool.and_eq_true, decide_eq_true_eq] at h; exact h.1
    have h2 := up_tail h
    cases hx with
    | head => exact h1
    | tail _ hx => exact Int.le_trans h1 (ih h2 x hx)

theorem up_cons {a : Int} {l : List Int} (h : upB l = true) (hl : ∀ x ∈ l, a ≤ x) : upB (a :: l) = true := by
  cases l with
  | nil => rfl
  | cons b l => unfold upB; simp only [Bool.and_eq_true, decide_eq_true_eq]; exact ⟨hl b (by simp), h⟩

theorem up_filter {p : Int → Bool} : ∀ {l : List Int}, upB l = true → upB (l.filter p) = true := by
  intro l
  induction l with
  | nil => intro _; rfl
  | cons a l ih =>
    intro h
    have h2 := ih (up_tail h)
    rw [List.filter_cons]
    split
    · exact up_cons h2 (fun x hx => up_le h x (List.mem_filter.1 hx).1)
    · exact h2

theorem up_snoc {y : Int} : ∀ {l : List Int}, upB l = true → (∀ x ∈ l, x ≤ y) → upB (l ++ [y]) = true := by
  intro l
  induction l with
  | nil => intro _ _; rfl
  | cons a l ih =>
    intro h hl
    refine up_cons (l := l ++ [y]) (ih (up_tail h) (fun x hx => hl x (by simp [hx]))) (fun x hx => ?_)
    rw [List.mem_append] at hx
    rcases hx with hx | hx
    · exact up_le h x hx
    · simp at hx; subst hx; exact hl a (by simp)

theorem up_last {l : List Int} (h : upB l = true) (hn : 0 < l.length) : ∀ x ∈ l, x ≤ l.getD (l.length - 1) 0 := by
  induction l with
  | nil => simp at hn
  | cons a l ih =>
    intro x hx
    cases l with
    | nil => simp at hx; subst hx; simp
    | cons b l =>
      have h2 := ih (up_tail h) (by simp)
      have e : (a :: b :: l).getD ((a :: b :: l).length - 1) 0 = (b :: l).getD ((b :: l).length - 1) 0 := by simp
      rw [e]
      cases hx with
      | head => exact Int.le_trans (up_le h b (by simp)) (h2 b (by simp))
      | tail _ hx => exact h2 x hx

theorem open_ok (c : Nat → Int) (now : Int) : OkB (openR c now) := by
  have h : 0 ≤ lim (now + c 12) ∧ lim (now + c 12) ≤ 1000000000 := by unfold lim; split <;> (try split) <;> omega
  exact ⟨(by show (0 : Int) ≤ 1; omega), (by show (1 : Int) ≤ 2; omega), h.1, h.2, (by show (0 : Nat) ≤ 20; omega), fun h' => absurd h' (by show ¬ (1 : Int) = 0; omega), fun _ => rfl, fun x hx => (by cases hx), rfl⟩

theorem fail_ok {c : Nat → Int} {b : Br} (h : OkB b) (now : Int) : OkB (failR c b now).1 := by
  unfold failR
  split
  · next hc =>
    split
    · exact open_ok c now
    · split
      · exact h
      · split
        · exact open_ok c now
        · next h2 h1 ht =>
          unfold canF at hc
          simp only [Bool.and_eq_true, Bool.not_eq_true', Bool.and_eq_false_iff, decide_eq_false_iff_not] at hc
          obtain ⟨⟨⟨hok, _⟩, hnow⟩, hlast⟩ := hc
          have htr := (okC_iff.1 hok)
          have hst : b.state = 0 := by have := h.s0; have := h.s1; omega
          have hle : ∀ x ∈ b.fails, x ≤ now := by
            intro x hx
            have hn : 0 < b.fails.length := List.length_pos_of_mem hx
            have := up_last h.up hn x hx
            rcases hlast with hl | hl
            · exact absurd hn hl
            · omega
          refine ⟨h.s0, h.s1, h.t0, h.t1, ?_, h.shut, fun h' => absurd hst h', fun x hx => ?_, ?_⟩
          · show (keptF c b now).length ≤ 20
            omega
          · unfold keptF at hx
            rw [List.mem_append] at hx
            rcases hx with hx | hx
            · exact h.ticks x (List.mem_filter.1 hx).1
            · simp at hx; subst hx; exact hnow
          · exact up_snoc (up_filter h.up) (fun x hx => hle x (List.mem_filter.1 hx).1)
  · exact h
end Go.Proofs.Ytmmoelijpemlfaa.Bk
