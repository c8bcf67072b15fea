/- Playing a breaker, and what the law on breakers asks: the pure mathematics. -/
import Derived.Test.YtmmoelijpemlfaaBk0
namespace Go.Proofs.Ytmmoelijpemlfaa.Bk
open Go.RowKit Base Tick Cf

/-- One event (its kind and its time): the breaker behind it and what is told. -/
def stepR (c : Nat → Int) (b : Br) (e : Int × Int) : Br × Int :=
  if e.1 = 0 then ((dialR b e.2).1, if (dialR b e.2).2 = true then 1 else 0)
  else if e.1 = 1 then ((failR c b e.2).1, if (failR c b e.2).2 = true then 1 else 0)
  else if e.1 = 2 then ((succR b).1, if (succR b).2 = true then 1 else 0)
  else (b, -1)

/-- The breaker behind all events. -/
def runR (c : Nat → Int) : Br → List (Int × Int) → Br
  | b, [] => b
  | b, e :: es => runR c (stepR c b e).1 es
/-- What is told. -/
def toldR (c : Nat → Int) : Br → List (Int × Int) → List Int
  | _, [] => []
  | b, e :: es => (stepR c b e).2 :: toldR c (stepR c b e).1 es

theorem step_ok {c : Nat → Int} {b : Br} (h : OkB b) (e : Int × Int) : OkB (stepR c b e).1 := by
  unfold stepR
  split
  · exact dial_ok h _
  · split
    · exact fail_ok h _
    · split
      · exact succ_ok h
      · exact h

theorem run_ok {c : Nat → Int} (es : List (Int × Int)) : ∀ {b : Br}, OkB b → OkB (runR c b es) := by
  induction es with
  | nil => exact fun h => h
  | cons e es ih => exact fun h => ih (step_ok h e)

theorem run_snoc (c : Nat → Int) (es : List (Int × Int)) (e : Int × Int) : ∀ b, runR c b (es ++ [e]) = (stepR c (runR c b es) e).1 := by
  induction es with
  | nil => exact fun b => rfl
  | cons x es ih => exact fun b => ih _
theorem told_snoc (c : Nat → Int) (es : List (Int × Int)) (e : Int × Int) : ∀ b, toldR c b (es ++ [e]) = toldR c b es ++ [(stepR c (runR c b es) e).2] := by
  induction es with
  | nil => exact fun b => rfl
  | cons x es ih => exact fun b => congrArg _ (ih _)
theorem told_len (c : Nat → Int) (es : List (Int × Int)) : ∀ b, (toldR c b es).length = es.length := by
  induction es with
  | nil => exact fun b => rfl
  | cons x es ih => exact fun b => congrArg (· + 1) (ih _)

/-- An open breaker lets nothing be dialed ahead of its time. -/
theorem open_waits {b : Br} (hs : b.state = 1) : mayD b (b.till - 1) = false := by
  unfold mayD
  rw [hs]
  have : decide (b.till ≤ b.till - 1) = false := by simp only [decide_eq_false_iff_not]; omega
  rw [this]
  simp

theorem half_waits {b : Br} (hs : b.state = 2) (now : Int) : mayD b now = false := by
  unfold mayD
  rw [hs]
  simp

theorem half_fails {c : Nat → Int} {b : Br} (hok : okC c = true) (h : OkB b) (hs : b.state = 2) : failR c b b.till = (openR c b.till, true) := by
  have hf := h.none (by omega)
  have hc : canF c b b.till = true := by
    unfold canF
    rw [hok, okB_iff.2 h, isT_true h.t0 h.t1, hf]
    rfl
  unfold failR
  rw [if_pos hc, if_pos hs]

theorem half_heals {b : Br} (h : OkB b) (hs : b.state = 2) : succR b = (zBr, true) := by
  unfold succR
  rw [if_pos (okB_iff.2 h), if_pos hs]

/-- A closed breaker behind i failures at 100. -/
def hurt (i : Nat) : Br := ⟨0, List.replicate i 100, 0⟩

theorem up_rep (i : Nat) : upB (List.replicate i 100) = true := by
  induction i with
  | zero => rfl
  | succ i ih =>
    rw [List.replicate_succ]
    exact up_cons ih (fun x hx => by rw [(List.mem_replicate.1 hx).2]; omega)

theorem hurt_ok {i : Nat} (h : i ≤ 20) : OkB (hurt i) :=
  ⟨(by show (0 : Int) ≤ 0; omega), (by show (0 : Int) ≤ 2; omega), (by show (0 : Int) ≤ 0; omega), (by show (0 : Int) ≤ 1000000000; omega), (by show (List.replicate i (100 : Int)).length ≤ 20; simp; exact h), fun _ => rfl, fun h' => absurd rfl h', fun x hx => by rw [(List.mem_replicate.1 hx).2]; rfl, up_rep i⟩

theorem hurt_kept {c : Nat → Int} (hok : okC c = true) (i : Nat) : keptF c (hurt i) 100 = List.replicate (i + 1) 100 := by
  have hw := (okC_iff.1 hok)
  unfold keptF hurt
  rw [List.filter_eq_self.2 (fun x hx => by rw [(List.mem_replicate.1 hx).2]; simp only [decide_eq_true_eq]; omega)]
  rw [List.replicate_succ']

theorem hurt_can {c : Nat → Int} (hok : okC c = true) {i : Nat} (h : i ≤ 20) : canF c (hurt i) 100 = true := by
  unfold canF
  rw [hok, okB_iff.2 (hurt_ok h)]
  have hl : (decide (0 < (hurt i).fails.length) && decide ((100 : Int) < (hurt i).fails.getD ((hurt i).fails.length - 1) 0)) = false := by
    show (decide (0 < (List.replicate i (100 : Int)).length) && decide ((100 : Int) < (List.replicate i (100 : Int)).getD ((List.replicate i (100 : Int)).length - 1) 0)) = false
    cases i with
    | zero => rfl
    | succ i => simp
  rw [hl]
  rfl

/-- The failure that opens it is the one at Trips. -/
theorem hurt_fail {c : Nat → Int} (hok : okC c = true) {i : Nat} (h : (i : Int) + 1 ≤ c 11) : failR c (hurt i) 100 = if (i : Int) + 1 = c 11 then (openR c 100, true) else (hurt (i + 1), true) := by
  have hw := (okC_iff.1 hok)
  unfold failR
  rw [if_pos (hurt_can hok (by omega)), if_neg (by show ¬ (0 : Int) = 2; omega), if_neg (by show ¬ (0 : Int) = 1; omega), hurt_kept hok, List.length_replicate]
  by_cases e : (i : Int) + 1 = c 11
  · rw [if_pos (by omega), if_pos e]
  · rw [if_neg (by omega), if_neg e]
    rfl

theorem open_at {c : Nat → Int} (hok : okC c = true) : mayD (openR c 100) (100 + c 12) = true ∧ mayD (openR c 100) (99 + c 12) = false := by
  have hw := (okC_iff.1 hok)
  have ht : lim (100 + c 12) = 100 + c 12 := by unfold lim; rw [if_neg (by omega), if_neg (by omega)]
  constructor
  · unfold mayD
    rw [okB_iff.2 (open_ok c 100), isT_true (by omega) (by omega)]
    show (true && true && ((1 : Int) == 0 || ((1 : Int) == 1 && decide (lim (100 + c 12) ≤ 100 + c 12)))) = true
    rw [ht]
    simp
  · unfold mayD
    show (_ && _ && ((1 : Int) == 0 || ((1 : Int) == 1 && decide (lim (100 + c 12) ≤ 99 + c 12)))) = false
    rw [ht, show decide (100 + c 12 ≤ 99 + c 12) = false by simp only [decide_eq_false_iff_not]; omega]
    simp
end Go.Proofs.Ytmmoelijpemlfaa.Bk
