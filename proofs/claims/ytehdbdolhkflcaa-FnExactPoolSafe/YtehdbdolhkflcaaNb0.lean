/- The breaker of chapter 6 as a pure model: what a dial, a failure and a success make of it; each keeps it valid. Playing a breaker, and what the law on breakers asks: the pure mathematics. Breakers that came in, and the laws' helpers on them: size, a copy, the comparison of two that read alike, marks written and looked for. What slices.IsSorted answers, and the program's BreakerOk. What the reference's BreakerOk answers. What MayDial answers, the program's and the reference's. -/
import Derived.Test.YtehdbdolhkflcaaNc0
import Derived.Test.YtehdbdolhkflcaaNi0
import Derived.Deep.Slices
import Derived.Deep.Fields
import Derived.ChangeSame
import Derived.OpenShut
import Derived.Deep.QuietTactic
import Derived.BigQuiet
import Derived.RegionTactic
import Derived.StillTailTactics
namespace Go.Proofs.Ytehdbdolhkflcaa.Bk
open Go.RowKit Base Tick Cf

structure Br where
  state : Int
  fails : List Int
  till : Int

def zBr : Br := ⟨0, [], 0⟩

/-- Ascending, equal neighbours let in. -/
def upB : List Int → Bool
  | [] => true
  | [_] => true
  | a :: b :: l => decide (a ≤ b) && upB (b :: l)

def okB (b : Br) : Bool := inB b.state 0 2 && isT b.till && decide (b.fails.length ≤ 20) && !(b.state == 0 && b.till != 0) && !(b.state != 0 && decide (0 < b.fails.length)) && b.fails.all isT && upB b.fails

/-- A valid breaker, limb by limb. -/
structure OkB (b : Br) : Prop where
  s0 : 0 ≤ b.state
  s1 : b.state ≤ 2
  t0 : 0 ≤ b.till
  t1 : b.till ≤ 1000000000
  few : b.fails.length ≤ 20
  shut : b.state = 0 → b.till = 0
  none : b.state ≠ 0 → b.fails = []
  ticks : ∀ x ∈ b.fails, isT x = true
  up : upB b.fails = true

theorem okB_iff {b : Br} : okB b = true ↔ OkB b := by
  unfold okB
  simp only [Bool.and_eq_true, inB_iff, isT_iff, decide_eq_true_eq, List.all_eq_true, Bool.not_eq_true', Bool.and_eq_false_iff]
  constructor
  · rintro ⟨⟨⟨⟨⟨⟨⟨a, b1⟩, c, d⟩, e⟩, f⟩, g⟩, h⟩, i⟩
    refine ⟨a, b1, c, d, e, fun hs => ?_, fun hs => ?_, fun x hx => isT_iff.2 (h x hx), i⟩
    · rcases f with f | f
      · simp [hs] at f
      · simpa using f
    · rcases g with g | g
      · simp [hs] at g
      · simp at g; exact g
  · rintro ⟨a, b1, c, d, e, f, g, h, i⟩
    refine ⟨⟨⟨⟨⟨⟨⟨a, b1⟩, c, d⟩, e⟩, ?_⟩, ?_⟩, fun x hx => isT_iff.1 (h x hx)⟩, i⟩
    · by_cases hs : b.state = 0
      · right; simp [f hs]
      · left; simp [hs]
    · by_cases hs : b.state = 0
      · left; simp [hs]
      · right; simp [g hs]

def mayD (b : Br) (now : Int) : Bool := okB b && isT now && (b.state == 0 || (b.state == 1 && decide (b.till ≤ now)))
def dialR (b : Br) (now : Int) : Br × Bool := if mayD b now = true then (if b.state = 1 then ({ b with state := 2 }, true) else (b, true)) else (b, false)
/-- The failures that are still within the window, and the new one. -/
def keptF (c : Nat → Int) (b : Br) (now : Int) : List Int := b.fails.filter (fun x => decide (now - c 10 ≤ x)) ++ [now]
def canF (c : Nat → Int) (b : Br) (now : Int) : Bool := okC c && okB b && isT now && !(decide (0 < b.fails.length) && decide (now < b.fails.getD (b.fails.length - 1) 0))
def openR (c : Nat → Int) (now : Int) : Br := ⟨1, [], lim (now + c 12)⟩
def failR (c : Nat → Int) (b : Br) (now : Int) : Br × Bool :=
  if canF c b now = true then
    if b.state = 2 then (openR c now, true)
    else if b.state = 1 then (b, true)
    else if c 11 ≤ (keptF c b now).length then (openR c now, true)
    else ({ b with fails := keptF c b now }, true)
  else (b, false)
def succR (b : Br) : Br × Bool := if okB b = true then (if b.state = 2 then (zBr, true) else (b, true)) else (b, false)

theorem zBr_ok : OkB zBr := ⟨by decide, by decide, by decide, by decide, by decide, fun _ => rfl, fun h => absurd rfl h, fun x hx => (by cases hx), rfl⟩

theorem dial_ok {b : Br} (h : OkB b) (now : Int) : OkB (dialR b now).1 := by
  unfold dialR
  split
  · split
    · next hs => exact ⟨(by show (0 : Int) ≤ 2; omega), (by show (2 : Int) ≤ 2; omega), h.t0, h.t1, h.few, fun h' => absurd h' (by show ¬ (2 : Int) = 0; omega), fun _ => h.none (by omega), h.ticks, h.up⟩
    · exact h
  · exact h

theorem succ_ok {b : Br} (h : OkB b) : OkB (succR b).1 := by
  unfold succR
  split
  · split
    · exact zBr_ok
    · exact h
  · exact h

theorem up_tail {a : Int} {l : List Int} (h : upB (a :: l) = true) : upB l = true := by
  cases l with
  | nil => rfl
  | cons b l => unfold upB at h; simp only [Bool.and_eq_true] at h; exact h.2

theorem up_le {a : Int} : ∀ {l : List Int}, upB (a :: l) = true → ∀ x ∈ l, a ≤ x := by
  intro l
  induction l generalizing a with
  | nil => intro _ x hx; cases hx
  | cons b l ih =>
    intro h x hx
    have h1 : a ≤ b := by unfold upB at h; simp only [Bool.and_eq_true, decide_eq_true_eq] at h; exact h.1
    have h2 := up_tail h
    cases hx with
    | head => exact h1
    | tail _ hx => exact Int.le_trans h1 (ih h2 x hx)

theorem up_cons {a : Int} {l : List Int} (h : upB l = true) (hl : ∀ x ∈ l, a ≤ x) : upB (a :: l) = true := by
  cases l with
  | nil => rfl
  | cons b l => unfold upB; simp only [Bool.and_eq_true, decide_eq_true_eq]; exact ⟨hl b (by simp), h⟩

theorem up_filter {p : Int → Bool} : ∀ {l : List Int}, upB l = true → upB (l.filter p) = true := by
  intro l
  induction l with
  | nil => intro _; rfl
  | cons a l ih =>
    intro h
    have h2 := ih (up_tail h)
    rw [List.filter_cons]
    split
    · exact up_cons h2 (fun x hx => up_le h x (List.mem_filter.1 hx).1)
    · exact h2

theorem up_snoc {y : Int} : ∀ {l : List Int}, upB l = true → (∀ x ∈ l, x ≤ y) → upB (l ++ [y]) = true := by
  intro l
  induction l with
  | nil => intro _ _; rfl
  | cons a l ih =>
    intro h hl
    refine up_cons (l := l ++ [y]) (ih (up_tail h) (fun x hx => hl x (by simp [hx]))) (fun x hx => ?_)
    rw [List.mem_append] at hx
    rcases hx with hx | hx
    · exact up_le h x hx
    · simp at hx; subst hx; exact hl a (by simp)

theorem up_last {l : List Int} (h : upB l = true) (hn : 0 < l.length) : ∀ x ∈ l, x ≤ l.getD (l.length - 1) 0 := by
  induction l with
  | nil => simp at hn
  | cons a l ih =>
    intro x hx
    cases l with
    | nil => simp at hx; subst hx; simp
    | cons b l =>
      have h2 := ih (up_tail h) (by simp)
      have e : (a :: b :: l).getD ((a :: b :: l).length - 1) 0 = (b :: l).getD ((b :: l).length - 1) 0 := by simp
      rw [e]
      cases hx with
      | head => exact Int.le_trans (up_le h b (by simp)) (h2 b (by simp))
      | tail _ hx => exact h2 x hx

theorem open_ok (c : Nat → Int) (now : Int) : OkB (openR c now) := by
  have h : 0 ≤ lim (now + c 12) ∧ lim (now + c 12) ≤ 1000000000 := by unfold lim; split <;> (try split) <;> omega
  exact ⟨(by show (0 : Int) ≤ 1; omega), (by show (1 : Int) ≤ 2; omega), h.1, h.2, (by show (0 : Nat) ≤ 20; omega), fun h' => absurd h' (by show ¬ (1 : Int) = 0; omega), fun _ => rfl, fun x hx => (by cases hx), rfl⟩

theorem fail_ok {c : Nat → Int} {b : Br} (h : OkB b) (now : Int) : OkB (failR c b now).1 := by
  unfold failR
  split
  · next hc =>
    split
    · exact open_ok c now
    · split
      · exact h
      · split
        · exact open_ok c now
        · next h2 h1 ht =>
          unfold canF at hc
          simp only [Bool.and_eq_true, Bool.not_eq_true', Bool.and_eq_false_iff, decide_eq_false_iff_not] at hc
          obtain ⟨⟨⟨hok, _⟩, hnow⟩, hlast⟩ := hc
          have htr := (okC_iff.1 hok)
          have hst : b.state = 0 := by have := h.s0; have := h.s1; omega
          have hle : ∀ x ∈ b.fails, x ≤ now := by
            intro x hx
            have hn : 0 < b.fails.length := List.length_pos_of_mem hx
            have := up_last h.up hn x hx
            rcases hlast with hl | hl
            · exact absurd hn hl
            · omega
          refine ⟨h.s0, h.s1, h.t0, h.t1, ?_, h.shut, fun h' => absurd hst h', fun x hx => ?_, ?_⟩
          · show (keptF c b now).length ≤ 20
            omega
          · unfold keptF at hx
            rw [List.mem_append] at hx
            rcases hx with hx | hx
            · exact h.ticks x (List.mem_filter.1 hx).1
            · simp at hx; subst hx; exact hnow
          · exact up_snoc (up_filter h.up) (fun x hx => hle x (List.mem_filter.1 hx).1)
  · exact h
end Go.Proofs.Ytehdbdolhkflcaa.Bk

namespace Go.Proofs.Ytehdbdolhkflcaa.Bk
open Go.RowKit Base Tick Cf

/-- One event (its kind and its time): the breaker behind it and what is told. -/
def stepR (c : Nat → Int) (b : Br) (e : Int × Int) : Br × Int :=
  if e.1 = 0 then ((dialR b e.2).1, if (dialR b e.2).2 = true then 1 else 0)
  else if e.1 = 1 then ((failR c b e.2).1, if (failR c b e.2).2 = true then 1 else 0)
  else if e.1 = 2 then ((succR b).1, if (succR b).2 = true then 1 else 0)
  else (b, -1)

/-- The breaker behind all events. -/
def runR (c : Nat → Int) : Br → List (Int × Int) → Br
  | b, [] => b
  | b, e :: es => runR c (stepR c b e).1 es
/-- What is told. -/
def toldR (c : Nat → Int) : Br → List (Int × Int) → List Int
  | _, [] => []
  | b, e :: es => (stepR c b e).2 :: toldR c (stepR c b e).1 es

theorem step_ok {c : Nat → Int} {b : Br} (h : OkB b) (e : Int × Int) : OkB (stepR c b e).1 := by
  unfold stepR
  split
  · exact dial_ok h _
  · split
    · exact fail_ok h _
    · split
      · exact succ_ok h
      · exact h

theorem run_ok {c : Nat → Int} (es : List (Int × Int)) : ∀ {b : Br}, OkB b → OkB (runR c b es) := by
  induction es with
  | nil => exact fun h => h
  | cons e es ih => exact fun h => ih (step_ok h e)

theorem run_snoc (c : Nat → Int) (es : List (Int × Int)) (e : Int × Int) : ∀ b, runR c b (es ++ [e]) = (stepR c (runR c b es) e).1 := by
  induction es with
  | nil => exact fun b => rfl
  | cons x es ih => exact fun b => ih _
theorem told_snoc (c : Nat → Int) (es : List (Int × Int)) (e : Int × Int) : ∀ b, toldR c b (es ++ [e]) = toldR c b es ++ [(stepR c (runR c b es) e).2] := by
  induction es with
  | nil => exact fun b => rfl
  | cons x es ih => exact fun b => congrArg _ (ih _)
theorem told_len (c : Nat → Int) (es : List (Int × Int)) : ∀ b, (toldR c b es).length = es.length := by
  induction es with
  | nil => exact fun b => rfl
  | cons x es ih => exact fun b => congrArg (· + 1) (ih _)

/-- An open breaker lets nothing be dialed ahead of its time. -/
theorem open_waits {b : Br} (hs : b.state = 1) : mayD b (b.till - 1) = false := by
  unfold mayD
  rw [hs]
  have : decide (b.till ≤ b.till - 1) = false := by simp only [decide_eq_false_iff_not]; omega
  rw [this]
  simp

theorem half_waits {b : Br} (hs : b.state = 2) (now : Int) : mayD b now = false := by
  unfold mayD
  rw [hs]
  simp

theorem half_fails {c : Nat → Int} {b : Br} (hok : okC c = true) (h : OkB b) (hs : b.state = 2) : failR c b b.till = (openR c b.till, true) := by
  have hf := h.none (by omega)
  have hc : canF c b b.till = true := by
    unfold canF
    rw [hok, okB_iff.2 h, isT_true h.t0 h.t1, hf]
    rfl
  unfold failR
  rw [if_pos hc, if_pos hs]

theorem half_heals {b : Br} (h : OkB b) (hs : b.state = 2) : succR b = (zBr, true) := by
  unfold succR
  rw [if_pos (okB_iff.2 h), if_pos hs]

/-- A closed breaker behind i failures at 100. -/
def hurt (i : Nat) : Br := ⟨0, List.replicate i 100, 0⟩

theorem up_rep (i : Nat) : upB (List.replicate i 100) = true := by
  induction i with
  | zero => rfl
  | succ i ih =>
    rw [List.replicate_succ]
    exact up_cons ih (fun x hx => by rw [(List.mem_replicate.1 hx).2]; omega)

theorem hurt_ok {i : Nat} (h : i ≤ 20) : OkB (hurt i) :=
  ⟨(by show (0 : Int) ≤ 0; omega), (by show (0 : Int) ≤ 2; omega), (by show (0 : Int) ≤ 0; omega), (by show (0 : Int) ≤ 1000000000; omega), (by show (List.replicate i (100 : Int)).length ≤ 20; simp; exact h), fun _ => rfl, fun h' => absurd rfl h', fun x hx => by rw [(List.mem_replicate.1 hx).2]; rfl, up_rep i⟩

theorem hurt_kept {c : Nat → Int} (hok : okC c = true) (i : Nat) : keptF c (hurt i) 100 = List.replicate (i + 1) 100 := by
  have hw := (okC_iff.1 hok)
  unfold keptF hurt
  rw [List.filter_eq_self.2 (fun x hx => by rw [(List.mem_replicate.1 hx).2]; simp only [decide_eq_true_eq]; omega)]
  rw [List.replicate_succ']

theorem hurt_can {c : Nat → Int} (hok : okC c = true) {i : Nat} (h : i ≤ 20) : canF c (hurt i) 100 = true := by
  unfold canF
  rw [hok, okB_iff.2 (hurt_ok h)]
  have hl : (decide (0 < (hurt i).fails.length) && decide ((100 : Int) < (hurt i).fails.getD ((hurt i).fails.length - 1) 0)) = false := by
    show (decide (0 < (List.replicate i (100 : Int)).length) && decide ((100 : Int) < (List.replicate i (100 : Int)).getD ((List.replicate i (100 : Int)).length - 1) 0)) = false
    cases i with
    | zero => rfl
    | succ i => simp
  rw [hl]
  rfl

/-- The failure that opens it is the one at Trips. -/
theorem hurt_fail {c : Nat → Int} (hok : okC c = true) {i : Nat} (h : (i : Int) + 1 ≤ c 11) : failR c (hurt i) 100 = if (i : Int) + 1 = c 11 then (openR c 100, true) else (hurt (i + 1), true) := by
  have hw := (okC_iff.1 hok)
  unfold failR
  rw [if_pos (hurt_can hok (by omega)), if_neg (by show ¬ (0 : Int) = 2; omega), if_neg (by show ¬ (0 : Int) = 1; omega), hurt_kept hok, List.length_replicate]
  by_cases e : (i : Int) + 1 = c 11
  · rw [if_pos (by omega), if_pos e]
  · rw [if_neg (by omega), if_neg e]
    rfl

theorem open_at {c : Nat → Int} (hok : okC c = true) : mayD (openR c 100) (100 + c 12) = true ∧ mayD (openR c 100) (99 + c 12) = false := by
  have hw := (okC_iff.1 hok)
  have ht : lim (100 + c 12) = 100 + c 12 := by unfold lim; rw [if_neg (by omega), if_neg (by omega)]
  constructor
  · unfold mayD
    rw [okB_iff.2 (open_ok c 100), isT_true (by omega) (by omega)]
    show (true && true && ((1 : Int) == 0 || ((1 : Int) == 1 && decide (lim (100 + c 12) ≤ 100 + c 12)))) = true
    rw [ht]
    simp
  · unfold mayD
    show (_ && _ && ((1 : Int) == 0 || ((1 : Int) == 1 && decide (lim (100 + c 12) ≤ 99 + c 12)))) = false
    rw [ht, show decide (100 + c 12 ≤ 99 + c 12) = false by simp only [decide_eq_false_iff_not]; omega]
    simp
end Go.Proofs.Ytehdbdolhkflcaa.Bk

namespace Go.Proofs.Ytehdbdolhkflcaa.Bk
open Go.RowKit Go.Deep Go.ChangeShapes Go.WideShapes Base Rw

section
variable {H : Type} {enc : TypeId × Value → H} {W : World} {base : Nat} {spare : Nat → Bool} {held : Bool}

theorem open_fails {fuel : Nat} {cs : List Value} {x : DataW H × List MemPlace} (h : DataW.trod enc Try.prog W base spare held fuel 34 cs = some x) :
    ∃ (A : Option Addr) (n cap : Nat) (zs : List Int), cs = [.slice A n cap] ∧ zs.length = n ∧ n ≤ maxLen ∧ Ints W A zs := by
  rcases open_ints Try.underlying34 Try.underlying3 (by kernel_rfl) h with ⟨hcs, _⟩ | ⟨x, l, c, zs, hcs, _, hl, hm, hz, _, hcell, hwz⟩
  · exact ⟨none, 0, 0, [], hcs, rfl, by simp, Ints.nil _ _⟩
  · have hlz : l ≤ zs.length ∧ zs.length ≤ c := by rw [hz]; split <;> omega
    have hi : IsRow .i64 W (some x) l zs.length zs := .inr ⟨_, rfl, hlz.1, by omega, rfl, hcell, hwz⟩
    exact ⟨_, l, c, zs.take l, hcs, hi.len.2.2, hi.len.2.1, hi.ints⟩

set_option maxRecDepth 100000 in
theorem open_breaker {rr : Reach} {b0 : Nat} {v : Value} {d : DataW H} {p : List MemPlace} (hv : Value.okWide Try.prog W rr b0 54 v) (h : DataW.Trod enc Try.prog W base spare held 54 v d p) :
    ∃ (A : Option Addr) (n cap : Nat) (s u : Int) (zs : List Int), v = .agg #[.int .i64 s, .slice A n cap, .int .i64 u] ∧ zs.length = n ∧ n ≤ maxLen ∧ Ints W A zs := by
  have hC : Try.prog.cellsOf 54 = 3 := by kernel_rfl
  have hI : Try.prog.cellsOf 3 = 1 := by kernel_rfl
  have hS : Try.prog.cellsOf 34 = 1 := by kernel_rfl
  obtain ⟨cs, rfl, hsz⟩ := okWide_struct Try.underlying54 hv
  obtain ⟨cl⟩ := cs
  obtain ⟨fuel, hf⟩ := h
  obtain ⟨ys, k, _, _, _, hyl, hg⟩ := DataW.trod_struct Try.underlying54 hf
  match cl, hsz.trans hC, ys, hyl with
  | [q0, q1, q2], _, [y0, y1, y2], _ =>
    have g0 : DataW.trod enc Try.prog W base spare held k 3 [q0] = some y0 := by have := hg 0 _ rfl; simpa [hI, Value.cells] using this
    have g1 : DataW.trod enc Try.prog W base spare held k 34 [q1] = some y1 := by have := hg 1 _ rfl; simpa [hS, Value.cells] using this
    have g2 : DataW.trod enc Try.prog W base spare held k 3 [q2] = some y2 := by have := hg 2 _ rfl; simpa [hI, Value.cells] using this
    obtain ⟨n0, e0, _⟩ := DataW.trod_int Try.underlying3 g0
    obtain ⟨A, n, cap, zs, e1, hn, hm, hl⟩ := open_fails g1
    obtain ⟨n2, e2, _⟩ := DataW.trod_int Try.underlying3 g2
    simp at e0 e1 e2
    subst e0 e1 e2
    exact ⟨A, n, cap, n0, n2, zs, rfl, hn, hm, hl⟩
end

set_option maxRecDepth 100000 in
theorem szBreaker_any (A : Option Addr) (n cap : Nat) (s u left : Int) (w : World) (hn : n ≤ 9223372036854775807) (h0 : 0 ≤ left) (h1 : left ≤ 1048576) :
    Calls Try.prog 40 #[.agg #[.int .i64 s, .slice A n cap, .int .i64 u], .int .i64 left] w fun e w' => e = .returned (.int .i64 (if left < n then -1 else left - n)) ∧ Below w.heap.size w w' := by
  by_cases hl : left < n
  · have hl' : ¬ 0 ≤ left - n := by omega
    go_enter Try.func40, Try.ntmps40
    go_wp2
    go_ret
    exact ⟨ret_int (by simp), (Below.refl _ _).alloc (Nat.le_refl _) _⟩
  · go_enter Try.func40, Try.ntmps40
    go_wp2
    go_ret
    exact ⟨ret_int (by simp), (Below.refl _ _).alloc (Nat.le_refl _) _⟩

/-- What a call that hands back a new breaker leaves: its slice lies in new memory, old memory stands. -/
def NewB (w : World) (s : Int) (zs : List Int) (u : Int) (e : Ending) (w' : World) : Prop :=
  ∃ A cap, e = .returned (.agg #[.int .i64 s, .slice A zs.length cap, .int .i64 u]) ∧ IV w' w.heap.size w'.heap.size A zs ∧ Below w.heap.size w w'

theorem iv_set {w : World} {lo hi : Nat} {A : Option Addr} {zs : List Int} (h : IV w lo hi A zs) {p : Addr} (hp : p.block < lo ∨ hi ≤ p.block) (u : Value) : IV (w.setCell p u) lo hi A zs :=
  h.of_block fun g h1 h2 => Below.heap_setCell w p u g (by rintro rfl; omega)

set_option maxRecDepth 100000 in
set_option maxHeartbeats 400000 in
theorem toBreaker_any (A : Option Addr) (n cap : Nat) (zs : List Int) (s u : Int) (w : World) (hn : zs.length = n) (hm : n ≤ 1048576) (h : Ints w A zs) :
    Calls Try.prog 43 #[.agg #[.int .i64 s, .slice A n cap, .int .i64 u]] w (NewB w s zs u) := by
  have Hn := Lib.hid hn
  clear hn
  have HI := Lib.hid h
  clear h
  go_enter Try.func43, Try.ntmps43
  go_wp2_with fail
  refine (toIntS_iv A n cap zs _ Hn.out hm (HI.out.below ?_)).mono ?_
  · exact (((Below.refl _ _).alloc (Nat.le_refl _) _).alloc (by simp) _).alloc (by simp <;> omega) _
  rintro e w1 ⟨rfl, hv, hb⟩
  simp only [World.size_alloc] at hv
  have Hv := Lib.hid hv
  clear hv
  obtain ⟨hc, hf⟩ := bcell hb
  have hz : w.heap.size + 1 + 1 < w1.heap.size := by have := hb.size; simp at this; omega
  have Hb := Lib.hid hb
  clear hb
  go_wp2
  refine bodyPost_ret (v := .agg #[.int .i64 s, .slice (some ⟨w.heap.size + 1 + 1 + 1, 0, none⟩) n n, .int .i64 u]) (by simp [results, Try.results43, go_sem, hc]) rfl ⟨_, n, by rw [Hn.out], ?_, ?_⟩
  · refine IV.wide (lo := w.heap.size + 1 + 1 + 1) (hi := w1.heap.size) ?_ (by omega) (by simp [World.setCell])
    iterate 5 refine iv_set ?_ (by simp <;> omega) _
    exact Hv.out
  · iterate 5 refine Below.setCell ?_ (by simp <;> omega) _
    exact bel_trans ((((Below.refl _ _).alloc (Nat.le_refl _) _).alloc (by simp) _).alloc (by simp; omega) _) Hb.out

set_option maxRecDepth 100000 in
set_option maxHeartbeats 400000 in
theorem eqBreaker_same (A1 A2 : Option Addr) (n c1 c2 : Nat) (zs : List Int) (s u : Int) (w : World) (hn : zs.length = n) (hm : n ≤ 1048576) (h1 : Ints w A1 zs) (h2 : Ints w A2 zs) :
    Calls Try.prog 31 #[.agg #[.int .i64 s, .slice A1 n c1, .int .i64 u], .agg #[.int .i64 s, .slice A2 n c2, .int .i64 u]] w fun e w' => e = .returned (.bool true) ∧ Below w.heap.size w w' := by
  have Hn := Lib.hid hn
  clear hn
  have H1 := Lib.hid h1
  have H2 := Lib.hid h2
  clear h1 h2
  have ha : ∀ o o', Below w.heap.size w ((w.alloc o).alloc o') := fun o o' => ((Below.refl _ _).alloc (Nat.le_refl _) _).alloc (by simp) _
  have Ha := Lib.hid ha
  clear ha
  go_enter Try.func31, Try.ntmps31
  go_wp2_with fail
  refine (eqInts_same A1 A2 n c1 c2 zs _ Hn.out hm (H1.out.below (Ha.out _ _)) (H2.out.below (Ha.out _ _))).mono ?_
  rintro e w1 ⟨rfl, hb⟩
  obtain ⟨hc, hf⟩ := bcell hb
  have Hb := Lib.hid hb
  clear hb
  go_wp2
  go_ret
  exact ⟨rfl, bel_trans (Ha.out _ _) Hb.out⟩

set_option maxRecDepth 100000 in
set_option maxHeartbeats 400000 in
theorem markBreaker_any (A : Option Addr) (n cap lo hi : Nat) (k s u : Int) (zs : List Int) (w : World) (hn : zs.length = n) (hm : n ≤ 1048576) (hk0 : 0 ≤ k) (hk1 : k ≤ 1099511627776) (h : IV w lo hi A zs) (hs : hi ≤ w.heap.size) :
    Calls Try.prog 34 #[.agg #[.int .i64 s, .slice A n cap, .int .i64 u], .int .i64 k] w fun e w' => e = .returned (.int .i64 (k + n)) ∧ IV w' lo hi A (mkI k n) ∧ Turns lo hi w w' := by
  have Hn := Lib.hid hn
  clear hn
  have H := Lib.hid h
  clear h
  go_enter Try.func34, Try.ntmps34
  go_wp2_with fail
  refine (markInts_any A n cap lo hi k zs _ Hn.out hm hk0 hk1 (H.out.below (bel_alloc _ _) hs)).mono ?_
  rintro e w1 ⟨rfl, hv, ht⟩
  have Hv := Lib.hid hv
  have Ht := Lib.hid ht
  clear hv ht
  go_wp2
  go_ret
  exact ⟨rfl, Hv.out, (Turns.of_below (bel_alloc _ _)).trans Ht.out⟩

set_option maxRecDepth 100000 in
set_option maxHeartbeats 400000 in
theorem heldBreaker_any (A : Option Addr) (n cap lo hi : Nat) (k s u : Int) (w : World) (hm : n ≤ 1048576) (hk0 : 0 ≤ k) (hk1 : k ≤ 1099511627776) (h : IV w lo hi A (mkI k n)) (hs : hi ≤ w.heap.size) :
    Calls Try.prog 37 #[.agg #[.int .i64 s, .slice A n cap, .int .i64 u], .int .i64 k] w fun e w' => e = .returned (.int .i64 (k + n)) ∧ Below w.heap.size w w' := by
  have H := Lib.hid h
  clear h
  have hk2 : 0 ≤ k + (n : Int) := by omega
  go_enter Try.func37, Try.ntmps37
  go_wp2_with fail
  refine (heldInts_any A n cap lo hi k _ hm hk0 hk1 (H.out.below (bel_alloc _ _) hs)).mono ?_
  rintro e w1 ⟨rfl, rfl⟩
  go_wp2
  go_ret
  exact ⟨rfl, bel_alloc _ _⟩

/-- The law's own breaker in a box; the program's. -/
def LB (w : World) (g : Nat) (v0 v1 v2 : Value) : Prop := w.heap[g]? = some (.cells #[v0, v1, v2] 54 (0, 0))
def PB (w : World) (g : Nat) (v0 v1 v2 : Value) : Prop := w.heap[g]? = some (.cells #[v0, v1, v2] 36 (0, 0))
theorem LB.cells {w : World} {g : Nat} {v0 v1 v2 : Value} (h : LB w g v0 v1 v2) : w.cell? ⟨g, 0, none⟩ = some v0 ∧ w.cell? ⟨g, 1, none⟩ = some v1 ∧ w.cell? ⟨g, 2, none⟩ = some v2 := by
  have hc : ∀ o, w.cell? ⟨g, o, none⟩ = #[v0, v1, v2][o]? := fun o => cell_of_row _ _ o _ _ (0, 0) h
  refine ⟨?_, ?_, ?_⟩ <;> (rw [hc]; rfl)
theorem PB.cells {w : World} {g : Nat} {v0 v1 v2 : Value} (h : PB w g v0 v1 v2) : w.cell? ⟨g, 0, none⟩ = some v0 ∧ w.cell? ⟨g, 1, none⟩ = some v1 ∧ w.cell? ⟨g, 2, none⟩ = some v2 ∧ ∀ o, w.frozen? ⟨g, o, none⟩ = false := by
  have hc : ∀ o, w.cell? ⟨g, o, none⟩ = #[v0, v1, v2][o]? := fun o => cell_of_row _ _ o _ _ (0, 0) h
  refine ⟨?_, ?_, ?_, fun o => by unfold PB at h; simp [World.frozen?, h]⟩ <;> (rw [hc]; rfl)
theorem LB.lt {w : World} {g : Nat} {v0 v1 v2 : Value} (h : LB w g v0 v1 v2) : g < w.heap.size := (Array.getElem?_eq_some_iff.1 h).1
theorem PB.lt {w : World} {g : Nat} {v0 v1 v2 : Value} (h : PB w g v0 v1 v2) : g < w.heap.size := (Array.getElem?_eq_some_iff.1 h).1
theorem LB.below {w w' : World} {g B : Nat} {v0 v1 v2 : Value} (h : LB w g v0 v1 v2) (hb : Below B w w') (hB : g < B) : LB w' g v0 v1 v2 := (hb.block g hB).trans h
theorem PB.below {w w' : World} {g B : Nat} {v0 v1 v2 : Value} (h : PB w g v0 v1 v2) (hb : Below B w w') (hB : g < B) : PB w' g v0 v1 v2 := (hb.block g hB).trans h
end Go.Proofs.Ytehdbdolhkflcaa.Bk

namespace Go.Proofs.Ytehdbdolhkflcaa.Bk
open Go.RowKit Go.Deep Base Rw Tick

theorem quiet {P : Program} {f : FuncId} {args : Array Value} {w : World} {n : Nat} {v : Value}
    (h : Calls P f args (w.drewN n) fun e w' => e = .returned v ∧ w.drewN n = w') : Calls P f args (w.drewN n) fun e w'' => e = .returned v ∧ ∃ m, w'' = w.drewN m :=
  h.mono fun _ _ ⟨he, hm⟩ => ⟨he, n, hm.symm⟩
theorem same {P : Program} {f : FuncId} {args : Array Value} {w : World} {v : Value} (h : Calls P f args w fun e w' => e = .returned v ∧ w = w') : Calls P f args w fun e w' => e = .returned v ∧ w' = w :=
  h.mono fun _ _ ⟨he, hm⟩ => ⟨he, hm.symm⟩
theorem below_drewN {B : Nat} {a b : World} (h : Below B a b) (n : Nat) : Below B a (b.drewN n) := ⟨h.os, h.tape, h.output, h.size, h.block⟩

theorem up_drop {zs : List Int} {j : Nat} (h : j + 1 < zs.length) : upB (zs.drop j) = (decide (zs.getD j 0 ≤ zs.getD (j + 1) 0) && upB (zs.drop (j + 1))) := by
  have e1 : zs.drop j = zs.getD j 0 :: zs.drop (j + 1) := by rw [List.drop_eq_getElem_cons (by omega)]; simp [List.getD_eq_getElem?_getD, show j < zs.length by omega]
  have e2 : zs.drop (j + 1) = zs.getD (j + 1) 0 :: zs.drop (j + 2) := by rw [List.drop_eq_getElem_cons h]; simp [List.getD_eq_getElem?_getD, h]
  rw [e1, e2]
  rfl
theorem up_dropn {zs : List Int} (h : upB zs = true) : ∀ j, upB (zs.drop j) = true := by
  intro j
  induction j generalizing zs with
  | zero => simpa using h
  | succ j ih =>
    cases zs with
    | nil => rfl
    | cons a l => rw [List.drop_succ_cons]; exact ih (up_tail h)
theorem up_bad {zs : List Int} {j : Nat} (h : j + 1 < zs.length) (hb : zs.getD (j + 1) 0 < zs.getD j 0) : upB zs = false := by
  cases h' : upB zs with
  | false => rfl
  | true =>
    have := up_dropn h' j
    rw [up_drop h, decide_eq_false (by omega)] at this
    exact this.symm
theorem up_short {zs : List Int} (h : zs.length ≤ 1) : upB zs = true := by
  match zs, h with
  | [], _ => rfl
  | [_], _ => rfl

theorem okB_closed (zs : List Int) (u : Int) : okB ⟨0, zs, u⟩ = (decide (zs.length ≤ 20) && zs.all isT && upB zs && (u == 0)) := by
  by_cases h : u = 0
  · subst h; simp [okB, inB, isT]
  · have e : (u == 0) = false := by simpa using h
    simp [okB, bne, e]
theorem okB_other {s : Int} (zs : List Int) (u : Int) (hs : s = 1 ∨ s = 2) : okB ⟨s, zs, u⟩ = (decide (zs.length = 0) && isT u) := by
  cases zs with
  | nil => rcases hs with rfl | rfl <;> simp [okB, inB, upB]
  | cons a l => rcases hs with rfl | rfl <;> simp [okB]
theorem okB_no {s : Int} (zs : List Int) (u : Int) (hs : s < 0 ∨ 2 < s) : okB ⟨s, zs, u⟩ = false := by
  simp only [okB, inB_false hs, Bool.false_and]

set_option maxRecDepth 100000 in
theorem less_any (a b : Int) (w : World) : Calls Try.prog 120 #[.int .i64 a, .int .i64 b] w fun e w' => e = .returned (.bool (decide (a < b))) ∧ w = w' := by
  have haa : (a != a) = false := by simp
  go_enter Try.func120, Try.ntmps120
  go_wp2
  go_ret
  exact ⟨rfl, rfl⟩

set_option maxRecDepth 100000 in
set_option maxHeartbeats 1000000 in
theorem sorted_any (A : Option Addr) (n cap : Nat) (zs : List Int) (w : World) (hn : zs.length = n) (hm : n ≤ 1048576) (h : Ints w A zs) :
    Calls Try.prog 98 #[.slice A n cap] w fun e w' => e = .returned (.bool (upB zs)) ∧ Below w.heap.size w w' := by
  have HI := Lib.hid h
  clear h
  have Hn := Lib.hid hn
  clear hn
  go_enter Try.func98, Try.ntmps98
  go_wp2
  go_loopw [3] (fun i wr => ∃ k : Nat, k ≤ n ∧ i = .int .i64 ((k : Int) - 1) ∧ upB (zs.drop (k - 1)) = true ∧ Below w.heap.size w wr) (fun i _ => (intOf i + 1).toNat)
  case atStart => exact ⟨n, Nat.le_refl _, rfl, up_short (by simp; have := Hn.out; omega), Below.refl _ _⟩
  case round =>
    obtain ⟨k, hk, rfl, hu, hr⟩ := hrel
    have Hu := Lib.hid hu
    have Hr := Lib.hid hr
    clear hu hr
    by_cases hlt : 2 ≤ k
    · obtain ⟨j, rfl⟩ : ∃ j, k = j + 2 := ⟨k - 2, by omega⟩
      obtain ⟨b, off, rfl, hc⟩ := HI.out.below Hr.out (by have := Hn.out; omega)
      have c0 := hc j (by have := Hn.out; omega)
      have c1 := hc (j + 1) (by have := Hn.out; omega)
      clear hc
      have e1 : (((j + 2 : Nat) : Int) - 1) = ((j + 1 : Nat) : Int) := by omega
      rw [e1]
      have w1 : IntKind.i64.wrap (((j + 1 : Nat) : Int) - 1) = (j : Int) := by rw [IntWalk.i64_in _ (by omega)]; omega
      have hg : (0 : Int) < ((j + 1 : Nat) : Int) := by omega
      obtain ⟨m, hm1⟩ : ∃ m, j + 1 = m := ⟨_, rfl⟩
      have Hd := Lib.hid (up_drop (zs := zs) (j := j) (by have := Hn.out; omega))
      have Hb := Lib.hid (up_bad (zs := zs) (j := j) (by have := Hn.out; omega))
      rw [hm1] at c1 w1 hg Hd Hb ⊢
      generalize zs.getD j 0 = x at c0 Hd Hb
      generalize zs.getD m 0 = y at c1 Hd Hb
      have hm2 : (m : Int) < n := by omega
      have hj2 : (j : Int) < n := by omega
      have HL := Lib.hid (fun W => less_any y x W)
      cases hyx : decide (y < x)
      · have HL' : Hid (∀ W, Calls Try.prog 120 #[.int .i64 y, .int .i64 x] W fun e w' => e = .returned (.bool false) ∧ W = w') := fun W => by have := HL.out W; rw [hyx] at this; exact this
        clear HL
        have Hyx : Hid (x ≤ y) := by have := of_decide_eq_false hyx; show x ≤ y; omega
        clear hyx
        go_wp2_with fail
        go_quiet ((go_at_call 120; exact quiet (HL'.out _)))
        go_wp2
        go_roundw
        case rel =>
          refine ⟨j + 1, by omega, by rw [hm1]; congr 1; omega, ?_, below_drewN Hr.out _⟩
          rw [show j + 1 - 1 = j from rfl, Hd.out, decide_eq_true Hyx.out]
          have := Hu.out
          rw [show j + 2 - 1 = m from by omega] at this
          rw [this]; rfl
        case measure => simp [intOf]; omega
      · have HL' : Hid (∀ W, Calls Try.prog 120 #[.int .i64 y, .int .i64 x] W fun e w' => e = .returned (.bool true) ∧ W = w') := fun W => by have := HL.out W; rw [hyx] at this; exact this
        clear HL
        have Hyx : Hid (y < x) := by show y < x; exact of_decide_eq_true hyx
        clear hyx
        go_wp2_with fail
        go_quiet ((go_at_call 120; exact quiet (HL'.out _)))
        go_wp2
        go_ret
        exact ⟨by rw [Hb.out Hyx.out]; rfl, below_drewN Hr.out _⟩
    · have hg : ¬ (0 : Int) < (k : Int) - 1 := by omega
      go_wp2
      go_ret
      refine ⟨ret_bool ?_, Hr.out⟩
      have := Hu.out
      rw [show k - 1 = 0 from by omega] at this
      simpa using this.symm

set_option maxRecDepth 100000 in
set_option maxHeartbeats 1000000 in
theorem implBreakerOk_any (A : Option Addr) (n cap : Nat) (s u : Int) (zs : List Int) (w : World) (hn : zs.length = n) (hm : n ≤ 1048576) (h : Ints w A zs) :
    Calls Try.prog 59 #[.agg #[.int .i64 s, .slice A n cap, .int .i64 u]] w fun e w' => e = .returned (.bool (okB ⟨s, zs, u⟩)) ∧ Below w.heap.size w w' := by
  have HI := Lib.hid h
  have Hn := Lib.hid hn
  clear h hn
  by_cases h0 : s = 0
  · subst h0
    have Hok := Lib.hid (okB_closed zs u)
    by_cases h20 : n ≤ 20
    · go_enter Try.func59, Try.ntmps59
      go_wp2_with fail
      refine (allTicks_any A n cap zs _ Hn.out (by unfold maxLen; omega) (HI.out.below (bel_alloc _ _))).mono ?_
      rintro e w1 ⟨rfl, rfl⟩
      cases ha : zs.all isT
      · have Ha := Lib.hid ha
        clear ha
        go_wp2
        go_ret
        exact ⟨ret_bool (by rw [Hok.out, Ha.out]; simp), bel_alloc _ _⟩
      · have Ha := Lib.hid ha
        clear ha
        go_wp2_with fail
        refine (sorted_any A n cap zs _ Hn.out hm (HI.out.below (bel_alloc _ _))).mono ?_
        rintro e w2 ⟨rfl, b2⟩
        have B2 := Lib.hid (bel_trans (bel_alloc _ _) b2)
        obtain ⟨hc, hf⟩ := bcell b2
        clear b2
        cases hu : upB zs
        · have Hu := Lib.hid hu
          clear hu
          go_wp2
          go_ret
          exact ⟨ret_bool (by rw [Hok.out, Hu.out]; simp), B2.out⟩
        · have Hu := Lib.hid hu
          clear hu
          have hlt : w.heap.size < (w.alloc (.cells #[.int .i64 0, .slice A n cap, .int .i64 u] 36)).heap.size := by simp
          go_wp2
          go_ret
          exact ⟨ret_bool (by rw [Hok.out, Ha.out, Hu.out, Hn.out, decide_eq_true h20]; rfl), B2.out⟩
    · go_enter Try.func59, Try.ntmps59
      go_wp2
      go_ret
      exact ⟨ret_bool (by rw [Hok.out, Hn.out, decide_eq_false h20]; simp), bel_alloc _ _⟩
  by_cases h12 : s = 1 ∨ s = 2
  · have Hok := Lib.hid (okB_other zs u h12)
    by_cases hz : n = 0
    · subst hz
      have hT := implTickOk_any u
      rcases h12 with rfl | rfl <;>
      · go_enter Try.func59, Try.ntmps59
        go_wp2_with fail
        refine (hT _).mono ?_
        rintro e w1 ⟨rfl, b1⟩
        have B1 := Lib.hid (bel_trans (bel_alloc _ _) b1)
        clear b1
        go_wp2
        go_ret
        exact ⟨ret_bool (by rw [Hok.out, Hn.out]; rfl), B1.out⟩
    · have hz' : ((n : Int) == 0) = false := by simpa using hz
      rcases h12 with rfl | rfl <;>
      · go_enter Try.func59, Try.ntmps59
        go_wp2
        go_ret
        exact ⟨ret_bool (by rw [Hok.out, Hn.out, decide_eq_false hz]; rfl), bel_alloc _ _⟩
  · have Hok := Lib.hid (okB_no (s := s) zs u (by omega))
    have e0 : (s == 0) = false := by simpa using h0
    have e1 : (s == 1) = false := by simp; omega
    have e2 : (s == 2) = false := by simp; omega
    go_enter Try.func59, Try.ntmps59
    go_wp2
    go_ret
    exact ⟨ret_bool Hok.out.symm, bel_alloc _ _⟩
end Go.Proofs.Ytehdbdolhkflcaa.Bk

namespace Go.Proofs.Ytehdbdolhkflcaa.Bk
open Go.RowKit Go.Deep Base Rw Tick

theorem okB_false {b : Br} (h : ¬ OkB b) : okB b = false := by
  cases h' : okB b with
  | false => rfl
  | true => exact absurd (okB_iff.1 h') h

theorem up_of : ∀ {zs : List Int}, (∀ i, i + 1 < zs.length → zs.getD i 0 ≤ zs.getD (i + 1) 0) → upB zs = true := by
  intro zs
  induction zs with
  | nil => intro _; rfl
  | cons a l ih =>
    intro h
    have h2 := ih (fun i hi => by simpa using h (i + 1) (by simpa using hi))
    cases l with
    | nil => rfl
    | cons b l =>
      unfold upB
      have := h 0 (by simp)
      simp at this
      simp [this, h2]
theorem up_at {zs : List Int} (h : upB zs = true) {i : Nat} (hi : i + 1 < zs.length) : zs.getD i 0 ≤ zs.getD (i + 1) 0 := by
  have := up_dropn h i
  rw [up_drop hi] at this
  simp only [Bool.and_eq_true, decide_eq_true_eq] at this
  exact this.1

/-- What the reference has found right when the first k failures have been looked at. -/
structure Seen (zs : List Int) (k : Nat) : Prop where
  each : ∀ i, i < k → isT (zs.getD i 0) = true
  up : ∀ i, i + 1 < k → zs.getD i 0 ≤ zs.getD (i + 1) 0
theorem Seen.zero (zs : List Int) : Seen zs 0 := ⟨fun _ h => absurd h (by omega), fun _ h => absurd h (by omega)⟩
theorem Seen.step {zs : List Int} {k : Nat} (h : Seen zs k) (h1 : isT (zs.getD k 0) = true) (h2 : ∀ j, k = j + 1 → zs.getD j 0 ≤ zs.getD k 0) : Seen zs (k + 1) := by
  refine ⟨fun i hi => ?_, fun i hi => ?_⟩
  · by_cases e : i = k
    · subst e; exact h1
    · exact h.each i (by omega)
  · by_cases e : i + 1 = k
    · subst e; exact h2 i rfl
    · exact h.up i (by omega)
theorem Seen.all {zs : List Int} {k : Nat} (h : Seen zs k) (hk : k = zs.length) : (∀ x ∈ zs, isT x = true) ∧ upB zs = true := by
  subst hk
  refine ⟨fun x hx => ?_, up_of h.up⟩
  obtain ⟨i, hi, rfl⟩ := List.getElem_of_mem hx
  have := h.each i hi
  simpa [List.getD_eq_getElem?_getD, hi] using this

set_option maxRecDepth 100000 in
set_option maxHeartbeats 2000000 in
theorem specBreakerOk_any (A : Option Addr) (n cap : Nat) (s u : Int) (zs : List Int) (w : World) (hn : zs.length = n) (hm : n ≤ 1048576) (h : Ints w A zs) :
    Calls Try.prog 53 #[.agg #[.int .i64 s, .slice A n cap, .int .i64 u]] w fun e w' => e = .returned (.bool (okB ⟨s, zs, u⟩)) ∧ Below w.heap.size w w' := by
  have HI := Lib.hid h
  have Hn := Lib.hid hn
  clear h hn
  have HF := Lib.hid (okB_false (b := ⟨s, zs, u⟩))
  have HT := Lib.hid ((okB_iff (b := ⟨s, zs, u⟩)).2)
  go_enter Try.func53, Try.ntmps53
  go_wp2_with fail
  refine (in_any s 0 2 _).mono ?_
  rintro e w1 ⟨rfl, rfl⟩
  cases hs : inB s 0 2
  · have Ho := Lib.hid (HF.out (fun v => by rw [inB_true v.s0 v.s1] at hs; cases hs))
    clear hs
    go_wp2
    go_ret
    exact ⟨by rw [Ho.out]; rfl, bel_alloc _ _⟩
  have hs' := inB_iff.1 hs
  have Hs := Lib.hid hs'
  clear hs hs'
  go_wp2_with fail
  refine (specTickOk_any u _).mono ?_
  rintro e w1 ⟨rfl, rfl⟩
  cases hu : isT u
  · have Ho := Lib.hid (HF.out (fun v => by rw [isT_true v.t0 v.t1] at hu; cases hu))
    clear hu
    go_wp2
    go_ret
    exact ⟨by rw [Ho.out]; rfl, bel_alloc _ _⟩
  have Hu := Lib.hid (isT_iff.1 hu)
  clear hu
  by_cases h20 : 20 < n
  · have Ho := Lib.hid (HF.out (fun v => by have := v.few; dsimp only at this; have := Hn.out; omega))
    go_wp2
    go_ret
    exact ⟨by rw [Ho.out]; rfl, bel_alloc _ _⟩
  have h20' : ¬ (20 : Int) < n := by omega
  by_cases hb : s = 0 ∧ u ≠ 0
  · obtain ⟨rfl, hu0⟩ := hb
    have Ho := Lib.hid (HF.out (fun v => hu0 (v.shut rfl)))
    have e0 : (u != 0) = true := by simpa using hu0
    clear hu0
    go_wp2
    go_ret
    exact ⟨by rw [Ho.out]; rfl, bel_alloc _ _⟩
  by_cases hb2 : s ≠ 0 ∧ 0 < n
  · obtain ⟨hs0, hn0⟩ := hb2
    have Ho := Lib.hid (HF.out (fun v => by have := v.none hs0; dsimp only at this; rw [this] at Hn; have := Hn.out; simp at this; omega))
    have e0 : (s == 0) = false := by simpa using hs0
    have e1 : (s != 0) = true := by simpa using hs0
    clear hs0 hb
    go_wp2
    go_ret
    exact ⟨by rw [Ho.out]; rfl, bel_alloc _ _⟩
  have hc : (s = 0 ∧ u = 0) ∨ (s ≠ 0 ∧ n = 0) := by omega
  clear hb hb2
  rcases hc with ⟨rfl, rfl⟩ | ⟨hs0, rfl⟩
  · have HW : Hid (∀ wr, Below (w.heap.size + 1) (w.alloc (.cells #[.int .i64 0, .slice A n cap, .int .i64 0] 36)) wr → PB wr w.heap.size (.int .i64 0) (.slice A n cap) (.int .i64 0) ∧ Ints wr A zs ∧ Below w.heap.size w wr) := fun wr hb =>
      ⟨(hb.block _ (by omega)).trans (heap_alloc_new w _), HI.out.below ((bel_alloc w _).trans (hb.mono (by omega))), (bel_alloc w _).trans (hb.mono (by omega))⟩
    go_wp2
    go_loopw [3] (fun i wr => ∃ k : Nat, k ≤ n ∧ i = .int .i64 k ∧ Below (w.heap.size + 1) (w.alloc (.cells #[.int .i64 0, .slice A n cap, .int .i64 0] 36)) wr ∧ Seen zs k) (fun i _ => n - (intOf i).toNat)
    case atStart => exact ⟨0, Nat.zero_le _, rfl, Below.refl _ _, Seen.zero zs⟩
    case round =>
      obtain ⟨k, hk, rfl, hr, hse⟩ := hrel
      have Hse := Lib.hid hse
      have Hr := Lib.hid hr
      clear hse hr
      obtain ⟨hbx, hsv, hbw⟩ := HW.out _ Hr.out
      obtain ⟨x0, x1, x2, xf⟩ := hbx.cells
      have Hsv := Lib.hid hsv
      have Hbw := Lib.hid hbw
      clear hbx hsv hbw xf
      by_cases hlt : k < n
      · obtain ⟨b, off, rfl, hc⟩ := Hsv.out (by have := Hn.out; omega)
        have c0 := hc k (by have := Hn.out; omega)
        have HC := Lib.hid hc
        clear hc
        obtain ⟨z, hz⟩ : ∃ z, zs.getD k 0 = z := ⟨_, rfl⟩
        rw [hz] at c0
        have Hz := Lib.hid hz
        clear hz
        have hk0 : (0 : Int) ≤ (k : Int) := by omega
        have hk1 : (k : Int) < (n : Int) := by omega
        cases h1 : isT z
        · have HT1 : Hid (∀ W, Calls Try.prog 61 #[.int .i64 z] W fun e w' => e = .returned (.bool false) ∧ W = w') := fun W => by have := specTickOk_any z W; rw [h1] at this; exact this
          have Ho := Lib.hid (HF.out (fun v => by have := v.ticks (zs.getD k 0) (by rw [List.getD_eq_getElem?_getD, List.getElem?_eq_getElem (by have := Hn.out; omega)]; simp); rw [Hz.out, h1] at this; cases this))
          clear h1
          go_wp2_with fail
          go_quiet ((go_at_call 61; exact quiet (HT1.out _)))
          go_wp2
          go_ret
          exact ⟨by rw [Ho.out]; rfl, below_drewN Hbw.out _⟩
        have HT1 : Hid (∀ W, Calls Try.prog 61 #[.int .i64 z] W fun e w' => e = .returned (.bool true) ∧ W = w') := fun W => by have := specTickOk_any z W; rw [h1] at this; exact this
        have H1 := Lib.hid h1
        clear h1
        by_cases hk00 : k = 0
        · have hkd : decide (0 < (k : Int)) = false := by simp; omega
          have hkd2 : decide (0 < k) = false := by simp; omega
          have hkn : ¬ 0 < k := by omega
          have hkn2 : ¬ (0 : Int) < (k : Int) := by omega
          have Hk0 := Lib.hid hk00
          clear hk00
          go_wp2_with fail
          go_quiet ((go_at_call 61; exact quiet (HT1.out _)))
          go_wp2
          go_roundw
          case rel => exact ⟨k + 1, by omega, by go_num, below_drewN Hr.out _, Hse.out.step (by rw [Hz.out]; exact H1.out) (fun j hj => absurd hj (by have := Hk0.out; omega))⟩
          case measure => simp [intOf]; omega
        · obtain ⟨j, hj⟩ : ∃ j, k = j + 1 := ⟨k - 1, by omega⟩
          have c1 := HC.out j (by have := Hn.out; omega)
          obtain ⟨y, hy⟩ : ∃ y, zs.getD j 0 = y := ⟨_, rfl⟩
          rw [hy] at c1
          have Hy := Lib.hid hy
          clear hy
          have hw1 : IntKind.i64.wrap ((k : Int) - 1) = (j : Int) := by rw [IntWalk.i64_in _ (by omega)]; omega
          have hj0 : (0 : Int) ≤ (j : Int) := by omega
          have hj1 : (j : Int) < (n : Int) := by omega
          have hkd : decide (0 < (k : Int)) = true := by simp; omega
          have hkp : 0 < k := by omega
          have Hj := Lib.hid hj
          clear hk00 hj
          by_cases hyz : z < y
          · have hd : decide (z < y) = true := by simpa using hyz
            have Ho := Lib.hid (HF.out (fun v => by have := up_at v.up (i := j) (by have := Hn.out; have := Hj.out; dsimp only; omega); dsimp only at this; rw [← Hj.out, Hy.out, Hz.out] at this; omega))
            clear hyz
            go_wp2_with fail
            go_quiet ((go_at_call 61; exact quiet (HT1.out _)))
            go_wp2
            go_ret
            exact ⟨by rw [Ho.out]; rfl, below_drewN Hbw.out _⟩
          · have hd : decide (z < y) = false := by simpa using hyz
            have Hyz : Hid (y ≤ z) := by show y ≤ z; omega
            clear hyz
            go_wp2_with fail
            go_quiet ((go_at_call 61; exact quiet (HT1.out _)))
            go_wp2
            go_roundw
            case rel =>
              refine ⟨k + 1, by omega, by go_num, below_drewN Hr.out _, Hse.out.step (by rw [Hz.out]; exact H1.out) (fun i hi => ?_)⟩
              obtain rfl : i = j := by have := Hj.out; omega
              rw [Hy.out, Hz.out]
              exact Hyz.out
            case measure => simp [intOf]; omega
      · obtain rfl : k = n := by omega
        have Ho := Lib.hid (HT.out (by obtain ⟨ha, hu2⟩ := Hse.out.all Hn.out.symm; exact ⟨Hs.out.1, Hs.out.2, Hu.out.1, Hu.out.2, by have := Hn.out; dsimp only; omega, fun _ => rfl, fun h => absurd rfl h, ha, hu2⟩))
        go_wp2
        go_ret
        exact ⟨by rw [Ho.out]; rfl, Hbw.out⟩
  · have e0 : (s == 0) = false := by simpa using hs0
    have e1 : (s != 0) = true := by simpa using hs0
    have Ho := Lib.hid (HT.out (by
      have hz : zs = [] := List.eq_nil_of_length_eq_zero Hn.out
      subst hz
      exact ⟨Hs.out.1, Hs.out.2, Hu.out.1, Hu.out.2, by simp, fun h => absurd h hs0, fun _ => rfl, fun x hx => (by cases hx), rfl⟩))
    clear hs0
    go_wp2
    go_loop [3] (fun i => i = .int .i64 0) (fun _ => 0)
    case atStart => rfl
    case round =>
      subst hrel
      go_wp2
      go_ret
      exact ⟨by rw [Ho.out]; rfl, bel_alloc _ _⟩
end Go.Proofs.Ytehdbdolhkflcaa.Bk

namespace Go.Proofs.Ytehdbdolhkflcaa.Bk
open Go.RowKit Go.Deep Base Rw Tick

/-- Whether a dial may begin now, of a valid breaker. -/
def fitD (s u now : Int) : Bool := isT now && (s == 0 || (s == 1 && decide (u ≤ now)))
theorem mayD_eq (s u now : Int) (zs : List Int) : mayD ⟨s, zs, u⟩ now = (okB ⟨s, zs, u⟩ && fitD s u now) := by
  unfold mayD fitD
  rw [Bool.and_assoc]


end Go.Proofs.Ytehdbdolhkflcaa.Bk
