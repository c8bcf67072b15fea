/- The binary format without the program: groups of a number, events, logs; decoding inverts encoding. -/
import Derived.Test.YtcgmeindiaaokaaDoorBase
namespace Go.Proofs.YtcgmeindiaaokaaDoor.By

/-- The groups of x, at most f + 1 of them. -/
def putF : Nat → Int → List Int
  | 0, x => [x]
  | f + 1, x => if x < 128 then [x] else (x % 128 + 128) :: putF f (x / 128)
def tick (x : Int) : Bool := decide (0 ≤ x) && decide (x ≤ 1000000000)
def putN (x : Int) : List Int := if tick x = true then putF 4 x else []
/-- The number that groups mean. -/
def val : List Int → Int
  | [] => 0
  | g :: r => g % 128 + 128 * val r
/-- The groups up to the first that no other follows, at most f of them. -/
def grp : Nat → List Int → Option (List Int)
  | 0, _ => none
  | _ + 1, [] => none
  | f + 1, g :: r => if g < 128 then some [g] else (grp f r).map (g :: ·)

theorem tick_iff (x : Int) : tick x = true ↔ 0 ≤ x ∧ x ≤ 1000000000 := by simp [tick]
theorem putF_ne (f : Nat) (x : Int) : putF f x ≠ [] := by
  cases f with
  | zero => simp [putF]
  | succ f => unfold putF; split <;> simp
theorem putF_len : ∀ (f : Nat) (x : Int), 1 ≤ (putF f x).length ∧ (putF f x).length ≤ f + 1
  | 0, x => by simp [putF]
  | f + 1, x => by
    unfold putF
    split
    · simp
    · have := putF_len f (x / 128)
      simp; omega
theorem putN_len (x : Int) : (putN x).length ≤ 5 := by
  unfold putN
  split
  · have := putF_len 4 x; omega
  · simp
theorem putN_yes {x : Int} (h : tick x = true) : putN x = putF 4 x := by simp [putN, h]
theorem putN_no {x : Int} (h : tick x = false) : putN x = [] := by simp [putN, h]
theorem putN_pos {x : Int} (h : tick x = true) : 1 ≤ (putN x).length := by rw [putN_yes h]; exact (putF_len 4 x).1
theorem putN_nil {x : Int} : putN x = [] ↔ tick x = false := by
  cases h : tick x
  · simp [putN_no h]
  · simp [putN_yes h, putF_ne]

/-- f groups hold numbers below this. -/
def room : Nat → Int
  | 0 => 1
  | f + 1 => 128 * room f
theorem room_pos : ∀ f, 1 ≤ room f
  | 0 => by simp [room]
  | f + 1 => by have := room_pos f; simp [room]; omega
theorem div_room {f : Nat} {x : Int} (h0 : 0 ≤ x) (h1 : x < room (f + 1)) : 0 ≤ x / 128 ∧ x / 128 < room f := by
  simp [room] at h1; omega
theorem tick_room {x : Int} (h : tick x = true) : 0 ≤ x ∧ x < room 5 := by
  have := (tick_iff x).1 h
  simp [room]; omega

theorem putF_bytes : ∀ (f : Nat) (x : Int), 0 ≤ x → x < room (f + 1) → ∀ g ∈ putF f x, 0 ≤ g ∧ g ≤ 255
  | 0, x, h0, h1 => by simp [putF]; simp [room] at h1; omega
  | f + 1, x, h0, h1 => by
    unfold putF
    split
    · simp; omega
    · intro g hg
      rw [List.mem_cons] at hg
      rcases hg with rfl | hg
      · omega
      · have := div_room h0 h1
        exact putF_bytes f _ this.1 this.2 g hg
theorem putN_bytes (x : Int) : ∀ g ∈ putN x, 0 ≤ g ∧ g ≤ 255 := by
  cases h : tick x
  · simp [putN_no h]
  · rw [putN_yes h]
    have := tick_room h
    exact putF_bytes 4 x this.1 this.2
theorem val_putF : ∀ (f : Nat) (x : Int), 0 ≤ x → x < room (f + 1) → val (putF f x) = x
  | 0, x, h0, h1 => by simp [putF, val]; simp [room] at h1; omega
  | f + 1, x, h0, h1 => by
    unfold putF
    split
    · simp [val]; omega
    · have := div_room h0 h1
      rw [val, val_putF f _ this.1 this.2]; omega
theorem grp_putF : ∀ (f : Nat) (x : Int) (r : List Int), 0 ≤ x → x < room (f + 1) → grp (f + 1) (putF f x ++ r) = some (putF f x)
  | 0, x, r, h0, h1 => by simp [room] at h1; simp [putF, grp, show x < 128 by omega]
  | f + 1, x, r, h0, h1 => by
    by_cases h : x < 128
    · simp [putF, grp, h]
    · have := div_room h0 h1
      rw [putF, if_neg h]
      simp only [List.cons_append, grp]
      rw [if_neg (by omega), show grp (f + 1) (putF f (x / 128) ++ r) = some (putF f (x / 128)) from grp_putF f _ r this.1 this.2]
      rfl

/-- Groups in their form: another follows each but the last. -/
def isG : List Int → Prop
  | [] => False
  | g :: r => (r = [] ∧ 0 ≤ g ∧ g < 128) ∨ (128 ≤ g ∧ g ≤ 255 ∧ isG r)
theorem grp_shape : ∀ (f : Nat) (l gs : List Int), (∀ g ∈ l, 0 ≤ g ∧ g ≤ 255) → grp f l = some gs → isG gs ∧ gs.length ≤ f ∧ 1 ≤ gs.length ∧ ∃ r, l = gs ++ r
  | 0, l, gs, _, h => by simp [grp] at h
  | f + 1, [], gs, _, h => by simp [grp] at h
  | f + 1, g :: r, gs, hb, h => by
    rw [grp] at h
    have hg := hb g (by simp)
    by_cases hl : g < 128
    · rw [if_pos hl] at h
      cases h
      exact ⟨.inl ⟨rfl, hg.1, hl⟩, by simp, by simp, r, rfl⟩
    · rw [if_neg hl] at h
      cases e : grp f r with
      | none => rw [e] at h; simp at h
      | some gs' =>
        rw [e] at h
        simp at h
        subst h
        obtain ⟨h1, h2, h3, r', h4⟩ := grp_shape f r gs' (fun g hg => hb g (by simp [hg])) e
        exact ⟨.inr ⟨by omega, hg.2, h1⟩, by simp; omega, by simp, r', by rw [h4]; rfl⟩
theorem val_nonneg : ∀ gs, 0 ≤ val gs
  | [] => by simp [val]
  | g :: r => by have := val_nonneg r; simp only [val]; omega
theorem val_room : ∀ gs : List Int, val gs < room gs.length
  | [] => by simp [val, room]
  | g :: r => by have := val_room r; simp only [val, List.length_cons, room]; omega
def lastZ : List Int → Int
  | [] => 0
  | [g] => g
  | _ :: g :: r => lastZ (g :: r)
theorem last_zero : ∀ gs, isG gs → val gs = 0 → lastZ gs = 0
  | [], h, _ => h.elim
  | [g], h, hv => by
    simp [isG] at h
    simp [val] at hv
    simp [lastZ]; omega
  | g :: g' :: r, h, hv => by
    have hn := val_nonneg (g' :: r)
    have h' : isG (g' :: r) := by
      rw [isG] at h
      rcases h with h | h
      · exact absurd h.1 (by simp)
      · exact h.2.2
    rw [val] at hv
    rw [lastZ]
    exact last_zero (g' :: r) h' (by omega)
/-- The groups are the number's own where the last is not superfluous. -/
def lean1 (gs : List Int) : Prop := gs.length = 1 ∨ lastZ gs ≠ 0
theorem put_val : ∀ (f : Nat) (gs : List Int), isG gs → gs.length ≤ f + 1 → (putF f (val gs) = gs ↔ lean1 gs)
  | f, [], h, _ => h.elim
  | f, [g], h, _ => by
    simp [isG] at h
    have e : val [g] = g := by simp [val]; omega
    rw [e]
    cases f with
    | zero => simp [putF, lean1]
    | succ f => simp [putF, lean1, show g < 128 by omega]
  | 0, g :: g' :: r, _, hl => by simp at hl
  | f + 1, g :: g' :: r, h, hl => by
    have h' : 128 ≤ g ∧ g ≤ 255 ∧ isG (g' :: r) := by
      rw [isG] at h
      rcases h with h | h
      · exact absurd h.1 (by simp)
      · exact h
    have ih := put_val f (g' :: r) h'.2.2 (by simp at hl ⊢; omega)
    have hn := val_nonneg (g' :: r)
    have el : lastZ (g :: g' :: r) = lastZ (g' :: r) := rfl
    by_cases hz : val (g' :: r) = 0
    · have l0 := last_zero _ h'.2.2 hz
      rw [val, hz, putF, if_pos (by omega)]
      simp [lean1, el, l0]
    · rw [val, putF, if_neg (by omega), show (g % 128 + 128 * val (g' :: r)) % 128 + 128 = g by omega, show (g % 128 + 128 * val (g' :: r)) / 128 = val (g' :: r) by omega]
      rw [List.cons.injEq, ih]
      simp only [true_and, lean1, el]
      constructor
      · rintro (h | h)
        · have hr : r = [] := by simpa using h
          subst hr
          right
          intro h0
          simp [lastZ] at h0
          apply hz
          simp [val, h0]
        · exact .inr h
      · rintro (h | h)
        · simp at h
        · exact .inr h

/-- The number at the start, and how many groups it has. -/
def takeL (r : List Int) : Option (Int × Nat) :=
  match grp 5 r with
  | none => none
  | some gs => if putN (val gs) = gs then some (val gs, gs.length) else none
theorem takeL_put (x : Int) (r : List Int) (h : tick x = true) : takeL (putN x ++ r) = some (x, (putN x).length) := by
  have hr := tick_room h
  rw [takeL, putN_yes h, grp_putF 4 x r hr.1 hr.2]
  simp only
  rw [val_putF 4 x hr.1 hr.2, putN_yes h, if_pos rfl]
theorem takeL_some {r : List Int} {x : Int} {n : Nat} (h : takeL r = some (x, n)) : ∃ gs, grp 5 r = some gs ∧ putN x = gs ∧ val gs = x ∧ gs.length = n := by
  unfold takeL at h
  split at h
  · cases h
  · next gs e =>
    split at h
    · next hp => cases h; exact ⟨gs, e, hp, rfl, rfl⟩
    · cases h
theorem grp_take : ∀ (f k : Nat) (l gs : List Int), grp f l = some gs → grp f (l.take k) = if gs.length ≤ k then some gs else none
  | 0, k, l, gs, h => by simp [grp] at h
  | f + 1, k, [], gs, h => by simp [grp] at h
  | f + 1, 0, g :: r, gs, h => by
    rw [grp] at h
    have : 1 ≤ gs.length := by
      split at h
      · cases h; simp
      · cases e : grp f r with
        | none => rw [e] at h; simp at h
        | some gs' => rw [e] at h; simp at h; subst h; simp
    rw [if_neg (by omega)]
    simp [grp]
  | f + 1, k + 1, g :: r, gs, h => by
    rw [grp] at h
    rw [List.take_succ_cons, grp]
    by_cases hl : g < 128
    · rw [if_pos hl] at h ⊢
      cases h
      simp
    · rw [if_neg hl] at h ⊢
      cases e : grp f r with
      | none => rw [e] at h; simp at h
      | some gs' =>
        rw [e] at h
        simp at h
        subst h
        rw [grp_take f k r gs' e]
        simp only [List.length_cons, Nat.add_le_add_iff_right]
        split <;> rfl
theorem takeL_take {l : List Int} {x : Int} {n : Nat} (k : Nat) (h : takeL l = some (x, n)) : takeL (l.take k) = if n ≤ k then some (x, n) else none := by
  obtain ⟨gs, h1, h2, h3, rfl⟩ := takeL_some h
  rw [takeL, grp_take 5 k l gs h1]
  by_cases hk : gs.length ≤ k
  · rw [if_pos hk, if_pos hk]
    simp only
    rw [h3, h2, if_pos rfl]
  · rw [if_neg hk, if_neg hk]
theorem takeL_len {l : List Int} {x : Int} {n : Nat} (h : takeL l = some (x, n)) : 1 ≤ n ∧ n ≤ 5 := by
  obtain ⟨gs, h1, h2, h3, rfl⟩ := takeL_some h
  rw [← h2]
  refine ⟨?_, putN_len x⟩
  cases e : putN x with
  | nil => rw [e] at h2; subst h2; rw [putN_nil] at e; subst h3; simp [val, tick] at e
  | cons a b => simp

/-- TakeNumber. -/
def takeN (b : List Int) (at_ : Int) : Option (Int × Int) :=
  if 0 ≤ at_ ∧ at_ ≤ (b.length : Int) then (takeL (b.drop at_.toNat)).map fun p => (p.1, at_ + p.2) else none
def ansN (b : List Int) (at_ : Int) : Int × Int := (takeN b at_).getD (0, -1)

abbrev Ev := Int × Int × Int
def putE (e : Ev) : List Int :=
  if (decide (0 ≤ e.1) && decide (e.1 ≤ 11) && (tick e.2.1 && tick e.2.2)) = true then e.1 :: (putN e.2.1 ++ putN e.2.2) else []
def takeE (b : List Int) (at_ : Int) : Option (Ev × Int) :=
  if 0 ≤ at_ ∧ at_ < (b.length : Int) ∧ b.getD at_.toNat 0 ≤ 11 then
    match takeN b (at_ + 1) with
    | none => none
    | some (t, n) =>
      match takeN b n with
      | none => none
      | some (c, m) => some ((b.getD at_.toNat 0, t, c), m)
  else none
def zE : Ev := (0, 0, 0)
def ansE (b : List Int) (at_ : Int) : Ev × Int := (takeE b at_).getD (zE, -1)

/-- The row behind acc and the events to come; none where it does not fit. -/
def putG : List Int → List Ev → Option (List Int)
  | acc, [] => some acc
  | acc, e :: r => if putE e = [] ∨ 8000 < acc.length + (putE e).length then none else putG (acc ++ putE e) r
def putL (log : List Ev) : Option (List Int) := if 2000 < log.length then none else putG [] log
/-- The events from at_ on, at most f of them, and where they end. -/
def mostF : Nat → List Int → Int → List Ev × Int
  | 0, _, at_ => ([], at_)
  | f + 1, b, at_ =>
    match takeE b at_ with
    | none => ([], at_)
    | some (e, n) => (e :: (mostF f b n).1, (mostF f b n).2)
def most (b : List Int) : List Ev × Int := if 8000 < b.length then ([], 0) else mostF 2000 b 0
def takeLog (b : List Int) : Option (List Ev) := if (most b).2 = (b.length : Int) then some (most b).1 else none
def sumF : Int → List Int → Int
  | s, [] => s
  | s, x :: r => sumF ((131 * s + x) % 1000003) r
def sumL (log : List Ev) : Int := match putL log with | none => -1 | some b => sumF 1 b

theorem takeN_some {b : List Int} {at_ x n : Int} (h : takeN b at_ = some (x, n)) : 0 ≤ at_ ∧ at_ < n ∧ n ≤ at_ + 5 ∧ n ≤ (b.length : Int) ∧ tick x = true := by
  unfold takeN at h
  split at h
  · next hc =>
    cases e : takeL (b.drop at_.toNat) with
    | none => rw [e] at h; simp at h
    | some p =>
      obtain ⟨y, k⟩ := p
      rw [e] at h
      simp at h
      obtain ⟨rfl, rfl⟩ := h
      have hl := takeL_len e
      obtain ⟨gs, h1, h2, h3, h4⟩ := takeL_some e
      have hg := grp_take 5 (b.drop at_.toNat).length _ gs h1
      rw [List.take_length, h1] at hg
      have hk : gs.length ≤ (b.drop at_.toNat).length := by
        by_cases hk : gs.length ≤ (b.drop at_.toNat).length
        · exact hk
        · rw [if_neg hk] at hg; cases hg
      rw [List.length_drop] at hk
      refine ⟨hc.1, by omega, by omega, by omega, ?_⟩
      cases ht : tick y
      · rw [putN_no ht] at h2; subst h2; simp at h4; omega
      · rfl
  · cases h
theorem takeE_some {b : List Int} {at_ n : Int} {e : Ev} (h : takeE b at_ = some (e, n)) : 0 ≤ at_ ∧ at_ + 3 ≤ n ∧ n ≤ at_ + 11 ∧ n ≤ (b.length : Int) ∧ e.1 = b.getD at_.toNat 0 ∧ e.1 ≤ 11 ∧ tick e.2.1 = true ∧ tick e.2.2 = true := by
  unfold takeE at h
  split at h
  · next hc =>
    split at h
    · cases h
    · next t m hm =>
      split at h
      · cases h
      · next c m' hm' =>
        cases h
        have h1 := takeN_some hm
        have h2 := takeN_some hm'
        exact ⟨hc.1, by omega, by omega, h2.2.2.2.1, rfl, hc.2.2, h1.2.2.2.2, h2.2.2.2.2⟩
  · cases h
theorem mostF_ge : ∀ (f : Nat) (b : List Int) (at_ : Int), 0 ≤ at_ → at_ ≤ (b.length : Int) → at_ ≤ (mostF f b at_).2 ∧ (mostF f b at_).2 ≤ (b.length : Int) ∧ (mostF f b at_).1.length ≤ f
  | 0, b, at_, h0, h1 => by simp [mostF]; exact h1
  | f + 1, b, at_, h0, h1 => by
    rw [mostF]
    cases e : takeE b at_ with
    | none => simp; exact h1
    | some p =>
      obtain ⟨ev, n⟩ := p
      have hs := takeE_some e
      have := mostF_ge f b n (by omega) hs.2.2.2.1
      simp; omega
end Go.Proofs.YtcgmeindiaaokaaDoor.By
