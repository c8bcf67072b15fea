/- A number read group by group: what is owed where it stops, where the row ends and where it goes on too long. -/
import Derived.Test.YtcgmeindiaaokaaDoorBy1
namespace Go.Proofs.YtcgmeindiaaokaaDoor.By

/-- Groups that others follow. -/
def onG (gs : List Int) : Prop := ∀ g ∈ gs, 128 ≤ g ∧ g ≤ 255
theorem onG.nil : onG [] := by intro g h; simp at h
theorem onG.snoc {gs : List Int} {v : Int} (h : onG gs) (h1 : 128 ≤ v) (h2 : v ≤ 255) : onG (gs ++ [v]) := by
  intro g hg
  rcases List.mem_append.1 hg with hg | hg
  · exact h g hg
  · simp at hg; subst hg; exact ⟨h1, h2⟩
theorem onG.tail {g : Int} {gs : List Int} (h : onG (g :: gs)) : onG gs := fun x hx => h x (by simp [hx])
theorem grp_on : ∀ (f : Nat) (gs r : List Int), onG gs → gs.length ≤ f → grp f (gs ++ r) = (grp (f - gs.length) r).map (gs ++ ·)
  | f, [], r, _, _ => by simp
  | 0, g :: gs, r, _, hl => by simp at hl
  | f + 1, g :: gs, r, h, hl => by
    have hg := h g (by simp)
    rw [List.cons_append, grp, if_neg (by omega), grp_on f gs r h.tail (by simpa using hl)]
    simp only [List.length_cons, Nat.add_sub_add_right]
    cases grp (f - gs.length) r <;> rfl
theorem isG_on : ∀ (gs : List Int) (v : Int), onG gs → 0 ≤ v → v < 128 → isG (gs ++ [v])
  | [], v, _, h0, h1 => by simp [isG]; omega
  | g :: gs, v, h, h0, h1 => by
    have hg := h g (by simp)
    rw [List.cons_append, isG]
    exact .inr ⟨hg.1, hg.2, isG_on gs v h.tail h0 h1⟩
theorem lastZ_snoc : ∀ (gs : List Int) (v : Int), lastZ (gs ++ [v]) = v
  | [], v => rfl
  | [g], v => rfl
  | g :: g' :: gs, v => by
    have := lastZ_snoc (g' :: gs) v
    rw [List.cons_append, List.cons_append, lastZ]
    exact this
theorem val_snoc : ∀ (gs : List Int) (v : Int), val (gs ++ [v]) = val gs + room gs.length * (v % 128)
  | [], v => by simp [val, room]
  | g :: gs, v => by
    rw [List.cons_append, val, val_snoc gs v, val, List.length_cons, room, Int.mul_add, ← Int.add_assoc, ← Int.mul_assoc]
theorem takeL_stop {gs : List Int} {v : Int} (r : List Int) (h : onG gs) (hl : gs.length ≤ 4) (h0 : 0 ≤ v) (h1 : v < 128) :
    takeL (gs ++ v :: r) = if tick (val (gs ++ [v])) = true ∧ (gs.length = 0 ∨ v ≠ 0) then some (val (gs ++ [v]), gs.length + 1) else none := by
  have hg : grp 5 (gs ++ v :: r) = some (gs ++ [v]) := by
    rw [grp_on 5 gs (v :: r) h (by omega), show 5 - gs.length = (4 - gs.length) + 1 by omega, grp, if_pos h1]
    rfl
  unfold takeL
  rw [hg]
  simp only
  have hp := put_val 4 (gs ++ [v]) (isG_on gs v h h0 h1) (by simp; omega)
  have hle : lean1 (gs ++ [v]) ↔ (gs.length = 0 ∨ v ≠ 0) := by
    unfold lean1
    rw [lastZ_snoc]
    simp
  cases ht : tick (val (gs ++ [v]))
  · rw [putN_no ht, if_neg (by simp), if_neg (by simp)]
  · rw [putN_yes ht]
    by_cases hc : gs.length = 0 ∨ v ≠ 0
    · rw [if_pos (hp.2 (hle.2 hc)), if_pos ⟨rfl, hc⟩]
      simp
    · rw [if_neg (fun e => hc (hle.1 (hp.1 e))), if_neg (fun e => hc e.2)]
theorem takeL_out {gs : List Int} (h : onG gs) (hl : gs.length ≤ 5) : takeL gs = none := by
  have hg : grp 5 gs = none := by
    have := grp_on 5 gs [] h hl
    rw [List.append_nil] at this
    rw [this]
    cases 5 - gs.length <;> rfl
  unfold takeL
  rw [hg]
theorem takeL_far {gs : List Int} (r : List Int) (h : onG gs) (hl : gs.length = 5) : takeL (gs ++ r) = none := by
  have hg : grp 5 (gs ++ r) = none := by
    rw [grp_on 5 gs r h (by omega), hl]
    rfl
  unfold takeL
  rw [hg]
theorem ansN_none {b : List Int} {at_ : Int} (h : takeN b at_ = none) : ansN b at_ = (0, -1) := by unfold ansN; rw [h]; rfl
theorem takeN_neg {b : List Int} {at_ : Int} (h : at_ < 0 ∨ (b.length : Int) ≤ at_) : takeN b at_ = none := by
  unfold takeN
  by_cases hc : 0 ≤ at_ ∧ at_ ≤ (b.length : Int)
  · rw [if_pos hc, List.drop_eq_nil_of_le (by omega)]
    rfl
  · rw [if_neg hc]
/-- The groups from at_ on, i of them, all lead on. -/
def Runs (b : List Int) (at_ : Int) (gs : List Int) : Prop := onG gs ∧ (gs = [] ∨ 0 ≤ at_ ∧ at_ + gs.length ≤ b.length ∧ b.drop at_.toNat = gs ++ b.drop (at_.toNat + gs.length))
theorem Runs.start (b : List Int) (at_ : Int) : Runs b at_ [] := ⟨onG.nil, .inl rfl⟩
theorem Runs.here {b : List Int} {at_ : Int} {gs : List Int} (h : Runs b at_ gs) (h0 : 0 ≤ at_) (h1 : at_ + gs.length < b.length) : b.drop at_.toNat = gs ++ b.getD (at_.toNat + gs.length) 0 :: b.drop (at_.toNat + gs.length + 1) := by
  have hd : b.drop (at_.toNat + gs.length) = b.getD (at_.toNat + gs.length) 0 :: b.drop (at_.toNat + gs.length + 1) := by
    rw [List.drop_eq_getElem_cons (by omega)]
    congr 1
    simp [List.getD_eq_getElem?_getD, show at_.toNat + gs.length < b.length by omega]
  rw [← hd]
  rcases h.2 with rfl | ⟨_, _, e⟩
  · simp
  · exact e
theorem Runs.snoc {b : List Int} {at_ v : Int} {gs : List Int} (h : Runs b at_ gs) (h0 : 0 ≤ at_) (h1 : at_ + gs.length < b.length) (hv : b.getD (at_.toNat + gs.length) 0 = v) (h2 : 128 ≤ v) (h3 : v ≤ 255) : Runs b at_ (gs ++ [v]) := by
  have := h.here h0 h1
  rw [hv] at this
  refine ⟨h.1.snoc h2 h3, .inr ⟨h0, by simp; omega, ?_⟩⟩
  rw [this, List.length_append, List.append_assoc]
  rfl
theorem Runs.stop {b : List Int} {at_ v : Int} {gs : List Int} (h : Runs b at_ gs) (h0 : 0 ≤ at_) (h1 : at_ + gs.length < b.length) (hl : gs.length ≤ 4) (hv : b.getD (at_.toNat + gs.length) 0 = v) (h2 : 0 ≤ v) (h3 : v < 128) :
    takeN b at_ = if tick (val (gs ++ [v])) = true ∧ (gs.length = 0 ∨ v ≠ 0) then some (val (gs ++ [v]), at_ + gs.length + 1) else none := by
  have e := h.here h0 h1
  rw [hv] at e
  unfold takeN
  rw [if_pos (by omega), e, takeL_stop _ h.1 hl h2 h3]
  split
  · simp; omega
  · rfl
theorem Runs.out {b : List Int} {at_ : Int} {gs : List Int} (h : Runs b at_ gs) (hl : gs.length ≤ 4) (h1 : at_ < 0 ∨ (b.length : Int) ≤ at_ + gs.length) : takeN b at_ = none := by
  rcases h.2 with rfl | ⟨h0, h2, e⟩
  · exact takeN_neg (by simpa using h1)
  · unfold takeN
    rw [if_pos (by omega), e, List.drop_eq_nil_of_le (by omega), List.append_nil, takeL_out h.1 (by omega)]
    rfl
theorem Runs.far {b : List Int} {at_ : Int} {gs : List Int} (h : Runs b at_ gs) (hl : gs.length = 5) : takeN b at_ = none := by
  rcases h.2 with rfl | ⟨h0, h2, e⟩
  · simp at hl
  · unfold takeN
    rw [if_pos (by omega), e, takeL_far _ h.1 hl]
    rfl

/-- The groups of the number at at_. -/
def grpA (b : List Int) (at_ : Int) : Option (List Int) := if 0 ≤ at_ ∧ at_ ≤ (b.length : Int) then grp 5 (b.drop at_.toNat) else none
theorem grpA_no {b : List Int} {at_ : Int} (h : at_ < 0 ∨ (b.length : Int) < at_) : grpA b at_ = none := by unfold grpA; rw [if_neg (by omega)]
theorem takeN_grp (b : List Int) (at_ : Int) : takeN b at_ = match grpA b at_ with
    | none => none
    | some gs => if putN (val gs) = gs then some (val gs, at_ + gs.length) else none := by
  unfold takeN grpA takeL
  split
  · cases grp 5 (b.drop at_.toNat) with
    | none => rfl
    | some gs =>
      simp only
      split <;> rfl
  · rfl
theorem Runs.grp_stop {b : List Int} {at_ v : Int} {gs : List Int} (h : Runs b at_ gs) (h0 : 0 ≤ at_) (h1 : at_ + gs.length < b.length) (hl : gs.length ≤ 4) (hv : b.getD (at_.toNat + gs.length) 0 = v) (h3 : v < 128) : grpA b at_ = some (gs ++ [v]) := by
  have e := h.here h0 h1
  rw [hv] at e
  unfold grpA
  rw [if_pos (by omega), e, grp_on 5 gs _ h.1 (by omega), show 5 - gs.length = (4 - gs.length) + 1 by omega, grp, if_pos h3]
  rfl
theorem Runs.grp_out {b : List Int} {at_ : Int} {gs : List Int} (h : Runs b at_ gs) (h0 : 0 ≤ at_) (h2 : at_ ≤ b.length) (hl : gs.length ≤ 5) (h1 : gs.length = 5 ∨ (b.length : Int) ≤ at_ + gs.length) : grpA b at_ = none := by
  have hd : b.drop at_.toNat = gs ++ b.drop (at_.toNat + gs.length) := by
    rcases h.2 with rfl | ⟨_, _, e⟩
    · simp
    · exact e
  unfold grpA
  rw [if_pos (by omega), hd, grp_on 5 gs _ h.1 hl]
  rcases h1 with h1 | h1
  · rw [h1]; rfl
  · rw [List.drop_eq_nil_of_le (by omega)]
    cases 5 - gs.length <;> rfl
theorem Runs.at {b : List Int} {at_ v : Int} {gs : List Int} (h : Runs b at_ gs) (h0 : 0 ≤ at_) (h1 : at_ + gs.length < b.length) (hv : b.getD (at_.toNat + gs.length) 0 = v) (j : Nat) (hj : j < gs.length + 1) : (gs ++ [v]).getD j 0 = b.getD (at_.toNat + j) 0 := by
  have e := h.here h0 h1
  rw [hv] at e
  have h2 : (b.drop at_.toNat)[j]? = (gs ++ [v])[j]? := by
    rw [e, show gs ++ v :: b.drop (at_.toNat + gs.length + 1) = (gs ++ [v]) ++ b.drop (at_.toNat + gs.length + 1) by simp]
    rw [List.getElem?_append_left (by simpa using hj)]
  rw [List.getElem?_drop] at h2
  rw [List.getD_eq_getElem?_getD, List.getD_eq_getElem?_getD, h2]
theorem grpA_some {b gs : List Int} {at_ : Int} (hb : ∀ g ∈ b, 0 ≤ g ∧ g ≤ 255) (h : grpA b at_ = some gs) : isG gs ∧ gs.length ≤ 5 ∧ 1 ≤ gs.length ∧ 0 ≤ at_ ∧ at_ + gs.length ≤ b.length ∧ ∀ g ∈ gs, 0 ≤ g ∧ g ≤ 255 := by
  unfold grpA at h
  split at h
  · next hc =>
    obtain ⟨h1, h2, h3, r, h4⟩ := grp_shape 5 _ gs (fun g hg => hb g (List.mem_of_mem_drop hg)) h
    have hl : (b.drop at_.toNat).length = gs.length + r.length := by rw [h4, List.length_append]
    rw [List.length_drop] at hl
    exact ⟨h1, h2, h3, hc.1, by omega, fun g hg => hb g (List.mem_of_mem_drop (by rw [h4]; simp [hg] : g ∈ b.drop at_.toNat))⟩
  · cases h
end Go.Proofs.YtcgmeindiaaokaaDoor.By
