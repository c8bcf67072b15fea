/- Contracts of the laws' helpers that write marks into a queue's slots and look for them again. -/
import Derived.Test.YtjbfmagedkmngaaQue2
namespace Go.Proofs.Ytjbfmagedkmngaa.Que
open Go.RowKit Go.Deep Base

/-- The n slots from block b's head on are f 0, f 1, .., and may be written. -/
def RdF (w : World) (b n : Nat) (f : Nat → Sl) : Prop :=
  ∀ i, i < n → w.cell? ⟨b, i * 4, none⟩ = some (.int .i64 (f i).id) ∧ w.cell? ⟨b, i * 4 + 1, none⟩ = some (.int .i64 (f i).prev)
    ∧ w.cell? ⟨b, i * 4 + 2, none⟩ = some (.int .i64 (f i).next) ∧ w.cell? ⟨b, i * 4 + 3, none⟩ = some (.bool (f i).used) ∧ ∀ j, w.frozen? ⟨b, j, none⟩ = false

def set4 (w : World) (b i : Nat) (s : Sl) : World :=
  (((w.setCell ⟨b, i * 4, none⟩ (.int .i64 s.id)).setCell ⟨b, i * 4 + 1, none⟩ (.int .i64 s.prev)).setCell ⟨b, i * 4 + 2, none⟩ (.int .i64 s.next)).setCell ⟨b, i * 4 + 3, none⟩ (.bool s.used)

theorem some_set {w : World} {b o p : Nat} {v : Value} (h : (w.cell? ⟨b, p, none⟩).isSome = true) : ((w.setCell ⟨b, o, none⟩ v).cell? ⟨b, p, none⟩).isSome = true := by
  by_cases e : p = o
  · subst e; rw [World.cell?_setCell_same' _ _ _ h]; rfl
  · rw [World.cell?_setCell_other _ _ _ _ (fun e' => by injection e' with _ e' _; exact e e'.symm)]; exact h

theorem cell_set {w : World} {b o p : Nat} {v : Value} (h : (w.cell? ⟨b, p, none⟩).isSome = true) : (w.setCell ⟨b, o, none⟩ v).cell? ⟨b, p, none⟩ = if p = o then some v else w.cell? ⟨b, p, none⟩ := by
  by_cases e : p = o
  · subst e; rw [if_pos rfl]; exact World.cell?_setCell_same' _ _ _ h
  · rw [if_neg e, World.cell?_setCell_other _ _ _ _ (fun e' => by injection e' with _ e' _; exact e e'.symm)]

theorem cell_set4 {w : World} {b i p : Nat} {s : Sl} (h : (w.cell? ⟨b, p, none⟩).isSome = true) :
    (set4 w b i s).cell? ⟨b, p, none⟩ = if p = i * 4 + 3 then some (.bool s.used) else if p = i * 4 + 2 then some (.int .i64 s.next) else if p = i * 4 + 1 then some (.int .i64 s.prev) else if p = i * 4 then some (.int .i64 s.id) else w.cell? ⟨b, p, none⟩ := by
  unfold set4
  rw [cell_set (some_set (some_set (some_set h))), cell_set (some_set (some_set h)), cell_set (some_set h), cell_set h]

theorem RdF.set {w : World} {b n : Nat} {f : Nat → Sl} (h : RdF w b n f) (i : Nat) (s : Sl) : RdF (set4 w b i s) b n (fun j => if j = i then s else f j) := by
  intro j hj
  obtain ⟨h0, h1, h2, h3, h4⟩ := h j hj
  have hs : ∀ {p x}, w.cell? ⟨b, p, none⟩ = some x → (w.cell? ⟨b, p, none⟩).isSome = true := fun h => by rw [h]; rfl
  rw [cell_set4 (hs h0), cell_set4 (hs h1), cell_set4 (hs h2), cell_set4 (hs h3)]
  have hf : ∀ j, (set4 w b i s).frozen? ⟨b, j, none⟩ = false := fun k => by unfold set4; simp only [World.frozen?_setCell]; exact h4 k
  by_cases e : j = i
  · subst e
    simp only [if_pos]
    exact ⟨by rw [if_neg (by omega), if_neg (by omega), if_neg (by omega)], by rw [if_neg (by omega), if_neg (by omega)], by rw [if_neg (by omega)], trivial, hf⟩
  · simp only [if_neg e]
    exact ⟨by rw [if_neg (by omega), if_neg (by omega), if_neg (by omega), if_neg (by omega)]; exact h0, by rw [if_neg (by omega), if_neg (by omega), if_neg (by omega), if_neg (by omega)]; exact h1, by rw [if_neg (by omega), if_neg (by omega), if_neg (by omega), if_neg (by omega)]; exact h2, by rw [if_neg (by omega), if_neg (by omega), if_neg (by omega), if_neg (by omega)]; exact h3, hf⟩

theorem RdF.congr {w : World} {b n : Nat} {f g : Nat → Sl} (h : RdF w b n f) (e : ∀ i, i < n → f i = g i) : RdF w b n g := fun i hi => e i hi ▸ h i hi

theorem Turns.set4 {lo hi : Nat} {a w : World} (h : Turns lo hi a w) {g : Nat} (h1 : lo ≤ g) (h2 : g < hi) (i : Nat) (s : Sl) : Turns lo hi a (set4 w g i s) := by
  unfold Que.set4
  exact (((h.setCell (p := ⟨g, _, none⟩) h1 h2 _).setCell (p := ⟨g, _, none⟩) h1 h2 _).setCell (p := ⟨g, _, none⟩) h1 h2 _).setCell (p := ⟨g, _, none⟩) h1 h2 _

/-- The marks of slot i, counted from k on. -/
def mkS (k : Int) (i : Nat) : Sl := ⟨k + 4 * i, k + 4 * i + 1, k + 4 * i + 1 + 1, (k + 4 * i + 1 + 1 + 1) % 3 == 0⟩

def mkL (k : Int) (n : Nat) : List Sl := (List.range n).map (mkS k)

theorem mkL_len (k : Int) (n : Nat) : (mkL k n).length = n := by simp [mkL]
theorem mkL_at (k : Int) (n i : Nat) (h : i < n) : (mkL k n).getD i zSl = mkS k i := by simp [mkL, h]

def MarkSt (w wr : World) (lo hi : Nat) (A : Option Addr) (n : Nat) (k : Int) (ss : List Sl) (i : Nat) : Prop :=
  (0 < n → ∃ g, A = some ⟨g, 0, none⟩ ∧ lo ≤ g ∧ g < hi ∧ RdF wr g n (fun j => if j < i then mkS k j else ss.getD j zSl)) ∧ Turns lo hi w wr

theorem MarkSt.step {w wr : World} {lo hi g n i : Nat} {k : Int} {ss : List Sl} (h : MarkSt w wr lo hi (some ⟨g, 0, none⟩) n k ss i) (hn : 0 < n) : MarkSt w (set4 wr g i (mkS k i)) lo hi (some ⟨g, 0, none⟩) n k ss (i + 1) := by
  obtain ⟨g', e, h1, h2, h3⟩ := h.1 hn
  cases e
  refine ⟨fun _ => ⟨g, rfl, h1, h2, (h3.set i (mkS k i)).congr fun j hj => ?_⟩, h.2.set4 h1 h2 i _⟩
  by_cases e : j = i
  · subst e; simp
  · simp only [if_neg e]
    by_cases l : j < i
    · rw [if_pos l, if_pos (by omega)]
    · rw [if_neg l, if_neg (by omega)]

set_option maxHeartbeats 800000 in
theorem markSlotS_any (A : Option Addr) (n cap lo hi : Nat) (k : Int) (ss : List Sl) (w : World) (hn : ss.length = n) (hm : n ≤ 1048576) (hk0 : 0 ≤ k) (hk1 : k ≤ 1099511627776) (h : SlV w lo hi A ss) :
    Calls Try.prog 57 #[.slice A n cap, .int .i64 k] w fun e w' => e = .returned (.int .i64 (k + 4 * n)) ∧ SlV w' lo hi A (mkL k n) ∧ Turns lo hi w w' := by
  have Hn := Lib.hid hn
  clear hn
  have HS : Hid (MarkSt w w lo hi A n k ss 0) := ⟨fun hp => by
    obtain ⟨g, e, h1, h2, h3⟩ := h (by have := Hn.out; omega)
    exact ⟨g, e, h1, h2, fun i hi => by simpa using h3 i (by have := Hn.out; omega)⟩, Turns.of_below (Below.refl _ _)⟩
  clear h
  go_enter Try.func57, Try.ntmps57
  go_wp2
  go_loopw [1, 5] (fun t i wr => ∃ j : Nat, j ≤ n ∧ i = .int .i64 j ∧ t = .int .i64 (k + 4 * j) ∧ MarkSt w wr lo hi A n k ss j) (fun _ i _ => n - (intOf i).toNat)
  case atStart => exact ⟨0, Nat.zero_le _, rfl, by simp, HS.out⟩
  case round =>
    obtain ⟨j, hj, rfl, rfl, hr⟩ := hrel
    clear HS
    by_cases hlt : j < n
    · obtain ⟨g, rfl, h1, h2, h3⟩ := hr.1 (by omega)
      obtain ⟨c0, c1, c2, c3, c4⟩ := h3 j hlt
      simp only [Nat.lt_irrefl, if_false] at c0 c1 c2 c3
      generalize ss.getD j zSl = s at c0 c1 c2 c3
      have Hr := Lib.hid (hr.step (by omega))
      clear hr h3
      go_wp2
      go_roundw
      case rel => exact ⟨j + 1, by omega, by go_num, by go_num, Hr.out⟩
      case measure => simp [intOf]; omega
    · have Hr := Lib.hid hr
      clear hr
      obtain rfl : j = n := by omega
      go_wp2
      go_ret
      refine ⟨rfl, fun hp => ?_, Hr.out.2⟩
      rw [mkL_len] at hp
      obtain ⟨g, e, h1, h2, h3⟩ := Hr.out.1 hp
      refine ⟨g, e, h1, h2, fun i hi => ?_⟩
      rw [mkL_len] at hi
      have := h3 i hi
      simp only [if_pos hi] at this
      rw [mkL_at _ _ _ hi]
      exact this

set_option maxHeartbeats 800000 in
theorem heldSlotS_any (A : Option Addr) (n cap lo hi : Nat) (k : Int) (w : World) (hm : n ≤ 1048576) (hk0 : 0 ≤ k) (hk1 : k ≤ 1099511627776) (h : SlV w lo hi A (mkL k n)) :
    Calls Try.prog 58 #[.slice A n cap, .int .i64 k] w fun e w' => e = .returned (.int .i64 (k + 4 * n)) ∧ w = w' := by
  have HS := Lib.hid h
  clear h
  go_enter Try.func58, Try.ntmps58
  go_wp2
  go_loop [1, 5] (fun t i => ∃ j : Nat, j ≤ n ∧ i = .int .i64 j ∧ t = .int .i64 (k + 4 * j)) (fun _ i => n - (intOf i).toNat)
  case atStart => exact ⟨0, Nat.zero_le _, rfl, by simp⟩
  case round =>
    obtain ⟨j, hj, rfl, rfl⟩ := hrel
    by_cases hlt : j < n
    · obtain ⟨g, rfl, h1, h2, h3⟩ := HS.out (by rw [mkL_len]; omega)
      obtain ⟨c0, c1, c2, c3, _⟩ := h3 j (by rw [mkL_len]; exact hlt)
      rw [mkL_at _ _ _ hlt] at c0 c1 c2 c3
      simp only [mkS] at c0 c1 c2 c3
      clear h3
      cases hu : ((k + 4 * (j : Int) + 1 + 1 + 1) % 3 == 0)
      all_goals
        go_wp2
        go_round
        case rel => exact ⟨j + 1, by omega, by go_num, by go_num⟩
        case measure => simp [intOf]; omega
    · obtain rfl : j = n := by omega
      go_wp2
      go_ret
      exact ⟨rfl, rfl⟩

set_option maxHeartbeats 400000 in
theorem markQueue_any (A : Option Addr) (n cap lo hi : Nat) (k f l r c : Int) (ss : List Sl) (w : World) (hn : ss.length = n) (hm : n ≤ 1048576) (hk0 : 0 ≤ k) (hk1 : k ≤ 1099511627776) (h : SlV w lo hi A ss) (hs : hi ≤ w.heap.size) :
    Calls Try.prog 31 #[.agg #[.slice A n cap, .int .i64 f, .int .i64 l, .int .i64 r, .int .i64 c], .int .i64 k] w fun e w' => e = .returned (.int .i64 (k + 4 * n)) ∧ SlV w' lo hi A (mkL k n) ∧ Turns lo hi w w' := by
  have Hn := Lib.hid hn
  clear hn
  have H := Lib.hid h
  clear h
  go_enter Try.func31, Try.ntmps31
  go_wp2_with fail
  refine (markSlotS_any A n cap lo hi k ss _ Hn.out hm hk0 hk1 (H.out.below (bel_alloc _ _) hs)).mono ?_
  rintro e w1 ⟨rfl, hv, ht⟩
  have Hv := Lib.hid hv
  have Ht := Lib.hid ht
  clear hv ht
  go_wp2
  go_ret
  exact ⟨rfl, Hv.out, (Turns.of_below (bel_alloc _ _)).trans Ht.out⟩

set_option maxHeartbeats 400000 in
theorem heldQueue_any (A : Option Addr) (n cap lo hi : Nat) (k f l r c : Int) (w : World) (hm : n ≤ 1048576) (hk0 : 0 ≤ k) (hk1 : k ≤ 1099511627776) (h : SlV w lo hi A (mkL k n)) (hs : hi ≤ w.heap.size) :
    Calls Try.prog 32 #[.agg #[.slice A n cap, .int .i64 f, .int .i64 l, .int .i64 r, .int .i64 c], .int .i64 k] w fun e w' => e = .returned (.int .i64 (k + 4 * n)) ∧ Below w.heap.size w w' := by
  have H := Lib.hid h
  clear h
  have hk2 : 0 ≤ k + 4 * (n : Int) := by omega
  go_enter Try.func32, Try.ntmps32
  go_wp2_with fail
  refine (heldSlotS_any A n cap lo hi k _ hm hk0 hk1 (H.out.below (bel_alloc _ _) hs)).mono ?_
  rintro e w1 ⟨rfl, rfl⟩
  go_wp2
  go_ret
  exact ⟨rfl, bel_alloc _ _⟩
end Go.Proofs.Ytjbfmagedkmngaa.Que
