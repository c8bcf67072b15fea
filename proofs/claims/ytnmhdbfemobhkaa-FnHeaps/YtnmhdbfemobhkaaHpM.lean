/- Contracts of the laws' helpers that write marks into a heap's items and look for them again. -/
import Derived.Test.YtnmhdbfemobhkaaUp1
namespace Go.Proofs.Ytnmhdbfemobhkaa.Hp
open Go.RowKit Go.Deep Base

/-- The n items from block b's head on are f 0, f 1, .., and may be written. -/
def RdF (w : World) (b n : Nat) (f : Nat → Du) : Prop :=
  ∀ i, i < n → w.cell? ⟨b, i * 3, none⟩ = some (.int .i64 (f i).at) ∧ w.cell? ⟨b, i * 3 + 1, none⟩ = some (.int .i64 (f i).seq)
    ∧ w.cell? ⟨b, i * 3 + 2, none⟩ = some (.int .i64 (f i).id) ∧ ∀ j, w.frozen? ⟨b, j, none⟩ = false

theorem cell_set3 {w : World} {b i p : Nat} {s : Du} (h : (w.cell? ⟨b, p, none⟩).isSome = true) :
    (set3 w b i s).cell? ⟨b, p, none⟩ = if p = i * 3 + 2 then some (.int .i64 s.id) else if p = i * 3 + 1 then some (.int .i64 s.seq) else if p = i * 3 then some (.int .i64 s.at) else w.cell? ⟨b, p, none⟩ := by
  unfold set3
  rw [cell_set (some_set (some_set h)), cell_set (some_set h), cell_set h]

theorem RdF.set {w : World} {b n : Nat} {f : Nat → Du} (h : RdF w b n f) (i : Nat) (s : Du) : RdF (set3 w b i s) b n (fun j => if j = i then s else f j) := by
  intro j hj
  obtain ⟨h0, h1, h2, h4⟩ := h j hj
  have hs : ∀ {p x}, w.cell? ⟨b, p, none⟩ = some x → (w.cell? ⟨b, p, none⟩).isSome = true := fun h => by rw [h]; rfl
  rw [cell_set3 (hs h0), cell_set3 (hs h1), cell_set3 (hs h2)]
  have hf : ∀ j, (set3 w b i s).frozen? ⟨b, j, none⟩ = false := fun k => by unfold set3; simp only [World.frozen?_setCell]; exact h4 k
  by_cases e : j = i
  · subst e
    simp only [if_pos]
    exact ⟨by rw [if_neg (by omega), if_neg (by omega)], by rw [if_neg (by omega)], trivial, hf⟩
  · simp only [if_neg e]
    exact ⟨by rw [if_neg (by omega), if_neg (by omega), if_neg (by omega)]; exact h0, by rw [if_neg (by omega), if_neg (by omega), if_neg (by omega)]; exact h1, by rw [if_neg (by omega), if_neg (by omega), if_neg (by omega)]; exact h2, hf⟩

theorem RdF.congr {w : World} {b n : Nat} {f g : Nat → Du} (h : RdF w b n f) (e : ∀ i, i < n → f i = g i) : RdF w b n g := fun i hi => e i hi ▸ h i hi

/-- The marks of item i, counted from k on. -/
def mkS (k : Int) (i : Nat) : Du := ⟨k + 3 * i, k + 3 * i + 1, k + 3 * i + 1 + 1⟩

def mkL (k : Int) (n : Nat) : List Du := (List.range n).map (mkS k)

theorem mkL_len (k : Int) (n : Nat) : (mkL k n).length = n := by simp [mkL]
theorem mkL_at (k : Int) (n i : Nat) (h : i < n) : (mkL k n).getD i zDu = mkS k i := by simp [mkL, h]

def MarkSt (w wr : World) (lo hi : Nat) (A : Option Addr) (n : Nat) (k : Int) (ds : List Du) (i : Nat) : Prop :=
  (0 < n → ∃ g, A = some ⟨g, 0, none⟩ ∧ lo ≤ g ∧ g < hi ∧ RdF wr g n (fun j => if j < i then mkS k j else ds.getD j zDu)) ∧ Tn lo hi w wr

theorem MarkSt.step {w wr : World} {lo hi g n i : Nat} {k : Int} {ds : List Du} (h : MarkSt w wr lo hi (some ⟨g, 0, none⟩) n k ds i) (hn : 0 < n) : MarkSt w (set3 wr g i (mkS k i)) lo hi (some ⟨g, 0, none⟩) n k ds (i + 1) := by
  obtain ⟨g', e, h1, h2, h3⟩ := h.1 hn
  cases e
  refine ⟨fun _ => ⟨g, rfl, h1, h2, (h3.set i (mkS k i)).congr fun j hj => ?_⟩, h.2.set3 h1 h2 i _⟩
  by_cases e : j = i
  · subst e; simp
  · simp only [if_neg e]
    by_cases l : j < i
    · rw [if_pos l, if_pos (by omega)]
    · rw [if_neg l, if_neg (by omega)]

set_option maxHeartbeats 800000 in
theorem markDueS_any (A : Option Addr) (n cap lo hi : Nat) (k : Int) (ds : List Du) (w : World) (hn : ds.length = n) (hm : n ≤ 1048676) (hk0 : 0 ≤ k) (hk1 : k ≤ 1099511627776) (h : DV w lo hi A ds) :
    Calls Try.prog 68 #[.slice A n cap, .int .i64 k] w fun e w' => e = .returned (.int .i64 (k + 3 * n)) ∧ DV w' lo hi A (mkL k n) ∧ Tn lo hi w w' := by
  have Hn := Lib.hid hn
  clear hn
  have HS : Hid (MarkSt w w lo hi A n k ds 0) := ⟨fun hp => by
    obtain ⟨g, e, h1, h2, h3⟩ := h (by have := Hn.out; omega)
    exact ⟨g, e, h1, h2, fun i hi => by simpa using h3 i (by have := Hn.out; omega)⟩, Tn.of_below (Below.refl _ _)⟩
  clear h
  go_enter Try.func68, Try.ntmps68
  go_wp2
  go_loopw [1, 5] (fun t i wr => ∃ j : Nat, j ≤ n ∧ i = .int .i64 j ∧ t = .int .i64 (k + 3 * j) ∧ MarkSt w wr lo hi A n k ds j) (fun _ i _ => n - (intOf i).toNat)
  case atStart => exact ⟨0, Nat.zero_le _, rfl, by simp, HS.out⟩
  case round =>
    obtain ⟨j, hj, rfl, rfl, hr⟩ := hrel
    clear HS
    by_cases hlt : j < n
    · obtain ⟨g, rfl, h1, h2, h3⟩ := hr.1 (by omega)
      obtain ⟨c0, c1, c2, c4⟩ := h3 j hlt
      simp only [Nat.lt_irrefl, if_false] at c0 c1 c2
      generalize ds.getD j zDu = s at c0 c1 c2
      have Hr := Lib.hid (hr.step (by omega))
      clear hr h3
      go_wp2
      go_roundw
      case rel => exact ⟨j + 1, by omega, by go_num, by go_num, Hr.out⟩
      case measure => simp [intOf]; omega
    · have Hr := Lib.hid hr
      clear hr
      obtain rfl : j = n := by omega
      go_wp2
      go_ret
      refine ⟨rfl, fun hp => ?_, Hr.out.2⟩
      rw [mkL_len] at hp
      obtain ⟨g, e, h1, h2, h3⟩ := Hr.out.1 hp
      refine ⟨g, e, h1, h2, fun i hi => ?_⟩
      rw [mkL_len] at hi
      have := h3 i hi
      simp only [if_pos hi] at this
      rw [mkL_at _ _ _ hi]
      exact this

set_option maxHeartbeats 800000 in
theorem heldDueS_any (A : Option Addr) (n cap lo hi : Nat) (k : Int) (w : World) (hm : n ≤ 1048676) (hk0 : 0 ≤ k) (hk1 : k ≤ 1099511627776) (h : DV w lo hi A (mkL k n)) :
    Calls Try.prog 69 #[.slice A n cap, .int .i64 k] w fun e w' => e = .returned (.int .i64 (k + 3 * n)) ∧ w = w' := by
  have HS := Lib.hid h
  clear h
  go_enter Try.func69, Try.ntmps69
  go_wp2
  go_loop [1, 5] (fun t i => ∃ j : Nat, j ≤ n ∧ i = .int .i64 j ∧ t = .int .i64 (k + 3 * j)) (fun _ i => n - (intOf i).toNat)
  case atStart => exact ⟨0, Nat.zero_le _, rfl, by simp⟩
  case round =>
    obtain ⟨j, hj, rfl, rfl⟩ := hrel
    by_cases hlt : j < n
    · obtain ⟨g, rfl, h1, h2, h3⟩ := HS.out (by rw [mkL_len]; omega)
      obtain ⟨c0, c1, c2, _⟩ := h3 j (by rw [mkL_len]; exact hlt)
      rw [mkL_at _ _ _ hlt] at c0 c1 c2
      simp only [mkS] at c0 c1 c2
      clear h3
      go_wp2
      go_round
      case rel => exact ⟨j + 1, by omega, by go_num, by go_num⟩
      case measure => simp [intOf]; omega
    · obtain rfl : j = n := by omega
      go_wp2
      go_ret
      exact ⟨rfl, rfl⟩

set_option maxHeartbeats 400000 in
theorem markHeap_any (A : Option Addr) (n cap lo hi : Nat) (k q : Int) (ds : List Du) (w : World) (hn : ds.length = n) (hm : n ≤ 1048676) (hk0 : 0 ≤ k) (hk1 : k ≤ 1099511627776) (h : DV w lo hi A ds) (hs : hi ≤ w.heap.size) :
    Calls Try.prog 29 #[.agg #[.slice A n cap, .int .i64 q], .int .i64 k] w fun e w' => e = .returned (.int .i64 (k + 3 * n)) ∧ DV w' lo hi A (mkL k n) ∧ Tn lo hi w w' := by
  have Hn := Lib.hid hn
  clear hn
  have H := Lib.hid h
  clear h
  go_enter Try.func29, Try.ntmps29
  go_wp2_with fail
  refine (markDueS_any A n cap lo hi k ds _ Hn.out hm hk0 hk1 (H.out.below (bel_alloc _ _) hs)).mono ?_
  rintro e w1 ⟨rfl, hv, ht⟩
  have Hv := Lib.hid hv
  have Ht := Lib.hid ht
  clear hv ht
  go_wp2
  go_ret
  exact ⟨rfl, Hv.out, (Tn.of_below (bel_alloc _ _)).trans Ht.out⟩

set_option maxHeartbeats 400000 in
theorem heldHeap_any (A : Option Addr) (n cap lo hi : Nat) (k q : Int) (w : World) (hm : n ≤ 1048676) (hk0 : 0 ≤ k) (hk1 : k ≤ 1099511627776) (h : DV w lo hi A (mkL k n)) (hs : hi ≤ w.heap.size) :
    Calls Try.prog 30 #[.agg #[.slice A n cap, .int .i64 q], .int .i64 k] w fun e w' => e = .returned (.int .i64 (k + 3 * n)) ∧ Below w.heap.size w w' := by
  have H := Lib.hid h
  clear h
  have hk2 : 0 ≤ k + 3 * (n : Int) := by omega
  go_enter Try.func30, Try.ntmps30
  go_wp2_with fail
  refine (heldDueS_any A n cap lo hi k _ hm hk0 hk1 (H.out.below (bel_alloc _ _) hs)).mono ?_
  rintro e w1 ⟨rfl, rfl⟩
  go_wp2
  go_ret
  exact ⟨rfl, bel_alloc _ _⟩
end Go.Proofs.Ytnmhdbfemobhkaa.Hp
