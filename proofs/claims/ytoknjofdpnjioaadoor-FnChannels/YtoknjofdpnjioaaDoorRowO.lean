/- Rows of integers that begin anywhere in their block: marked, held. -/
import Derived.Test.YtoknjofdpnjioaaDoorRowC
namespace Go.Proofs.YtoknjofdpnjioaaDoor.Rw
open Go.RowKit Go.Deep Base

def RIo (w : World) (g o : Nat) (zs : List Int) : Prop := ∀ i, i < zs.length → w.cell? ⟨g, o + i, none⟩ = some (.int .i64 (zs.getD i 0)) ∧ ∀ j, w.frozen? ⟨g, j, none⟩ = false
def IVo (w : World) (lo hi : Nat) (A : Option Addr) (zs : List Int) : Prop := 0 < zs.length → ∃ g o, A = some ⟨g, o, none⟩ ∧ lo ≤ g ∧ g < hi ∧ RIo w g o zs

theorem RIo.of_block {w w' : World} {g o : Nat} {zs : List Int} (h : RIo w g o zs) (e : w'.heap[g]? = w.heap[g]?) : RIo w' g o zs := fun i hi =>
  ⟨(World.cell?_of_block e).trans (h i hi).1, fun j => (World.frozen?_of_block e).trans ((h i hi).2 j)⟩
theorem IVo.of_block {w w' : World} {lo hi : Nat} {A : Option Addr} {zs : List Int} (h : IVo w lo hi A zs) (e : ∀ g, lo ≤ g → g < hi → w'.heap[g]? = w.heap[g]?) : IVo w' lo hi A zs := by
  intro hp
  obtain ⟨g, o, rfl, h1, h2, h3⟩ := h hp
  exact ⟨g, o, rfl, h1, h2, h3.of_block (e g h1 h2)⟩
theorem IVo.wide {w : World} {lo hi lo' hi' : Nat} {A : Option Addr} {zs : List Int} (h : IVo w lo hi A zs) (h1 : lo' ≤ lo) (h2 : hi ≤ hi') : IVo w lo' hi' A zs := by
  intro hp
  obtain ⟨g, o, rfl, h1', h2', h3⟩ := h hp
  exact ⟨g, o, rfl, by omega, by omega, h3⟩
theorem IVo.below {w w' : World} {lo hi B : Nat} {A : Option Addr} {zs : List Int} (h : IVo w lo hi A zs) (hb : Below B w w') (hB : hi ≤ B) : IVo w' lo hi A zs :=
  h.of_block fun g _ h2 => hb.block g (by omega)
theorem IVo.turns {w w' : World} {lo hi l h : Nat} {A : Option Addr} {zs : List Int} (s : IVo w lo hi A zs) (t : Turns l h w w') (hd : hi ≤ l ∨ h ≤ lo) (hs : hi ≤ w.heap.size) : IVo w' lo hi A zs :=
  s.of_block fun g _ h2 => t.block g (by omega) (by omega)
theorem IVo.ints {w : World} {lo hi : Nat} {A : Option Addr} {zs : List Int} (h : IVo w lo hi A zs) : Ints w A zs := by
  intro hp
  obtain ⟨g, o, rfl, _, _, h3⟩ := h hp
  exact ⟨g, o, rfl, fun i hi => (h3 i hi).1⟩
theorem IVo.nil (w : World) (lo hi : Nat) (A : Option Addr) : IVo w lo hi A [] := fun h => absurd h (by simp)
theorem IV.toO {w : World} {lo hi : Nat} {A : Option Addr} {zs : List Int} (h : IV w lo hi A zs) : IVo w lo hi A zs := by
  intro hp
  obtain ⟨g, rfl, h1, h2, h3⟩ := h hp
  exact ⟨g, 0, rfl, h1, h2, fun i hi => by rw [Nat.zero_add]; exact h3 i hi⟩

/-- A new row of integers comes back, somewhere in its block. -/
def NewO (w : World) (zs : List Int) (A : Option Addr) (w' : World) : Prop := IVo w' w.heap.size w'.heap.size A zs ∧ Below w.heap.size w w'

def MarkO (w wr : World) (lo hi : Nat) (A : Option Addr) (n : Nat) (k : Int) (zs : List Int) (i : Nat) : Prop :=
  (0 < n → ∃ g o, A = some ⟨g, o, none⟩ ∧ lo ≤ g ∧ g < hi ∧ ∀ j, j < n → wr.cell? ⟨g, o + j, none⟩ = some (.int .i64 (if j < i then k + (j : Int) else zs.getD j 0)) ∧ ∀ p, wr.frozen? ⟨g, p, none⟩ = false) ∧ Turns lo hi w wr

theorem MarkO.step {w wr : World} {lo hi g o n i : Nat} {k : Int} {zs : List Int} (h : MarkO w wr lo hi (some ⟨g, o, none⟩) n k zs i) (hn : 0 < n) : MarkO w (wr.setCell ⟨g, o + i, none⟩ (.int .i64 (k + (i : Int)))) lo hi (some ⟨g, o, none⟩) n k zs (i + 1) := by
  obtain ⟨g', o', e, h1, h2, h3⟩ := h.1 hn
  cases e
  refine ⟨fun _ => ⟨g, o, rfl, h1, h2, fun j hj => ⟨?_, fun p => by rw [World.frozen?_setCell]; exact (h3 j hj).2 p⟩⟩, h.2.setCell h1 h2 _⟩
  rw [cell_set (by rw [(h3 j hj).1]; rfl)]
  by_cases e : j = i
  · subst e; simp
  · rw [if_neg (by omega), (h3 j hj).1]
    by_cases l : j < i
    · rw [if_pos l, if_pos (by omega)]
    · rw [if_neg l, if_neg (by omega)]

set_option maxHeartbeats 800000 in
theorem markO_any (A : Option Addr) (n cap lo hi : Nat) (k : Int) (zs : List Int) (w : World) (hn : zs.length = n) (hm : n ≤ 1048576) (hk0 : 0 ≤ k) (hk1 : k ≤ 1099511627776) (h : IVo w lo hi A zs) :
    Calls Tryd.prog 23 #[.slice A n cap, .int .i64 k] w fun e w' => e = .returned (.int .i64 (k + n)) ∧ IVo w' lo hi A (mkI k n) ∧ Turns lo hi w w' := by
  have Hn := Lib.hid hn
  clear hn
  have HS : Hid (MarkO w w lo hi A n k zs 0) := ⟨fun hp => by
    obtain ⟨g, o, e, h1, h2, h3⟩ := h (by have := Hn.out; omega)
    exact ⟨g, o, e, h1, h2, fun i hi => by simpa using h3 i (by have := Hn.out; omega)⟩, Turns.of_below (Below.refl _ _)⟩
  clear h
  go_enter Tryd.func23, Tryd.ntmps23
  go_wp2
  go_loopw [1, 5] (fun t i wr => ∃ j : Nat, j ≤ n ∧ i = .int .i64 j ∧ t = .int .i64 (k + j) ∧ MarkO w wr lo hi A n k zs j) (fun _ i _ => n - (intOf i).toNat)
  case atStart => exact ⟨0, Nat.zero_le _, rfl, by simp, HS.out⟩
  case round =>
    obtain ⟨j, hj, rfl, rfl, hr⟩ := hrel
    clear HS
    by_cases hlt : j < n
    · obtain ⟨g, o, rfl, h1, h2, h3⟩ := hr.1 (by omega)
      obtain ⟨c0, c4⟩ := h3 j hlt
      simp only [Nat.lt_irrefl, if_false] at c0
      generalize zs.getD j 0 = s at c0
      have Hr := Lib.hid (hr.step (by omega))
      clear hr h3
      go_wp2
      go_roundw
      case rel => exact ⟨j + 1, by omega, by go_num, by go_num, Hr.out⟩
      case measure => simp [intOf]; omega
    · have Hr := Lib.hid hr
      clear hr
      obtain rfl : j = n := by omega
      go_wp2
      go_ret
      refine ⟨rfl, fun hp => ?_, Hr.out.2⟩
      rw [mkI_len] at hp
      obtain ⟨g, o, e, h1, h2, h3⟩ := Hr.out.1 hp
      refine ⟨g, o, e, h1, h2, fun i hi => ?_⟩
      rw [mkI_len] at hi
      have := h3 i hi
      simp only [if_pos hi] at this
      rw [mkI_at _ _ _ hi]
      exact this

set_option maxHeartbeats 800000 in
theorem heldO_any (A : Option Addr) (n cap lo hi : Nat) (k : Int) (w : World) (hm : n ≤ 1048576) (hk0 : 0 ≤ k) (hk1 : k ≤ 1099511627776) (h : IVo w lo hi A (mkI k n)) :
    Calls Tryd.prog 24 #[.slice A n cap, .int .i64 k] w fun e w' => e = .returned (.int .i64 (k + n)) ∧ w = w' := by
  have HS := Lib.hid h
  clear h
  go_enter Tryd.func24, Tryd.ntmps24
  go_wp2
  go_loop [1, 5] (fun t i => ∃ j : Nat, j ≤ n ∧ i = .int .i64 j ∧ t = .int .i64 (k + j)) (fun _ i => n - (intOf i).toNat)
  case atStart => exact ⟨0, Nat.zero_le _, rfl, by simp⟩
  case round =>
    obtain ⟨j, hj, rfl, rfl⟩ := hrel
    by_cases hlt : j < n
    · obtain ⟨g, o, rfl, h1, h2, h3⟩ := HS.out (by rw [mkI_len]; omega)
      obtain ⟨c0, _⟩ := h3 j (by rw [mkI_len]; exact hlt)
      rw [mkI_at _ _ _ hlt] at c0
      clear h3
      go_wp2
      go_round
      case rel => exact ⟨j + 1, by omega, by go_num, by go_num⟩
      case measure => simp [intOf]; omega
    · obtain rfl : j = n := by omega
      go_wp2
      go_ret
      exact ⟨rfl, rfl⟩
end Go.Proofs.YtoknjofdpnjioaaDoor.Rw
