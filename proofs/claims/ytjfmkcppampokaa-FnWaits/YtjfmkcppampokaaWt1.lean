/- The delays of chapter 5: how many doublings (RiseEnd), the program's rise. -/
import Derived.Test.YtjfmkcppampokaaFlt1
import Derived.Test.YtjfmkcppampokaaCfg0
import Derived.Outline
import Derived.Deep.RegionWith
namespace Go.Proofs.Ytjfmkcppampokaa.Wt
open Go.RowKit Base Flt

/-- Behind n failures: k doublings of b were followed, either all of them or up to the first that reaches cap. -/
structure RiseEnd (b cap n k : Nat) : Prop where
  le : k ≤ n
  low : ∀ j, j < k → b * 2 ^ j < cap
  stop : k = n ∨ cap ≤ b * 2 ^ k

theorem RiseEnd.uniq {b cap n k k' : Nat} (h : RiseEnd b cap n k) (h' : RiseEnd b cap n k') : k = k' := by
  rcases Nat.lt_trichotomy k k' with hl | he | hl
  · have h1 := h'.low k hl
    rcases h.stop with e | e
    · have := h'.le; omega
    · omega
  · exact he
  · have h1 := h.low k' hl
    rcases h'.stop with e | e
    · have := h.le; omega
    · omega

theorem pow_step (b k : Nat) : b * 2 ^ (k + 1) = b * 2 ^ k + b * 2 ^ k := by rw [Nat.pow_succ]; rw [← Nat.mul_assoc]; omega

/-- What rise hands back. -/
def RiseRet (b cap n : Nat) (e : Ending) : Prop := ∃ k, RiseEnd b cap n k ∧ e = .returned (.tuple #[.complex .f64 (W (b * 2 ^ k - b)) (W (b * 2 ^ k)), .int .i64 k])

/-- What the loop of rise holds. -/
structure Rising (b cap n k : Nat) (s : Value) : Prop where
  le : k ≤ n
  low : ∀ j, j < k → b * 2 ^ j < cap
  val : s = .complex .f64 (W (b * 2 ^ k - b)) (W (b * 2 ^ k))

theorem Rising.top {b cap n k : Nat} {s : Value} (h : Rising b cap n k s) (hbc : b ≤ cap) : b * 2 ^ k ≤ 2 * cap := by
  cases k with
  | zero => simp; omega
  | succ k => have := h.low k (by omega); rw [pow_step]; omega

theorem few {b cap k : Nat} (hb : 1 ≤ b) (hc : cap ≤ 1000000) (h : b * 2 ^ k ≤ 2 * cap) : k ≤ 20 := by
  refine Nat.le_of_not_lt fun hk => ?_
  have h1 : 2 ^ 21 ≤ 2 ^ k := Nat.pow_le_pow_right (by omega) hk
  have h2 : 1 * 2 ^ k ≤ b * 2 ^ k := Nat.mul_le_mul_right _ hb
  have h3 : (2 : Nat) ^ 21 = 2097152 := by decide
  omega

theorem riseRet {b cap n k : Nat} (h : RiseEnd b cap n k) {d : Nat} (hd : b * 2 ^ k = d) : RiseRet b cap n (.returned (.tuple #[.complex .f64 (W (d - b)) (W d), .int .i64 k])) := ⟨k, h, by rw [hd]⟩

theorem pow_ge (b k : Nat) : b ≤ b * 2 ^ k := Nat.le_mul_of_pos_right _ (Nat.two_pow_pos _)

set_option maxHeartbeats 1000000 in
theorem rise_any (c : Nat → Int) (b cap : Nat) (n : Int) (h7 : c 7 = b) (h8 : c 8 = cap) (hn : 0 ≤ n) (hb1 : 1 ≤ b) (hbc : b ≤ cap) (hc : cap ≤ 1000000) (w : World) :
    Calls Try.prog 39 #[.agg #[.int .i64 (c 0), .int .i64 (c 1), .int .i64 (c 2), .int .i64 (c 3), .int .i64 (c 4), .int .i64 (c 5), .int .i64 (c 6), .int .i64 (c 7), .int .i64 (c 8), .int .i64 (c 9), .int .i64 (c 10), .int .i64 (c 11), .int .i64 (c 12), .int .i64 (c 13)], .int .i64 n] w fun e w' => RiseRet b cap n.toNat e ∧ Below w.heap.size w w' := by
  rw [h7, h8]
  have hof := ofInt_W b
  go_enter Try.func39, Try.ntmps39
  go_wp2
  clear hof
  obtain ⟨W0, hW0⟩ : ∃ W0, w.alloc (.cells #[.int .i64 (c 0), .int .i64 (c 1), .int .i64 (c 2), .int .i64 (c 3), .int .i64 (c 4), .int .i64 (c 5), .int .i64 (c 6), .int .i64 b, .int .i64 cap, .int .i64 (c 9), .int .i64 (c 10), .int .i64 (c 11), .int .i64 (c 12), .int .i64 (c 13)] 25) = W0 := ⟨_, rfl⟩
  have B : Hid (Below w.heap.size w W0) := by rw [← hW0]; exact bel_alloc _ _
  have z0 : w.heap.size < W0.heap.size := by rw [← hW0]; simp
  have K : Hid (W0.heap[w.heap.size]? = some (.cells #[.int .i64 (c 0), .int .i64 (c 1), .int .i64 (c 2), .int .i64 (c 3), .int .i64 (c 4), .int .i64 (c 5), .int .i64 (c 6), .int .i64 b, .int .i64 cap, .int .i64 (c 9), .int .i64 (c 10), .int .i64 (c 11), .int .i64 (c 12), .int .i64 (c 13)] 25 (0, 0))) := by rw [← hW0]; exact heap_alloc_new w _
  rw [hW0]
  clear hW0
  have W00 : W 0 = 0 := W_zero
  go_loopw [6, 13] (fun s i wr => ∃ (v : Value) (k : Nat), v = s ∧ i = .int .i64 k ∧ Rising b cap n.toNat k v ∧ Below W0.heap.size W0 wr) (fun _ i _ => n.toNat - (intOf i).toNat)
  case atStart => exact ⟨_, 0, rfl, rfl, ⟨Nat.zero_le _, fun j h => absurd h (by omega), by simp [W_zero]⟩, Below.refl _ _⟩
  case round =>
    obtain ⟨v, k, rfl, rfl, hk, hb⟩ := hrel
    obtain ⟨d, hd⟩ : ∃ d, b * 2 ^ k = d := ⟨_, rfl⟩
    have htop := hk.top hbc
    have hge := pow_ge b k
    have hfew := few hb1 hc htop
    have Hk := Lib.hid hk
    have hv := hk.val
    have hle := hk.le
    rw [hd] at htop hge hv
    subst hv
    have Hd := Lib.hid hd
    have Hb := Lib.hid hb
    clear hk hd hb
    have x8 : wr.cell? ⟨w.heap.size, 8, none⟩ = some (.int .i64 cap) := cell_of_row _ _ 8 _ _ (0, 0) ((Hb.out.block _ z0).trans K.out)
    by_cases hlt : (k : Int) < n
    · have hkn : k < n.toNat := by omega
      have hD := fun V => delay_any (d - b) d (by omega) V
      by_cases hcap : cap ≤ d
      · go_wp2_with fail
        go_region_with (go_at_call 40; refine (hD _).mono ?_; rintro e w' ⟨rfl, rfl⟩)
        all_goals
          go_wp2
          refine bodyPost_ret (v := .tuple #[.complex .f64 (W (d - b)) (W d), .int .i64 k]) (by simp [results, Try.results39, go_sem]) rfl ?_
          exact ⟨riseRet ⟨hle, Hk.out.low, .inr (by rw [Hd.out]; exact hcap)⟩ Hd.out, bel_trans B.out (bel_trans Hb.out (bel_of_drew (Below.refl _ _)))⟩
      · have hN := fun V => next_any (d - b) d (by omega) (by omega) V
        have e1 : d - b + d = d + d - b := by omega
        rw [e1] at hN
        go_wp2_with fail
        go_region_with (go_at_call 40; refine (hD _).mono ?_; rintro e w' ⟨rfl, rfl⟩)
        all_goals
          go_wp2_with (go_at_call 54; refine (hN _).mono ?_; rintro e w' ⟨rfl, rfl⟩)
          go_roundw
          case rel =>
            refine ⟨_, k + 1, rfl, by go_num, ⟨by omega, fun j hj => ?_, by rw [pow_step, Hd.out]⟩, bel_trans Hb.out (bel_of_drew (Below.refl _ _))⟩
            by_cases e : j = k
            · subst e; rw [Hd.out]; omega
            · exact Hk.out.low j (by omega)
          case measure => simp [intOf]; omega
    · go_wp2
      have e : n = k := by omega
      refine bodyPost_ret (v := .tuple #[.complex .f64 (W (d - b)) (W d), .int .i64 n]) (by simp [results, Try.results39, go_sem]) rfl ?_
      refine ⟨?_, bel_trans B.out Hb.out⟩
      rw [e]
      exact riseRet ⟨by omega, Hk.out.low, .inl (by omega)⟩ Hd.out
end Go.Proofs.Ytjfmkcppampokaa.Wt
