/- The small helpers of the law on heaps. -/
import Derived.Test.YtnmhdbfemobhkaaHd3
import Derived.Test.YtnmhdbfemobhkaaHx2
import Derived.Test.YtnmhdbfemobhkaaLawPh
namespace Go.Proofs.Ytnmhdbfemobhkaa.Hp
open Go.RowKit Go.Deep Base Draw

theorem big_any (A : Option Addr) (n cap : Nat) (w : World) (hm : n ≤ maxLen) : Calls Try.prog 12 #[.slice A n cap] w fun e w' => e = .returned (.bool (decide (1048576 < n))) ∧ w = w' := by
  unfold maxLen at hm
  go_enter Try.func12, Try.ntmps12
  go_wp2
  go_ret
  exact ⟨ret_bool (by simp; omega), rfl⟩

theorem at_any (A : Option Addr) (n cap : Nat) (zs : List Int) (w : World) (B : Nat) (hn : zs.length = n) (hs : n ≤ 1048576) (hb : Bytes w B A zs) :
    Calls Try.prog 20 #[.slice A n cap, .int .i64 0] w fun e w' => (∃ x, e = .returned (.int .i64 x) ∧ 0 ≤ x ∧ x ≤ 255) ∧ w = w' := by
  have HB := Lib.hid hb
  have HN := Lib.hid hn
  clear hb hn
  by_cases h0 : 0 < n
  · obtain ⟨b, off, rfl, hlb, hcb⟩ := HB.out.2 (by have := HN.out; omega)
    have hz := HB.out.1 0 (by have := HN.out; omega)
    have cz := hcb 0 (by have := HN.out; omega)
    clear hcb
    rw [Nat.add_zero] at cz
    generalize zs.getD 0 0 = z at hz cz
    obtain ⟨z0, z1⟩ := hz
    have h0' : (0 : Int) < (n : Int) := by omega
    go_enter Try.func20, Try.ntmps20
    go_wp2
    go_ret
    exact ⟨⟨z, rfl, z0, by omega⟩, rfl⟩
  · obtain rfl : n = 0 := by omega
    go_enter Try.func20, Try.ntmps20
    go_wp2
    go_ret
    exact ⟨⟨0, rfl, by omega, by omega⟩, rfl⟩

set_option maxHeartbeats 400000 in
theorem same_any (A1 A2 : Option Addr) (n c1 c2 : Nat) (zs : List Int) (w : World) (hn : zs.length = n) (hm : n ≤ 1048576) (h1 : Ints w A1 zs) (h2 : Ints w A2 zs) :
    Calls Try.prog 16 #[.slice A1 n c1, .slice A2 n c2] w fun e w' => e = .returned (.bool true) ∧ Below w.heap.size w w' := by
  have Hn := Lib.hid hn
  clear hn
  have H1 := Lib.hid h1
  have H2 := Lib.hid h2
  clear h1 h2
  go_enter Try.func16, Try.ntmps16
  go_wp2
  go_loopw [5] (fun i wr => ∃ k : Nat, k ≤ n ∧ i = .int .i64 k ∧ Below w.heap.size w wr) (fun i _ => n - (intOf i).toNat)
  case atStart => exact ⟨0, Nat.zero_le _, rfl, Below.refl _ _⟩
  case round =>
    obtain ⟨k, hk, rfl, hr⟩ := hrel
    by_cases hlt : k < n
    · obtain ⟨b, off, rfl, hc⟩ := H1.out.below hr (by have := Hn.out; omega)
      have hc1 := hc k (by have := Hn.out; omega)
      clear hc
      obtain ⟨b', off', rfl, hc⟩ := H2.out.below hr (by have := Hn.out; omega)
      have hc2 := hc k (by have := Hn.out; omega)
      clear hc
      generalize zs.getD k 0 = z at hc1 hc2
      go_wp2
      go_region
      all_goals
        go_wp2
        go_roundw
        case rel => exact ⟨k + 1, by omega, by go_num, by first | exact hr | exact hr.drew⟩
        case measure => simp [intOf]; omega
    · have hk1 : ¬ (k : Int) < (n : Int) := by omega
      go_wp2
      go_ret
      exact ⟨rfl, hr⟩
end Go.Proofs.Ytnmhdbfemobhkaa.Hp
