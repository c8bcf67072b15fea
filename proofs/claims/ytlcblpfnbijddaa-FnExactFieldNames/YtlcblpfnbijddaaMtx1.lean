/- The laws' mark texts: what markText returns. -/
import Derived.Test.YtlcblpfnbijddaaNum1
namespace Go.Proofs.Ytlcblpfnbijddaa.Num
open Go.RowKit Base

def mtx (n : Nat) : ByteArray := ⟨(109 :: Lib.decDigits n).toArray⟩

set_option maxHeartbeats 800000 in
theorem markText_any (N : Nat) (w : World) (h0 : 0 < N) (h1 : (N : Int) ≤ 9223372036854775807) : Calls Try.prog 24 #[.int .i64 N] w fun e w' => e = .returned (.string (mtx N)) ∧ Below w.heap.size w w' := by
  have hne : ¬ (N : Int) ≤ 0 := by omega
  go_enter Try.func24, Try.ntmps24
  go_wp2
  go_loopw [0, 3] (fun x o wr => ∃ (m : Nat) (l : List UInt8), (m : Int) ≤ 9223372036854775807 ∧ x = .int .i64 m ∧ o = .string ⟨l.toArray⟩ ∧ dd m ++ l = Lib.decDigits N ∧ Below w.heap.size w wr) (fun x _ _ => (intOf x).toNat)
  case atStart => exact ⟨N, [], h1, rfl, rfl, by unfold dd; rw [if_neg (by omega)]; simp, Below.refl _ _⟩
  case round =>
    obtain ⟨m, l, hm, rfl, rfl, hl, hw⟩ := hrel
    have hsz := size_le N m l (by omega) hl
    have Hl := Lib.hid hl
    clear hl
    by_cases hz : m = 0
    · subst hz
      have hL : l = Lib.decDigits N := by have := Hl.out; simpa [dd] using this
      have HL := Lib.hid hL
      clear hL
      go_wp2
      go_ret
      exact ⟨congrArg (fun x => Ending.returned (.string x)) ((cat_cons 109 l).trans (by rw [HL.out]; rfl)), hw⟩
    · have hmz : (0 : Int) < (m : Int) := by omega
      have hcv := conv_one Try.prog wr 45 9 5 (48 + m % 10) (by omega) Try.underlying45 Try.underlying5 Try.underlying9 (48 + (m : Int) % 10) (by omega)
      have Hd := Lib.hid (dd_step (m := m) (by omega))
      generalize UInt8.ofNat (48 + m % 10) = c at hcv Hd
      go_wp2
      go_roundw
      case rel => exact ⟨m / 10, c :: l, by omega, by go_num, by rw [cat_cons], by have e := Hl.out; rw [Hd.out] at e; simpa using e, hw.alloc hw.size _⟩
      case measure => simp [intOf]; omega
end Go.Proofs.Ytlcblpfnbijddaa.Num
