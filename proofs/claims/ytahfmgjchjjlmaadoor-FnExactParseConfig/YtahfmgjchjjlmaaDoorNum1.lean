/- The model's number text: l01Num returns the decimal numeral of every int. -/
import Derived.Test.YtahfmgjchjjlmaaDoorChecked
import Derived.Test.YtahfmgjchjjlmaaDoorBase
import Derived.Test.YtahfmgjchjjlmaaDoorNumMath
import Derived.WalkLawsBesides
import Derived.Laws.IdiomStrings
namespace Go.Proofs.YtahfmgjchjjlmaaDoor.Num
open Go.RowKit Base

theorem conv_new (P : Program) (w : World) (src dst t : TypeId) (cap : Nat) (l : List UInt8) (hs : P.underlying src = some (.slice t)) (he : P.underlying t = some (.int .u8)) (hd : P.underlying dst = some .string) :
    (convert src dst (.slice (some ⟨w.heap.size, 0, none⟩) l.length cap)).run P (w.alloc (.cells (l.map fun c => Value.int .u8 (c.toNat : Int)).toArray t)) =
      .ok (.string ⟨l.toArray⟩) (w.alloc (.cells (l.map fun c => Value.int .u8 (c.toNat : Int)).toArray t)) := by
  refine run_convert_bytes_back _ src dst t _ cap l hs he hd (fun j hj => ?_)
  have ea : (⟨w.heap.size, 0, none⟩ : Addr).add j = ⟨w.heap.size, j, none⟩ := by
    unfold Addr.add; split
    · next h => subst h; rfl
    · simp
  rw [ea, World.cell?_alloc_mark]
  simp [hj]

theorem conv_one (P : Program) (w : World) (src dst t : TypeId) (n : Nat) (hn : n < 256) (hs : P.underlying src = some (.slice t)) (he : P.underlying t = some (.int .u8)) (hd : P.underlying dst = some .string) (x : Int) (hx : x = n) :
    (convert src dst (.slice (some ⟨w.heap.size, 0, none⟩) 1 1)).run P (w.alloc (.cells #[.int .u8 x] t)) = .ok (.string ⟨#[UInt8.ofNat n]⟩) (w.alloc (.cells #[.int .u8 x] t)) := by
  have h := conv_new P w src dst t 1 [UInt8.ofNat n] hs he hd
  have e : ((UInt8.ofNat n).toNat : Int) = x := by rw [hx, UInt8.toNat_ofNat_of_lt' (by simpa using hn)]
  simp only [List.map_cons, List.map_nil, e] at h
  exact h

theorem size_le (N m : Nat) (l : List UInt8) (h1 : (N : Int) ≤ 9223372036854775808) (h : dd m ++ l = Lib.decDigits N) : l.length ≤ 21 := by
  have e := congrArg List.length h
  rw [List.length_append] at e
  have := Lib.itoa_length_le (-(N : Int)) (by omega) (by omega)
  by_cases hN : N = 0
  · subst hN
    rw [Lib.decDigits_one (by omega)] at e
    simp at e
    omega
  · rw [Lib.itoa_neg N (by omega)] at this
    simp at this
    omega

set_option maxRecDepth 100000 in
set_option maxHeartbeats 800000 in
theorem num_pos (N : Nat) (w : World) (h0 : 0 < N) (h1 : (N : Int) ≤ 9223372036854775807) : Calls Tryd.prog 14 #[.int .i64 N] w fun e w' => e = .returned (.string ⟨(Lib.decDigits N).toArray⟩) ∧ Below w.heap.size w w' := by
  have hne : ((N : Int) == 0) = false := by simp; omega
  have hng : decide ((N : Int) < 0) = false := by simp
  go_enter Tryd.func14, Tryd.ntmps14
  go_wp2
  go_loopw [0, 3] (fun x o wr => ∃ (m : Nat) (l : List UInt8), (m : Int) ≤ 9223372036854775807 ∧ x = .int .i64 m ∧ o = .string ⟨l.toArray⟩ ∧ dd m ++ l = Lib.decDigits N ∧ Below w.heap.size w wr) (fun x _ _ => (intOf x).toNat)
  case atStart => exact ⟨N, [], h1, rfl, rfl, by unfold dd; rw [if_neg (by omega)]; simp, Below.refl _ _⟩
  case round =>
    obtain ⟨m, l, hm, rfl, rfl, hl, hw⟩ := hrel
    have hsz := size_le N m l (by omega) hl
    have Hl := Lib.hid hl
    clear hl
    by_cases hz : m = 0
    · subst hz
      have hL : l = Lib.decDigits N := by have := Hl.out; simpa [dd] using this
      have HL := Lib.hid hL
      clear hL
      go_wp2
      go_ret
      exact ⟨ret_str HL.out, hw⟩
    · have hmz : ((m : Int) != 0) = true := by simp; omega
      have hcv := conv_one Tryd.prog wr 58 9 5 (48 + m % 10) (by omega) Tryd.underlying58 Tryd.underlying5 Tryd.underlying9 (48 + (m : Int) % 10) (by omega)
      have Hd := Lib.hid (dd_step (m := m) (by omega))
      generalize UInt8.ofNat (48 + m % 10) = c at hcv Hd
      go_wp2
      go_roundw
      case rel => exact ⟨m / 10, c :: l, by omega, by go_num, by rw [cat_cons], by have e := Hl.out; rw [Hd.out] at e; simpa using e, hw.alloc hw.size _⟩
      case measure => simp [intOf]; omega

set_option maxRecDepth 100000 in
set_option maxHeartbeats 800000 in
theorem num_neg (N : Nat) (w : World) (h0 : 0 < N) (h1 : (N : Int) ≤ 9223372036854775808) : Calls Tryd.prog 14 #[.int .i64 (-(N : Int))] w fun e w' => e = .returned (.string ⟨(45 :: Lib.decDigits N).toArray⟩) ∧ Below w.heap.size w w' := by
  have hne : ((-(N : Int)) == 0) = false := by simp; omega
  have hng : decide (-(N : Int) < 0) = true := by simp; omega
  have hng2 : -(N : Int) < 0 := by omega
  go_enter Tryd.func14, Tryd.ntmps14
  go_wp2
  go_loopw [0, 3] (fun x o wr => ∃ (m : Nat) (l : List UInt8), (m : Int) ≤ 9223372036854775808 ∧ x = .int .i64 (-(m : Int)) ∧ o = .string ⟨l.toArray⟩ ∧ dd m ++ l = Lib.decDigits N ∧ Below w.heap.size w wr) (fun x _ _ => (-(intOf x)).toNat)
  case atStart => exact ⟨N, [], h1, rfl, rfl, by unfold dd; rw [if_neg (by omega)]; simp, Below.refl _ _⟩
  case round =>
    obtain ⟨m, l, hm, rfl, rfl, hl, hw⟩ := hrel
    have hsz := size_le N m l (by omega) hl
    have Hl := Lib.hid hl
    clear hl
    by_cases hz : m = 0
    · subst hz
      have hL : l = Lib.decDigits N := by have := Hl.out; simpa [dd] using this
      have HL := Lib.hid hL
      clear hL
      go_wp2
      go_ret
      exact ⟨congrArg (fun x => Ending.returned (.string x)) ((cat_cons 45 l).trans (by rw [HL.out])), hw⟩
    · have hmz : ((-(m : Int)) != 0) = true := by simp; omega
      have et : (-(m : Int)).tmod 10 = -((m : Int) % 10) := by rw [Int.neg_tmod, Int.tmod_eq_emod_of_nonneg (by omega)]
      have eq : (-(m : Int)).tdiv 10 = -((m : Int) / 10) := by rw [Int.neg_tdiv, Int.tdiv_eq_ediv_of_nonneg (by omega)]
      have Hd := Lib.hid (dd_step (m := m) (by omega))
      by_cases hd : (m : Int) % 10 = 0
      · have hcv := conv_one Tryd.prog wr 58 9 5 (48 + m % 10) (by omega) Tryd.underlying58 Tryd.underlying5 Tryd.underlying9 48 (by omega)
        generalize UInt8.ofNat (48 + m % 10) = c at hcv Hd
        go_wp2
        go_roundw
        case rel => exact ⟨m / 10, c :: l, by omega, by go_num, by rw [cat_cons], by have e := Hl.out; rw [Hd.out] at e; simpa using e, hw.alloc hw.size _⟩
        case measure => simp [intOf]; omega
      · have hcv := conv_one Tryd.prog wr 58 9 5 (48 + m % 10) (by omega) Tryd.underlying58 Tryd.underlying5 Tryd.underlying9 (48 + (m : Int) % 10) (by omega)
        generalize UInt8.ofNat (48 + m % 10) = c at hcv Hd
        go_wp2
        go_roundw
        case rel => exact ⟨m / 10, c :: l, by omega, by go_num, by rw [cat_cons], by have e := Hl.out; rw [Hd.out] at e; simpa using e, hw.alloc hw.size _⟩
        case measure => simp [intOf]; omega

theorem num_any (x : Int) (w : World) (h0 : -9223372036854775808 ≤ x) (h1 : x ≤ 9223372036854775807) : Calls Tryd.prog 14 #[.int .i64 x] w fun e w' => e = .returned (.string ⟨(Lib.itoa x).toArray⟩) ∧ Below w.heap.size w w' := by
  rcases (show x < 0 ∨ x = 0 ∨ 0 < x by omega) with h | h | h
  · obtain ⟨n, rfl⟩ : ∃ n : Nat, x = -(n : Int) := ⟨x.natAbs, by omega⟩
    rw [Lib.itoa_neg n (by omega)]
    exact num_neg n w (by omega) (by omega)
  · subst h
    go_enter Tryd.func14, Tryd.ntmps14
    go_wp2
    go_ret
    exact ⟨ret_str itoa_zero.symm, Below.refl _ _⟩
  · obtain ⟨n, rfl⟩ := Int.eq_ofNat_of_zero_le (show 0 ≤ x by omega)
    rw [Lib.itoa_nonneg n]
    exact num_pos n w (by omega) h1
end Go.Proofs.YtahfmgjchjjlmaaDoor.Num
