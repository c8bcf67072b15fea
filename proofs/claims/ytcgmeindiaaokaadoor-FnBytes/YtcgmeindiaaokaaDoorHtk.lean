/- Contracts of the leaves of chapter 1: what side, l01In, TickOk and allTicks return, for every argument that reads as integers. -/
import Derived.Test.YtcgmeindiaaokaaDoorChecked
import Derived.Test.YtcgmeindiaaokaaDoorBase
namespace Go.Proofs.YtcgmeindiaaokaaDoor.Tick
open Go.RowKit Base

def inB (x l h : Int) : Bool := decide (l ≤ x) && decide (x ≤ h)
def isT (t : Int) : Bool := inB t 0 1000000000
def side (m : Int) : Int := if m < 0 then 0 else if 1000000000 < m then 2 else 1
def lim (m : Int) : Int := if m < 0 then 0 else if 1000000000 < m then 1000000000 else m

theorem inB_true {x l h : Int} (a : l ≤ x) (b : x ≤ h) : inB x l h = true := by simp [inB, a, b]
theorem inB_false {x l h : Int} (a : x < l ∨ h < x) : inB x l h = false := by
  unfold inB; rcases a with a | a
  · rw [decide_eq_false (by omega)]; rfl
  · rw [decide_eq_false (p := x ≤ h) (by omega)]; simp
theorem inB_iff {x l h : Int} : inB x l h = true ↔ l ≤ x ∧ x ≤ h := by simp [inB]
theorem isT_iff {t : Int} : isT t = true ↔ 0 ≤ t ∧ t ≤ 1000000000 := inB_iff
theorem isT_true {t : Int} (a : 0 ≤ t) (b : t ≤ 1000000000) : isT t = true := inB_true a b
theorem isT_false {t : Int} (a : t < 0 ∨ 1000000000 < t) : isT t = false := inB_false a
theorem isT_cases (t : Int) : (0 ≤ t ∧ t ≤ 1000000000) ∨ (t < 0 ∨ 1000000000 < t) := by omega

theorem side_any (m : Int) (w : World) : Calls Tryd.prog 61 #[.int .i64 m] w fun e w' => e = .returned (.int .i64 (side m)) ∧ w = w' := by
  by_cases h0 : m < 0
  · go_enter Tryd.func61, Tryd.ntmps61
    go_wp2
    go_ret
    exact ⟨ret_int (by unfold side; rw [if_pos h0]), rfl⟩
  · by_cases h1 : 1000000000 < m
    · go_enter Tryd.func61, Tryd.ntmps61
      go_wp2
      go_ret
      exact ⟨ret_int (by unfold side; rw [if_neg (by omega), if_pos h1]), rfl⟩
    · go_enter Tryd.func61, Tryd.ntmps61
      go_wp2
      go_ret
      exact ⟨ret_int (by unfold side; rw [if_neg (by omega), if_neg (by omega)]), rfl⟩

theorem in_any (x l h : Int) (w : World) : Calls Tryd.prog 45 #[.int .i64 x, .int .i64 l, .int .i64 h] w fun e w' => e = .returned (.bool (inB x l h)) ∧ w = w' := by
  by_cases h0 : l ≤ x
  · by_cases h1 : x ≤ h
    · go_enter Tryd.func45, Tryd.ntmps45
      go_wp2
      go_ret
      exact ⟨ret_bool (inB_true h0 h1).symm, rfl⟩
    · go_enter Tryd.func45, Tryd.ntmps45
      go_wp2
      go_ret
      exact ⟨ret_bool (inB_false (by omega)).symm, rfl⟩
  · go_enter Tryd.func45, Tryd.ntmps45
    go_wp2
    go_ret
    exact ⟨ret_bool (inB_false (by omega)).symm, rfl⟩

theorem specTickOk_any (t : Int) (w : World) : Calls Tryd.prog 37 #[.int .i64 t] w fun e w' => e = .returned (.bool (isT t)) ∧ w = w' := by
  go_enter Tryd.func37, Tryd.ntmps37
  go_wp2_with (go_at_call 45; with_reducible refine (in_any _ _ _ _).mono ?_; rintro e w' ⟨rfl, rfl⟩)
  go_ret
  exact ⟨rfl, rfl⟩

theorem all_take_succ (p : Int → Bool) (zs : List Int) (k : Nat) (h : k < zs.length) : (zs.take (k + 1)).all p = ((zs.take k).all p && p (zs.getD k 0)) := by
  rw [List.take_succ_eq_append_getElem h, List.all_append]
  simp [List.getD_eq_getElem?_getD, h]
theorem all_false_at (p : Int → Bool) (zs : List Int) (k : Nat) (h : k < zs.length) (hp : p (zs.getD k 0) = false) : zs.all p = false := by
  rw [List.all_eq_false]
  refine ⟨zs[k], List.getElem_mem h, ?_⟩
  have e : zs.getD k 0 = zs[k] := by simp [List.getD_eq_getElem?_getD, h]
  rw [← e, hp]; simp

set_option maxHeartbeats 400000 in
theorem allTicks_any (A : Option Addr) (n cap : Nat) (zs : List Int) (w : World) (hn : zs.length = n) (hm : n ≤ maxLen) (h : Ints w A zs) :
    Calls Tryd.prog 49 #[.slice A n cap] w fun e w' => e = .returned (.bool (zs.all isT)) ∧ w = w' := by
  unfold maxLen at hm
  have HI := Lib.hid h
  clear h
  have Hn := Lib.hid hn
  clear hn
  go_enter Tryd.func49, Tryd.ntmps49
  go_wp2
  go_loop [7] (fun i => ∃ k : Nat, k ≤ n ∧ i = .int .i64 k ∧ (zs.take k).all isT = true) (fun i => n - (intOf i).toNat)
  case atStart => exact ⟨0, Nat.zero_le _, rfl, rfl⟩
  case round =>
    obtain ⟨k, hk, rfl, hall⟩ := hrel
    have Hall := Lib.hid hall
    clear hall
    by_cases hlt : k < n
    · obtain ⟨b, off, rfl, hc⟩ := HI.out (by have := Hn.out; omega)
      have hck := hc k (by have := Hn.out; omega)
      clear hc
      have Hs := Lib.hid (all_take_succ isT zs k (by have := Hn.out; omega))
      have Hf := Lib.hid (all_false_at isT zs k (by have := Hn.out; omega))
      generalize zs.getD k 0 = z at hck Hs Hf
      rcases isT_cases z with ⟨h0, h1⟩ | h0 | h0
      · go_wp2
        go_round
        case rel => exact ⟨k + 1, by omega, by go_num, by rw [Hs.out, Hall.out, isT_true h0 h1]; rfl⟩
        case measure => simp [intOf]; omega
      · go_wp2
        go_ret
        exact ⟨ret_bool (Hf.out (isT_false (.inl h0))).symm, rfl⟩
      · go_wp2
        go_ret
        exact ⟨ret_bool (Hf.out (isT_false (.inr h0))).symm, rfl⟩
    · go_wp2
      go_ret
      refine ⟨ret_bool ?_, rfl⟩
      have e : zs.take k = zs := List.take_of_length_le (by have := Hn.out; omega)
      have := Hall.out
      rw [e] at this
      exact this.symm

theorem implTickOk_any (t : Int) (w : World) : Calls Tryd.prog 63 #[.int .i64 t] w fun e w' => e = .returned (.bool (isT t)) ∧ Below w.heap.size w w' := by
  go_enter Tryd.func63, Tryd.ntmps63
  go_wp2_with fail
  refine (allTicks_any _ 1 _ [t] _ rfl (by decide) (ints_new w [t] _)).mono ?_
  rintro e w' ⟨rfl, rfl⟩
  go_wp2
  go_ret
  exact ⟨by simp, bel_alloc _ _⟩
end Go.Proofs.YtcgmeindiaaokaaDoor.Tick
