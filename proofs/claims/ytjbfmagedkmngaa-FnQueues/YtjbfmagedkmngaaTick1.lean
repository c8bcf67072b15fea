/- Contracts of the leaves of chapter 1: what side, limited, l01In, TickOk and allTicks return, for every argument that reads as integers. -/
import Derived.Test.YtjbfmagedkmngaaChecked
import Derived.Test.YtjbfmagedkmngaaBase
namespace Go.Proofs.Ytjbfmagedkmngaa.Tick
open Go.RowKit Base

def inB (x l h : Int) : Bool := decide (l ≤ x) && decide (x ≤ h)
def isT (t : Int) : Bool := inB t 0 1000000000
def side (m : Int) : Int := if m < 0 then 0 else if 1000000000 < m then 2 else 1
def lim (m : Int) : Int := if m < 0 then 0 else if 1000000000 < m then 1000000000 else m

theorem inB_true {x l h : Int} (a : l ≤ x) (b : x ≤ h) : inB x l h = true := by simp [inB, a, b]
theorem inB_false {x l h : Int} (a : x < l ∨ h < x) : inB x l h = false := by
  unfold inB; rcases a with a | a
  · rw [decide_eq_false (by omega)]; rfl
  · rw [decide_eq_false (p := x ≤ h) (by omega)]; simp
theorem inB_iff {x l h : Int} : inB x l h = true ↔ l ≤ x ∧ x ≤ h := by simp [inB]
theorem isT_iff {t : Int} : isT t = true ↔ 0 ≤ t ∧ t ≤ 1000000000 := inB_iff
theorem isT_true {t : Int} (a : 0 ≤ t) (b : t ≤ 1000000000) : isT t = true := inB_true a b
theorem isT_false {t : Int} (a : t < 0 ∨ 1000000000 < t) : isT t = false := inB_false a
theorem isT_cases (t : Int) : (0 ≤ t ∧ t ≤ 1000000000) ∨ (t < 0 ∨ 1000000000 < t) := by omega

theorem in_any (x l h : Int) (w : World) : Calls Try.prog 50 #[.int .i64 x, .int .i64 l, .int .i64 h] w fun e w' => e = .returned (.bool (inB x l h)) ∧ w = w' := by
  by_cases h0 : l ≤ x
  · by_cases h1 : x ≤ h
    · go_enter Try.func50, Try.ntmps50
      go_wp2
      go_ret
      exact ⟨ret_bool (inB_true h0 h1).symm, rfl⟩
    · go_enter Try.func50, Try.ntmps50
      go_wp2
      go_ret
      exact ⟨ret_bool (inB_false (by omega)).symm, rfl⟩
  · go_enter Try.func50, Try.ntmps50
    go_wp2
    go_ret
    exact ⟨ret_bool (inB_false (by omega)).symm, rfl⟩

theorem all_take_succ (p : Int → Bool) (zs : List Int) (k : Nat) (h : k < zs.length) : (zs.take (k + 1)).all p = ((zs.take k).all p && p (zs.getD k 0)) := by
  rw [List.take_succ_eq_append_getElem h, List.all_append]
  simp [List.getD_eq_getElem?_getD, h]
theorem all_false_at (p : Int → Bool) (zs : List Int) (k : Nat) (h : k < zs.length) (hp : p (zs.getD k 0) = false) : zs.all p = false := by
  rw [List.all_eq_false]
  refine ⟨zs[k], List.getElem_mem h, ?_⟩
  have e : zs.getD k 0 = zs[k] := by simp [List.getD_eq_getElem?_getD, h]
  rw [← e, hp]; simp


end Go.Proofs.Ytjbfmagedkmngaa.Tick
