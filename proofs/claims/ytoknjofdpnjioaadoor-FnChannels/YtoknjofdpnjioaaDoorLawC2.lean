/- The law of CanReach walked. -/
import Derived.Test.YtoknjofdpnjioaaDoorCr3
import Derived.Test.YtoknjofdpnjioaaDoorLs3
namespace Go.Proofs.YtoknjofdpnjioaaDoor.Cn
open Go.RowKit Go.Deep Base Rw

theorem can_states : ∀ f, f < 5 → ∀ t, t < 5 → (reach f).getD t false = (shF (t : Int) (f : Int) 5).2 := by decide

theorem can_same (f t : Int) : canA f t = (shA f t).2 := by
  unfold canA shA
  cases hf : isS f
  · rfl
  · cases ht : isS t
    · rfl
    · obtain ⟨f, rfl⟩ : ∃ n : Nat, f = (n : Int) := ⟨f.toNat, by simp [isS] at hf; omega⟩
      obtain ⟨t, rfl⟩ : ∃ n : Nat, t = (n : Int) := ⟨t.toNat, by simp [isS] at ht; omega⟩
      have := can_states f (by simp [isS] at hf; omega) t (by simp [isS] at ht; omega)
      simpa using this

theorem lawCanReach (f t : Int) (w : World) (hm : Mvs w) : Calls Tryd.prog 7 #[.int .i64 f, .int .i64 t] w fun r w' => r = .returned (.bool true) ∧ Below w.heap.size w w' := by
  have HM := Lib.hid hm
  clear hm
  have HI := Lib.hid (fun W hM => implCan_any f t W hM)
  have HS := Lib.hid (fun W => specCan_any f t W)
  rw [can_same] at HI
  generalize (shA f t).2 = b at HI HS
  go_enter Tryd.func7, Tryd.ntmps7
  go_wp2_with fail
  refine (HS.out _).mono ?_
  rintro r w1 ⟨rfl, hb1⟩
  go_wp2_with fail
  refine (HI.out _ (HM.out.below hb1)).mono ?_
  rintro r w2 ⟨rfl, hb2⟩
  cases b
  · go_wp2
    go_ret
    exact ⟨rfl, bel_trans hb1 hb2⟩
  · go_wp2
    go_ret
    exact ⟨rfl, bel_trans hb1 hb2⟩
end Go.Proofs.YtoknjofdpnjioaaDoor.Cn
