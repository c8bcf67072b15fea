/- Two sets of states compared. -/
import Derived.Test.YtoknjofdpnjioaaDoorCn1
import Derived.Laws.StructEq
namespace Go.Proofs.YtoknjofdpnjioaaDoor.Cn
open Go.RowKit Base

set_option maxRecDepth 100000 in
theorem part5 (y0 y1 y2 y3 y4 : Bool) (w : World) : (part 4 #[.bool y0, .bool y1, .bool y2, .bool y3, .bool y4] 0).run Tryd.prog w = .ok (.bool y0) w ∧ (part 4 #[.bool y0, .bool y1, .bool y2, .bool y3, .bool y4] 1).run Tryd.prog w = .ok (.bool y1) w ∧ (part 4 #[.bool y0, .bool y1, .bool y2, .bool y3, .bool y4] 2).run Tryd.prog w = .ok (.bool y2) w ∧ (part 4 #[.bool y0, .bool y1, .bool y2, .bool y3, .bool y4] 3).run Tryd.prog w = .ok (.bool y3) w ∧ (part 4 #[.bool y0, .bool y1, .bool y2, .bool y3, .bool y4] 4).run Tryd.prog w = .ok (.bool y4) w := ⟨rfl, rfl, rfl, rfl, rfl⟩

set_option maxRecDepth 100000 in
theorem size5 (w : World) : (sizeOf 4).run Tryd.prog w = .ok 1 w := rfl

theorem eq5_any (y0 y1 y2 y3 y4 x0 x1 x2 x3 x4 : Bool) (w : World) : (Op.equalIn 10000 63 (.agg #[.bool y0, .bool y1, .bool y2, .bool y3, .bool y4]) (.agg #[.bool x0, .bool x1, .bool x2, .bool x3, .bool x4])).run Tryd.prog w = .ok (decide ([y0, y1, y2, y3, y4] = [x0, x1, x2, x3, x4])) w := by
  have h1 : ∀ (a b : Bool) (w : World), (Op.equalIn 9999 4 (.bool a) (.bool b)).run Tryd.prog w = .ok (a == b) w := fun a b w => run_equalIn_bool' w 9998 4 a b Tryd.underlying4
  have hp := part5 y0 y1 y2 y3 y4
  have hq := part5 x0 x1 x2 x3 x4
  have e : ∀ (n : Nat) x y, n = 9999 → Op.equalIn 10000 63 x y = Op.equalIn (n + 1) 63 x y := fun n x y h => by rw [h]
  rw [e 9999 _ _ rfl]
  generalize hn : (9999 : Nat) = n at h1 ⊢
  simp only [Op.equalIn, Sem.run_bind, run_underlying Tryd.underlying63, Result.andThen_ok, size5]
  simp only [Std.Legacy.Range.forIn_eq_forIn_range', Std.Legacy.Range.size, List.range'_succ, List.range'_zero, List.forIn_cons, List.forIn_nil, Sem.run_bind, Nat.mul_one, Nat.zero_add, Nat.reduceAdd, (hp _).1, (hq _).1, h1, Result.andThen_ok]
  by_cases e0 : y0 = x0
  · subst e0
    simp only [beq_self_eq_true, Bool.not_true, Bool.false_eq_true, if_false, Sem.run_pure, Result.andThen_ok, Sem.run_bind, (hp _).2.1, (hq _).2.1, h1]
    by_cases e1 : y1 = x1
    · subst e1
      simp only [beq_self_eq_true, Bool.not_true, Bool.false_eq_true, if_false, Sem.run_pure, Result.andThen_ok, Sem.run_bind, (hp _).2.2.1, (hq _).2.2.1, h1]
      by_cases e2 : y2 = x2
      · subst e2
        simp only [beq_self_eq_true, Bool.not_true, Bool.false_eq_true, if_false, Sem.run_pure, Result.andThen_ok, Sem.run_bind, (hp _).2.2.2.1, (hq _).2.2.2.1, h1]
        by_cases e3 : y3 = x3
        · subst e3
          simp only [beq_self_eq_true, Bool.not_true, Bool.false_eq_true, if_false, Sem.run_pure, Result.andThen_ok, Sem.run_bind, (hp _).2.2.2.2, (hq _).2.2.2.2, h1]
          by_cases e4 : y4 = x4
          · subst e4
            simp only [beq_self_eq_true, Bool.not_true, Bool.false_eq_true, if_false, Sem.run_pure, Result.andThen_ok]
            simp
          · simp [e4]
        · simp [e3]
      · simp [e2]
    · simp [e1]
  · simp [e0]
end Go.Proofs.YtoknjofdpnjioaaDoor.Cn
