/- An append of one number to a slice with its room, as one step of the walk: whether it grows in place or moves. -/
import Derived.Test.YtpjelojmkmednaaLfX
namespace Go.Proofs.Ytpjelojmkmednaa.Ln
open Go.RowKit Go.Deep Base

theorem wpList_append_li {w : World} {ops : Array Oper} {rest : List Oper} {o : Oper} {a : Act} {Q : Exit → Act → World → Prop} {lo b off n cap sb : Nat} {L : List Int} {x : Int}
    (hg : o.guard = none) (s y : Operand) (hop : o.op = Op.call { callee := Callee.builtin Builtin.append, args := #[s, y], argTypes := #[33, 33] })
    (hl : Li w lo b off n cap L) (hs : a.eval s = .slice (some ⟨b, off, none⟩) n cap) (hy : a.eval y = .slice (some ⟨sb, 0, none⟩) 1 1) (hc : w.cell? ⟨sb, 0, none⟩ = some (.int .i64 x)) (hn : n ≤ 1000) (hlo : lo ≤ w.heap.size)
    (h : ∀ b' off' cap' w', Hid (Li w' lo b' off' (n + 1) cap' (L ++ [x])) → Hid (Que.Turns b (b + 1) w w') → (b' = b ∨ w.heap.size ≤ b') → wpList Try.prog ops Q rest (a.put o.dst (.slice (some ⟨b', off', none⟩) (n + 1) cap')) w') :
    wpList Try.prog ops Q (o :: rest) a w := by
  obtain ⟨i0, hi0, hz0, hz1, hz2⟩ := info_parts Que.infoInt
  refine wpList_append_arg w hg s y 33 hop 3 i0 (.int .i64 0) 1 8 Try.underlying33 hi0 hz0 hz1 hz2 rfl (by decide) b off n cap (L.map (Value.int .i64)) hs (by rw [List.length_map, hl.len]; omega) ?_ ⟨sb, 0, none⟩ 1 1 [.int .i64 x] hy rfl ?_ (by simp [Value.oneCell']) ?_ (by unfold maxLen; omega) (by omega) ?_ ?_
  · intro j u9 hj
    have hjl : j < L.length := by have := (List.getElem?_eq_some_iff.1 hj).1; simpa using this
    rw [hl.cells j (by have := hl.len; omega)]
    simp [hjl] at hj
    rw [← hj]
    simp [List.getD_eq_getElem?_getD, hjl]
  · intro j u9 hj
    have hj0 : j = 0 := by have := (List.getElem?_eq_some_iff.1 hj).1; simp at this; omega
    subst hj0
    simp at hj
    rw [← hj]
    exact hc
  · intro hr9 j hj
    simp at hj
    subst hj
    have := hl.room n (by omega)
    simpa using this
  · intro hrm
    rw [Nat.mul_one]
    refine h b off cap (w.setCells b (off + n) [.int .i64 x]) ?_ ?_ (.inl rfl)
    · exact hl.set hrm x
    · have t0 : Que.Turns b (b + 1) w w := ⟨rfl, rfl, rfl, Nat.le_refl _, fun _ _ _ => rfl⟩
      exact t0.setCell (p := ⟨b, off + n, none⟩) (Nat.le_refl _) (Nat.lt_succ_self _) _
  · intro _ v' w' hown hgr
    obtain ⟨gn, cn, rfl, hgn, l6⟩ := Li.grow (lo := lo) (x := x) hl.len hown hlo
    refine h gn 0 cn w' l6 ?_ (.inr hgn)
    exact ⟨hgr.os, hgr.tape, hgr.output, hgr.size, fun k hk _ => hgr.block k hk (by simp)⟩
end Go.Proofs.Ytpjelojmkmednaa.Ln
