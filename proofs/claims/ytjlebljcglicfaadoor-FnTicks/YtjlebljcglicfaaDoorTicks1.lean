/- The law of chapter 1: for every code that is drawn from, it returns true. -/
import Derived.Test.YtjlebljcglicfaaDoorParse1
import Derived.Test.YtjlebljcglicfaaDoorTick5
import Derived.Test.YtjlebljcglicfaaDoorDraw2
namespace Go.Proofs.YtjlebljcglicfaaDoor.Num
open Go.RowKit Base Tick Draw

theorem big_any (A : Option Addr) (n cap : Nat) (w : World) (hm : n ≤ maxLen) : Calls Tryd.prog 6 #[.slice A n cap] w fun e w' => e = .returned (.bool (decide (1048576 < n))) ∧ w = w' := by
  unfold maxLen at hm
  go_enter Tryd.func6, Tryd.ntmps6
  go_wp2
  go_ret
  exact ⟨ret_bool (by simp; omega), rfl⟩

theorem inB_neg {b : Int} (h : isT b = true) : inB (-b) (-1000000000) 1000000000 = true := by
  have := isT_iff.1 h
  exact inB_true (by omega) (by omega)
theorem inB_tick {b : Int} (h : isT b = true) : inB b (-1000000000) 1000000000 = true := by
  have := isT_iff.1 h
  exact inB_true (by omega) (by omega)

theorem lim_in {m : Int} (h0 : 0 ≤ m) (h1 : m ≤ 1000000000) : lim m = m := by
  unfold lim; rw [if_neg (by omega), if_neg (by omega)]

/-- What addition owes, of two ticks and their sum. -/
structure Sums (a b x : Int) : Prop where
  tick : isT x = true
  sum : addT a b = x
  comm : addT b a = x
  ge : a ≤ x
  neg : addT a (-b) = sinceT b a
  back : x < 1000000000 → sinceT a x = b
  due : dueT a b x = decide (0 < b)
  early : 0 < b → x < 1000000000 → dueT a b (x - 1) = false
  three : sumF 3 [a, b, 1] = addT x 1
  soon : soonF 3 [-1, a, b] = soonF 2 [a, b]
  pos : 0 < b → 0 < x

theorem sums {a b : Int} (ha : isT a = true) (hb : isT b = true) : Sums a b (addT a b) := by
  obtain ⟨a0, a1⟩ := isT_iff.1 ha
  obtain ⟨b0, b1⟩ := isT_iff.1 hb
  have e1 : addT a b = lim (a + b) := addT_ok ha (inB_tick hb)
  have e2 : addT b a = lim (b + a) := addT_ok hb (inB_tick ha)
  have hl := lim_bd (a + b)
  have ht : isT (lim (a + b)) = true := isT_true hl.1 hl.2
  have hge : a ≤ lim (a + b) := by unfold lim; split <;> (try split) <;> omega
  have hxe : lim (a + b) < 1000000000 → lim (a + b) = a + b := by unfold lim; split <;> (try split) <;> omega
  have z0 : addT 0 a = a := by
    rw [addT_ok (isT_true (by omega) (by omega)) (inB_tick ha), Int.zero_add]
    exact lim_in a0 a1
  refine ⟨by rw [e1]; exact ht, rfl, by rw [e2, e1, Int.add_comm], by rw [e1]; exact hge, ?_, ?_, ?_, ?_, ?_, ?_, ?_⟩
  · rw [addT_ok ha (inB_neg hb), sinceT_ok hb ha]; rfl
  · intro h
    rw [e1] at h ⊢
    rw [sinceT_ok ha ht, hxe h, show a + b - a = b by omega]
    exact lim_in b0 b1
  · unfold dueT
    rw [ha, hb, e1, ht]
    by_cases hp : 0 < b
    · simp
    · simp [hp]
  · intro hp h
    unfold dueT
    rw [e1] at h ⊢
    have : decide (lim (a + b) ≤ lim (a + b) - 1) = false := by simp; omega
    rw [this]; simp
  · unfold sumF
    rw [if_neg]
    · show addT (addT (addT 0 a) b) 1 = addT (addT a b) 1
      rw [z0]
    · have h1 : isT 1 = true := isT_true (by omega) (by omega)
      simp [ha, hb, h1]
  · have h1 : stepS (-1) (-1) = -1 := by unfold stepS; split <;> rfl
    show soonT [-1, a, b] = soonT [a, b]
    unfold soonT
    simp only [List.foldl_cons, List.foldl_nil]
    rw [h1]
  · intro hp
    rw [e1]
    unfold lim; split <;> (try split) <;> omega

theorem parse_text {a : Int} (ha : isT a = true) : ParseOk (textT a) a true := by
  refine .inl ⟨rfl, ha, ?_⟩
  unfold textT; rw [if_pos ha]
end Go.Proofs.YtjlebljcglicfaaDoor.Num
