/- The reference's ShortestEvents and CanReach. -/
import Derived.Test.YtoknjofdpnjioaaDoorLs2
namespace Go.Proofs.YtoknjofdpnjioaaDoor.Cn
open Go.RowKit Go.Deep Base Rw

theorem lists_any (t : Int) (n : Nat) (hn : n ≤ 4) (f : Int) (w : World) (hf : isS f = true) : Calls Tryd.prog 38 #[.int .i64 f, .int .i64 t, .int .i64 (n : Int)] w (ListsEnd t n f w) := by
  induction n generalizing f w with
  | zero => exact lists_zero f t w
  | succ n ih => exact lists_succ t n (by omega) (fun f w hf => ih (by omega) f w hf) f hf w

/-- The first of the shortest lists of events, the lengths from 5 - k on tried. -/
def shF (t f : Int) : Nat → List Int × Bool
  | 0 => ([], false)
  | k + 1 => if lstL t (4 - k) f = [] then shF t f k else ((lstL t (4 - k) f).headD [], true)
/-- The answer of ShortestEvents. -/
def shA (f t : Int) : List Int × Bool := if isS f && isS t then shF t f 5 else ([], false)

/-- A row and whether there is one. -/
def ShEnd (f t : Int) (w : World) (e : Ending) (w' : World) : Prop := ∃ A cap, e = .returned (.tuple #[.slice A (shA f t).1.length cap, .bool (shA f t).2]) ∧ IV w' w.heap.size w'.heap.size A (shA f t).1 ∧ Below w.heap.size w w'

set_option maxRecDepth 100000 in
set_option maxHeartbeats 1600000 in
theorem specShort_any (f t : Int) (w : World) : Calls Tryd.prog 28 #[.int .i64 f, .int .i64 t] w (ShEnd f t w) := by
  cases hf : isS f
  · have e1 : Hid (shA f t = ([], false)) := Lib.hid (by simp [shA, hf])
    have hf' : (decide (0 ≤ f) && decide (f ≤ 4)) = false := hf
    go_enter Tryd.func28, Tryd.ntmps28
    go_wp2_with fail
    refine (specIn_at hf' _).mono ?_
    rintro r w1 ⟨rfl, hb1⟩
    go_wp2_with fail
    refine bodyPost_ret (results_tmp2 rfl _ _ _) rfl ?_
    exact ⟨none, 0, by rw [e1.out]; rfl, by rw [e1.out]; exact IV.nil _ _ _ _, hb1⟩
  have hf' : (decide (0 ≤ f) && decide (f ≤ 4)) = true := hf
  cases ht : isS t
  · have e1 : Hid (shA f t = ([], false)) := Lib.hid (by simp [shA, ht])
    have ht' : (decide (0 ≤ t) && decide (t ≤ 4)) = false := ht
    go_enter Tryd.func28, Tryd.ntmps28
    go_wp2_with fail
    refine (specIn_at hf' _).mono ?_
    rintro r w1 ⟨rfl, hb1⟩
    go_wp2_with fail
    refine (specIn_at ht' _).mono ?_
    rintro r w2 ⟨rfl, hb2⟩
    go_wp2_with fail
    refine bodyPost_ret (results_tmp2 rfl _ _ _) rfl ?_
    exact ⟨none, 0, by rw [e1.out]; rfl, by rw [e1.out]; exact IV.nil _ _ _ _, bel_trans hb1 hb2⟩
  have ht' : (decide (0 ≤ t) && decide (t ≤ 4)) = true := ht
  have E1 : Hid (shA f t = shF t f 5) := Lib.hid (by simp [shA, hf, ht])
  have Hf := Lib.hid hf
  clear hf ht
  go_enter Tryd.func28, Tryd.ntmps28
  go_wp2_with fail
  refine (specIn_at hf' _).mono ?_
  rintro r w1 ⟨rfl, hb1⟩
  go_wp2_with fail
  refine (specIn_at ht' _).mono ?_
  rintro r w2 ⟨rfl, hb2⟩
  have B := Lib.hid (bel_trans hb1 hb2)
  clear hb1 hb2 hf' ht'
  go_wp2_with fail
  go_loopw [6] (fun e wr => ∃ n : Nat, n ≤ 5 ∧ e = .int .i64 n ∧ shF t f 5 = shF t f (5 - n) ∧ Below w.heap.size w wr) (fun e _ => 5 - (intOf e).toNat)
  case atStart => exact ⟨0, by omega, rfl, rfl, B.out⟩
  case round =>
    obtain ⟨n, hn, rfl, hsh, hb⟩ := hrel
    have HB := Lib.hid hb
    have Hsh := Lib.hid hsh
    have zr : w.heap.size ≤ wr.heap.size := hb.size
    clear hb hsh B
    by_cases hlt : n < 5
    · have HS : Hid (shF t f (5 - n) = if lstL t n f = [] then shF t f (5 - (n + 1)) else ((lstL t n f).headD [], true)) := Lib.hid (by
        obtain ⟨k, hk⟩ : ∃ k, 5 - n = k + 1 := ⟨4 - n, by omega⟩
        rw [hk, show 5 - (n + 1) = k by omega]
        simp only [shF, show 4 - k = n by omega])
      have HLi := Lib.hid (lists_any t n (by omega) f wr Hf.out)
      unfold ListsEnd at HLi
      generalize lstL t n f = ls at HS HLi
      go_wp2_with fail
      refine HLi.out.mono ?_
      rintro r w3 ⟨v, rs, rfl, hrs, hR, b3⟩
      have HR := Lib.hid hR
      have Hrs := Lib.hid hrs
      replace HB := Lib.hid (bel_trans HB.out b3)
      have z3 : wr.heap.size ≤ w3.heap.size := b3.size
      clear hR hrs b3 HLi
      obtain ⟨A, cap, rfl⟩ := owns_form HR.out.own
      cases rs with
      | nil =>
        have Hnx : Hid (shF t f 5 = shF t f (5 - (n + 1))) := Lib.hid (by rw [Hsh.out, HS.out, if_pos (by rw [← Hrs.out]; rfl)])
        go_wp2_with fail
        go_roundw
        case rel => exact ⟨n + 1, by omega, by go_num, Hnx.out, HB.out⟩
        case measure => simp [intOf]; omega
      | cons r rest =>
        have Hnx : Hid (shA f t = (r.ints, true)) := Lib.hid (by
          rw [E1.out, Hsh.out, HS.out, ← Hrs.out]
          simp)
        obtain ⟨g0, c0, hval⟩ := HR.out.some r (by simp)
        have hri := HR.out.each r (by simp)
        have hgr : ∃ gr, A = some ⟨gr, 0, none⟩ := by
          rcases HR.out.own.2 with ⟨_, h0⟩ | ⟨gr, _, _, h1, _⟩
          · simp at h0
          · injection h1 with h1
            exact ⟨gr, h1⟩
        obtain ⟨gr, rfl⟩ := hgr
        have hcell := HR.out.own.cellAt 0 (by simp)
        simp only [List.map_cons, List.getElem?_cons_zero, hval] at hcell
        rw [hval] at hri
        have Hri := Lib.hid (iv_owns hri)
        obtain ⟨zs, hzs⟩ : ∃ zs, r.ints = zs := ⟨_, rfl⟩
        rw [hzs] at hcell Hri Hnx
        have hl1 : (rest.length : Int) + 1 > 0 := by omega
        have hl2 : (0 : Int) < ((r :: rest).length : Int) := by simp
        clear hri hval
        go_wp2_with fail
        refine bodyPost_ret (results_tmp2 rfl _ _ _) rfl ?_
        exact ⟨_, _, by rw [Hnx.out]; rfl, by rw [Hnx.out]; exact Hri.out.wide zr (Nat.le_refl _), HB.out⟩
    · obtain rfl : n = 5 := by omega
      have Hnx : Hid (shA f t = ([], false)) := Lib.hid (by rw [E1.out, Hsh.out]; rfl)
      go_wp2_with fail
      refine bodyPost_ret (results_tmp2 rfl _ _ _) rfl ?_
      exact ⟨none, 0, by rw [Hnx.out]; rfl, by rw [Hnx.out]; exact IV.nil _ _ _ _, HB.out⟩

theorem specCan_any (f t : Int) (w : World) : Calls Tryd.prog 27 #[.int .i64 f, .int .i64 t] w fun r w' => r = .returned (.bool (shA f t).2) ∧ Below w.heap.size w w' := by
  go_enter Tryd.func27, Tryd.ntmps27
  go_wp2_with fail
  refine (specShort_any f t w).mono ?_
  rintro r w1 ⟨A, cap, rfl, _, hb⟩
  go_wp2
  go_ret
  exact ⟨rfl, hb⟩
end Go.Proofs.YtoknjofdpnjioaaDoor.Cn
