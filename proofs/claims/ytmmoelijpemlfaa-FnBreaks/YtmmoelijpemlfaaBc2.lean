/- What slices.IsSorted answers, and the program's BreakerOk. -/
import Derived.Test.YtmmoelijpemlfaaBc1
import Derived.Deep.QuietTactic
import Derived.BigQuiet
import Derived.RegionTactic
import Derived.StillTailTactics
namespace Go.Proofs.Ytmmoelijpemlfaa.Bk
open Go.RowKit Go.Deep Base Rw Tick

theorem quiet {P : Program} {f : FuncId} {args : Array Value} {w : World} {n : Nat} {v : Value}
    (h : Calls P f args (w.drewN n) fun e w' => e = .returned v ∧ w.drewN n = w') : Calls P f args (w.drewN n) fun e w'' => e = .returned v ∧ ∃ m, w'' = w.drewN m :=
  h.mono fun _ _ ⟨he, hm⟩ => ⟨he, n, hm.symm⟩
theorem same {P : Program} {f : FuncId} {args : Array Value} {w : World} {v : Value} (h : Calls P f args w fun e w' => e = .returned v ∧ w = w') : Calls P f args w fun e w' => e = .returned v ∧ w' = w :=
  h.mono fun _ _ ⟨he, hm⟩ => ⟨he, hm.symm⟩
theorem below_drewN {B : Nat} {a b : World} (h : Below B a b) (n : Nat) : Below B a (b.drewN n) := ⟨h.os, h.tape, h.output, h.size, h.block⟩

theorem up_drop {zs : List Int} {j : Nat} (h : j + 1 < zs.length) : upB (zs.drop j) = (decide (zs.getD j 0 ≤ zs.getD (j + 1) 0) && upB (zs.drop (j + 1))) := by
  have e1 : zs.drop j = zs.getD j 0 :: zs.drop (j + 1) := by rw [List.drop_eq_getElem_cons (by omega)]; simp [List.getD_eq_getElem?_getD, show j < zs.length by omega]
  have e2 : zs.drop (j + 1) = zs.getD (j + 1) 0 :: zs.drop (j + 2) := by rw [List.drop_eq_getElem_cons h]; simp [List.getD_eq_getElem?_getD, h]
  rw [e1, e2]
  rfl
theorem up_dropn {zs : List Int} (h : upB zs = true) : ∀ j, upB (zs.drop j) = true := by
  intro j
  induction j generalizing zs with
  | zero => simpa using h
  | succ j ih =>
    cases zs with
    | nil => rfl
    | cons a l => rw [List.drop_succ_cons]; exact ih (up_tail h)
theorem up_bad {zs : List Int} {j : Nat} (h : j + 1 < zs.length) (hb : zs.getD (j + 1) 0 < zs.getD j 0) : upB zs = false := by
  cases h' : upB zs with
  | false => rfl
  | true =>
    have := up_dropn h' j
    rw [up_drop h, decide_eq_false (by omega)] at this
    exact this.symm
theorem up_short {zs : List Int} (h : zs.length ≤ 1) : upB zs = true := by
  match zs, h with
  | [], _ => rfl
  | [_], _ => rfl

theorem okB_closed (zs : List Int) (u : Int) : okB ⟨0, zs, u⟩ = (decide (zs.length ≤ 20) && zs.all isT && upB zs && (u == 0)) := by
  by_cases h : u = 0
  · subst h; simp [okB, inB, isT]
  · have e : (u == 0) = false := by simpa using h
    simp [okB, bne, e]
theorem okB_other {s : Int} (zs : List Int) (u : Int) (hs : s = 1 ∨ s = 2) : okB ⟨s, zs, u⟩ = (decide (zs.length = 0) && isT u) := by
  cases zs with
  | nil => rcases hs with rfl | rfl <;> simp [okB, inB, upB]
  | cons a l => rcases hs with rfl | rfl <;> simp [okB]
theorem okB_no {s : Int} (zs : List Int) (u : Int) (hs : s < 0 ∨ 2 < s) : okB ⟨s, zs, u⟩ = false := by
  simp only [okB, inB_false hs, Bool.false_and]

theorem less_any (a b : Int) (w : World) : Calls Try.prog 74 #[.int .i64 a, .int .i64 b] w fun e w' => e = .returned (.bool (decide (a < b))) ∧ w = w' := by
  have haa : (a != a) = false := by simp
  go_enter Try.func74, Try.ntmps74
  go_wp2
  go_ret
  exact ⟨rfl, rfl⟩

set_option maxRecDepth 100000 in
set_option maxHeartbeats 1000000 in
theorem sorted_any (A : Option Addr) (n cap : Nat) (zs : List Int) (w : World) (hn : zs.length = n) (hm : n ≤ 1048576) (h : Ints w A zs) :
    Calls Try.prog 56 #[.slice A n cap] w fun e w' => e = .returned (.bool (upB zs)) ∧ Below w.heap.size w w' := by
  have HI := Lib.hid h
  clear h
  have Hn := Lib.hid hn
  clear hn
  go_enter Try.func56, Try.ntmps56
  go_wp2
  go_loopw [3] (fun i wr => ∃ k : Nat, k ≤ n ∧ i = .int .i64 ((k : Int) - 1) ∧ upB (zs.drop (k - 1)) = true ∧ Below w.heap.size w wr) (fun i _ => (intOf i + 1).toNat)
  case atStart => exact ⟨n, Nat.le_refl _, rfl, up_short (by simp; have := Hn.out; omega), Below.refl _ _⟩
  case round =>
    obtain ⟨k, hk, rfl, hu, hr⟩ := hrel
    have Hu := Lib.hid hu
    have Hr := Lib.hid hr
    clear hu hr
    by_cases hlt : 2 ≤ k
    · obtain ⟨j, rfl⟩ : ∃ j, k = j + 2 := ⟨k - 2, by omega⟩
      obtain ⟨b, off, rfl, hc⟩ := HI.out.below Hr.out (by have := Hn.out; omega)
      have c0 := hc j (by have := Hn.out; omega)
      have c1 := hc (j + 1) (by have := Hn.out; omega)
      clear hc
      have e1 : (((j + 2 : Nat) : Int) - 1) = ((j + 1 : Nat) : Int) := by omega
      rw [e1]
      have w1 : IntKind.i64.wrap (((j + 1 : Nat) : Int) - 1) = (j : Int) := by rw [IntWalk.i64_in _ (by omega)]; omega
      have hg : (0 : Int) < ((j + 1 : Nat) : Int) := by omega
      obtain ⟨m, hm1⟩ : ∃ m, j + 1 = m := ⟨_, rfl⟩
      have Hd := Lib.hid (up_drop (zs := zs) (j := j) (by have := Hn.out; omega))
      have Hb := Lib.hid (up_bad (zs := zs) (j := j) (by have := Hn.out; omega))
      rw [hm1] at c1 w1 hg Hd Hb ⊢
      generalize zs.getD j 0 = x at c0 Hd Hb
      generalize zs.getD m 0 = y at c1 Hd Hb
      have hm2 : (m : Int) < n := by omega
      have hj2 : (j : Int) < n := by omega
      have HL := Lib.hid (fun W => less_any y x W)
      cases hyx : decide (y < x)
      · have HL' : Hid (∀ W, Calls Try.prog 74 #[.int .i64 y, .int .i64 x] W fun e w' => e = .returned (.bool false) ∧ W = w') := fun W => by have := HL.out W; rw [hyx] at this; exact this
        clear HL
        have Hyx : Hid (x ≤ y) := by have := of_decide_eq_false hyx; show x ≤ y; omega
        clear hyx
        go_wp2_with fail
        go_quiet ((go_at_call 74; exact quiet (HL'.out _)))
        go_wp2
        go_roundw
        case rel =>
          refine ⟨j + 1, by omega, by rw [hm1]; congr 1; omega, ?_, below_drewN Hr.out _⟩
          rw [show j + 1 - 1 = j from rfl, Hd.out, decide_eq_true Hyx.out]
          have := Hu.out
          rw [show j + 2 - 1 = m from by omega] at this
          rw [this]; rfl
        case measure => simp [intOf]; omega
      · have HL' : Hid (∀ W, Calls Try.prog 74 #[.int .i64 y, .int .i64 x] W fun e w' => e = .returned (.bool true) ∧ W = w') := fun W => by have := HL.out W; rw [hyx] at this; exact this
        clear HL
        have Hyx : Hid (y < x) := by show y < x; exact of_decide_eq_true hyx
        clear hyx
        go_wp2_with fail
        go_quiet ((go_at_call 74; exact quiet (HL'.out _)))
        go_wp2
        go_ret
        exact ⟨by rw [Hb.out Hyx.out]; rfl, below_drewN Hr.out _⟩
    · have hg : ¬ (0 : Int) < (k : Int) - 1 := by omega
      go_wp2
      go_ret
      refine ⟨ret_bool ?_, Hr.out⟩
      have := Hu.out
      rw [show k - 1 = 0 from by omega] at this
      simpa using this.symm

set_option maxRecDepth 100000 in
set_option maxHeartbeats 1000000 in
theorem implBreakerOk_any (A : Option Addr) (n cap : Nat) (s u : Int) (zs : List Int) (w : World) (hn : zs.length = n) (hm : n ≤ 1048576) (h : Ints w A zs) :
    Calls Try.prog 25 #[.agg #[.int .i64 s, .slice A n cap, .int .i64 u]] w fun e w' => e = .returned (.bool (okB ⟨s, zs, u⟩)) ∧ Below w.heap.size w w' := by
  have HI := Lib.hid h
  have Hn := Lib.hid hn
  clear h hn
  by_cases h0 : s = 0
  · subst h0
    have Hok := Lib.hid (okB_closed zs u)
    by_cases h20 : n ≤ 20
    · go_enter Try.func25, Try.ntmps25
      go_wp2_with fail
      refine (allTicks_any A n cap zs _ Hn.out (by unfold maxLen; omega) (HI.out.below (bel_alloc _ _))).mono ?_
      rintro e w1 ⟨rfl, rfl⟩
      cases ha : zs.all isT
      · have Ha := Lib.hid ha
        clear ha
        go_wp2
        go_ret
        exact ⟨ret_bool (by rw [Hok.out, Ha.out]; simp), bel_alloc _ _⟩
      · have Ha := Lib.hid ha
        clear ha
        go_wp2_with fail
        refine (sorted_any A n cap zs _ Hn.out hm (HI.out.below (bel_alloc _ _))).mono ?_
        rintro e w2 ⟨rfl, b2⟩
        have B2 := Lib.hid (bel_trans (bel_alloc _ _) b2)
        obtain ⟨hc, hf⟩ := bcell b2
        clear b2
        cases hu : upB zs
        · have Hu := Lib.hid hu
          clear hu
          go_wp2
          go_ret
          exact ⟨ret_bool (by rw [Hok.out, Hu.out]; simp), B2.out⟩
        · have Hu := Lib.hid hu
          clear hu
          have hlt : w.heap.size < (w.alloc (.cells #[.int .i64 0, .slice A n cap, .int .i64 u] 31)).heap.size := by simp
          go_wp2
          go_ret
          exact ⟨ret_bool (by rw [Hok.out, Ha.out, Hu.out, Hn.out, decide_eq_true h20]; rfl), B2.out⟩
    · go_enter Try.func25, Try.ntmps25
      go_wp2
      go_ret
      exact ⟨ret_bool (by rw [Hok.out, Hn.out, decide_eq_false h20]; simp), bel_alloc _ _⟩
  by_cases h12 : s = 1 ∨ s = 2
  · have Hok := Lib.hid (okB_other zs u h12)
    by_cases hz : n = 0
    · subst hz
      have hT := implTickOk_any u
      rcases h12 with rfl | rfl <;>
      · go_enter Try.func25, Try.ntmps25
        go_wp2_with fail
        refine (hT _).mono ?_
        rintro e w1 ⟨rfl, b1⟩
        have B1 := Lib.hid (bel_trans (bel_alloc _ _) b1)
        clear b1
        go_wp2
        go_ret
        exact ⟨ret_bool (by rw [Hok.out, Hn.out]; rfl), B1.out⟩
    · have hz' : ((n : Int) == 0) = false := by simpa using hz
      rcases h12 with rfl | rfl <;>
      · go_enter Try.func25, Try.ntmps25
        go_wp2
        go_ret
        exact ⟨ret_bool (by rw [Hok.out, Hn.out, decide_eq_false hz]; rfl), bel_alloc _ _⟩
  · have Hok := Lib.hid (okB_no (s := s) zs u (by omega))
    have e0 : (s == 0) = false := by simpa using h0
    have e1 : (s == 1) = false := by simp; omega
    have e2 : (s == 2) = false := by simp; omega
    go_enter Try.func25, Try.ntmps25
    go_wp2
    go_ret
    exact ⟨ret_bool Hok.out.symm, bel_alloc _ _⟩
end Go.Proofs.Ytmmoelijpemlfaa.Bk
