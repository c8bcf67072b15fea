/- The chart of chapter 7: drawn once; a step. -/
import Derived.Test.YtoknjofdpnjioaaDoorCn3
namespace Go.Proofs.YtoknjofdpnjioaaDoor.Cn
open Go.RowKit Go.Deep Base Rw

theorem Ch.turn {w w' : World} {b : Nat} {d l : Int} {f : Nat → Int} (h : Ch w b d l f) {lo hi : Nat} (ht : Turns lo hi w w') (ho : b < lo ∨ hi ≤ b) : Ch w' b d l f := h.of_block (ht.block b h.lt ho)

theorem Mvs.turn {w w' : World} (h : Mvs w) {lo hi : Nat} (ht : Turns lo hi w w') (ho : 1 < lo ∨ hi ≤ 1) : Mvs w' := fun i hi => (World.cell?_of_block (ht.block 1 (World.block_lt_of_cell? _ _ (h i hi)) ho)).trans (h i hi)

set_option maxRecDepth 100000 in
set_option maxHeartbeats 1600000 in
theorem slow_any (b : Nat) (f : Nat → Int) (w : World) (hc : Ch w b 0 0 f) (hm : Mvs w) (hb1 : b ≠ 1) :
    Calls Tryd.prog 51 #[.pointer (some ⟨b, 0, none⟩), .func (.func 48) #[.pointer (some ⟨b, 0, none⟩)] #[]] w fun e w' => e = .returned (.tuple #[]) ∧ Ch w' b 1 0 goF ∧ Turns b (b + 1) w w' := by
  have HM := Lib.hid hm
  have HC := Lib.hid hc
  clear hm hc
  have hnot : ∀ (x : Bool) (w : World), (Op.unary .not (.bool x)).run Tryd.prog w = .ok (.bool (!x)) w := fun _ _ => rfl
  obtain ⟨w1, hw1⟩ : ∃ x, x = w.setCell ⟨b, 1, none⟩ (.int .i32 1) := ⟨_, rfl⟩
  have HC1 : Hid (Ch w1 b 0 1 f) := Lib.hid (by rw [hw1]; exact HC.out.setLock 1)
  have HT1 : Hid (Turns b (b + 1) w w1) := Lib.hid (by rw [hw1]; exact (Turns.of_below (Below.refl _ _)).setCell (p := ⟨b, 1, none⟩) (Nat.le_refl b) (Nat.lt_succ_self b) _)
  have hl := run_call_load (P := Tryd.prog) Tryd.func52 (by kernel_rfl) (by kernel_rfl) (by kernel_rfl) .u32 (by kernel_rfl) (w := w1) (a := ⟨b, 0, none⟩) (x := 0) HC1.out.done
  have HW1 := Lib.hid hw1
  clear hw1
  go_enter_defers Tryd.func51, Tryd.ntmps51
  go_wp2_with (first | (go_at_call 53; refine (take ⟨b, 1, none⟩ _ HC.out.lock (HC.out.free _)).mono ?_; rintro e wx ⟨rfl, hwx⟩; rw [show wx = w1 from hwx.trans HW1.out.symm]; clear hwx wx) | (go_at_call 50; go_in) | (go_at_call 48; refine (draw_any b 0 1 f _ (HC1.out) (HM.out.turn HT1.out (by omega)) hb1).mono ?_; rintro e w2 ⟨rfl, hc2, ht2⟩))
  have hc3 : Ch w2.drew b 0 1 goF := hc2.of_block rfl
  refine leaves_cons (f := 55) (args := #[.pointer (some ⟨b, 0, none⟩), .bool true]) (by simp) (by simp [go_sem]) ?_
  refine (storeDone ⟨b, 0, none⟩ (.int .u32 0) .returning _ hc2.done (hc2.free _)).mono ?_
  rintro e u' w3 ⟨rfl, rfl, rfl⟩
  refine leaves_cons (f := 54) (args := #[.pointer (some ⟨b, 1, none⟩)]) (by simp [settle]) (by simp [go_sem]) ?_
  refine (letGo ⟨b, 1, none⟩ _ _ (hc3.setDone 1).lock ((hc3.setDone 1).free _)).mono ?_
  rintro e u' w4 ⟨rfl, rfl, rfl⟩
  have hfin : Ch ((w2.drew.setCell ⟨b, 0, none⟩ (.int .u32 1)).setCell ⟨b, 1, none⟩ (.int .i32 0)) b 1 0 goF ∧ Turns b (b + 1) w ((w2.drew.setCell ⟨b, 0, none⟩ (.int .u32 1)).setCell ⟨b, 1, none⟩ (.int .i32 0)) :=
    ⟨(hc3.setDone 1).setLock 0, (((HT1.out.trans ht2).trans (Turns.of_below (Below.drew (Below.refl _ _)))).setCell (p := ⟨b, 0, none⟩) (Nat.le_refl b) (Nat.lt_succ_self b) _).setCell (p := ⟨b, 1, none⟩) (Nat.le_refl b) (Nat.lt_succ_self b) _⟩
  simpa [Leaves, settle, results, Tryd.results51] using hfin

set_option maxRecDepth 100000 in
set_option maxHeartbeats 1600000 in
theorem doFirst (b : Nat) (f : Nat → Int) (w : World) (hc : Ch w b 0 0 f) (hm : Mvs w) (hb1 : b ≠ 1) :
    Calls Tryd.prog 47 #[.pointer (some ⟨b, 0, none⟩), .func (.func 48) #[.pointer (some ⟨b, 0, none⟩)] #[]] w fun e w' => e = .returned (.tuple #[]) ∧ Ch w' b 1 0 goF ∧ Turns b (b + 1) w w' := by
  have HM := Lib.hid hm
  have HC := Lib.hid hc
  clear hm hc
  have hl := run_call_load (P := Tryd.prog) Tryd.func52 (by kernel_rfl) (by kernel_rfl) (by kernel_rfl) .u32 (by kernel_rfl) HC.out.done
  have hnot : ∀ (x : Bool) (w : World), (Op.unary .not (.bool x)).run Tryd.prog w = .ok (.bool (!x)) w := fun _ _ => rfl
  go_enter Tryd.func47, Tryd.ntmps47
  go_wp2_with (first | (go_at_call 51; refine (slow_any b f _ HC.out HM.out hb1).mono ?_; rintro e w1 ⟨rfl, hc1, ht1⟩) | (go_at_call 50; go_in))
  go_end0
  exact ⟨rfl, hc1, ht1⟩

theorem doAgain (b : Nat) (f : Nat → Int) (fv : Value) (w : World) (hc : Ch w b 1 0 f) :
    Calls Tryd.prog 47 #[.pointer (some ⟨b, 0, none⟩), fv] w fun e w' => e = .returned (.tuple #[]) ∧ w' = w := by
  have hl := run_call_load (P := Tryd.prog) Tryd.func52 (by kernel_rfl) (by kernel_rfl) (by kernel_rfl) .u32 (by kernel_rfl) hc.done
  have hnot : ∀ (x : Bool) (w : World), (Op.unary .not (.bool x)).run Tryd.prog w = .ok (.bool (!x)) w := fun _ _ => rfl
  go_enter Tryd.func47, Tryd.ntmps47
  go_wp2
  go_end0
  exact ⟨rfl, rfl⟩

/-- A chart between two steps: not drawn yet, or drawn. -/
def Cht (w : World) (b : Nat) : Prop := (∃ f, Ch w b 0 0 f) ∨ Ch w b 1 0 goF

theorem Cht.lt {w : World} {b : Nat} (h : Cht w b) : b < w.heap.size := by
  rcases h with ⟨f, h⟩ | h <;> exact h.lt

theorem Cht.of_block {w w' : World} {b : Nat} (h : Cht w b) (e : w'.heap[b]? = w.heap[b]?) : Cht w' b := by
  rcases h with ⟨f, h⟩ | h
  · exact .inl ⟨f, h.of_block e⟩
  · exact .inr (h.of_block e)

theorem Cht.below {w w' : World} {b : Nat} (h : Cht w b) (hb : Below w.heap.size w w') : Cht w' b := h.of_block (hb.block b h.lt)

/-- The state behind an event. -/
def go (s e : Int) : Int := if isS s && isE e then goF (s.toNat * 7 + e.toNat) else s

theorem do_any (b : Nat) (w : World) (hc : Cht w b) (hm : Mvs w) (hb1 : b ≠ 1) :
    Calls Tryd.prog 47 #[.pointer (some ⟨b, 0, none⟩), .func (.func 48) #[.pointer (some ⟨b, 0, none⟩)] #[]] w fun e w' => e = .returned (.tuple #[]) ∧ Ch w' b 1 0 goF ∧ Turns b (b + 1) w w' := by
  rcases hc with ⟨f, h⟩ | h
  · exact doFirst b f w h hm hb1
  · exact (doAgain b goF _ w h).mono fun e w' ⟨he, hw⟩ => ⟨he, hw ▸ h, hw ▸ Turns.of_below (Below.refl _ _)⟩

set_option maxRecDepth 100000 in
set_option maxHeartbeats 1600000 in
theorem step_any (b : Nat) (s e : Int) (w : World) (hc : Cht w b) (hm : Mvs w) (hb1 : b ≠ 1) :
    Calls Tryd.prog 35 #[.pointer (some ⟨b, 0, none⟩), .int .i64 s, .int .i64 e] w fun r w' => r = .returned (.tuple #[.int .i64 (go s e), .bool (go s e != s)]) ∧ Cht w' b ∧ Turns b (b + 1) w w' := by
  have HM := Lib.hid hm
  have HC := Lib.hid hc
  clear hm hc
  have hmf : ∀ (fn : Fn) (first cap : Array Value) (w : World), (Instr.makeFunc fn first cap).run Tryd.prog w = .ok (.func fn first cap) w := fun _ _ _ _ => rfl
  cases hs : isS s
  · go_enter Tryd.func35, Tryd.ntmps35
    go_wp2_with (go_at_call 32; refine (stateOk_at hs _).mono ?_; rintro r w1 ⟨rfl, hb1⟩)
    refine bodyPost_ret (results_tmp2 rfl _ _ _) rfl ?_
    exact ⟨by simp [go, hs], HC.out.below hb1, Turns.of_below hb1⟩
  · cases he : isE e
    · go_enter Tryd.func35, Tryd.ntmps35
      go_wp2_with (first | (go_at_call 32; refine (stateOk_at hs _).mono ?_; rintro r w1 ⟨rfl, hb1⟩) | (go_at_call 44; refine (within_at (x := e) (l := 0) (m := 6) he _).mono ?_; rintro r w2 ⟨rfl, hb2⟩))
      refine bodyPost_ret (results_tmp2 rfl _ _ _) rfl ?_
      exact ⟨by simp [go, he], HC.out.below (bel_trans hb1 hb2), Turns.of_below (bel_trans hb1 hb2)⟩
    · obtain ⟨s, rfl⟩ : ∃ n : Nat, s = (n : Int) := ⟨s.toNat, by simp [isS] at hs; omega⟩
      obtain ⟨e, rfl⟩ : ∃ n : Nat, e = (n : Int) := ⟨e.toNat, by simp [isE] at he; omega⟩
      have hs5 : s < 5 := by simp [isS] at hs; omega
      have he7 : e < 7 := by simp [isE] at he; omega
      have HG : Hid (go (s : Int) (e : Int) = goF (s * 7 + e)) := Lib.hid (by simp [go, hs, he])
      go_enter Tryd.func35, Tryd.ntmps35
      go_wp2_with (first | (go_at_call 32; refine (stateOk_at hs _).mono ?_; rintro r w1 ⟨rfl, hb1⟩) | (go_at_call 44; refine (within_at (x := (e : Int)) (l := 0) (m := 6) he _).mono ?_; rintro r w2 ⟨rfl, hb2⟩) | (go_at_call 47; refine (do_any b _ (HC.out.below (bel_trans hb1 hb2)) (HM.out.below (bel_trans hb1 hb2)) ‹_›).mono ?_; rintro r w3 ⟨rfl, hc3, ht3⟩; have c3 := hc3.cell (s * 7 + e) (by omega); rw [← Nat.add_assoc] at c3; generalize goF (s * 7 + e) = g at c3 HG))
      refine bodyPost_ret (results_tmp2 rfl _ _ _) rfl ?_
      exact ⟨by simp [HG.out], .inr hc3, (Turns.of_below (bel_trans hb1 hb2)).trans ht3⟩

/-- The zero chart in a new block. -/
theorem cht_new (w : World) (t : TypeId) : Cht (w.alloc (.cells #[.int .u32 0, .int .i32 0, .int .u32 0, .int .i64 0, .int .i64 0, .int .i64 0, .int .i64 0, .int .i64 0, .int .i64 0, .int .i64 0, .int .i64 0, .int .i64 0, .int .i64 0, .int .i64 0, .int .i64 0, .int .i64 0, .int .i64 0, .int .i64 0, .int .i64 0, .int .i64 0, .int .i64 0, .int .i64 0, .int .i64 0, .int .i64 0, .int .i64 0, .int .i64 0, .int .i64 0, .int .i64 0, .int .i64 0, .int .i64 0, .int .i64 0, .int .i64 0, .int .i64 0, .int .i64 0, .int .i64 0, .int .i64 0, .int .i64 0, .int .i64 0] t)) w.heap.size := by
  have e := heap_alloc_new w (.cells (#[.int .u32 0, .int .i32 0, .int .u32 0] ++ Array.replicate 35 (.int .i64 0)) t)
  refine .inl ⟨fun _ => 0, ?_, ?_, fun i hi => ?_, fun j => ?_⟩
  · exact (cell_of_row _ _ 0 _ t (0, 0) e).trans rfl
  · exact (cell_of_row _ _ 1 _ t (0, 0) e).trans rfl
  · refine (cell_of_row _ _ (3 + i) _ t (0, 0) e).trans ?_
    rw [Array.getElem?_append_right (by simp), show 3 + i - (#[Value.int .u32 0, .int .i32 0, .int .u32 0] : Array Value).size = i by simp]
    simp [hi]
  · exact World.frozen?_alloc_new _ _ t j

set_option maxRecDepth 100000 in
set_option maxHeartbeats 1600000 in
theorem implStep_any (s e : Int) (w : World) (hm : Mvs w) : Calls Tryd.prog 18 #[.int .i64 s, .int .i64 e] w fun r w' => r = .returned (.tuple #[.int .i64 (go s e), .bool (go s e != s)]) ∧ Below w.heap.size w w' := by
  have HM := Lib.hid hm
  have hlt : 1 < w.heap.size := World.block_lt_of_cell? _ _ (hm 0 (by omega))
  clear hm
  go_enter Tryd.func18, Tryd.ntmps18
  go_wp2_with (go_at_call 35; refine (step_any w.heap.size s e _ (cht_new w _) (HM.out.below (bel_alloc w _)) (by omega)).mono ?_; rintro r w1 ⟨rfl, hc1, ht1⟩)
  refine bodyPost_ret (results_tmp2 rfl _ _ _) rfl ?_
  exact ⟨rfl, ((bel_alloc w _).trans (ht1.below (Nat.le_refl _) (by simp)))⟩

theorem isE_cases {e : Int} (h : isE e = true) : e = 0 ∨ e = 1 ∨ e = 2 ∨ e = 3 ∨ e = 4 ∨ e = 5 ∨ e = 6 := by
  simp [isE] at h; omega

theorem specGoes_any (s e : Int) (hs : isS s = true) (he : isE e = true) (w : World) : Calls Tryd.prog 37 #[.int .i64 s, .int .i64 e] w fun r w' => r = .returned (.int .i64 (go s e)) ∧ Below w.heap.size w w' := by
  rcases isS_cases hs with rfl | rfl | rfl | rfl | rfl <;> rcases isE_cases he with rfl | rfl | rfl | rfl | rfl | rfl | rfl
  all_goals
    go_enter Tryd.func37, Tryd.ntmps37
    go_wp2_with (go_at_call 36; refine (specIn_at rfl _).mono ?_; rintro r w1 ⟨rfl, hb1⟩)
    go_ret
    exact ⟨rfl, by first | exact hb1 | exact Below.refl _ _⟩

theorem specStep_any (s e : Int) (w : World) : Calls Tryd.prog 20 #[.int .i64 s, .int .i64 e] w fun r w' => r = .returned (.tuple #[.int .i64 (go s e), .bool (go s e != s)]) ∧ Below w.heap.size w w' := by
  cases hs : isS s
  · go_enter Tryd.func20, Tryd.ntmps20
    go_wp2_with (go_at_call 36; refine (specIn_at (x := s) (l := 0) (m := 4) hs _).mono ?_; rintro r w1 ⟨rfl, hb1⟩)
    refine bodyPost_ret (results_tmp2 rfl _ _ _) rfl ?_
    exact ⟨by simp [go, hs], hb1⟩
  · cases he : isE e
    · have hs' : (decide (0 ≤ s) && decide (s ≤ 4)) = true := hs
      have he' : (decide (0 ≤ e) && decide (e ≤ 6)) = false := he
      go_enter Tryd.func20, Tryd.ntmps20
      go_wp2_with (first | (go_at_call 36; with_reducible refine (specIn_at (x := s) (l := 0) (m := 4) hs' _).mono ?_; rintro r w1 ⟨rfl, hb1⟩) | (go_at_call 36; with_reducible refine (specIn_at (x := e) (l := 0) (m := 6) he' _).mono ?_; rintro r w2 ⟨rfl, hb2⟩))
      refine bodyPost_ret (results_tmp2 rfl _ _ _) rfl ?_
      exact ⟨by simp [go, he], bel_trans hb1 hb2⟩
    · have hs' : (decide (0 ≤ s) && decide (s ≤ 4)) = true := hs
      have he' : (decide (0 ≤ e) && decide (e ≤ 6)) = true := he
      go_enter Tryd.func20, Tryd.ntmps20
      go_wp2_with (first | (go_at_call 36; with_reducible refine (specIn_at (x := s) (l := 0) (m := 4) hs' _).mono ?_; rintro r w1 ⟨rfl, hb1⟩) | (go_at_call 36; with_reducible refine (specIn_at (x := e) (l := 0) (m := 6) he' _).mono ?_; rintro r w2 ⟨rfl, hb2⟩) | (go_at_call 37; refine (specGoes_any s e hs he _).mono ?_; rintro r w3 ⟨rfl, hb3⟩))
      refine bodyPost_ret (results_tmp2 rfl _ _ _) rfl ?_
      exact ⟨rfl, bel_trans (bel_trans hb1 hb2) hb3⟩

theorem lawStepChannel (s e : Int) (w : World) (hm : Mvs w) : Calls Tryd.prog 4 #[.int .i64 s, .int .i64 e] w fun r w' => r = .returned (.bool true) ∧ Below w.heap.size w w' := by
  have HM := Lib.hid hm
  clear hm
  go_enter Tryd.func4, Tryd.ntmps4
  go_wp2_with (first | (go_at_call 20; refine (specStep_any s e _).mono ?_; rintro r w1 ⟨rfl, hb1⟩) | (go_at_call 18; refine (implStep_any s e _ (HM.out.below hb1)).mono ?_; rintro r w2 ⟨rfl, hb2⟩))
  go_ret
  exact ⟨rfl, bel_trans hb1 hb2⟩
end Go.Proofs.YtoknjofdpnjioaaDoor.Cn
