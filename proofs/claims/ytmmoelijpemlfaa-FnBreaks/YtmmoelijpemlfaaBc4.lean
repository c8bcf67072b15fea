/- What MayDial answers, the program's and the reference's. -/
import Derived.Test.YtmmoelijpemlfaaBc3
namespace Go.Proofs.Ytmmoelijpemlfaa.Bk
open Go.RowKit Go.Deep Base Rw Tick

/-- Whether a dial may begin now, of a valid breaker. -/
def fitD (s u now : Int) : Bool := isT now && (s == 0 || (s == 1 && decide (u ≤ now)))
theorem mayD_eq (s u now : Int) (zs : List Int) : mayD ⟨s, zs, u⟩ now = (okB ⟨s, zs, u⟩ && fitD s u now) := by
  unfold mayD fitD
  rw [Bool.and_assoc]

set_option maxRecDepth 100000 in
set_option maxHeartbeats 1000000 in
theorem fitDial_any (A : Option Addr) (n cap : Nat) (s u now : Int) (w : World) :
    Calls Try.prog 51 #[.agg #[.int .i64 now], .agg #[.int .i64 s, .slice A n cap, .int .i64 u]] w fun e w' => e = .returned (.bool (fitD s u now)) ∧ Below w.heap.size w w' := by
  have ha : ∀ o o', Below w.heap.size w ((w.alloc o).alloc o') := fun o o' => ((Below.refl _ _).alloc (Nat.le_refl _) _).alloc (by simp) _
  have Ha := Lib.hid ha
  clear ha
  go_enter Try.func51, Try.ntmps51
  go_wp2_with fail
  refine (implTickOk_any now _).mono ?_
  rintro e w1 ⟨rfl, b1⟩
  obtain ⟨hc, hf⟩ := bcell b1
  have z1 : w.heap.size < (((w.alloc (.cells #[.int .i64 now] 75)).alloc (.cells #[.int .i64 s, .slice A n cap, .int .i64 u] 31))).heap.size := by simp; omega
  have z2 : w.heap.size + 1 < (((w.alloc (.cells #[.int .i64 now] 75)).alloc (.cells #[.int .i64 s, .slice A n cap, .int .i64 u] 31))).heap.size := by simp
  have B1 := Lib.hid (bel_trans (Ha.out _ _) b1)
  clear b1
  cases ht : isT now
  · have Ht := Lib.hid ht
    clear ht
    go_wp2
    go_ret
    exact ⟨by unfold fitD; rw [Ht.out]; rfl, B1.out⟩
  have Ht := Lib.hid ht
  clear ht
  by_cases h0 : s = 0
  · subst h0
    go_wp2
    go_ret
    exact ⟨by unfold fitD; rw [Ht.out]; rfl, B1.out⟩
  have e0 : (s == 0) = false := by simpa using h0
  clear h0
  by_cases h1 : s = 1
  · subst h1
    go_wp2
    go_ret
    exact ⟨by unfold fitD; rw [Ht.out]; rfl, B1.out⟩
  have e1 : (s == 1) = false := by simpa using h1
  clear h1
  go_wp2
  go_ret
  exact ⟨by unfold fitD; rw [Ht.out, e0, e1]; rfl, B1.out⟩

set_option maxRecDepth 100000 in
set_option maxHeartbeats 1000000 in
theorem implMayDial_any (A : Option Addr) (n cap : Nat) (s u now : Int) (zs : List Int) (w : World) (hn : zs.length = n) (hm : n ≤ 1048576) (h : Ints w A zs) :
    Calls Try.prog 20 #[.agg #[.int .i64 s, .slice A n cap, .int .i64 u], .int .i64 now] w fun e w' => e = .returned (.bool (mayD ⟨s, zs, u⟩ now)) ∧ Below w.heap.size w w' := by
  have HI := Lib.hid h
  have Hn := Lib.hid hn
  clear h hn
  have HE := Lib.hid (mayD_eq s u now zs)
  go_enter Try.func20, Try.ntmps20
  go_wp2_with fail
  refine (implBreakerOk_any A n cap s u zs _ Hn.out hm (HI.out.below (bel_alloc _ _))).mono ?_
  rintro e w1 ⟨rfl, b1⟩
  have K : Hid (PB w1 w.heap.size (.int .i64 s) (.slice A n cap) (.int .i64 u)) := PB.below (heap_alloc_new w _) b1 (by simp)
  have B1 := Lib.hid (bel_trans (bel_alloc _ _) b1)
  clear b1
  cases ho : okB ⟨s, zs, u⟩
  · have Ho := Lib.hid ho
    clear ho
    go_wp2
    go_ret
    exact ⟨by rw [HE.out, Ho.out]; rfl, B1.out⟩
  have Ho := Lib.hid ho
  clear ho
  obtain ⟨x0, x1, x2, _⟩ := K.out.cells
  go_wp2_with fail
  refine (fitDial_any A n cap s u now _).mono ?_
  rintro e w2 ⟨rfl, b2⟩
  have B2 := Lib.hid (bel_trans B1.out b2)
  clear b2
  go_wp2
  go_ret
  exact ⟨by rw [HE.out, Ho.out]; rfl, B2.out⟩

set_option maxRecDepth 100000 in
set_option maxHeartbeats 1000000 in
theorem specMayDial_any (A : Option Addr) (n cap : Nat) (s u now : Int) (zs : List Int) (w : World) (hn : zs.length = n) (hm : n ≤ 1048576) (h : Ints w A zs) :
    Calls Try.prog 27 #[.agg #[.int .i64 s, .slice A n cap, .int .i64 u], .int .i64 now] w fun e w' => e = .returned (.bool (mayD ⟨s, zs, u⟩ now)) ∧ Below w.heap.size w w' := by
  have HI := Lib.hid h
  have Hn := Lib.hid hn
  clear h hn
  have HE := Lib.hid (mayD_eq s u now zs)
  go_enter Try.func27, Try.ntmps27
  go_wp2_with fail
  refine (specBreakerOk_any A n cap s u zs _ Hn.out hm (HI.out.below (bel_alloc _ _))).mono ?_
  rintro e w1 ⟨rfl, b1⟩
  have K : Hid (PB w1 w.heap.size (.int .i64 s) (.slice A n cap) (.int .i64 u)) := PB.below (heap_alloc_new w _) b1 (by simp)
  have B1 := Lib.hid (bel_trans (bel_alloc _ _) b1)
  clear b1
  cases ho : okB ⟨s, zs, u⟩
  · have Ho := Lib.hid ho
    clear ho
    go_wp2
    go_ret
    exact ⟨by rw [HE.out, Ho.out]; rfl, B1.out⟩
  have Ho := Lib.hid ho
  clear ho
  obtain ⟨x0, x1, x2, _⟩ := K.out.cells
  go_wp2_with fail
  refine (specTickOk_any now _).mono ?_
  rintro e w2 ⟨rfl, rfl⟩
  cases ht : isT now
  · have Ht := Lib.hid ht
    clear ht
    go_wp2
    go_ret
    exact ⟨by rw [HE.out, Ho.out]; unfold fitD; rw [Ht.out]; rfl, B1.out⟩
  have Ht := Lib.hid ht
  clear ht
  by_cases h0 : s = 0
  · subst h0
    go_wp2
    go_ret
    exact ⟨by rw [HE.out, Ho.out]; unfold fitD; rw [Ht.out]; rfl, B1.out⟩
  have e0 : (s == 0) = false := by simpa using h0
  clear h0
  by_cases h1 : s = 1
  · subst h1
    go_wp2
    go_ret
    exact ⟨by rw [HE.out, Ho.out]; unfold fitD; rw [Ht.out]; rfl, B1.out⟩
  have e1 : (s == 1) = false := by simpa using h1
  clear h1
  go_wp2
  go_ret
  exact ⟨by rw [HE.out, Ho.out]; unfold fitD; rw [Ht.out, e0, e1]; rfl, B1.out⟩
end Go.Proofs.Ytmmoelijpemlfaa.Bk
