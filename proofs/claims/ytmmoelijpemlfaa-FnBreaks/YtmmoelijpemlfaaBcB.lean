/- The breaker behind a failure, and telling the program's breaker of one. -/
import Derived.Test.YtmmoelijpemlfaaBcA
namespace Go.Proofs.Ytmmoelijpemlfaa.Bk
open Go.RowKit Go.Deep Base Rw Tick Cf

theorem addT_open {c : Nat → Int} {now : Int} (hok : okC c = true) (ht : isT now = true) : addT now (c 12) = lim (now + c 12) := by
  have h := okC_iff.1 hok
  exact addT_ok ht (inB_true (by omega) (by omega))

set_option maxRecDepth 100000 in
set_option maxHeartbeats 4000000 in
theorem afterFail_any (c : Nat → Int) (A : Option Addr) (n cap : Nat) (s u now : Int) (zs : List Int) (w : World) (hn : zs.length = n) (h : Ints w A zs) (hok : okC c = true) (ht : isT now = true) (hv : OkB ⟨s, zs, u⟩) (r : Br) (hr : (if s = 2 then openR c now else if s = 1 then ⟨s, zs, u⟩ else if c 11 ≤ (zs.filter (inW c now) ++ [now]).length then openR c now else ⟨0, zs.filter (inW c now) ++ [now], 0⟩) = r) :
    Calls Try.prog 71 #[.agg #[.int .i64 (c 0), .int .i64 (c 1), .int .i64 (c 2), .int .i64 (c 3), .int .i64 (c 4), .int .i64 (c 5), .int .i64 (c 6), .int .i64 (c 7), .int .i64 (c 8), .int .i64 (c 9), .int .i64 (c 10), .int .i64 (c 11), .int .i64 (c 12), .int .i64 (c 13)], .agg #[.int .i64 s, .slice A n cap, .int .i64 u], .int .i64 now] w (NewB w r.state r.fails r.till) := by
  have HD := fun V => implAddTick_any now (c 12) V
  rw [addT_open hok ht] at HD
  have Ho : Hid (openR c now = ⟨1, [], lim (now + c 12)⟩) := rfl
  generalize lim (now + c 12) = til at HD Ho
  have HDD := Lib.hid HD
  clear HD
  have hrng := okC_iff.1 hok
  have hc10 : 0 ≤ c 10 ∧ c 10 ≤ 1000000000 := by omega
  have hc11 : 0 ≤ c 11 ∧ c 11 ≤ 20 := by omega
  have hnow := isT_iff.1 ht
  have hst := And.intro hv.s0 hv.s1
  dsimp only at hst
  have hno : s ≠ 0 → zs = [] := hv.none
  have hfew : zs.length ≤ 20 := hv.few
  have Hn := Lib.hid hn
  have HI := Lib.hid h
  clear h hn hrng hok ht hv
  go_enter Try.func71, Try.ntmps71
  have HB3 : Hid (∀ o o' o'', Below w.heap.size w (((w.alloc o).alloc o').alloc o'')) := fun o o' o'' => bel_trans (bel_two w o o') (bel_alloc _ _)
  have hs : s = 0 ∨ s = 1 ∨ s = 2 := by omega
  rcases hs with rfl | rfl | rfl
  · rw [if_neg (by decide), if_neg (by decide)] at hr
    have HK := Lib.hid (fun W hI => recent_any c A n cap now zs W Hn.out (by have := Hn.out; omega) hI hnow.1 hnow.2 hc10.1 hc10.2)
    obtain ⟨ks, hks⟩ : ∃ ks, zs.filter (inW c now) ++ [now] = ks := ⟨_, rfl⟩
    rw [hks] at hr HK
    have hkl : ks.length ≤ 21 := by
      rw [← hks]
      have := List.length_filter_le (inW c now) zs
      simp
      omega
    clear hks
    go_wp2_with fail
    obtain ⟨W1, hW1⟩ : ∃ W1, ((w.alloc (.cells #[.int .i64 (c 0), .int .i64 (c 1), .int .i64 (c 2), .int .i64 (c 3), .int .i64 (c 4), .int .i64 (c 5), .int .i64 (c 6), .int .i64 (c 7), .int .i64 (c 8), .int .i64 (c 9), .int .i64 (c 10), .int .i64 (c 11), .int .i64 (c 12), .int .i64 (c 13)] 25)).alloc (.cells #[.int .i64 0, .slice A n cap, .int .i64 u] 31)).alloc (.cells #[.int .i64 0, .slice none 0 0, .int .i64 0] 31) = W1 := ⟨_, rfl⟩
    have B1 : Hid (Below w.heap.size w W1) := by rw [← hW1]; exact HB3.out _ _ _
    have K : Hid (W1.heap[w.heap.size]? = some (.cells #[.int .i64 (c 0), .int .i64 (c 1), .int .i64 (c 2), .int .i64 (c 3), .int .i64 (c 4), .int .i64 (c 5), .int .i64 (c 6), .int .i64 (c 7), .int .i64 (c 8), .int .i64 (c 9), .int .i64 (c 10), .int .i64 (c 11), .int .i64 (c 12), .int .i64 (c 13)] 25 (0, 0))) := by rw [← hW1]; exact ((bel_alloc _ _).block _ (by simp; omega)).trans (((bel_alloc _ _).block _ (by simp)).trans (heap_alloc_new w _))
    have R : Hid (PB W1 (w.heap.size + 1 + 1) (.int .i64 0) (.slice none 0 0) (.int .i64 0)) := by
      rw [← hW1]
      have := heap_alloc_new ((w.alloc (.cells #[.int .i64 (c 0), .int .i64 (c 1), .int .i64 (c 2), .int .i64 (c 3), .int .i64 (c 4), .int .i64 (c 5), .int .i64 (c 6), .int .i64 (c 7), .int .i64 (c 8), .int .i64 (c 9), .int .i64 (c 10), .int .i64 (c 11), .int .i64 (c 12), .int .i64 (c 13)] 25)).alloc (.cells #[.int .i64 0, .slice A n cap, .int .i64 u] 31)) (.cells #[.int .i64 0, .slice none 0 0, .int .i64 0] 31)
      simp only [World.size_alloc] at this
      exact this
    have z1 := R.out.lt
    rw [hW1]
    clear hW1
    refine (HK.out _ (HI.out.below B1.out)).mono ?_
    rintro e w2 ⟨A2, c2, rfl, v2, b2⟩
    have s12 := b2.size
    replace K := Lib.hid ((b2.block _ (by omega)).trans K.out)
    replace R := Lib.hid (R.out.below b2 (by omega))
    have B2 := Lib.hid (bel_trans B1.out b2)
    have V := Lib.hid v2
    have sw := B1.out.size
    clear b2 v2 HK
    have x11 : w2.cell? ⟨w.heap.size, 11, none⟩ = some (.int .i64 (c 11)) := cell_of_row _ _ 11 _ _ (0, 0) K.out
    have x12 : w2.cell? ⟨w.heap.size, 12, none⟩ = some (.int .i64 (c 12)) := cell_of_row _ _ 12 _ _ (0, 0) K.out
    by_cases htr : c 11 ≤ ks.length
    · rw [if_pos htr, Ho.out] at hr
      subst hr
      have htr' : ¬ (ks.length : Int) < c 11 := by omega
      go_wp2_with fail
      refine (HDD.out _).mono ?_
      rintro e w3 ⟨rfl, b3⟩
      have s23 := b3.size
      replace R := Lib.hid (R.out.below b3 (by omega))
      have B3 := Lib.hid (bel_trans B2.out b3)
      clear b3
      obtain ⟨r0, r1, r2, rf⟩ := R.out.cells
      go_wp2
      refine bodyPost_ret (v := .agg #[.int .i64 1, .slice none (([] : List Int)).length 0, .int .i64 til]) (by simp [results, Try.results71, go_sem, r0, r1, r2]) rfl ⟨none, 0, rfl, ?_, ?_⟩
      · refine IV.wide (lo := w3.heap.size) (hi := (w3).heap.size) ?_ (by omega) (by simp [World.setCell])
        iterate 3 refine iv_set ?_ (by simp <;> omega) _
        exact (IV.nil _ _ _ _)
      · iterate 3 refine Below.setCell ?_ (by simp <;> omega) _
        exact B3.out
    · rw [if_neg htr] at hr
      subst hr
      have htr' : (ks.length : Int) < c 11 := by omega
      obtain ⟨r0, r1, r2, rf⟩ := R.out.cells
      go_wp2
      refine bodyPost_ret (v := .agg #[.int .i64 0, .slice A2 (ks).length c2, .int .i64 0]) (by simp [results, Try.results71, go_sem, r0, r1, r2]) rfl ⟨A2, c2, rfl, ?_, ?_⟩
      · refine IV.wide (lo := W1.heap.size) (hi := (w2).heap.size) ?_ (by omega) (by simp [World.setCell])
        iterate 3 refine iv_set ?_ (by simp <;> omega) _
        exact V.out
      · iterate 3 refine Below.setCell ?_ (by simp <;> omega) _
        exact B2.out
  · obtain rfl := hno (by decide)
    rw [if_neg (by decide), if_pos rfl] at hr
    subst hr
    have hn0 : n = 0 := by have := Hn.out; simpa using this.symm
    subst hn0
    go_wp2
    refine bodyPost_ret (v := .agg #[.int .i64 1, .slice A 0 cap, .int .i64 u]) (by simp [results, Try.results71, go_sem]) rfl ⟨A, cap, rfl, IV.nil _ _ _ _, ?_⟩
    repeat (first | exact HB3.out _ _ _ | refine Below.setCell ?_ (by simp <;> omega) _)
  · rw [if_pos rfl, Ho.out] at hr
    subst hr
    go_wp2_with fail
    obtain ⟨W1, hW1⟩ : ∃ W1, ((w.alloc (.cells #[.int .i64 (c 0), .int .i64 (c 1), .int .i64 (c 2), .int .i64 (c 3), .int .i64 (c 4), .int .i64 (c 5), .int .i64 (c 6), .int .i64 (c 7), .int .i64 (c 8), .int .i64 (c 9), .int .i64 (c 10), .int .i64 (c 11), .int .i64 (c 12), .int .i64 (c 13)] 25)).alloc (.cells #[.int .i64 2, .slice A n cap, .int .i64 u] 31)).alloc (.cells #[.int .i64 0, .slice none 0 0, .int .i64 0] 31) = W1 := ⟨_, rfl⟩
    have B1 : Hid (Below w.heap.size w W1) := by rw [← hW1]; exact HB3.out _ _ _
    have K : Hid (W1.heap[w.heap.size]? = some (.cells #[.int .i64 (c 0), .int .i64 (c 1), .int .i64 (c 2), .int .i64 (c 3), .int .i64 (c 4), .int .i64 (c 5), .int .i64 (c 6), .int .i64 (c 7), .int .i64 (c 8), .int .i64 (c 9), .int .i64 (c 10), .int .i64 (c 11), .int .i64 (c 12), .int .i64 (c 13)] 25 (0, 0))) := by rw [← hW1]; exact ((bel_alloc _ _).block _ (by simp; omega)).trans (((bel_alloc _ _).block _ (by simp)).trans (heap_alloc_new w _))
    have R : Hid (PB W1 (w.heap.size + 1 + 1) (.int .i64 0) (.slice none 0 0) (.int .i64 0)) := by
      rw [← hW1]
      have := heap_alloc_new ((w.alloc (.cells #[.int .i64 (c 0), .int .i64 (c 1), .int .i64 (c 2), .int .i64 (c 3), .int .i64 (c 4), .int .i64 (c 5), .int .i64 (c 6), .int .i64 (c 7), .int .i64 (c 8), .int .i64 (c 9), .int .i64 (c 10), .int .i64 (c 11), .int .i64 (c 12), .int .i64 (c 13)] 25)).alloc (.cells #[.int .i64 2, .slice A n cap, .int .i64 u] 31)) (.cells #[.int .i64 0, .slice none 0 0, .int .i64 0] 31)
      simp only [World.size_alloc] at this
      exact this
    have z1 := R.out.lt
    rw [hW1]
    clear hW1
    have s12 : W1.heap.size ≤ W1.heap.size := Nat.le_refl _
    have sw := B1.out.size
    have B2 := B1
    refine (HDD.out _).mono ?_
    rintro e w3 ⟨rfl, b3⟩
    have s23 := b3.size
    replace R := Lib.hid (R.out.below b3 (by omega))
    have B3 := Lib.hid (bel_trans B2.out b3)
    clear b3
    obtain ⟨r0, r1, r2, rf⟩ := R.out.cells
    go_wp2
    refine bodyPost_ret (v := .agg #[.int .i64 1, .slice none (([] : List Int)).length 0, .int .i64 til]) (by simp [results, Try.results71, go_sem, r0, r1, r2]) rfl ⟨none, 0, rfl, ?_, ?_⟩
    · refine IV.wide (lo := w3.heap.size) (hi := (w3).heap.size) ?_ (by omega) (by simp [World.setCell])
      iterate 3 refine iv_set ?_ (by simp <;> omega) _
      exact (IV.nil _ _ _ _)
    · iterate 3 refine Below.setCell ?_ (by simp <;> omega) _
      exact B3.out
end Go.Proofs.Ytmmoelijpemlfaa.Bk
