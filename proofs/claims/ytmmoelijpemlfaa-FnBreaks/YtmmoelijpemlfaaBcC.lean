/- Telling the program's breaker of a failure; OnDial, OnFailure and OnSuccess, the program's. -/
import Derived.Test.YtmmoelijpemlfaaBcB
namespace Go.Proofs.Ytmmoelijpemlfaa.Bk
open Go.RowKit Go.Deep Base Rw Tick Cf

theorem failR_yes {c : Nat → Int} {s u now : Int} {zs : List Int} (ho : okB ⟨s, zs, u⟩ = true) (hf : fitF c zs now = true) :
    failR c ⟨s, zs, u⟩ now = ((if s = 2 then openR c now else if s = 1 then ⟨s, zs, u⟩ else if c 11 ≤ (zs.filter (inW c now) ++ [now]).length then openR c now else ⟨0, zs.filter (inW c now) ++ [now], 0⟩), true) := by
  have h := okB_iff.1 ho
  unfold failR
  rw [canF_eq, ho, hf, Bool.true_and, if_pos rfl]
  by_cases h2 : s = 2
  · rw [if_pos h2, if_pos h2]
  · rw [if_neg h2, if_neg h2]
    by_cases h1 : s = 1
    · rw [if_pos h1, if_pos h1]
    · rw [if_neg h1, if_neg h1, kept_eq]
      have h0 : s = 0 := by have := h.s0; have := h.s1; dsimp only at *; omega
      have hu : u = 0 := h.shut h0
      subst h0
      subst hu
      split <;> rfl
theorem fitF_ok {c : Nat → Int} {zs : List Int} {now : Int} (h : fitF c zs now = true) : okC c = true ∧ isT now = true := by
  unfold fitF at h
  simp only [Bool.and_eq_true] at h
  exact ⟨h.1.1, h.1.2⟩

set_option maxRecDepth 100000 in
set_option maxHeartbeats 2000000 in
theorem tellFail_any (c : Nat → Int) (A : Option Addr) (n cap : Nat) (s u now : Int) (zs : List Int) (w : World) (hn : zs.length = n) (hm : n ≤ 1048576) (h : Ints w A zs) :
    Calls Try.prog 52 #[.agg #[.int .i64 s, .slice A n cap, .int .i64 u], .iface 78 (.agg #[.int .i64 (c 0), .int .i64 (c 1), .int .i64 (c 2), .int .i64 (c 3), .int .i64 (c 4), .int .i64 (c 5), .int .i64 (c 6), .int .i64 (c 7), .int .i64 (c 8), .int .i64 (c 9), .int .i64 (c 10), .int .i64 (c 11), .int .i64 (c 12), .int .i64 (c 13), .int .i64 now])] w (BrEnd w (failR c ⟨s, zs, u⟩ now)) := by
  have Hn := Lib.hid hn
  have HI := Lib.hid h
  clear h hn
  go_enter Try.func52, Try.ntmps52
  go_wp2_with fail
  obtain ⟨W1, hW1⟩ : ∃ W1, (w.alloc (.cells #[.int .i64 s, .slice A n cap, .int .i64 u] 31)).alloc (.cells #[.int .i64 0, .slice none 0 0, .int .i64 0] 31) = W1 := ⟨_, rfl⟩
  have B1 : Hid (Below w.heap.size w W1) := by rw [← hW1]; exact bel_two _ _ _
  have K : Hid (PB W1 w.heap.size (.int .i64 s) (.slice A n cap) (.int .i64 u)) := by rw [← hW1]; exact (pb_two _ _ _ _ _ _ _).1
  have R : Hid (PB W1 (w.heap.size + 1) (.int .i64 0) (.slice none 0 0) (.int .i64 0)) := by rw [← hW1]; exact (pb_two _ _ _ _ _ _ _).2
  have z1 : w.heap.size + 1 < W1.heap.size := R.out.lt
  rw [hW1]
  clear hW1
  refine (cloneI_any A n cap zs W1 Hn.out hm (HI.out.below B1.out)).mono ?_
  rintro e w2 ⟨A2, c2, rfl, v2, b2⟩
  have s12 := b2.size
  have B2 := Lib.hid (bel_trans B1.out b2)
  replace K := Lib.hid (K.out.below b2 (by omega))
  replace R := Lib.hid (R.out.below b2 (by omega))
  have V := Lib.hid v2
  clear b2 v2
  obtain ⟨x0, x1, x2, xf⟩ := K.out.cells
  go_wp2_with fail
  obtain ⟨W3, hW3⟩ : ∃ W3, w2.setCell ⟨w.heap.size, 1, none⟩ (.slice A2 zs.length c2) = W3 := ⟨_, rfl⟩
  have B3 : Hid (Below w.heap.size w W3) := by rw [← hW3]; exact B2.out.setCell (Nat.le_refl _) _
  replace K : Hid (PB W3 w.heap.size (.int .i64 s) (.slice A2 zs.length c2) (.int .i64 u)) := by rw [← hW3]; exact K.out.set1 _
  replace R : Hid (PB W3 (w.heap.size + 1) (.int .i64 0) (.slice none 0 0) (.int .i64 0)) := by rw [← hW3]; exact R.out.far (by omega) _
  replace V : Hid (IV W3 W1.heap.size w2.heap.size A2 zs) := by rw [← hW3]; exact iv_set V.out (by left; show w.heap.size < W1.heap.size; omega) _
  have z3 : w2.heap.size = W3.heap.size := by rw [← hW3]; simp [World.setCell]
  rw [hW3]
  clear hW3 x0 x1 x2 xf
  refine (implBreakerOk_any A2 zs.length c2 s u zs W3 rfl (by have := Hn.out; omega) V.out.ints).mono ?_
  rintro e w4 ⟨rfl, b4⟩
  have s34 := b4.size
  have B4 := Lib.hid (bel_trans B3.out b4)
  replace K := Lib.hid (K.out.below b4 (by omega))
  replace R := Lib.hid (R.out.below b4 (by omega))
  replace V := Lib.hid (V.out.below b4 (by omega))
  clear b4
  obtain ⟨x0, x1, x2, xf⟩ := K.out.cells
  obtain ⟨r0, r1, r2, rf⟩ := R.out.cells
  have HD : Hid (canF c ⟨s, zs, u⟩ now = (okB ⟨s, zs, u⟩ && fitF c zs now)) := canF_eq c s u now zs
  cases hd : okB ⟨s, zs, u⟩
  · have Hr : Hid (failR c ⟨s, zs, u⟩ now = (⟨s, zs, u⟩, false)) := by show _ = _; unfold failR; rw [HD.out, hd]; rfl
    clear hd
    go_wp2
    refine bodyPost_ret (v := .tuple #[.agg #[.int .i64 s, .slice A2 (zs).length c2, .int .i64 u], .bool false]) (by simp [results, (Try.results52), go_sem, r0, r1, r2]) rfl (brEnd Hr.out ?_ ?_)
    · refine IV.wide (lo := W1.heap.size) (hi := w2.heap.size) ?_ (by omega) (by simp [World.setCell]; omega)
      iterate 3 refine iv_set ?_ (by simp <;> omega) _
      exact V.out
    · iterate 3 refine Below.setCell ?_ (by simp <;> omega) _
      exact B4.out
  go_wp2_with fail
  refine (fitFail_any c A2 zs.length c2 s u now zs w4 rfl (by have := Hn.out; omega) V.out.ints).mono ?_
  rintro e w5 ⟨rfl, b5⟩
  have s45 := b5.size
  have B5 := Lib.hid (bel_trans B4.out b5)
  replace K := Lib.hid (K.out.below b5 (by omega))
  replace R := Lib.hid (R.out.below b5 (by omega))
  replace V := Lib.hid (V.out.below b5 (by omega))
  clear b5 x0 x1 x2 xf r0 r1 r2 rf
  obtain ⟨x0, x1, x2, xf⟩ := K.out.cells
  obtain ⟨r0, r1, r2, rf⟩ := R.out.cells
  cases hf : fitF c zs now
  · have Hr : Hid (failR c ⟨s, zs, u⟩ now = (⟨s, zs, u⟩, false)) := by show _ = _; unfold failR; rw [HD.out, hd, hf]; rfl
    clear hd hf
    go_wp2
    refine bodyPost_ret (v := .tuple #[.agg #[.int .i64 s, .slice A2 (zs).length c2, .int .i64 u], .bool false]) (by simp [results, (Try.results52), go_sem, r0, r1, r2]) rfl (brEnd Hr.out ?_ ?_)
    · refine IV.wide (lo := W1.heap.size) (hi := w2.heap.size) ?_ (by omega) (by simp [World.setCell]; omega)
      iterate 3 refine iv_set ?_ (by simp <;> omega) _
      exact V.out
    · iterate 3 refine Below.setCell ?_ (by simp <;> omega) _
      exact B5.out
  obtain ⟨r, hr⟩ : ∃ r, (if s = 2 then openR c now else if s = 1 then ⟨s, zs, u⟩ else if c 11 ≤ (zs.filter (inW c now) ++ [now]).length then openR c now else ⟨0, zs.filter (inW c now) ++ [now], 0⟩) = r := ⟨_, rfl⟩
  have Hr : Hid (failR c ⟨s, zs, u⟩ now = (r, true)) := by show _ = _; rw [failR_yes hd hf, hr]
  have HAF := Lib.hid (fun W hI => afterFail_any c A2 zs.length c2 s u now zs W rfl hI (fitF_ok hf).1 (fitF_ok hf).2 (okB_iff.1 hd) r hr)
  clear hd hf hr
  have t1 := as_fd
  have t2 := as_ff
  have lw : w.heap.size < w5.heap.size := by omega
  go_wp2_with fail
  clear t1 t2
  obtain ⟨W6, hW6⟩ : ∃ W6, w5.alloc (.cells #[.int .i64 (c 0), .int .i64 (c 1), .int .i64 (c 2), .int .i64 (c 3), .int .i64 (c 4), .int .i64 (c 5), .int .i64 (c 6), .int .i64 (c 7), .int .i64 (c 8), .int .i64 (c 9), .int .i64 (c 10), .int .i64 (c 11), .int .i64 (c 12), .int .i64 (c 13), .int .i64 now] 78) = W6 := ⟨_, rfl⟩
  have b6 : Below w5.heap.size w5 W6 := by rw [← hW6]; exact bel_alloc _ _
  have s56 := b6.size
  have B6 := Lib.hid (bel_trans B5.out b6)
  replace K := Lib.hid (K.out.below b6 (by omega))
  replace R := Lib.hid (R.out.below b6 (by omega))
  replace V := Lib.hid (V.out.below b6 (by omega))
  rw [hW6]
  clear b6 x0 x1 x2 xf r0 r1 r2 rf hW6
  refine (HAF.out W6 V.out.ints).mono ?_
  rintro e w7 ⟨A7, c7, rfl, v7, b7⟩
  have s67 := b7.size
  have B7 := Lib.hid (bel_trans B6.out b7)
  replace K := Lib.hid (K.out.below b7 (by omega))
  replace R := Lib.hid (R.out.below b7 (by omega))
  have V7 := Lib.hid v7
  clear b7 v7 V HAF
  obtain ⟨x0, x1, x2, xf⟩ := K.out.cells
  obtain ⟨r0, r1, r2, rf⟩ := R.out.cells
  have hne : w.heap.size ≠ w.heap.size + 1 := by omega
  obtain ⟨s', zs', u'⟩ := r
  dsimp only at V7 ⊢
  go_wp2
  refine bodyPost_ret (v := .tuple #[.agg #[.int .i64 s', .slice A7 zs'.length c7, .int .i64 u'], .bool true]) (by simp [results, Try.results52, go_sem, r0, r1, r2]) rfl (brEnd Hr.out ?_ ?_)
  · refine IV.wide (lo := W6.heap.size) (hi := w7.heap.size) ?_ (by omega) (by simp [World.setCell])
    iterate 6 refine iv_set ?_ (by simp <;> omega) _
    exact V7.out
  · iterate 6 refine Below.setCell ?_ (by simp <;> omega) _
    exact B7.out

set_option maxRecDepth 100000 in
set_option maxHeartbeats 1000000 in
theorem implOnDial_any (A : Option Addr) (n cap : Nat) (s u now : Int) (zs : List Int) (w : World) (hn : zs.length = n) (hm : n ≤ 1048576) (h : Ints w A zs) :
    Calls Try.prog 29 #[.agg #[.int .i64 s, .slice A n cap, .int .i64 u], .int .i64 now] w (BrEnd w (dialR ⟨s, zs, u⟩ now)) := by
  have Hn := Lib.hid hn
  have HI := Lib.hid h
  clear h hn
  obtain ⟨r, hr⟩ : ∃ r, dialR ⟨s, zs, u⟩ now = r := ⟨_, rfl⟩
  have HT := Lib.hid (fun W hI => tellDial_any A n cap s u now zs W Hn.out hm hI)
  rw [hr] at HT ⊢
  clear hr
  go_enter Try.func29, Try.ntmps29
  go_wp2_with fail
  obtain ⟨W1, hW1⟩ : ∃ W1, (w.alloc (.cells #[.int .i64 s, .slice A n cap, .int .i64 u] 31)).alloc (.cells #[.int .i64 0, .slice none 0 0, .int .i64 0] 31) = W1 := ⟨_, rfl⟩
  have B1 : Hid (Below w.heap.size w W1) := by rw [← hW1]; exact bel_two _ _ _
  have R : Hid (PB W1 (w.heap.size + 1) (.int .i64 0) (.slice none 0 0) (.int .i64 0)) := by
    rw [← hW1]
    have := heap_alloc_new (w.alloc (.cells #[.int .i64 s, .slice A n cap, .int .i64 u] 31)) (.cells #[.int .i64 0, .slice none 0 0, .int .i64 0] 31)
    simp only [World.size_alloc] at this
    exact this
  have z1 := R.out.lt
  rw [hW1]
  clear hW1
  refine (HT.out W1 (HI.out.below B1.out)).mono ?_
  rintro e w2 ⟨A2, c2, rfl, v2, b2⟩
  have s12 := b2.size
  have sw := B1.out.size
  replace R := Lib.hid (R.out.below b2 (by omega))
  have B2 := Lib.hid (bel_trans B1.out b2)
  have V := Lib.hid v2
  clear b2 v2 HT
  obtain ⟨r0, r1, r2, rf⟩ := R.out.cells
  obtain ⟨⟨s', zs', u'⟩, b⟩ := r
  dsimp only at V ⊢
  go_wp2
  refine bodyPost_ret (v := .tuple #[.agg #[.int .i64 s', .slice A2 zs'.length c2, .int .i64 u'], .bool b]) (by simp [results, Try.results29, go_sem, r0, r1, r2]) rfl (brEnd rfl ?_ ?_)
  · refine IV.wide (lo := W1.heap.size) (hi := w2.heap.size) ?_ (by omega) (by simp [World.setCell])
    iterate 3 refine iv_set ?_ (by simp <;> omega) _
    exact V.out
  · iterate 3 refine Below.setCell ?_ (by simp <;> omega) _
    exact B2.out

set_option maxRecDepth 100000 in
set_option maxHeartbeats 1000000 in
theorem implOnSuccess_any (A : Option Addr) (n cap : Nat) (s u : Int) (zs : List Int) (w : World) (hn : zs.length = n) (hm : n ≤ 1048576) (h : Ints w A zs) :
    Calls Try.prog 22 #[.agg #[.int .i64 s, .slice A n cap, .int .i64 u]] w (BrEnd w (succR ⟨s, zs, u⟩)) := by
  have Hn := Lib.hid hn
  have HI := Lib.hid h
  clear h hn
  obtain ⟨r, hr⟩ : ∃ r, succR ⟨s, zs, u⟩ = r := ⟨_, rfl⟩
  have HT := Lib.hid (fun W hI => tellSucc_any A n cap s u zs W Hn.out hm hI)
  rw [hr] at HT ⊢
  clear hr
  go_enter Try.func22, Try.ntmps22
  go_wp2_with fail
  obtain ⟨W1, hW1⟩ : ∃ W1, (w.alloc (.cells #[.int .i64 s, .slice A n cap, .int .i64 u] 31)).alloc (.cells #[.int .i64 0, .slice none 0 0, .int .i64 0] 31) = W1 := ⟨_, rfl⟩
  have B1 : Hid (Below w.heap.size w W1) := by rw [← hW1]; exact bel_two _ _ _
  have R : Hid (PB W1 (w.heap.size + 1) (.int .i64 0) (.slice none 0 0) (.int .i64 0)) := by
    rw [← hW1]
    have := heap_alloc_new (w.alloc (.cells #[.int .i64 s, .slice A n cap, .int .i64 u] 31)) (.cells #[.int .i64 0, .slice none 0 0, .int .i64 0] 31)
    simp only [World.size_alloc] at this
    exact this
  have z1 := R.out.lt
  rw [hW1]
  clear hW1
  refine (HT.out W1 (HI.out.below B1.out)).mono ?_
  rintro e w2 ⟨A2, c2, rfl, v2, b2⟩
  have s12 := b2.size
  have sw := B1.out.size
  replace R := Lib.hid (R.out.below b2 (by omega))
  have B2 := Lib.hid (bel_trans B1.out b2)
  have V := Lib.hid v2
  clear b2 v2 HT
  obtain ⟨r0, r1, r2, rf⟩ := R.out.cells
  obtain ⟨⟨s', zs', u'⟩, b⟩ := r
  dsimp only at V ⊢
  go_wp2
  refine bodyPost_ret (v := .tuple #[.agg #[.int .i64 s', .slice A2 zs'.length c2, .int .i64 u'], .bool b]) (by simp [results, Try.results22, go_sem, r0, r1, r2]) rfl (brEnd rfl ?_ ?_)
  · refine IV.wide (lo := W1.heap.size) (hi := w2.heap.size) ?_ (by omega) (by simp [World.setCell])
    iterate 3 refine iv_set ?_ (by simp <;> omega) _
    exact V.out
  · iterate 3 refine Below.setCell ?_ (by simp <;> omega) _
    exact B2.out

set_option maxRecDepth 100000 in
set_option maxHeartbeats 1000000 in
theorem implOnFailure_any (c : Nat → Int) (A : Option Addr) (n cap : Nat) (s u now : Int) (zs : List Int) (w : World) (hn : zs.length = n) (hm : n ≤ 1048576) (h : Ints w A zs) :
    Calls Try.prog 21 #[.agg #[.int .i64 (c 0), .int .i64 (c 1), .int .i64 (c 2), .int .i64 (c 3), .int .i64 (c 4), .int .i64 (c 5), .int .i64 (c 6), .int .i64 (c 7), .int .i64 (c 8), .int .i64 (c 9), .int .i64 (c 10), .int .i64 (c 11), .int .i64 (c 12), .int .i64 (c 13)], .agg #[.int .i64 s, .slice A n cap, .int .i64 u], .int .i64 now] w (BrEnd w (failR c ⟨s, zs, u⟩ now)) := by
  have Hn := Lib.hid hn
  have HI := Lib.hid h
  clear h hn
  obtain ⟨r, hr⟩ : ∃ r, failR c ⟨s, zs, u⟩ now = r := ⟨_, rfl⟩
  have HT := Lib.hid (fun W hI => tellFail_any c A n cap s u now zs W Hn.out hm hI)
  rw [hr] at HT ⊢
  clear hr
  go_enter Try.func21, Try.ntmps21
  go_wp2_with fail
  obtain ⟨W1, hW1⟩ : ∃ W1, ((w.alloc (.cells #[.int .i64 (c 0), .int .i64 (c 1), .int .i64 (c 2), .int .i64 (c 3), .int .i64 (c 4), .int .i64 (c 5), .int .i64 (c 6), .int .i64 (c 7), .int .i64 (c 8), .int .i64 (c 9), .int .i64 (c 10), .int .i64 (c 11), .int .i64 (c 12), .int .i64 (c 13)] 25)).alloc (.cells #[.int .i64 s, .slice A n cap, .int .i64 u] 31)).alloc (.cells #[.int .i64 0, .slice none 0 0, .int .i64 0] 31) = W1 := ⟨_, rfl⟩
  have B1 : Hid (Below w.heap.size w W1) := by rw [← hW1]; exact bel_trans (bel_two _ _ _) (bel_alloc _ _)
  have R : Hid (PB W1 (w.heap.size + 1 + 1) (.int .i64 0) (.slice none 0 0) (.int .i64 0)) := by
    rw [← hW1]
    have := heap_alloc_new ((w.alloc (.cells #[.int .i64 (c 0), .int .i64 (c 1), .int .i64 (c 2), .int .i64 (c 3), .int .i64 (c 4), .int .i64 (c 5), .int .i64 (c 6), .int .i64 (c 7), .int .i64 (c 8), .int .i64 (c 9), .int .i64 (c 10), .int .i64 (c 11), .int .i64 (c 12), .int .i64 (c 13)] 25)).alloc (.cells #[.int .i64 s, .slice A n cap, .int .i64 u] 31)) (.cells #[.int .i64 0, .slice none 0 0, .int .i64 0] 31)
    simp only [World.size_alloc] at this
    exact this
  have z1 := R.out.lt
  rw [hW1]
  clear hW1
  refine (HT.out W1 (HI.out.below B1.out)).mono ?_
  rintro e w2 ⟨A2, c2, rfl, v2, b2⟩
  have s12 := b2.size
  have sw := B1.out.size
  replace R := Lib.hid (R.out.below b2 (by omega))
  have B2 := Lib.hid (bel_trans B1.out b2)
  have V := Lib.hid v2
  clear b2 v2 HT
  obtain ⟨r0, r1, r2, rf⟩ := R.out.cells
  obtain ⟨⟨s', zs', u'⟩, b⟩ := r
  dsimp only at V ⊢
  go_wp2
  refine bodyPost_ret (v := .tuple #[.agg #[.int .i64 s', .slice A2 zs'.length c2, .int .i64 u'], .bool b]) (by simp [results, Try.results21, go_sem, r0, r1, r2]) rfl (brEnd rfl ?_ ?_)
  · refine IV.wide (lo := W1.heap.size) (hi := w2.heap.size) ?_ (by omega) (by simp [World.setCell])
    iterate 3 refine iv_set ?_ (by simp <;> omega) _
    exact V.out
  · iterate 3 refine Below.setCell ?_ (by simp <;> omega) _
    exact B2.out

end Go.Proofs.Ytmmoelijpemlfaa.Bk
