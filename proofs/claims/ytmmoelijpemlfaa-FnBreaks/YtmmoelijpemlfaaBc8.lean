/- What the program tells a breaker: a dial that begins, a dial that succeeded. -/
import Derived.Test.YtmmoelijpemlfaaBc7
import Derived.Handy
namespace Go.Proofs.Ytmmoelijpemlfaa.Bk
open Go.RowKit Go.Deep Base Rw Tick

theorem PB.set1 {w : World} {g : Nat} {v0 v1 v2 : Value} (h : PB w g v0 v1 v2) (u : Value) : PB (w.setCell ⟨g, 1, none⟩ u) g v0 u v2 := by
  unfold PB at h ⊢
  simp [World.setCell, Array.getElem?_modify, h]
theorem PB.far {w : World} {g b o : Nat} {v0 v1 v2 : Value} (h : PB w g v0 v1 v2) (hne : b ≠ g) (u : Value) : PB (w.setCell ⟨b, o, none⟩ u) g v0 v1 v2 :=
  (Below.heap_setCell w ⟨b, o, none⟩ u g (fun e => hne e.symm)).trans h

theorem as_dd (v : Value) (w : World) : (Instr.typeAssert (.iface 75 v) 99 75 true).run Try.prog w = .ok (.tuple #[v, .bool true]) w := by kernel_rfl
theorem as_sd (v : Value) (w : World) : (Instr.typeAssert (.iface 80 v) 99 75 true).run Try.prog w = .ok (.tuple #[.agg #[.int .i64 0], .bool false]) w := by kernel_rfl
theorem as_sf (v : Value) (w : World) : (Instr.typeAssert (.iface 80 v) 99 78 true).run Try.prog w = .ok (.tuple #[.agg #[.int .i64 0, .int .i64 0, .int .i64 0, .int .i64 0, .int .i64 0, .int .i64 0, .int .i64 0, .int .i64 0, .int .i64 0, .int .i64 0, .int .i64 0, .int .i64 0, .int .i64 0, .int .i64 0, .int .i64 0], .bool false]) w := by kernel_rfl
theorem as_ss (v : Value) (w : World) : (Instr.typeAssert (.iface 80 v) 99 80 true).run Try.prog w = .ok (.tuple #[v, .bool true]) w := by kernel_rfl
theorem as_fd (v : Value) (w : World) : (Instr.typeAssert (.iface 78 v) 99 75 true).run Try.prog w = .ok (.tuple #[.agg #[.int .i64 0], .bool false]) w := by kernel_rfl
theorem as_ff (v : Value) (w : World) : (Instr.typeAssert (.iface 78 v) 99 78 true).run Try.prog w = .ok (.tuple #[v, .bool true]) w := by kernel_rfl

theorem afterDial_any (A : Option Addr) (n cap : Nat) (s u : Int) (w : World) :
    Calls Try.prog 70 #[.agg #[.int .i64 s, .slice A n cap, .int .i64 u]] w fun e w' => e = .returned (.agg #[.int .i64 (if s = 1 then 2 else s), .slice A n cap, .int .i64 u]) ∧ Below w.heap.size w w' := by
  by_cases h1 : s = 1
  · subst h1
    go_enter Try.func70, Try.ntmps70
    go_wp2
    refine bodyPost_ret (v := .agg #[.int .i64 2, .slice A n cap, .int .i64 u]) (by simp [results, Try.results70, go_sem]) rfl ⟨rfl, ?_⟩
    repeat (first | exact bel_two _ _ _ | refine Below.setCell ?_ (by simp <;> omega) _)
  · have e1 : (s == 1) = false := by simpa using h1
    rw [if_neg h1]
    clear h1
    go_enter Try.func70, Try.ntmps70
    go_wp2
    refine bodyPost_ret (v := .agg #[.int .i64 s, .slice A n cap, .int .i64 u]) (by simp [results, Try.results70, go_sem]) rfl ⟨rfl, ?_⟩
    repeat (first | exact bel_two _ _ _ | refine Below.setCell ?_ (by simp <;> omega) _)

theorem afterSuccess_two (A : Option Addr) (n cap : Nat) (u : Int) (w : World) :
    Calls Try.prog 72 #[.agg #[.int .i64 2, .slice A n cap, .int .i64 u]] w fun e w' => e = .returned (.agg #[.int .i64 0, .slice none 0 0, .int .i64 0]) ∧ Below w.heap.size w w' := by
  go_enter Try.func72, Try.ntmps72
  go_wp2
  refine bodyPost_ret (v := .agg #[.int .i64 0, .slice none 0 0, .int .i64 0]) (by simp [results, Try.results72, go_sem]) rfl ⟨rfl, ?_⟩
  repeat (first | exact bel_two _ _ _ | refine Below.setCell ?_ (by simp <;> omega) _)

theorem afterSuccess_any (A : Option Addr) (n cap : Nat) (s u : Int) (w : World) (h : s ≠ 2) :
    Calls Try.prog 72 #[.agg #[.int .i64 s, .slice A n cap, .int .i64 u]] w fun e w' => e = .returned (.agg #[.int .i64 s, .slice A n cap, .int .i64 u]) ∧ Below w.heap.size w w' := by
  have e1 : (s == 2) = false := by simpa using h
  clear h
  go_enter Try.func72, Try.ntmps72
  go_wp2
  refine bodyPost_ret (v := .agg #[.int .i64 s, .slice A n cap, .int .i64 u]) (by simp [results, Try.results72, go_sem]) rfl ⟨rfl, ?_⟩
  repeat (first | exact bel_two _ _ _ | refine Below.setCell ?_ (by simp <;> omega) _)

theorem fitSucc_any (A : Option Addr) (n cap : Nat) (s u : Int) (w : World) :
    Calls Try.prog 101 #[.agg #[], .agg #[.int .i64 s, .slice A n cap, .int .i64 u]] w fun e w' => e = .returned (.bool true) ∧ Below w.heap.size w w' := by
  go_enter Try.func101, Try.ntmps101
  go_wp2
  go_ret
  exact ⟨rfl, bel_two _ _ _⟩

set_option maxRecDepth 100000 in
set_option maxHeartbeats 2000000 in
theorem tellDial_any (A : Option Addr) (n cap : Nat) (s u now : Int) (zs : List Int) (w : World) (hn : zs.length = n) (hm : n ≤ 1048576) (h : Ints w A zs) :
    Calls Try.prog 52 #[.agg #[.int .i64 s, .slice A n cap, .int .i64 u], .iface 75 (.agg #[.int .i64 now])] w (BrEnd w (dialR ⟨s, zs, u⟩ now)) := by
  have Hn := Lib.hid hn
  have HI := Lib.hid h
  clear h hn
  go_enter Try.func52, Try.ntmps52
  go_wp2_with fail
  obtain ⟨W1, hW1⟩ : ∃ W1, (w.alloc (.cells #[.int .i64 s, .slice A n cap, .int .i64 u] 31)).alloc (.cells #[.int .i64 0, .slice none 0 0, .int .i64 0] 31) = W1 := ⟨_, rfl⟩
  have B1 : Hid (Below w.heap.size w W1) := by rw [← hW1]; exact bel_two _ _ _
  have K : Hid (PB W1 w.heap.size (.int .i64 s) (.slice A n cap) (.int .i64 u)) := by rw [← hW1]; exact (pb_two _ _ _ _ _ _ _).1
  have R : Hid (PB W1 (w.heap.size + 1) (.int .i64 0) (.slice none 0 0) (.int .i64 0)) := by rw [← hW1]; exact (pb_two _ _ _ _ _ _ _).2
  have z1 : w.heap.size + 1 < W1.heap.size := R.out.lt
  rw [hW1]
  clear hW1
  refine (cloneI_any A n cap zs W1 Hn.out hm (HI.out.below B1.out)).mono ?_
  rintro e w2 ⟨A2, c2, rfl, v2, b2⟩
  have s12 := b2.size
  have B2 := Lib.hid (bel_trans B1.out b2)
  replace K := Lib.hid (K.out.below b2 (by omega))
  replace R := Lib.hid (R.out.below b2 (by omega))
  have V := Lib.hid v2
  clear b2 v2
  obtain ⟨x0, x1, x2, xf⟩ := K.out.cells
  go_wp2_with fail
  obtain ⟨W3, hW3⟩ : ∃ W3, w2.setCell ⟨w.heap.size, 1, none⟩ (.slice A2 zs.length c2) = W3 := ⟨_, rfl⟩
  have B3 : Hid (Below w.heap.size w W3) := by rw [← hW3]; exact B2.out.setCell (Nat.le_refl _) _
  replace K : Hid (PB W3 w.heap.size (.int .i64 s) (.slice A2 zs.length c2) (.int .i64 u)) := by rw [← hW3]; exact K.out.set1 _
  replace R : Hid (PB W3 (w.heap.size + 1) (.int .i64 0) (.slice none 0 0) (.int .i64 0)) := by rw [← hW3]; exact R.out.far (by omega) _
  replace V : Hid (IV W3 W1.heap.size w2.heap.size A2 zs) := by rw [← hW3]; exact iv_set V.out (by left; show w.heap.size < W1.heap.size; omega) _
  have z3 : w2.heap.size = W3.heap.size := by rw [← hW3]; simp [World.setCell]
  rw [hW3]
  clear hW3 x0 x1 x2 xf
  refine (implBreakerOk_any A2 zs.length c2 s u zs W3 rfl (by have := Hn.out; omega) V.out.ints).mono ?_
  rintro e w4 ⟨rfl, b4⟩
  have s34 := b4.size
  have B4 := Lib.hid (bel_trans B3.out b4)
  replace K := Lib.hid (K.out.below b4 (by omega))
  replace R := Lib.hid (R.out.below b4 (by omega))
  replace V := Lib.hid (V.out.below b4 (by omega))
  clear b4
  obtain ⟨x0, x1, x2, xf⟩ := K.out.cells
  obtain ⟨r0, r1, r2, rf⟩ := R.out.cells
  have HD : Hid (mayD ⟨s, zs, u⟩ now = (okB ⟨s, zs, u⟩ && fitD s u now)) := mayD_eq s u now zs
  cases hd : okB ⟨s, zs, u⟩
  · have Hr : Hid (dialR ⟨s, zs, u⟩ now = (⟨s, zs, u⟩, false)) := by show _ = _; unfold dialR; rw [HD.out, hd]; rfl
    clear hd
    go_wp2
    refine bodyPost_ret (v := .tuple #[.agg #[.int .i64 s, .slice A2 (zs).length c2, .int .i64 u], .bool false]) (by simp [results, (Try.results52), go_sem, r0, r1, r2]) rfl (brEnd Hr.out ?_ ?_)
    · refine IV.wide (lo := W1.heap.size) (hi := w2.heap.size) ?_ (by omega) (by simp [World.setCell]; omega)
      iterate 3 refine iv_set ?_ (by simp <;> omega) _
      exact V.out
    · iterate 3 refine Below.setCell ?_ (by simp <;> omega) _
      exact B4.out
  go_wp2_with fail
  refine (fitDial_any A2 zs.length c2 s u now w4).mono ?_
  rintro e w5 ⟨rfl, b5⟩
  have s45 := b5.size
  have B5 := Lib.hid (bel_trans B4.out b5)
  replace K := Lib.hid (K.out.below b5 (by omega))
  replace R := Lib.hid (R.out.below b5 (by omega))
  replace V := Lib.hid (V.out.below b5 (by omega))
  clear b5 x0 x1 x2 xf r0 r1 r2 rf
  obtain ⟨x0, x1, x2, xf⟩ := K.out.cells
  obtain ⟨r0, r1, r2, rf⟩ := R.out.cells
  cases hf : fitD s u now
  · have Hr : Hid (dialR ⟨s, zs, u⟩ now = (⟨s, zs, u⟩, false)) := by show _ = _; unfold dialR; rw [HD.out, hd, hf]; rfl
    clear hd hf
    go_wp2
    refine bodyPost_ret (v := .tuple #[.agg #[.int .i64 s, .slice A2 (zs).length c2, .int .i64 u], .bool false]) (by simp [results, (Try.results52), go_sem, r0, r1, r2]) rfl (brEnd Hr.out ?_ ?_)
    · refine IV.wide (lo := W1.heap.size) (hi := w2.heap.size) ?_ (by omega) (by simp [World.setCell]; omega)
      iterate 3 refine iv_set ?_ (by simp <;> omega) _
      exact V.out
    · iterate 3 refine Below.setCell ?_ (by simp <;> omega) _
      exact B5.out
  have Hr : Hid (dialR ⟨s, zs, u⟩ now = (⟨if s = 1 then 2 else s, zs, u⟩, true)) := by
    show _ = _
    unfold dialR
    rw [HD.out, hd, hf]
    by_cases h1 : s = 1
    · subst h1; rfl
    · simp [h1]
  clear hd hf
  have t1 := as_dd
  have lw : w.heap.size < w5.heap.size := by omega
  go_wp2_with fail
  clear t1
  obtain ⟨W6, hW6⟩ : ∃ W6, w5.alloc (.cells #[.int .i64 now] 75) = W6 := ⟨_, rfl⟩
  have b6 : Below w5.heap.size w5 W6 := by rw [← hW6]; exact bel_alloc _ _
  have s56 := b6.size
  have B6 := Lib.hid (bel_trans B5.out b6)
  replace K := Lib.hid (K.out.below b6 (by omega))
  replace R := Lib.hid (R.out.below b6 (by omega))
  replace V := Lib.hid (V.out.below b6 (by omega))
  rw [hW6]
  clear b6 x0 x1 x2 xf r0 r1 r2 rf hW6
  refine (afterDial_any A2 zs.length c2 s u W6).mono ?_
  rintro e w7 ⟨rfl, b7⟩
  have s67 := b7.size
  have B7 := Lib.hid (bel_trans B6.out b7)
  replace K := Lib.hid (K.out.below b7 (by omega))
  replace R := Lib.hid (R.out.below b7 (by omega))
  replace V := Lib.hid (V.out.below b7 (by omega))
  clear b7
  obtain ⟨x0, x1, x2, xf⟩ := K.out.cells
  obtain ⟨r0, r1, r2, rf⟩ := R.out.cells
  have hne : w.heap.size ≠ w.heap.size + 1 := by omega
  generalize (if s = 1 then 2 else s) = s' at Hr ⊢
  go_wp2
  refine bodyPost_ret (v := .tuple #[.agg #[.int .i64 s', .slice A2 (zs).length c2, .int .i64 u], .bool true]) (by simp [results, (Try.results52), go_sem, r0, r1, r2]) rfl (brEnd Hr.out ?_ ?_)
  · refine IV.wide (lo := W1.heap.size) (hi := w2.heap.size) ?_ (by omega) (by simp [World.setCell]; omega)
    iterate 6 refine iv_set ?_ (by simp <;> omega) _
    exact V.out
  · iterate 6 refine Below.setCell ?_ (by simp <;> omega) _
    exact B7.out

set_option maxRecDepth 100000 in
set_option maxHeartbeats 2000000 in
theorem tellSucc_any (A : Option Addr) (n cap : Nat) (s u : Int) (zs : List Int) (w : World) (hn : zs.length = n) (hm : n ≤ 1048576) (h : Ints w A zs) :
    Calls Try.prog 52 #[.agg #[.int .i64 s, .slice A n cap, .int .i64 u], .iface 80 (.agg #[])] w (BrEnd w (succR ⟨s, zs, u⟩)) := by
  have Hn := Lib.hid hn
  have HI := Lib.hid h
  clear h hn
  go_enter Try.func52, Try.ntmps52
  go_wp2_with fail
  obtain ⟨W1, hW1⟩ : ∃ W1, (w.alloc (.cells #[.int .i64 s, .slice A n cap, .int .i64 u] 31)).alloc (.cells #[.int .i64 0, .slice none 0 0, .int .i64 0] 31) = W1 := ⟨_, rfl⟩
  have B1 : Hid (Below w.heap.size w W1) := by rw [← hW1]; exact bel_two _ _ _
  have K : Hid (PB W1 w.heap.size (.int .i64 s) (.slice A n cap) (.int .i64 u)) := by rw [← hW1]; exact (pb_two _ _ _ _ _ _ _).1
  have R : Hid (PB W1 (w.heap.size + 1) (.int .i64 0) (.slice none 0 0) (.int .i64 0)) := by rw [← hW1]; exact (pb_two _ _ _ _ _ _ _).2
  have z1 : w.heap.size + 1 < W1.heap.size := R.out.lt
  rw [hW1]
  clear hW1
  refine (cloneI_any A n cap zs W1 Hn.out hm (HI.out.below B1.out)).mono ?_
  rintro e w2 ⟨A2, c2, rfl, v2, b2⟩
  have s12 := b2.size
  have B2 := Lib.hid (bel_trans B1.out b2)
  replace K := Lib.hid (K.out.below b2 (by omega))
  replace R := Lib.hid (R.out.below b2 (by omega))
  have V := Lib.hid v2
  clear b2 v2
  obtain ⟨x0, x1, x2, xf⟩ := K.out.cells
  go_wp2_with fail
  obtain ⟨W3, hW3⟩ : ∃ W3, w2.setCell ⟨w.heap.size, 1, none⟩ (.slice A2 zs.length c2) = W3 := ⟨_, rfl⟩
  have B3 : Hid (Below w.heap.size w W3) := by rw [← hW3]; exact B2.out.setCell (Nat.le_refl _) _
  replace K : Hid (PB W3 w.heap.size (.int .i64 s) (.slice A2 zs.length c2) (.int .i64 u)) := by rw [← hW3]; exact K.out.set1 _
  replace R : Hid (PB W3 (w.heap.size + 1) (.int .i64 0) (.slice none 0 0) (.int .i64 0)) := by rw [← hW3]; exact R.out.far (by omega) _
  replace V : Hid (IV W3 W1.heap.size w2.heap.size A2 zs) := by rw [← hW3]; exact iv_set V.out (by left; show w.heap.size < W1.heap.size; omega) _
  have z3 : w2.heap.size = W3.heap.size := by rw [← hW3]; simp [World.setCell]
  rw [hW3]
  clear hW3 x0 x1 x2 xf
  refine (implBreakerOk_any A2 zs.length c2 s u zs W3 rfl (by have := Hn.out; omega) V.out.ints).mono ?_
  rintro e w4 ⟨rfl, b4⟩
  have s34 := b4.size
  have B4 := Lib.hid (bel_trans B3.out b4)
  replace K := Lib.hid (K.out.below b4 (by omega))
  replace R := Lib.hid (R.out.below b4 (by omega))
  replace V := Lib.hid (V.out.below b4 (by omega))
  clear b4
  obtain ⟨x0, x1, x2, xf⟩ := K.out.cells
  obtain ⟨r0, r1, r2, rf⟩ := R.out.cells
  cases hd : okB ⟨s, zs, u⟩
  · have Hr : Hid (succR ⟨s, zs, u⟩ = (⟨s, zs, u⟩, false)) := by show _ = _; unfold succR; rw [hd]; rfl
    clear hd
    go_wp2
    refine bodyPost_ret (v := .tuple #[.agg #[.int .i64 s, .slice A2 (zs).length c2, .int .i64 u], .bool false]) (by simp [results, (Try.results52), go_sem, r0, r1, r2]) rfl (brEnd Hr.out ?_ ?_)
    · refine IV.wide (lo := W1.heap.size) (hi := w2.heap.size) ?_ (by omega) (by simp [World.setCell]; omega)
      iterate 3 refine iv_set ?_ (by simp <;> omega) _
      exact V.out
    · iterate 3 refine Below.setCell ?_ (by simp <;> omega) _
      exact B4.out
  go_wp2_with fail
  refine (fitSucc_any A2 zs.length c2 s u w4).mono ?_
  rintro e w5 ⟨rfl, b5⟩
  have s45 := b5.size
  have B5 := Lib.hid (bel_trans B4.out b5)
  replace K := Lib.hid (K.out.below b5 (by omega))
  replace R := Lib.hid (R.out.below b5 (by omega))
  replace V := Lib.hid (V.out.below b5 (by omega))
  clear b5 x0 x1 x2 xf r0 r1 r2 rf
  obtain ⟨x0, x1, x2, xf⟩ := K.out.cells
  obtain ⟨r0, r1, r2, rf⟩ := R.out.cells
  have t1 := as_sd
  have lw : w.heap.size < w5.heap.size := by omega
  have t2 := as_sf
  have t3 := as_ss
  go_wp2_with fail
  clear t1 t2 t3
  obtain ⟨W6, hW6⟩ : ∃ W6, w5.alloc (.cells #[] 80) = W6 := ⟨_, rfl⟩
  have b6 : Below w5.heap.size w5 W6 := by rw [← hW6]; exact bel_alloc _ _
  have s56 := b6.size
  have B6 := Lib.hid (bel_trans B5.out b6)
  replace K := Lib.hid (K.out.below b6 (by omega))
  replace R := Lib.hid (R.out.below b6 (by omega))
  replace V := Lib.hid (V.out.below b6 (by omega))
  rw [hW6]
  clear b6 x0 x1 x2 xf r0 r1 r2 rf hW6
  have hne : w.heap.size ≠ w.heap.size + 1 := by omega
  by_cases h2 : s = 2
  · subst h2
    have Hr : Hid (succR ⟨2, zs, u⟩ = (⟨0, [], 0⟩, true)) := by show _ = _; unfold succR; rw [if_pos hd]; rfl
    clear hd
    refine (afterSuccess_two A2 zs.length c2 u W6).mono ?_
    rintro e w7 ⟨rfl, b7⟩
    have s67 := b7.size
    have B7 := Lib.hid (bel_trans B6.out b7)
    replace K := Lib.hid (K.out.below b7 (by omega))
    replace R := Lib.hid (R.out.below b7 (by omega))
    clear b7 V
    obtain ⟨x0, x1, x2, xf⟩ := K.out.cells
    obtain ⟨r0, r1, r2, rf⟩ := R.out.cells
    go_wp2
    refine bodyPost_ret (v := .tuple #[.agg #[.int .i64 0, .slice none (([] : List Int)).length 0, .int .i64 0], .bool true]) (by simp [results, (Try.results52), go_sem, r0, r1, r2]) rfl (brEnd Hr.out ?_ ?_)
    · refine IV.wide (lo := W1.heap.size) (hi := w2.heap.size) ?_ (by omega) (by simp [World.setCell]; omega)
      iterate 6 refine iv_set ?_ (by simp <;> omega) _
      exact (IV.nil _ _ _ _)
    · iterate 6 refine Below.setCell ?_ (by simp <;> omega) _
      exact B7.out
  · have Hr : Hid (succR ⟨s, zs, u⟩ = (⟨s, zs, u⟩, true)) := by show _ = _; unfold succR; rw [if_pos hd, if_neg h2]
    clear hd
    refine (afterSuccess_any A2 zs.length c2 s u W6 h2).mono ?_
    rintro e w7 ⟨rfl, b7⟩
    have s67 := b7.size
    have B7 := Lib.hid (bel_trans B6.out b7)
    replace K := Lib.hid (K.out.below b7 (by omega))
    replace R := Lib.hid (R.out.below b7 (by omega))
    replace V := Lib.hid (V.out.below b7 (by omega))
    clear b7 h2
    obtain ⟨x0, x1, x2, xf⟩ := K.out.cells
    obtain ⟨r0, r1, r2, rf⟩ := R.out.cells
    go_wp2
    refine bodyPost_ret (v := .tuple #[.agg #[.int .i64 s, .slice A2 (zs).length c2, .int .i64 u], .bool true]) (by simp [results, (Try.results52), go_sem, r0, r1, r2]) rfl (brEnd Hr.out ?_ ?_)
    · refine IV.wide (lo := W1.heap.size) (hi := w2.heap.size) ?_ (by omega) (by simp [World.setCell]; omega)
      iterate 6 refine iv_set ?_ (by simp <;> omega) _
      exact V.out
    · iterate 6 refine Below.setCell ?_ (by simp <;> omega) _
      exact B7.out
end Go.Proofs.Ytmmoelijpemlfaa.Bk
