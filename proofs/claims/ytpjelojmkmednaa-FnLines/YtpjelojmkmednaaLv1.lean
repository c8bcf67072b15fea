/- The law's own words on lines: a copy is made, held against another, marked and read again. -/
import Derived.Test.YtpjelojmkmednaaLv0
import Derived.Test.YtpjelojmkmednaaLh9
namespace Go.Proofs.Ytpjelojmkmednaa.Ln
open Go.RowKit Go.Deep Base

set_option maxRecDepth 100000 in
set_option maxHeartbeats 1000000 in
theorem toLine_any (A : Option Addr) (ca : Nat) (x : Lx) (B : Option Addr) (cb : Nat) (w : World) (hn : x.s.ss.length ≤ 1048576) (hm : x.ds.length ≤ 1048576) (h : Que.LSl w A x.s.ss) (k : Hp.LD w B x.ds) :
    Calls Try.prog 24 #[.agg #[.slice A x.s.ss.length ca, .int .i64 x.s.f, .int .i64 x.s.l, .int .i64 x.s.r, .int .i64 x.s.c, .slice B x.ds.length cb, .int .i64 x.q]] w (NewL w x) := by
  have HS := Lib.hid h
  have HD := Lib.hid k
  clear h k
  go_enter Try.func24, Try.ntmps24
  go_wp2_with fail
  have hB : ∀ o o' o'', Below w.heap.size w (((w.alloc o).alloc o').alloc o'') := fun _ _ _ => (((Below.refl _ _).alloc (Nat.le_refl _) _).alloc (by simp) _).alloc (by simp; omega) _
  refine (Que.toQueue_any A _ ca x.s.ss _ _ _ _ _ rfl hn (HS.out.below (hB _ _ _))).mono ?_
  rintro e w1 ⟨A1, c1, rfl, v1, b1⟩
  have K : Hid (Bx w1 w.heap.size 53 #[.slice A x.s.ss.length ca, .int .i64 x.s.f, .int .i64 x.s.l, .int .i64 x.s.r, .int .i64 x.s.c, .slice B x.ds.length cb, .int .i64 x.q]) := (((Bx.new w _ _).alloc _).alloc _).below b1
  have Q : Hid (Bx w1 (w.heap.size + 1) 31 #[.slice none 0 0, .int .i64 0, .int .i64 0, .int .i64 0, .int .i64 0, .slice none 0 0, .int .i64 0]) := ((Bx.at_new (w.alloc _) _ (by simp) _ _).alloc _).below b1
  have X : Hid (Bx w1 (w.heap.size + 1 + 1) 31 #[.slice none 0 0, .int .i64 0, .int .i64 0, .int .i64 0, .int .i64 0, .slice none 0 0, .int .i64 0]) := (Bx.at_new ((w.alloc _).alloc _) _ (by simp) _ _).below b1
  have V := Lib.hid v1
  have W1 := Lib.hid (bel_trans (hB _ _ _) b1)
  simp only [World.size_alloc] at V
  have z1 := X.out.lt
  clear v1 b1 hB
  obtain ⟨k0, k1, k2, k3, k4, k5, k6, kf⟩ := K.out.cells7
  obtain ⟨x0, x1, x2, x3, x4, x5, x6, xf⟩ := X.out.cells7
  go_wp2_with fail
  obtain ⟨W, hW⟩ : ∃ W, sets (w.heap.size + 1 + 1) 0 [.slice A1 x.s.ss.length c1, .int .i64 x.s.f, .int .i64 x.s.l, .int .i64 x.s.r, .int .i64 x.s.c] w1 = W := ⟨_, rfl⟩
  change Calls Try.prog 58 #[.agg #[.slice B x.ds.length cb, .int .i64 x.q]] (sets (w.heap.size + 1 + 1) 0 [.slice A1 x.s.ss.length c1, .int .i64 x.s.f, .int .i64 x.s.l, .int .i64 x.s.r, .int .i64 x.s.c] w1) _
  replace K := Lib.hid (K.out.sto (r := [.slice A1 x.s.ss.length c1, .int .i64 x.s.f, .int .i64 x.s.l, .int .i64 x.s.r, .int .i64 x.s.c]) (o := 0) (g := w.heap.size + 1 + 1) (by omega))
  replace Q := Lib.hid (Q.out.sto (r := [.slice A1 x.s.ss.length c1, .int .i64 x.s.f, .int .i64 x.s.l, .int .i64 x.s.r, .int .i64 x.s.c]) (o := 0) (g := w.heap.size + 1 + 1) (by omega))
  replace X := Lib.hid (X.out.put5 (.slice A1 x.s.ss.length c1) (.int .i64 x.s.f) (.int .i64 x.s.l) (.int .i64 x.s.r) (.int .i64 x.s.c))
  replace V := Lib.hid (slv_sets (r := [.slice A1 x.s.ss.length c1, .int .i64 x.s.f, .int .i64 x.s.l, .int .i64 x.s.r, .int .i64 x.s.c]) (o := 0) (g := w.heap.size + 1 + 1) V.out (by omega))
  replace W1 := Lib.hid (sets_below (w.heap.size + 1 + 1) _ (by omega) [.slice A1 x.s.ss.length c1, .int .i64 x.s.f, .int .i64 x.s.l, .int .i64 x.s.r, .int .i64 x.s.c] 0 _ W1.out)
  have sz := sets_size (w.heap.size + 1 + 1) [.slice A1 x.s.ss.length c1, .int .i64 x.s.f, .int .i64 x.s.l, .int .i64 x.s.r, .int .i64 x.s.c] 0 w1
  rw [hW] at K Q X V W1 sz ⊢
  clear hW k0 k1 k2 k3 k4 k5 k6 kf x0 x1 x2 x3 x4 x5 x6 xf
  refine (Hp.toHeap_any B _ cb x.ds _ W rfl hm (HD.out.below W1.out)).mono ?_
  rintro e w2 ⟨B1, d1, rfl, v2, b2⟩
  have z2 := b2.size
  replace K := Lib.hid (K.out.below b2)
  replace Q := Lib.hid (Q.out.below b2)
  replace X := Lib.hid (X.out.below b2)
  replace V := Lib.hid (V.out.below b2 (by omega))
  replace W1 := Lib.hid (bel_trans W1.out b2)
  have D := Lib.hid v2
  clear b2 v2
  obtain ⟨x0, x1, x2, x3, x4, x5, x6, xf⟩ := X.out.cells7
  obtain ⟨q0, q1, q2, q3, q4, q5, q6, qf⟩ := Q.out.cells7
  go_wp2_with fail
  refine bodyPost_ret (v := .agg #[.slice A1 x.s.ss.length c1, .int .i64 x.s.f, .int .i64 x.s.l, .int .i64 x.s.r, .int .i64 x.s.c, .slice B1 x.ds.length d1, .int .i64 x.q]) (by simp [results, Try.results24, go_sem, q0, q1, q2, q3, q4, q5, q6]) rfl ⟨⟨w.heap.size + 1 + 1 + 1, w1.heap.size, W.heap.size, w2.heap.size⟩, A1, c1, B1, d1, rfl, ?_⟩
  exact new_sto (g := w.heap.size + 1) (o := 0) (r := [.slice A1 x.s.ss.length c1, .int .i64 x.s.f, .int .i64 x.s.l, .int .i64 x.s.r, .int .i64 x.s.c, .slice B1 x.ds.length d1, .int .i64 x.q]) (v := sets (w.heap.size + 1 + 1) 5 [.slice B1 x.ds.length d1, .int .i64 x.q] w2) (n := w2.heap.size)
    ⟨.inl (by show w1.heap.size ≤ W.heap.size; omega), slv_sets V.out (.inl (by show w.heap.size + 1 + 1 < w.heap.size + 1 + 1 + 1; omega)), dv_sets D.out (.inl (by show w.heap.size + 1 + 1 < W.heap.size; omega))⟩
    ⟨by show w.heap.size + 1 + 1 ≤ w.heap.size + 1 + 1 + 1; omega, by show w1.heap.size ≤ w2.heap.size; omega, by show w.heap.size + 1 + 1 ≤ W.heap.size; omega, Nat.le_refl _⟩ (by rw [sets_size]; exact Nat.le_refl _) (sets_below _ _ (by omega) _ _ _ W1.out) (by omega)

set_option maxRecDepth 100000 in
set_option maxHeartbeats 1000000 in
theorem szLine_any (A : Option Addr) (ca : Nat) (x : Lx) (B : Option Addr) (cb : Nat) (left : Int) (w : World) (hn : x.s.ss.length ≤ 9223372036854775807) (hm : x.ds.length ≤ 9223372036854775807) (h0 : 0 ≤ left) (h1 : left ≤ 1048576) :
    Calls Try.prog 23 #[.agg #[.slice A x.s.ss.length ca, .int .i64 x.s.f, .int .i64 x.s.l, .int .i64 x.s.r, .int .i64 x.s.c, .slice B x.ds.length cb, .int .i64 x.q], .int .i64 left] w fun e w' => e = .returned (.int .i64 (if left < x.s.ss.length + x.ds.length then -1 else left - x.s.ss.length - x.ds.length)) ∧ Below w.heap.size w w' := by
  go_enter Try.func23, Try.ntmps23
  go_wp2_with fail
  refine (Que.szQueue_any A _ ca _ _ _ _ left _ hn h0 h1).mono ?_
  rintro e w1 ⟨rfl, b1⟩
  have K : Hid (Bx w1 w.heap.size 53 #[.slice A x.s.ss.length ca, .int .i64 x.s.f, .int .i64 x.s.l, .int .i64 x.s.r, .int .i64 x.s.c, .slice B x.ds.length cb, .int .i64 x.q]) := (Bx.new w _ _).below b1
  have W1 := Lib.hid (bel_trans (bel_alloc w _) b1)
  clear b1
  by_cases hl : left < (x.s.ss.length : Int)
  · rw [if_pos hl]
    have h2 : left < (x.s.ss.length : Int) + (x.ds.length : Int) := by omega
    clear hl
    go_wp2
    go_ret
    exact ⟨ret_int (by first | rfl | rw [if_pos h2]), W1.out⟩
  rw [if_neg hl]
  have h2 : 0 ≤ left - (x.s.ss.length : Int) := by omega
  have h3 : ¬ left - (x.s.ss.length : Int) < 0 := by omega
  obtain ⟨k0, k1, k2, k3, k4, k5, k6, kf⟩ := K.out.cells7
  go_wp2_with fail
  refine (Hp.szHeap_any B _ cb _ (left - x.s.ss.length) _ hm h2 (by omega)).mono ?_
  rintro e w2 ⟨rfl, b2⟩
  have W2 := Lib.hid (bel_trans W1.out b2)
  clear b2 k0 k1 k2 k3 k4 k5 k6 kf
  by_cases hl' : left - (x.s.ss.length : Int) < (x.ds.length : Int)
  · rw [if_pos hl']
    have h5 : left < (x.s.ss.length : Int) + (x.ds.length : Int) := by omega
    clear hl'
    go_wp2
    go_ret
    exact ⟨ret_int (by first | rfl | rw [if_pos h5]), W2.out⟩
  rw [if_neg hl']
  have h4 : ¬ left - (x.s.ss.length : Int) - (x.ds.length : Int) < 0 := by omega
  have h5 : ¬ left < (x.s.ss.length : Int) + (x.ds.length : Int) := by omega
  go_wp2
  go_ret
  exact ⟨ret_int (by first | rfl | rw [if_neg h5]), W2.out⟩

set_option maxRecDepth 100000 in
set_option maxHeartbeats 1000000 in
theorem eqLine_same (A1 : Option Addr) (c1 : Nat) (x : Lx) (B1 : Option Addr) (d1 : Nat) (A2 : Option Addr) (c2 : Nat) (B2 : Option Addr) (d2 : Nat) (R Q : Rg) (w : World) (hn : x.s.ss.length ≤ 1048576) (hm : x.ds.length ≤ 1048576) (h1 : LnV w R A1 B1 x) (h2 : LnV w Q A2 B2 x) (hR : R.In 0 w.heap.size) (hQ : Q.In 0 w.heap.size) :
    Calls Try.prog 26 #[.agg #[.slice A1 x.s.ss.length c1, .int .i64 x.s.f, .int .i64 x.s.l, .int .i64 x.s.r, .int .i64 x.s.c, .slice B1 x.ds.length d1, .int .i64 x.q], .agg #[.slice A2 x.s.ss.length c2, .int .i64 x.s.f, .int .i64 x.s.l, .int .i64 x.s.r, .int .i64 x.s.c, .slice B2 x.ds.length d2, .int .i64 x.q]] w fun e w' => e = .returned (.bool true) ∧ Below w.heap.size w w' := by
  have H1 := Lib.hid h1
  have H2 := Lib.hid h2
  have HR := Lib.hid hR
  have HQ := Lib.hid hQ
  clear h1 h2 hR hQ
  have ha : ∀ o o', Below w.heap.size w ((w.alloc o).alloc o') := fun o o' => ((Below.refl _ _).alloc (Nat.le_refl _) _).alloc (by simp) _
  have Ha := Lib.hid ha
  clear ha
  go_enter Try.func26, Try.ntmps26
  go_wp2_with fail
  refine (Que.eqQueue_same A1 A2 _ c1 c2 R.a R.b Q.a Q.b x.s.ss _ _ _ _ _ rfl hn (H1.out.s.below (Ha.out _ _) HR.out.b) (H2.out.s.below (Ha.out _ _) HQ.out.b) (Nat.le_trans HR.out.b (Ha.out _ _).size) (Nat.le_trans HQ.out.b (Ha.out _ _).size)).mono ?_
  rintro e w1 ⟨rfl, b1⟩
  have K : Hid (Bx w1 w.heap.size 31 #[.slice A1 x.s.ss.length c1, .int .i64 x.s.f, .int .i64 x.s.l, .int .i64 x.s.r, .int .i64 x.s.c, .slice B1 x.ds.length d1, .int .i64 x.q]) := ((Bx.new w _ _).alloc _).below b1
  have X : Hid (Bx w1 (w.heap.size + 1) 31 #[.slice A2 x.s.ss.length c2, .int .i64 x.s.f, .int .i64 x.s.l, .int .i64 x.s.r, .int .i64 x.s.c, .slice B2 x.ds.length d2, .int .i64 x.q]) := (Bx.at_new (w.alloc _) _ (by simp) _ _).below b1
  have W1 := Lib.hid (bel_trans (Ha.out _ _) b1)
  clear b1 Ha
  obtain ⟨k0, k1, k2, k3, k4, k5, k6, kf⟩ := K.out.cells7
  obtain ⟨x0, x1, x2, x3, x4, x5, x6, xf⟩ := X.out.cells7
  go_wp2_with fail
  refine (Hp.eqHeap_same B1 B2 _ d1 d2 R.c R.d Q.c Q.d x.ds _ _ rfl hm (H1.out.h.below W1.out HR.out.d) (H2.out.h.below W1.out HQ.out.d) (Nat.le_trans HR.out.d W1.out.size) (Nat.le_trans HQ.out.d W1.out.size)).mono ?_
  rintro e w2 ⟨rfl, b2⟩
  have W2 := Lib.hid (bel_trans W1.out b2)
  clear b2 k0 k1 k2 k3 k4 k5 k6 kf x0 x1 x2 x3 x4 x5 x6 xf
  go_wp2
  go_ret
  exact ⟨rfl, W2.out⟩

/-- A marked line. -/
def mkX (k : Int) (x : Lx) : Lx := ⟨⟨Que.mkL k x.s.ss.length, x.s.f, x.s.l, x.s.r, x.s.c⟩, Hp.mkL (k + 4 * (x.s.ss.length : Int)) x.ds.length, x.q⟩

set_option maxRecDepth 100000 in
set_option maxHeartbeats 1000000 in
theorem markLine_any (A : Option Addr) (ca : Nat) (x : Lx) (B : Option Addr) (cb : Nat) (R : Rg) (k : Int) (w : World) (hn : x.s.ss.length ≤ 1048576) (hm : x.ds.length ≤ 1048576) (hk0 : 0 ≤ k) (hk1 : k ≤ 1000000000) (h : LnV w R A B x) (hR : R.In 0 w.heap.size) :
    Calls Try.prog 28 #[.agg #[.slice A x.s.ss.length ca, .int .i64 x.s.f, .int .i64 x.s.l, .int .i64 x.s.r, .int .i64 x.s.c, .slice B x.ds.length cb, .int .i64 x.q], .int .i64 k] w fun e w' => e = .returned (.int .i64 (k + 4 * x.s.ss.length + 3 * x.ds.length)) ∧ LnV w' R A B (mkX k x) ∧ Tz R w w' := by
  have H := Lib.hid h
  have HR := Lib.hid hR
  clear h hR
  go_enter Try.func28, Try.ntmps28
  go_wp2_with fail
  refine (Que.markQueue_any A _ ca R.a R.b k _ _ _ _ x.s.ss _ rfl hn hk0 (by omega) (H.out.s.below (bel_alloc w _) HR.out.b) (Nat.le_trans HR.out.b (bel_alloc w _).size)).mono ?_
  rintro e w1 ⟨rfl, v1, t1⟩
  have z1 := t1.size
  rw [World.size_alloc] at z1
  obtain ⟨r1, r2, r3, r4⟩ := HR.out
  have K : Hid (Bx w1 w.heap.size 31 #[.slice A x.s.ss.length ca, .int .i64 x.s.f, .int .i64 x.s.l, .int .i64 x.s.r, .int .i64 x.s.c, .slice B x.ds.length cb, .int .i64 x.q]) := (Bx.new w _ _).of_block (t1.block _ (by simp) (.inr r2))
  have D : Hid (Hp.DV w1 R.c R.d B x.ds) := (H.out.h.below (bel_alloc w _) r4).of_block fun g h1 h2 => t1.block g (by rw [World.size_alloc]; omega) (by rcases H.out.apart with h | h <;> omega)
  have V := Lib.hid v1
  have T := Lib.hid t1
  clear t1 v1
  obtain ⟨k0, k1, k2, k3, k4, k5, k6, kf⟩ := K.out.cells7
  go_wp2_with fail
  refine (Hp.markHeap_any B _ cb R.c R.d (k + 4 * x.s.ss.length) _ x.ds _ rfl (by omega) (by omega) (by omega) D.out (by omega)).mono ?_
  rintro e w2 ⟨rfl, v2, t2⟩
  have D2 := Lib.hid v2
  have T2 := Lib.hid t2
  clear t2 v2 k0 k1 k2 k3 k4 k5 k6 kf
  go_wp2
  go_ret
  refine ⟨rfl, ⟨H.out.apart, V.out.of_block fun g h1 h2 => T2.out.block g (by omega) (by rcases H.out.apart with h | h <;> omega), D2.out⟩, ⟨T2.out.os.trans T.out.os, T2.out.tape.trans T.out.tape, T2.out.output.trans T.out.output, by have := T2.out.size; omega, fun g hg h1 h2 => ?_⟩⟩
  exact (T2.out.block g (by omega) h2).trans ((T.out.block g (by rw [World.size_alloc]; omega) h1).trans (Below.heap_alloc w _ g hg))

set_option maxRecDepth 100000 in
set_option maxHeartbeats 1000000 in
theorem heldLine_any (A : Option Addr) (ca : Nat) (x : Lx) (B : Option Addr) (cb : Nat) (R : Rg) (k : Int) (w : World) (hn : x.s.ss.length ≤ 1048576) (hm : x.ds.length ≤ 1048576) (hk0 : 0 ≤ k) (hk1 : k ≤ 1000000000) (h : LnV w R A B (mkX k x)) (hR : R.In 0 w.heap.size) :
    Calls Try.prog 29 #[.agg #[.slice A x.s.ss.length ca, .int .i64 x.s.f, .int .i64 x.s.l, .int .i64 x.s.r, .int .i64 x.s.c, .slice B x.ds.length cb, .int .i64 x.q], .int .i64 k] w fun e w' => e = .returned (.int .i64 (k + 4 * x.s.ss.length + 3 * x.ds.length)) ∧ Below w.heap.size w w' := by
  have H := Lib.hid h
  have HR := Lib.hid hR
  clear h hR
  have h1 : ¬ k + 4 * (x.s.ss.length : Int) < 0 := by omega
  have h2 : ¬ k + 4 * (x.s.ss.length : Int) + 3 * (x.ds.length : Int) < 0 := by omega
  go_enter Try.func29, Try.ntmps29
  go_wp2_with fail
  refine (Que.heldQueue_any A _ ca R.a R.b k _ _ _ _ _ hn hk0 (by omega) (H.out.s.below (bel_alloc w _) HR.out.b) (Nat.le_trans HR.out.b (bel_alloc w _).size)).mono ?_
  rintro e w1 ⟨rfl, b1⟩
  have K : Hid (Bx w1 w.heap.size 31 #[.slice A x.s.ss.length ca, .int .i64 x.s.f, .int .i64 x.s.l, .int .i64 x.s.r, .int .i64 x.s.c, .slice B x.ds.length cb, .int .i64 x.q]) := (Bx.new w _ _).below b1
  have W1 := Lib.hid (bel_trans (bel_alloc w _) b1)
  clear b1
  obtain ⟨k0, k1, k2, k3, k4, k5, k6, kf⟩ := K.out.cells7
  go_wp2_with fail
  refine (Hp.heldHeap_any B _ cb R.c R.d (k + 4 * x.s.ss.length) _ _ (by omega) (by omega) (by omega) (H.out.h.below W1.out HR.out.d) (Nat.le_trans HR.out.d W1.out.size)).mono ?_
  rintro e w2 ⟨rfl, b2⟩
  have W2 := Lib.hid (bel_trans W1.out b2)
  clear b2 k0 k1 k2 k3 k4 k5 k6 kf
  go_wp2
  go_ret
  exact ⟨rfl, W2.out⟩
end Go.Proofs.Ytpjelojmkmednaa.Ln
