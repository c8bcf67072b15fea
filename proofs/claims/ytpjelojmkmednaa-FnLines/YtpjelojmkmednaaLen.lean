/- What Enqueue answers, the program's and the reference's. -/
import Derived.Test.YtpjelojmkmednaaLc9
namespace Go.Proofs.Ytpjelojmkmednaa.Ln
open Go.RowKit Go.Deep Base

set_option maxRecDepth 100000 in
set_option maxHeartbeats 2000000 in
theorem implEnqueue_any (A : Option Addr) (ca : Nat) (x : Lx) (B : Option Addr) (cb : Nat) (t u : Int) (R : Rg) (w : World) (hn : x.s.ss.length ≤ 1048576) (hm : x.ds.length ≤ 1048576) (h : LnV w R A B x) (hR : R.In 0 w.heap.size) :
    Calls Try.prog 15 #[.agg #[.slice A x.s.ss.length ca, .int .i64 x.s.f, .int .i64 x.s.l, .int .i64 x.s.r, .int .i64 x.s.c, .slice B x.ds.length cb, .int .i64 x.q], .int .i64 t, .int .i64 u] w (NewL2 w (enX x t u) (.bool (enB x t u))) := by
  have H := Lib.hid h
  have HR := Lib.hid hR
  clear h hR
  go_enter Try.func15, Try.ntmps15
  go_wp2_with fail
  have hB : ∀ o o', Below w.heap.size w ((w.alloc o).alloc o') := fun o o' => ((Below.refl _ _).alloc (Nat.le_refl _) _).alloc (by simp) _
  refine (implLineOk_any A ca x B cb R _ hm (H.out.below (hB _ _) HR.out) (HR.out.wide (Nat.le_refl _) (hB _ _).size)).mono ?_
  rintro e w1 ⟨rfl, b1⟩
  have K : Hid (Bx w1 w.heap.size 31 #[.slice A x.s.ss.length ca, .int .i64 x.s.f, .int .i64 x.s.l, .int .i64 x.s.r, .int .i64 x.s.c, .slice B x.ds.length cb, .int .i64 x.q]) := ((Bx.new w _ _).alloc _).below b1
  have Q : Hid (Bx w1 (w.heap.size + 1) 31 #[.slice none 0 0, .int .i64 0, .int .i64 0, .int .i64 0, .int .i64 0, .slice none 0 0, .int .i64 0]) := (Bx.at_new (w.alloc _) _ (by simp) _ _).below b1
  have W1 := Lib.hid (bel_trans (hB _ _) b1)
  have z1 : w.heap.size + 1 < w1.heap.size := Q.out.lt
  clear b1 hB
  obtain ⟨k0, k1, k2, k3, k4, k5, k6, kf⟩ := K.out.cells7
  cases ho : okL x
  · have Hno : Hid (enB x t u = false) := by show enB x t u = false; unfold enB; rw [ho]; rfl
    clear ho
    have zR : w.heap.size + 1 + 1 ≤ w1.heap.size := z1
    go_wp2_with fail
    refine (sameLine_any A ca x B cb R _ hn hm (H.out.below W1.out HR.out) (HR.out.wide (Nat.le_refl _) W1.out.size)).mono ?_
    rintro e w9 ⟨R9, A9, c9, B9, d9, rfl, v9, r9, b9⟩
    replace Q := Lib.hid (Q.out.below b9)
    have zq := Q.out.lt
    have V9 := Lib.hid v9
    have z9 := b9.size
    replace W1 := Lib.hid (bel_trans W1.out b9)
    clear b9 v9
    obtain ⟨q0, q1, q2, q3, q4, q5, q6, qf⟩ := Q.out.cells7
    go_wp2_with fail
    refine bodyPost_ret (v := .tuple #[.agg #[.slice A9 x.s.ss.length c9, .int .i64 x.s.f, .int .i64 x.s.l, .int .i64 x.s.r, .int .i64 x.s.c, .slice B9 x.ds.length d9, .int .i64 x.q], .bool false]) (by simp [results, (Try.results15), go_sem, q0, q1, q2, q3, q4, q5, q6]) rfl ?_
    rw [(en_no Hno.out), Hno.out]
    refine ⟨R9, A9, c9, B9, d9, rfl, ?_⟩
    exact new_sto (g := w.heap.size + 1) (o := 0) (r := [.slice A9 x.s.ss.length c9, .int .i64 x.s.f, .int .i64 x.s.l, .int .i64 x.s.r, .int .i64 x.s.c, .slice B9 x.ds.length d9, .int .i64 x.q]) (n := w9.heap.size) V9.out (r9.wide zR (Nat.le_refl _)) (Nat.le_refl _) W1.out (by omega)
    skip
  have Ho := Lib.hid ho
  clear ho
  go_wp2_with fail
  refine (Que.implPush_any A _ ca R.a R.b x.s.ss _ _ _ _ t _ rfl hn (H.out.s.below W1.out HR.out.b) (Nat.le_trans HR.out.b W1.out.size)).mono ?_
  intro e w2 hp
  obtain ⟨A2, c2, rfl, v2, b2⟩ := push_q hp
  obtain ⟨p, hpx⟩ : ∃ p, x.s.push t = p := ⟨_, rfl⟩
  obtain ⟨sl, hsl⟩ : ∃ sl, x.s.slot t = sl := ⟨_, rfl⟩
  have Hp1 := Lib.hid hpx
  have Hs1 := Lib.hid hsl
  rw [hpx] at v2 ⊢
  rw [hsl]
  clear hp hpx hsl k0 k1 k2 k3 k4 k5 k6 kf
  have z2 := b2.size
  replace K := Lib.hid ((K.out.below b2).alloc (.cells #[.slice A2 p.ss.length c2, .int .i64 p.f, .int .i64 p.l, .int .i64 p.r, .int .i64 p.c] 26))
  replace Q := Lib.hid ((Q.out.below b2).alloc (.cells #[.slice A2 p.ss.length c2, .int .i64 p.f, .int .i64 p.l, .int .i64 p.r, .int .i64 p.c] 26))
  have P : Hid (Bx (w2.alloc _) w2.heap.size 26 #[.slice A2 p.ss.length c2, .int .i64 p.f, .int .i64 p.l, .int .i64 p.r, .int .i64 p.c]) := Bx.new w2 _ _
  have V2 := Lib.hid (v2.below (bel_alloc w2 (.cells #[.slice A2 p.ss.length c2, .int .i64 p.f, .int .i64 p.l, .int .i64 p.r, .int .i64 p.c] 26)) (Nat.le_refl _))
  replace W1 := Lib.hid (bel_trans (bel_trans W1.out b2) (bel_alloc w2 (.cells #[.slice A2 p.ss.length c2, .int .i64 p.f, .int .i64 p.l, .int .i64 p.r, .int .i64 p.c] 26)))
  clear b2 v2
  obtain ⟨k0, k1, k2, k3, k4, k5, k6, kf⟩ := K.out.cells7
  go_wp2_with fail
  refine (Hp.implSchedule_any B _ cb R.c R.d x.ds _ t u _ rfl hm (H.out.h.below W1.out HR.out.d) (Nat.le_trans HR.out.d W1.out.size)).mono ?_
  rintro e w3 ⟨B3, d3, rfl, v3, b3⟩
  obtain ⟨ds', hds⟩ : ∃ ds', Hp.schD x.ds x.q t u = ds' := ⟨_, rfl⟩
  obtain ⟨q', hq'⟩ : ∃ q', Hp.schQ x.ds x.q t u = q' := ⟨_, rfl⟩
  obtain ⟨sb, hsb⟩ : ∃ sb, Hp.schB x.ds x.q t u = sb := ⟨_, rfl⟩
  have Hds := Lib.hid hds
  have Hq' := Lib.hid hq'
  have Hsb := Lib.hid hsb
  rw [hds] at v3 ⊢
  rw [hq', hsb]
  clear hds hq' hsb k0 k1 k2 k3 k4 k5 k6 kf
  have z3 : w2.heap.size < w3.heap.size := by have := b3.size; rw [World.size_alloc] at this; omega
  obtain ⟨w4, hw4⟩ : ∃ w4, w3.alloc (.cells #[.slice B3 ds'.length d3, .int .i64 q'] 29) = w4 := ⟨_, rfl⟩
  have b34 : Below w3.heap.size w3 w4 := by rw [← hw4]; exact bel_alloc w3 _
  have G : Hid (Bx w4 w3.heap.size 29 #[.slice B3 ds'.length d3, .int .i64 q']) := by rw [← hw4]; exact Bx.new w3 _ _
  replace K := Lib.hid ((K.out.below b3).below b34)
  replace Q := Lib.hid ((Q.out.below b3).below b34)
  replace P := Lib.hid ((P.out.below b3).below b34)
  replace V2 := Lib.hid ((V2.out.below b3 (by rw [World.size_alloc]; omega)).below b34 (by omega))
  have V3 := Lib.hid (v3.below b34 (Nat.le_refl _))
  rw [World.size_alloc] at V3
  replace W1 := Lib.hid (bel_trans (bel_trans W1.out b3) b34)
  have z4 : w3.heap.size < w4.heap.size := G.out.lt
  clear b3 b34 v3
  obtain ⟨k0, k1, k2, k3, k4, k5, k6, kf⟩ := K.out.cells7
  have zR : w.heap.size + 1 + 1 ≤ w4.heap.size := by omega
  cases hmay : x.s.may t
  · have Hno : Hid (enB x t u = false) := by show enB x t u = false; unfold enB; rw [hmay]; simp
    have hs1 : sl = -1 := by rw [← Hs1.out]; exact (Qx.push_no hmay).2
    subst hs1
    clear hmay
    go_wp2_with fail
    go_wp2_with fail
    refine (sameLine_any A ca x B cb R _ hn hm (H.out.below W1.out HR.out) (HR.out.wide (Nat.le_refl _) W1.out.size)).mono ?_
    rintro e w9 ⟨R9, A9, c9, B9, d9, rfl, v9, r9, b9⟩
    replace Q := Lib.hid (Q.out.below b9)
    have zq := Q.out.lt
    have V9 := Lib.hid v9
    have z9 := b9.size
    replace W1 := Lib.hid (bel_trans W1.out b9)
    clear b9 v9
    obtain ⟨q0, q1, q2, q3, q4, q5, q6, qf⟩ := Q.out.cells7
    go_wp2_with fail
    refine bodyPost_ret (v := .tuple #[.agg #[.slice A9 x.s.ss.length c9, .int .i64 x.s.f, .int .i64 x.s.l, .int .i64 x.s.r, .int .i64 x.s.c, .slice B9 x.ds.length d9, .int .i64 x.q], .bool false]) (by simp [results, (Try.results15), go_sem, q0, q1, q2, q3, q4, q5, q6]) rfl ?_
    rw [(en_no Hno.out), Hno.out]
    refine ⟨R9, A9, c9, B9, d9, rfl, ?_⟩
    exact new_sto (g := w.heap.size + 1) (o := 0) (r := [.slice A9 x.s.ss.length c9, .int .i64 x.s.f, .int .i64 x.s.l, .int .i64 x.s.r, .int .i64 x.s.c, .slice B9 x.ds.length d9, .int .i64 x.q]) (n := w9.heap.size) V9.out (r9.wide zR (Nat.le_refl _)) (Nat.le_refl _) W1.out (by omega)
    skip
  obtain ⟨_, _, hr0, hsr, _, _⟩ := Qx.push_yes hmay
  have hs1 : (sl == -1) = false := by rw [← Hs1.out, hsr]; simp; omega
  have Hmay := Lib.hid hmay
  clear hmay hr0 hsr
  cases sb
  · have Hno : Hid (enB x t u = false) := by show enB x t u = false; unfold enB; rw [Hsb.out]; simp
    go_wp2_with fail
    go_wp2_with fail
    refine (sameLine_any A ca x B cb R _ hn hm (H.out.below W1.out HR.out) (HR.out.wide (Nat.le_refl _) W1.out.size)).mono ?_
    rintro e w9 ⟨R9, A9, c9, B9, d9, rfl, v9, r9, b9⟩
    replace Q := Lib.hid (Q.out.below b9)
    have zq := Q.out.lt
    have V9 := Lib.hid v9
    have z9 := b9.size
    replace W1 := Lib.hid (bel_trans W1.out b9)
    clear b9 v9
    obtain ⟨q0, q1, q2, q3, q4, q5, q6, qf⟩ := Q.out.cells7
    go_wp2_with fail
    refine bodyPost_ret (v := .tuple #[.agg #[.slice A9 x.s.ss.length c9, .int .i64 x.s.f, .int .i64 x.s.l, .int .i64 x.s.r, .int .i64 x.s.c, .slice B9 x.ds.length d9, .int .i64 x.q], .bool false]) (by simp [results, (Try.results15), go_sem, q0, q1, q2, q3, q4, q5, q6]) rfl ?_
    rw [(en_no Hno.out), Hno.out]
    refine ⟨R9, A9, c9, B9, d9, rfl, ?_⟩
    exact new_sto (g := w.heap.size + 1) (o := 0) (r := [.slice A9 x.s.ss.length c9, .int .i64 x.s.f, .int .i64 x.s.l, .int .i64 x.s.r, .int .i64 x.s.c, .slice B9 x.ds.length d9, .int .i64 x.q]) (n := w9.heap.size) V9.out (r9.wide zR (Nat.le_refl _)) (Nat.le_refl _) W1.out (by omega)
    skip
  have Hyes : Hid (enB x t u = true) := by show enB x t u = true; unfold enB; rw [Ho.out, Hmay.out, Hsb.out]; rfl
  have Hx : Hid (enX x t u = ⟨p, ds', q'⟩) := by show enX x t u = _; rw [en_yes Hyes.out, Hp1.out, Hds.out, Hq'.out]
  clear k0 k1 k2 k3 k4 k5 k6 kf
  obtain ⟨p0, p1, p2, p3, p4, pf⟩ := P.out.cells5
  obtain ⟨g0, g1, gf⟩ := G.out.cells2
  obtain ⟨q0, q1, q2, q3, q4, q5, q6, qf⟩ := Q.out.cells7
  go_wp2_with fail
  refine bodyPost_ret (v := .tuple #[.agg #[.slice A2 p.ss.length c2, .int .i64 p.f, .int .i64 p.l, .int .i64 p.r, .int .i64 p.c, .slice B3 ds'.length d3, .int .i64 q'], .bool true]) (by simp [results, Try.results15, go_sem, q0, q1, q2, q3, q4, q5, q6]) rfl ?_
  rw [Hx.out, Hyes.out]
  refine ⟨⟨w1.heap.size, w2.heap.size, w2.heap.size + 1, w3.heap.size⟩, A2, c2, B3, d3, rfl, ?_⟩
  exact new_sto (g := w.heap.size + 1) (o := 0) (r := [.slice A2 p.ss.length c2, .int .i64 p.f, .int .i64 p.l, .int .i64 p.r, .int .i64 p.c, .slice B3 ds'.length d3, .int .i64 q']) (n := w4.heap.size)
    ⟨.inl (by show w2.heap.size ≤ w2.heap.size + 1; omega), V2.out, V3.out⟩ ⟨z1, by show w2.heap.size ≤ w4.heap.size; omega, by show w.heap.size + 1 + 1 ≤ w2.heap.size + 1; omega, by show w3.heap.size ≤ w4.heap.size; omega⟩ (Nat.le_refl _) W1.out (by omega)
end Go.Proofs.Ytpjelojmkmednaa.Ln
