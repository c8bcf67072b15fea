/- What the program's ServeFirst answers. -/
import Derived.Test.YtpjelojmkmednaaLc9
import Derived.Test.YtpjelojmkmednaaLqF
namespace Go.Proofs.Ytpjelojmkmednaa.Ln
open Go.RowKit Go.Deep Base

set_option maxRecDepth 100000 in
set_option maxHeartbeats 4000000 in
theorem implServe_any (A : Option Addr) (ca : Nat) (x : Lx) (B : Option Addr) (cb : Nat) (R : Rg) (w : World) (hn : x.s.ss.length ≤ 1048576) (hm : x.ds.length ≤ 1048576) (h : LnV w R A B x) (hR : R.In 0 w.heap.size) :
    Calls Try.prog 16 #[.agg #[.slice A x.s.ss.length ca, .int .i64 x.s.f, .int .i64 x.s.l, .int .i64 x.s.r, .int .i64 x.s.c, .slice B x.ds.length cb, .int .i64 x.q]] w (NewL2 w (sfX x) (.int .i64 (sfT x))) := by
  have H := Lib.hid h
  have HR := Lib.hid hR
  clear h hR
  go_enter Try.func16, Try.ntmps16
  go_wp2_with fail
  have hB : ∀ o o', Below w.heap.size w ((w.alloc o).alloc o') := fun o o' => ((Below.refl _ _).alloc (Nat.le_refl _) _).alloc (by simp) _
  refine (implLineOk_any A ca x B cb R _ hm (H.out.below (hB _ _) HR.out) (HR.out.wide (Nat.le_refl _) (hB _ _).size)).mono ?_
  rintro e w1 ⟨rfl, b1⟩
  have K : Hid (Bx w1 w.heap.size 31 #[.slice A x.s.ss.length ca, .int .i64 x.s.f, .int .i64 x.s.l, .int .i64 x.s.r, .int .i64 x.s.c, .slice B x.ds.length cb, .int .i64 x.q]) := ((Bx.new w _ _).alloc _).below b1
  have Q : Hid (Bx w1 (w.heap.size + 1) 31 #[.slice none 0 0, .int .i64 0, .int .i64 0, .int .i64 0, .int .i64 0, .slice none 0 0, .int .i64 0]) := (Bx.at_new (w.alloc _) _ (by simp) _ _).below b1
  have W1 := Lib.hid (bel_trans (hB _ _) b1)
  have z1 : w.heap.size + 1 < w1.heap.size := Q.out.lt
  clear b1 hB
  obtain ⟨k0, k1, k2, k3, k4, k5, k6, kf⟩ := K.out.cells7
  cases ho : okL x
  · have Hno := Lib.hid (sf_bad ho)
    clear ho
    have zR : w.heap.size + 1 + 1 ≤ w1.heap.size := z1
    go_wp2_with fail
    refine (sameLine_any A ca x B cb R _ hn hm (H.out.below W1.out HR.out) (HR.out.wide (Nat.le_refl _) W1.out.size)).mono ?_
    rintro e w9 ⟨R9, A9, c9, B9, d9, rfl, v9, r9, b9⟩
    replace Q := Lib.hid (Q.out.below b9)
    have zq := Q.out.lt
    have V9 := Lib.hid v9
    have z9 := b9.size
    replace W1 := Lib.hid (bel_trans W1.out b9)
    clear b9 v9
    obtain ⟨q0, q1, q2, q3, q4, q5, q6, qf⟩ := Q.out.cells7
    go_wp2_with fail
    refine bodyPost_ret (v := .tuple #[.agg #[.slice A9 x.s.ss.length c9, .int .i64 x.s.f, .int .i64 x.s.l, .int .i64 x.s.r, .int .i64 x.s.c, .slice B9 x.ds.length d9, .int .i64 x.q], .int .i64 0]) (by simp [results, (Try.results16), go_sem, q0, q1, q2, q3, q4, q5, q6]) rfl ?_
    rw [Hno.out.1, Hno.out.2]
    refine ⟨R9, A9, c9, B9, d9, rfl, ?_⟩
    exact new_sto (g := w.heap.size + 1) (o := 0) (r := [.slice A9 x.s.ss.length c9, .int .i64 x.s.f, .int .i64 x.s.l, .int .i64 x.s.r, .int .i64 x.s.c, .slice B9 x.ds.length d9, .int .i64 x.q]) (n := w9.heap.size) V9.out (r9.wide zR (Nat.le_refl _)) (Nat.le_refl _) W1.out (by omega)
    skip
  have Hs := Lib.hid (sf_ok ho)
  clear ho
  go_wp2_with fail
  refine (Que.implPop_any A _ ca R.a R.b x.s.ss _ _ _ _ _ rfl hn (H.out.s.below W1.out HR.out.b) (Nat.le_trans HR.out.b W1.out.size)).mono ?_
  intro e w2 hp
  obtain ⟨A2, c2, rfl, v2, b2⟩ := rem_q hp
  obtain ⟨p, hpx⟩ : ∃ p, x.s.remAt x.s.f = p := ⟨_, rfl⟩
  obtain ⟨id, hsl⟩ : ∃ id, x.s.idAt x.s.f = id := ⟨_, rfl⟩
  rw [hpx, hsl] at Hs
  rw [hpx] at v2 ⊢
  rw [hsl]
  clear hp hpx hsl k0 k1 k2 k3 k4 k5 k6 kf
  have z2 := b2.size
  obtain ⟨w3, hw3⟩ : ∃ w3, w2.alloc (.cells #[.slice A2 p.ss.length c2, .int .i64 p.f, .int .i64 p.l, .int .i64 p.r, .int .i64 p.c] 26) = w3 := ⟨_, rfl⟩
  have b23 : Below w2.heap.size w2 w3 := by rw [← hw3]; exact bel_alloc w2 _
  have P : Hid (Bx w3 w2.heap.size 26 #[.slice A2 p.ss.length c2, .int .i64 p.f, .int .i64 p.l, .int .i64 p.r, .int .i64 p.c]) := by rw [← hw3]; exact Bx.new w2 _ _
  replace K := Lib.hid ((K.out.below b2).below b23)
  replace Q := Lib.hid ((Q.out.below b2).below b23)
  have V2 := Lib.hid (v2.below b23 (Nat.le_refl _))
  replace W1 := Lib.hid (bel_trans (bel_trans W1.out b2) b23)
  have z3 : w2.heap.size < w3.heap.size := P.out.lt
  clear b2 b23 v2
  obtain ⟨k0, k1, k2, k3, k4, k5, k6, kf⟩ := K.out.cells7
  go_wp2_with fail
  refine (Hp.implCancel_any B _ cb R.c R.d x.ds _ id _ rfl hm (H.out.h.below W1.out HR.out.d) (Nat.le_trans HR.out.d W1.out.size)).mono ?_
  rintro e w4 ⟨B3, d3, rfl, v3, b3⟩
  obtain ⟨ds', hds⟩ : ∃ ds', Hp.canD x.ds x.q id = ds' := ⟨_, rfl⟩
  rw [hds] at v3 Hs ⊢
  clear hds k0 k1 k2 k3 k4 k5 k6 kf hw3
  have z4 := b3.size
  obtain ⟨w5, hw5⟩ : ∃ w5, w4.alloc (.cells #[.slice B3 ds'.length d3, .int .i64 x.q] 29) = w5 := ⟨_, rfl⟩
  have b45 : Below w4.heap.size w4 w5 := by rw [← hw5]; exact bel_alloc w4 _
  have G : Hid (Bx w5 w4.heap.size 29 #[.slice B3 ds'.length d3, .int .i64 x.q]) := by rw [← hw5]; exact Bx.new w4 _ _
  replace Q := Lib.hid ((Q.out.below b3).below b45)
  replace P := Lib.hid ((P.out.below b3).below b45)
  replace V2 := Lib.hid ((V2.out.below b3 (by omega)).below b45 (by omega))
  have V3 := Lib.hid (v3.below b45 (Nat.le_refl _))
  replace W1 := Lib.hid (bel_trans (bel_trans W1.out b3) b45)
  have z5 : w4.heap.size < w5.heap.size := G.out.lt
  clear b3 b45 v3
  obtain ⟨p0, p1, p2, p3, p4, pf⟩ := P.out.cells5
  obtain ⟨g0, g1, gf⟩ := G.out.cells2
  obtain ⟨q0, q1, q2, q3, q4, q5, q6, qf⟩ := Q.out.cells7
  go_wp2_with fail
  refine bodyPost_ret (v := .tuple #[.agg #[.slice A2 p.ss.length c2, .int .i64 p.f, .int .i64 p.l, .int .i64 p.r, .int .i64 p.c, .slice B3 ds'.length d3, .int .i64 x.q], .int .i64 id]) (by simp [results, Try.results16, go_sem, q0, q1, q2, q3, q4, q5, q6]) rfl ?_
  rw [Hs.out.1, Hs.out.2]
  refine ⟨⟨w1.heap.size, w2.heap.size, w3.heap.size, w4.heap.size⟩, A2, c2, B3, d3, rfl, ?_⟩
  exact new_sto (g := w.heap.size + 1) (o := 0) (r := [.slice A2 p.ss.length c2, .int .i64 p.f, .int .i64 p.l, .int .i64 p.r, .int .i64 p.c, .slice B3 ds'.length d3, .int .i64 x.q]) (n := w5.heap.size)
    ⟨.inl (by show w2.heap.size ≤ w3.heap.size; omega), V2.out, V3.out⟩ ⟨z1, by show w2.heap.size ≤ w5.heap.size; omega, by show w.heap.size + 1 + 1 ≤ w3.heap.size; omega, by show w4.heap.size ≤ w5.heap.size; omega⟩ (Nat.le_refl _) W1.out (by omega)
end Go.Proofs.Ytpjelojmkmednaa.Ln
