/- What LineList, NextExpiry and NewLine answer, the program's and the reference's. -/
import Derived.Test.YtpjelojmkmednaaLok
import Derived.Test.YtpjelojmkmednaaLhA
import Derived.Test.YtpjelojmkmednaaLqE
import Derived.Test.YtpjelojmkmednaaLqF
namespace Go.Proofs.Ytpjelojmkmednaa.Ln
open Go.RowKit Go.Deep Base

def llA (x : Lx) : List Int := if okL x = true then x.s.ids else []
def neA (x : Lx) : Int := if (okL x && Hp.nextOk x.ds x.q) = true then (Hp.nextD x.ds x.q).at else -1
def nlX : Lx := ⟨⟨Que.newS, -1, -1, 0, 0⟩, [], 0⟩

set_option maxRecDepth 100000 in
set_option maxHeartbeats 2000000 in
theorem implList_any (A : Option Addr) (ca : Nat) (x : Lx) (B : Option Addr) (cb : Nat) (R : Rg) (w : World) (_hn : x.s.ss.length ≤ 1048576) (hm : x.ds.length ≤ 1048576) (h : LnV w R A B x) (hR : R.In 0 w.heap.size) :
    Calls Try.prog 21 #[.agg #[.slice A x.s.ss.length ca, .int .i64 x.s.f, .int .i64 x.s.l, .int .i64 x.s.r, .int .i64 x.s.c, .slice B x.ds.length cb, .int .i64 x.q]] w (Que.NewI w (llA x)) := by
  have H := Lib.hid h
  have HR := Lib.hid hR
  clear h hR
  go_enter Try.func21, Try.ntmps21
  go_wp2_with fail
  refine (implLineOk_any A ca x B cb R _ hm (H.out.below (bel_alloc w _) HR.out) (HR.out.wide (Nat.le_refl _) (bel_alloc w _).size)).mono ?_
  rintro e w1 ⟨rfl, b1⟩
  have K : Hid (Bx w1 w.heap.size 31 #[.slice A x.s.ss.length ca, .int .i64 x.s.f, .int .i64 x.s.l, .int .i64 x.s.r, .int .i64 x.s.c, .slice B x.ds.length cb, .int .i64 x.q]) := (Bx.new w _ _).below b1
  have W1 := Lib.hid (bel_trans (bel_alloc w _) b1)
  clear b1
  obtain ⟨k0, k1, k2, k3, k4, k5, k6, kf⟩ := K.out.cells7
  cases ho : okL x
  · have Hl : Hid (llA x = []) := by show llA x = []; unfold llA; rw [ho]; rfl
    clear ho
    go_wp2
    go_ret
    rw [Hl.out]
    exact ⟨none, 0, rfl, fun hp => absurd hp (by simp), W1.out⟩
  have Hl : Hid (llA x = x.s.ids) := by show llA x = _; unfold llA; rw [ho]; rfl
  clear ho
  go_wp2_with fail
  refine (Que.implList_any A _ ca R.a R.b x.s.ss _ _ _ _ _ rfl (H.out.s.below W1.out HR.out.b) (Nat.le_trans HR.out.b W1.out.size)).mono ?_
  rintro e w2 ⟨G, cg, rfl, v2, b2⟩
  have e2 : Que.listA x.s.ss x.s.f x.s.l x.s.r x.s.c = x.s.ids := rfl
  rw [e2] at v2 ⊢
  clear e2 k0 k1 k2 k3 k4 k5 k6 kf
  have V := Lib.hid v2
  have z1 := W1.out.size
  have W2 := Lib.hid (bel_trans W1.out b2)
  clear b2 v2
  go_wp2
  go_ret
  rw [Hl.out]
  exact ⟨G, cg, rfl, V.out.wide z1 (Nat.le_refl _), W2.out⟩

set_option maxRecDepth 100000 in
set_option maxHeartbeats 2000000 in
theorem specList_any (A : Option Addr) (ca : Nat) (x : Lx) (B : Option Addr) (cb : Nat) (R : Rg) (w : World) (hn : x.s.ss.length ≤ 1048576) (hm : x.ds.length ≤ 1048576) (h : LnV w R A B x) (hR : R.In 0 w.heap.size) :
    Calls Try.prog 38 #[.agg #[.slice A x.s.ss.length ca, .int .i64 x.s.f, .int .i64 x.s.l, .int .i64 x.s.r, .int .i64 x.s.c, .slice B x.ds.length cb, .int .i64 x.q]] w (Que.NewI w (llA x)) := by
  have H := Lib.hid h
  have HR := Lib.hid hR
  clear h hR
  go_enter Try.func38, Try.ntmps38
  go_wp2_with fail
  refine (specLineOk_any A ca x B cb R _ hn hm (H.out.below (bel_alloc w _) HR.out) (HR.out.wide (Nat.le_refl _) (bel_alloc w _).size)).mono ?_
  rintro e w1 ⟨rfl, b1⟩
  have K : Hid (Bx w1 w.heap.size 31 #[.slice A x.s.ss.length ca, .int .i64 x.s.f, .int .i64 x.s.l, .int .i64 x.s.r, .int .i64 x.s.c, .slice B x.ds.length cb, .int .i64 x.q]) := (Bx.new w _ _).below b1
  have W1 := Lib.hid (bel_trans (bel_alloc w _) b1)
  clear b1
  obtain ⟨k0, k1, k2, k3, k4, k5, k6, kf⟩ := K.out.cells7
  cases ho : okL x
  · have Hl : Hid (llA x = []) := by show llA x = []; unfold llA; rw [ho]; rfl
    clear ho
    go_wp2
    go_ret
    rw [Hl.out]
    exact ⟨none, 0, rfl, fun hp => absurd hp (by simp), W1.out⟩
  have Hl : Hid (llA x = x.s.ids) := by show llA x = _; unfold llA; rw [ho]; rfl
  clear ho
  go_wp2_with fail
  refine (Que.specList_any A _ ca x.s.ss _ _ _ _ R.a R.b _ rfl hn (H.out.s.below W1.out HR.out.b) (Nat.le_trans HR.out.b W1.out.size)).mono ?_
  rintro e w2 ⟨G, cg, rfl, v2, b2⟩
  have e2 : Que.listA x.s.ss x.s.f x.s.l x.s.r x.s.c = x.s.ids := rfl
  rw [e2] at v2 ⊢
  clear e2 k0 k1 k2 k3 k4 k5 k6 kf
  have V := Lib.hid v2
  have z1 := W1.out.size
  have W2 := Lib.hid (bel_trans W1.out b2)
  clear b2 v2
  go_wp2
  go_ret
  rw [Hl.out]
  exact ⟨G, cg, rfl, V.out.wide z1 (Nat.le_refl _), W2.out⟩

set_option maxRecDepth 100000 in
set_option maxHeartbeats 2000000 in
theorem implNextE_any (A : Option Addr) (ca : Nat) (x : Lx) (B : Option Addr) (cb : Nat) (R : Rg) (w : World) (_hn : x.s.ss.length ≤ 1048576) (hm : x.ds.length ≤ 1048576) (h : LnV w R A B x) (hR : R.In 0 w.heap.size) :
    Calls Try.prog 22 #[.agg #[.slice A x.s.ss.length ca, .int .i64 x.s.f, .int .i64 x.s.l, .int .i64 x.s.r, .int .i64 x.s.c, .slice B x.ds.length cb, .int .i64 x.q]] w fun e w' => e = .returned (.int .i64 (neA x)) ∧ Below w.heap.size w w' := by
  have H := Lib.hid h
  have HR := Lib.hid hR
  clear h hR
  go_enter Try.func22, Try.ntmps22
  go_wp2_with fail
  refine (Hp.implNext_any B _ cb R.c R.d x.ds _ _ rfl hm (H.out.h.below (bel_alloc w _) HR.out.d) (Nat.le_trans HR.out.d (bel_alloc w _).size)).mono ?_
  rintro e w1 ⟨rfl, b1⟩
  obtain ⟨dd, hdd⟩ : ∃ dd, Hp.nextD x.ds x.q = dd := ⟨_, rfl⟩
  obtain ⟨nb, hnb⟩ : ∃ nb, Hp.nextOk x.ds x.q = nb := ⟨_, rfl⟩
  rw [hdd, hnb]
  have Hdd := Lib.hid hdd
  have Hnb := Lib.hid hnb
  clear hdd hnb
  obtain ⟨w2, hw2⟩ : ∃ w2, w1.alloc (.cells #[.int .i64 dd.at, .int .i64 dd.seq, .int .i64 dd.id] 80) = w2 := ⟨_, rfl⟩
  have b12 : Below w1.heap.size w1 w2 := by rw [← hw2]; exact bel_alloc w1 _
  have D : Hid (Bx w2 w1.heap.size 80 #[.int .i64 dd.at, .int .i64 dd.seq, .int .i64 dd.id]) := by rw [← hw2]; exact Bx.new w1 _ _
  have K : Hid (Bx w2 w.heap.size 31 #[.slice A x.s.ss.length ca, .int .i64 x.s.f, .int .i64 x.s.l, .int .i64 x.s.r, .int .i64 x.s.c, .slice B x.ds.length cb, .int .i64 x.q]) := ((Bx.new w _ _).below b1).below b12
  have W1 := Lib.hid (bel_trans (bel_trans (bel_alloc w _) b1) b12)
  clear b1 b12
  obtain ⟨k0, k1, k2, k3, k4, k5, k6, kf⟩ := K.out.cells7
  go_wp2_with fail
  refine (implLineOk_any A ca x B cb R _ hm (H.out.below W1.out HR.out) (HR.out.wide (Nat.le_refl _) W1.out.size)).mono ?_
  rintro e w3 ⟨rfl, b3⟩
  replace D := Lib.hid (D.out.below b3)
  replace W1 := Lib.hid (bel_trans W1.out b3)
  clear b3 k0 k1 k2 k3 k4 k5 k6 kf hw2
  cases ho : okL x
  · have Ha : Hid (neA x = -1) := by show neA x = -1; unfold neA; rw [ho]; rfl
    clear ho
    go_wp2
    go_ret
    exact ⟨ret_int (by rw [Ha.out]), W1.out⟩
  cases nb
  · have Ha : Hid (neA x = -1) := by show neA x = -1; unfold neA; rw [ho, Hnb.out]; rfl
    clear ho
    go_wp2
    go_ret
    exact ⟨ret_int (by rw [Ha.out]), W1.out⟩
  have Ha : Hid (neA x = dd.at) := by show neA x = _; unfold neA; rw [ho, Hnb.out, Hdd.out]; rfl
  clear ho
  have d0 := D.out.cell 0
  go_wp2
  go_ret
  exact ⟨ret_int (by rw [Ha.out]), W1.out⟩

set_option maxRecDepth 100000 in
set_option maxHeartbeats 2000000 in
theorem specNextE_any (A : Option Addr) (ca : Nat) (x : Lx) (B : Option Addr) (cb : Nat) (R : Rg) (w : World) (hn : x.s.ss.length ≤ 1048576) (hm : x.ds.length ≤ 1048576) (h : LnV w R A B x) (hR : R.In 0 w.heap.size) :
    Calls Try.prog 39 #[.agg #[.slice A x.s.ss.length ca, .int .i64 x.s.f, .int .i64 x.s.l, .int .i64 x.s.r, .int .i64 x.s.c, .slice B x.ds.length cb, .int .i64 x.q]] w fun e w' => e = .returned (.int .i64 (neA x)) ∧ Below w.heap.size w w' := by
  have H := Lib.hid h
  have HR := Lib.hid hR
  clear h hR
  go_enter Try.func39, Try.ntmps39
  go_wp2_with fail
  refine (specLineOk_any A ca x B cb R _ hn hm (H.out.below (bel_alloc w _) HR.out) (HR.out.wide (Nat.le_refl _) (bel_alloc w _).size)).mono ?_
  rintro e w1 ⟨rfl, b1⟩
  have K : Hid (Bx w1 w.heap.size 31 #[.slice A x.s.ss.length ca, .int .i64 x.s.f, .int .i64 x.s.l, .int .i64 x.s.r, .int .i64 x.s.c, .slice B x.ds.length cb, .int .i64 x.q]) := (Bx.new w _ _).below b1
  have W1 := Lib.hid (bel_trans (bel_alloc w _) b1)
  clear b1
  obtain ⟨k0, k1, k2, k3, k4, k5, k6, kf⟩ := K.out.cells7
  cases ho : okL x
  · have Ha : Hid (neA x = -1) := by show neA x = -1; unfold neA; rw [ho]; rfl
    clear ho
    go_wp2
    go_ret
    exact ⟨ret_int (by rw [Ha.out]), W1.out⟩
  have Ho := Lib.hid ho
  clear ho
  go_wp2_with fail
  refine (Hp.specNext_any B _ cb R.c R.d x.ds _ _ rfl hm (H.out.h.below W1.out HR.out.d) (Nat.le_trans HR.out.d W1.out.size)).mono ?_
  rintro e w2 ⟨rfl, b2⟩
  obtain ⟨dd, hdd⟩ : ∃ dd, Hp.nextD x.ds x.q = dd := ⟨_, rfl⟩
  obtain ⟨nb, hnb⟩ : ∃ nb, Hp.nextOk x.ds x.q = nb := ⟨_, rfl⟩
  rw [hdd, hnb]
  have Hdd := Lib.hid hdd
  have Hnb := Lib.hid hnb
  clear hdd hnb k0 k1 k2 k3 k4 k5 k6 kf
  have W2 := Lib.hid (bel_trans (bel_trans W1.out b2) (bel_alloc w2 (.cells #[.int .i64 dd.at, .int .i64 dd.seq, .int .i64 dd.id] 80)))
  clear b2
  cases nb
  · have Ha : Hid (neA x = -1) := by show neA x = -1; unfold neA; rw [Ho.out, Hnb.out]; rfl
    go_wp2
    go_ret
    exact ⟨ret_int (by rw [Ha.out]), W2.out⟩
  have Ha : Hid (neA x = dd.at) := by show neA x = _; unfold neA; rw [Ho.out, Hnb.out, Hdd.out]; rfl
  go_wp2
  go_ret
  exact ⟨ret_int (by rw [Ha.out]), W2.out⟩

set_option maxRecDepth 100000 in
set_option maxHeartbeats 2000000 in
theorem implNewLine_any (w : World) : Calls Try.prog 13 #[] w (NewL w nlX) := by
  go_enter Try.func13, Try.ntmps13
  go_wp2_with fail
  refine (Que.implNew_any _).mono ?_
  rintro e w1 ⟨A1, c1, rfl, v1, b1⟩
  have Q : Hid (Bx w1 w.heap.size 31 #[.slice none 0 0, .int .i64 0, .int .i64 0, .int .i64 0, .int .i64 0, .slice none 0 0, .int .i64 0]) := (Bx.new w _ _).below b1
  have W1 := Lib.hid (bel_trans (bel_alloc w _) b1)
  have V := Lib.hid v1
  rw [World.size_alloc] at V
  have z1 := Q.out.lt
  clear b1 v1
  obtain ⟨q0, q1, q2, q3, q4, q5, q6, qf⟩ := Q.out.cells7
  go_wp2_with fail
  refine bodyPost_ret (v := .agg #[.slice A1 60 c1, .int .i64 (-1), .int .i64 (-1), .int .i64 0, .int .i64 0, .slice none 0 0, .int .i64 0]) (by simp [results, Try.results13, go_sem, q0, q1, q2, q3, q4, q5, q6]) rfl ⟨⟨w.heap.size + 1, w1.heap.size, w1.heap.size, w1.heap.size⟩, A1, c1, none, 0, by rfl, ?_⟩
  exact new_sto (g := w.heap.size) (o := 0) (r := [.slice A1 60 c1, .int .i64 (-1), .int .i64 (-1), .int .i64 0, .int .i64 0, .slice none 0 0, .int .i64 0]) (v := w1) (n := w1.heap.size) (x := nlX)
    ⟨.inl (Nat.le_refl _), V.out, fun hp => absurd hp (by simp [nlX])⟩ ⟨Nat.le_refl _, Nat.le_refl _, z1, Nat.le_refl _⟩ (Nat.le_refl _) W1.out (Nat.le_refl _)

set_option maxRecDepth 100000 in
set_option maxHeartbeats 2000000 in
theorem specNewLine_any (w : World) : Calls Try.prog 27 #[] w (NewL w nlX) := by
  go_enter Try.func27, Try.ntmps27
  go_wp2_with fail
  refine (Que.specNew_any _).mono ?_
  rintro e w1 ⟨A1, c1, rfl, v1, b1⟩
  have Q : Hid (Bx w1 w.heap.size 31 #[.slice none 0 0, .int .i64 0, .int .i64 0, .int .i64 0, .int .i64 0, .slice none 0 0, .int .i64 0]) := (Bx.new w _ _).below b1
  have W1 := Lib.hid (bel_trans (bel_alloc w _) b1)
  have V := Lib.hid v1
  rw [World.size_alloc] at V
  have z1 := Q.out.lt
  clear b1 v1
  obtain ⟨q0, q1, q2, q3, q4, q5, q6, qf⟩ := Q.out.cells7
  go_wp2_with fail
  refine bodyPost_ret (v := .agg #[.slice A1 60 c1, .int .i64 (-1), .int .i64 (-1), .int .i64 0, .int .i64 0, .slice none 0 0, .int .i64 0]) (by simp [results, Try.results27, go_sem, q0, q1, q2, q3, q4, q5, q6]) rfl ⟨⟨w.heap.size + 1, w1.heap.size, w1.heap.size, w1.heap.size⟩, A1, c1, none, 0, by rfl, ?_⟩
  exact new_sto (g := w.heap.size) (o := 0) (r := [.slice A1 60 c1, .int .i64 (-1), .int .i64 (-1), .int .i64 0, .int .i64 0, .slice none 0 0, .int .i64 0]) (v := w1) (n := w1.heap.size) (x := nlX)
    ⟨.inl (Nat.le_refl _), V.out, fun hp => absurd hp (by simp [nlX])⟩ ⟨Nat.le_refl _, Nat.le_refl _, z1, Nat.le_refl _⟩ (Nat.le_refl _) W1.out (Nat.le_refl _)

end Go.Proofs.Ytpjelojmkmednaa.Ln
