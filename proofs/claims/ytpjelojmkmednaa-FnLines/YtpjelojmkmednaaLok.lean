/- What LineOk answers, the program's and the reference's. -/
import Derived.Test.YtpjelojmkmednaaLsi
namespace Go.Proofs.Ytpjelojmkmednaa.Ln
open Go.RowKit Go.Deep Base

set_option maxRecDepth 100000 in
set_option maxHeartbeats 2000000 in
theorem implLineOk_any (A : Option Addr) (ca : Nat) (x : Lx) (B : Option Addr) (cb : Nat) (R : Rg) (w : World) (hm : x.ds.length ≤ 1048576) (h : LnV w R A B x) (hR : R.In 0 w.heap.size) :
    Calls Try.prog 25 #[.agg #[.slice A x.s.ss.length ca, .int .i64 x.s.f, .int .i64 x.s.l, .int .i64 x.s.r, .int .i64 x.s.c, .slice B x.ds.length cb, .int .i64 x.q]] w fun e w' => e = .returned (.bool (okL x)) ∧ Below w.heap.size w w' := by
  have H := Lib.hid h
  have HR := Lib.hid hR
  have Ho := Lib.hid (okL_same x)
  clear h hR
  go_enter Try.func25, Try.ntmps25
  go_wp2_with fail
  refine (Que.queueOk_any A _ ca x.s.ss _ _ _ _ R.a R.b _ rfl (H.out.s.below (bel_alloc w _) HR.out.b) (Nat.le_trans HR.out.b (bel_alloc w _).size)).mono ?_
  rintro e w1 ⟨rfl, b1⟩
  have K : Hid (Bx w1 w.heap.size 31 #[.slice A x.s.ss.length ca, .int .i64 x.s.f, .int .i64 x.s.l, .int .i64 x.s.r, .int .i64 x.s.c, .slice B x.ds.length cb, .int .i64 x.q]) := (Bx.new w _ _).below b1
  have W1 := Lib.hid (bel_trans (bel_alloc w _) b1)
  clear b1
  obtain ⟨k0, k1, k2, k3, k4, k5, k6, kf⟩ := K.out.cells7
  have e1 : Que.okQ x.s.ss x.s.f x.s.l x.s.r x.s.c = x.s.ok := rfl
  rw [e1]
  clear e1
  cases hq : x.s.ok
  · have Ho' : Hid (okL x = false) := by show okL x = false; rw [Ho.out, hq]; rfl
    clear hq
    go_wp2
    go_ret
    exact ⟨by rw [Ho'.out]; rfl, W1.out⟩
  have Hq := Lib.hid hq
  clear hq
  go_wp2_with fail
  refine (Hp.implHeapOk_any B _ cb R.c R.d x.ds _ _ rfl hm (H.out.h.below W1.out HR.out.d) (Nat.le_trans HR.out.d W1.out.size)).mono ?_
  rintro e w2 ⟨rfl, b2⟩
  replace K := Lib.hid (K.out.below b2)
  replace W1 := Lib.hid (bel_trans W1.out b2)
  clear b2 k0 k1 k2 k3 k4 k5 k6 kf
  obtain ⟨k0, k1, k2, k3, k4, k5, k6, kf⟩ := K.out.cells7
  cases hh : Hp.okH x.ds x.q
  · have Ho' : Hid (okL x = false) := by show okL x = false; rw [Ho.out, hh]; simp
    clear hh
    go_wp2
    go_ret
    exact ⟨by rw [Ho'.out]; rfl, W1.out⟩
  have Hh := Lib.hid hh
  clear hh
  have Ho' : Hid (okL x = sameB x.s x.ds) := by show okL x = _; rw [Ho.out, Hq.out, Hh.out]; rfl
  go_wp2_with fail
  refine (sameIds_any A ca x.s B cb x.ds x.q R.a R.b R.c R.d _ Hq.out (Hp.okH_val Hh.out) (H.out.s.below W1.out HR.out.b) (H.out.h.below W1.out HR.out.d) (Nat.le_trans HR.out.b W1.out.size) (Nat.le_trans HR.out.d W1.out.size)).mono ?_
  rintro e w3 ⟨rfl, b3⟩
  replace W1 := Lib.hid (bel_trans W1.out b3)
  clear b3 k0 k1 k2 k3 k4 k5 k6 kf
  go_wp2
  go_ret
  exact ⟨by rw [Ho'.out]; rfl, W1.out⟩

set_option maxRecDepth 100000 in
set_option maxHeartbeats 2000000 in
theorem specLineOk_any (A : Option Addr) (ca : Nat) (x : Lx) (B : Option Addr) (cb : Nat) (R : Rg) (w : World) (hn : x.s.ss.length ≤ 1048576) (hm : x.ds.length ≤ 1048576) (h : LnV w R A B x) (hR : R.In 0 w.heap.size) :
    Calls Try.prog 19 #[.agg #[.slice A x.s.ss.length ca, .int .i64 x.s.f, .int .i64 x.s.l, .int .i64 x.s.r, .int .i64 x.s.c, .slice B x.ds.length cb, .int .i64 x.q]] w fun e w' => e = .returned (.bool (okL x)) ∧ Below w.heap.size w w' := by
  have H := Lib.hid h
  have HR := Lib.hid hR
  have Ho := Lib.hid (okL_same x)
  clear h hR
  go_enter Try.func19, Try.ntmps19
  go_wp2_with fail
  refine (Que.specQueueOk_any A _ ca R.a R.b _ _ _ _ x.s.ss _ rfl hn (H.out.s.below (bel_alloc w _) HR.out.b) (Nat.le_trans HR.out.b (bel_alloc w _).size)).mono ?_
  rintro e w1 ⟨rfl, b1⟩
  have K : Hid (Bx w1 w.heap.size 31 #[.slice A x.s.ss.length ca, .int .i64 x.s.f, .int .i64 x.s.l, .int .i64 x.s.r, .int .i64 x.s.c, .slice B x.ds.length cb, .int .i64 x.q]) := (Bx.new w _ _).below b1
  have W1 := Lib.hid (bel_trans (bel_alloc w _) b1)
  clear b1
  obtain ⟨k0, k1, k2, k3, k4, k5, k6, kf⟩ := K.out.cells7
  have e1 : Que.okQ x.s.ss x.s.f x.s.l x.s.r x.s.c = x.s.ok := rfl
  rw [e1]
  clear e1
  cases hq : x.s.ok
  · have Ho' : Hid (okL x = false) := by show okL x = false; rw [Ho.out, hq]; rfl
    clear hq
    go_wp2
    go_ret
    exact ⟨by rw [Ho'.out]; rfl, W1.out⟩
  have Hq := Lib.hid hq
  clear hq
  go_wp2_with fail
  refine (Hp.specHeapOk_any B _ cb R.c R.d x.ds _ _ rfl hm (H.out.h.below W1.out HR.out.d) (Nat.le_trans HR.out.d W1.out.size)).mono ?_
  rintro e w2 ⟨rfl, b2⟩
  replace K := Lib.hid (K.out.below b2)
  replace W1 := Lib.hid (bel_trans W1.out b2)
  clear b2 k0 k1 k2 k3 k4 k5 k6 kf
  obtain ⟨k0, k1, k2, k3, k4, k5, k6, kf⟩ := K.out.cells7
  cases hh : Hp.okH x.ds x.q
  · have Ho' : Hid (okL x = false) := by show okL x = false; rw [Ho.out, hh]; simp
    clear hh
    go_wp2
    go_ret
    exact ⟨by rw [Ho'.out]; rfl, W1.out⟩
  have Hh := Lib.hid hh
  clear hh
  have Ho' : Hid (okL x = sameB x.s x.ds) := by show okL x = _; rw [Ho.out, Hq.out, Hh.out]; rfl
  have F := Lib.hid (Qx.ids_facts Hq.out)
  by_cases hc : x.s.ids.length = x.ds.length
  · have hne : (x.s.c != (x.ds.length : Int)) = false := by
      rw [F.out.2.2.2.1, hc]
      simp
    have Hc := Lib.hid hc
    clear hc
    go_wp2_with fail
    refine (Que.specList_any A _ ca x.s.ss _ _ _ _ R.a R.b _ rfl hn (H.out.s.below W1.out HR.out.b) (Nat.le_trans HR.out.b W1.out.size)).mono ?_
    rintro e w3 ⟨G, cg, rfl, v3, b3⟩
    have e2 : Que.listA x.s.ss x.s.f x.s.l x.s.r x.s.c = x.s.ids := rfl
    rw [e2] at v3 ⊢
    clear e2
    have V := Lib.hid v3
    replace K := Lib.hid (K.out.below b3)
    replace W1 := Lib.hid (bel_trans W1.out b3)
    clear b3 k0 k1 k2 k3 k4 k5 k6 kf v3 hne
    have hl60 : (x.s.ids.length : Int) ≤ 60 := by have := F.out.2.2.1; omega
    go_wp2
    go_loopw [4] (fun i wr => ∃ k : Nat, k ≤ x.s.ids.length ∧ i = .int .i64 k ∧ Below w3.heap.size w3 wr ∧ ∀ j, j < k → 0 ≤ Hp.fndD x.ds (x.s.ids.getD j 0)) (fun i _ => x.s.ids.length - (intOf i).toNat)
    case atStart => exact ⟨0, Nat.zero_le _, rfl, Below.refl _ _, fun j hj => absurd hj (by omega)⟩
    case round =>
      obtain ⟨k, hk, rfl, hr, hf⟩ := hrel
      have Hf := Lib.hid hf
      have Hr := Lib.hid hr
      clear hf hr
      have Kr := Lib.hid (K.out.below Hr.out)
      have Wr := Lib.hid (bel_trans W1.out Hr.out)
      have HDr := Lib.hid (H.out.h.below Wr.out HR.out.d)
      by_cases hlt : k < x.s.ids.length
      · obtain ⟨g, rfl, hg1, hg2, hri⟩ := (V.out.below Hr.out (Nat.le_refl _)) (by omega)
        obtain ⟨t, ht⟩ : ∃ t, x.s.ids.getD k 0 = t := ⟨_, rfl⟩
        have c0 := (hri k (by omega)).1
        rw [ht] at c0
        have Ht := Lib.hid ht
        clear hri ht
        obtain ⟨k0, k1, k2, k3, k4, k5, k6, kf⟩ := Kr.out.cells7
        have hk0 : (0 : Int) ≤ (k : Int) := by omega
        have hk1 : (k : Int) < (x.s.ids.length : Int) := by omega
        go_wp2
        go_still_tail 6, (by kernel_rfl)
        change wpList _ _ _ _ _ wr.drew
        go_wp2_with fail
        refine (Hp.specFind_any B _ cb R.c R.d x.ds x.q t wr.drew rfl hm (show Hp.DV wr.drew R.c R.d B x.ds from HDr.out) (show R.d ≤ wr.drew.heap.size from Nat.le_trans HR.out.d Wr.out.size)).mono ?_
        rintro e w4 ⟨rfl, b4⟩
        have W4 := Lib.hid (bel_of_drew b4)
        clear b4 k0 k1 k2 k3 k4 k5 k6 kf c0
        by_cases hneg : Hp.fndD x.ds t < 0
        · have Hno : Hid (sameB x.s x.ds = false) := by
            show sameB x.s x.ds = false
            cases e : sameB x.s x.ds
            · rfl
            · exfalso
              unfold sameB at e
              simp only [Bool.and_eq_true, decide_eq_true_eq, List.all_eq_true] at e
              have := e.2 (x.s.ids.getD k 0) (by simp [List.getD_eq_getElem?_getD, hlt])
              rw [Ht.out] at this
              omega
          go_wp2
          go_ret
          exact ⟨by rw [Ho'.out, Hno.out]; rfl, bel_trans Wr.out W4.out⟩
        · have Hs : Hid (∀ j, j < k + 1 → 0 ≤ Hp.fndD x.ds (x.s.ids.getD j 0)) := fun j hj => by
            by_cases e : j = k
            · subst e; rw [Ht.out]; omega
            · exact Hf.out j (by omega)
          go_wp2
          go_roundw
          case rel => exact ⟨k + 1, by omega, by go_num, bel_trans Hr.out W4.out, Hs.out⟩
          case measure => simp [intOf]; omega
      · obtain rfl : k = x.s.ids.length := by omega
        have Hyes : Hid (sameB x.s x.ds = true) := by
          show sameB x.s x.ds = true
          unfold sameB
          rw [decide_eq_true Hc.out, Bool.true_and, List.all_eq_true]
          intro i hi
          obtain ⟨j, hj, rfl⟩ := List.mem_iff_getElem.1 hi
          have := Hf.out j hj
          simpa [List.getD_eq_getElem?_getD, hj] using this
        go_wp2
        go_ret
        exact ⟨by rw [Ho'.out, Hyes.out]; rfl, Wr.out⟩
  · have hne : (x.s.c != (x.ds.length : Int)) = true := by
      rw [F.out.2.2.2.1]
      simp
      omega
    have Hno : Hid (sameB x.s x.ds = false) := by
      show sameB x.s x.ds = false
      unfold sameB
      rw [decide_eq_false hc]
      rfl
    clear hc
    go_wp2
    go_ret
    exact ⟨by rw [Ho'.out, Hno.out]; rfl, W1.out⟩
end Go.Proofs.Ytpjelojmkmednaa.Ln
