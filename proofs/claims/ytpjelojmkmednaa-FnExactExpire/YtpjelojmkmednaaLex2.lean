/- What the reference's Expire answers. -/
import Derived.Test.YtpjelojmkmednaaLlv2
import Derived.Test.YtpjelojmkmednaaLex
namespace Go.Proofs.Ytpjelojmkmednaa.Ln
open Go.RowKit Go.Deep Base

theorem lvAll_take {zs : List Int} {k : Nat} {x : Lx} (h : k < zs.length) : lvAll (zs.take (k + 1)) x = lvX (lvAll (zs.take k) x) (zs.getD k 0) := by
  rw [List.take_succ_eq_append_getElem h, lvAll_snoc]
  simp [List.getD_eq_getElem?_getD, h]

/-- Between two rounds: the line that is left in the box at g; its rows lie behind base. -/
structure LeSt (g base : Nat) (w0 wr : World) (y : Lx) (R : Rg) (A : Option Addr) (ca : Nat) (B : Option Addr) (cb : Nat) : Prop where
  box : Bx wr g 31 #[.slice A y.s.ss.length ca, .int .i64 y.s.f, .int .i64 y.s.l, .int .i64 y.s.r, .int .i64 y.s.c, .slice B y.ds.length cb, .int .i64 y.q]
  row : LnV wr R A B y
  rg : R.In base wr.heap.size
  turns : Que.Turns g (g + 1) w0 wr

set_option maxRecDepth 100000 in
set_option maxHeartbeats 40000000 in
theorem specExpire_any (A : Option Addr) (ca : Nat) (x : Lx) (B : Option Addr) (cb : Nat) (now : Int) (R : Rg) (w : World) (hn : x.s.ss.length ≤ 1048576) (hm : x.ds.length ≤ 1048576) (h : LnV w R A B x) (hR : R.In 0 w.heap.size) :
    Calls Try.prog 34 #[.agg #[.slice A x.s.ss.length ca, .int .i64 x.s.f, .int .i64 x.s.l, .int .i64 x.s.r, .int .i64 x.s.c, .slice B x.ds.length cb, .int .i64 x.q], .int .i64 now] w (NewLI w (exX x now) (exL x now)) := by
  have H := Lib.hid h
  have HR := Lib.hid hR
  clear h hR
  go_enter Try.func34, Try.ntmps34
  go_wp2_with fail
  have hB : ∀ o o', Below w.heap.size w ((w.alloc o).alloc o') := fun o o' => ((Below.refl _ _).alloc (Nat.le_refl _) _).alloc (by simp) _
  refine (specLineOk_any A ca x B cb R _ hn hm (H.out.below (hB _ _) HR.out) (HR.out.wide (Nat.le_refl _) (hB _ _).size)).mono ?_
  rintro e w1 ⟨rfl, b1⟩
  have K : Hid (Bx w1 w.heap.size 31 #[.slice A x.s.ss.length ca, .int .i64 x.s.f, .int .i64 x.s.l, .int .i64 x.s.r, .int .i64 x.s.c, .slice B x.ds.length cb, .int .i64 x.q]) := ((Bx.new w _ _).alloc _).below b1
  have Q : Hid (Bx w1 (w.heap.size + 1) 31 #[.slice none 0 0, .int .i64 0, .int .i64 0, .int .i64 0, .int .i64 0, .slice none 0 0, .int .i64 0]) := (Bx.at_new (w.alloc _) _ (by simp) _ _).below b1
  have W1 := Lib.hid (bel_trans (hB _ _) b1)
  have z1 : w.heap.size + 1 < w1.heap.size := Q.out.lt
  clear b1 hB
  obtain ⟨k0, k1, k2, k3, k4, k5, k6, kf⟩ := K.out.cells7
  cases ho : okL x
  · have Hno := Lib.hid (ex_bad (now := now) ho)
    clear ho
    go_wp2_with fail
    refine (copyLine_any A ca x B cb R _ hn hm (H.out.below W1.out HR.out) (HR.out.wide (Nat.le_refl _) W1.out.size)).mono ?_
    rintro e w9 ⟨R9, A9, c9, B9, d9, rfl, v9, r9, b9⟩
    replace Q := Lib.hid (Q.out.below b9)
    have V9 := Lib.hid v9
    have z9 := b9.size
    replace W1 := Lib.hid (bel_trans W1.out b9)
    clear b9 v9
    obtain ⟨q0, q1, q2, q3, q4, q5, q6, qf⟩ := Q.out.cells7
    go_wp2_with fail
    refine bodyPost_ret (v := .tuple #[.agg #[.slice A9 x.s.ss.length c9, .int .i64 x.s.f, .int .i64 x.s.l, .int .i64 x.s.r, .int .i64 x.s.c, .slice B9 x.ds.length d9, .int .i64 x.q], .slice none 0 0]) (by simp [results, Try.results34, go_sem, q0, q1, q2, q3, q4, q5, q6]) rfl ?_
    rw [Hno.out.1, Hno.out.2]
    have F := new_sto (w := w) (g := w.heap.size + 1) (o := 0) (r := [.slice A9 x.s.ss.length c9, .int .i64 x.s.f, .int .i64 x.s.l, .int .i64 x.s.r, .int .i64 x.s.c, .slice B9 x.ds.length d9, .int .i64 x.q]) (v := w9) (n := w9.heap.size) V9.out (r9.wide (by omega) (Nat.le_refl _)) (Nat.le_refl _) W1.out (by omega)
    have f1 := r9.a
    have f2 := r9.c
    exact ⟨R9, A9, c9, B9, d9, none, 0, w.heap.size, w.heap.size, rfl, F.1, F.2.1, Que.IV.nil _ _ _ _, Nat.le_refl _, F.2.2.size, .inl (by omega), .inl (by omega), F.2.2⟩
  have Hx := Lib.hid (ex_ok now ho)
  have Hv := Lib.hid (okL_iff.1 ho)
  clear ho
  have f100 := Hv.out.hp.few
  go_wp2_with fail
  refine (Hp.specPop_any B _ cb R.c R.d x.ds _ now _ rfl hm (H.out.h.below W1.out HR.out.d) (Nat.le_trans HR.out.d W1.out.size)).mono ?_
  rintro e w2 ⟨B3, d3, C, cc, rfl, _, i4, b2⟩
  obtain ⟨ds', hds⟩ : ∃ ds', Hp.popD x.ds x.q now = ds' := ⟨_, rfl⟩
  obtain ⟨zs, hzs⟩ : ∃ zs, Hp.popL x.ds x.q now = zs := ⟨_, rfl⟩
  have hzl : zs.length ≤ 100 := by
    have := exL_few x now
    rw [Hx.out.2.1, hzs] at this
    omega
  rw [hzs] at Hx
  rw [hds, hzs]
  rw [hzs] at i4
  clear hds hzs k0 k1 k2 k3 k4 k5 k6 kf
  have z2 := b2.size
  obtain ⟨w3, hw3⟩ : ∃ w3, w2.alloc (.cells #[.slice B3 ds'.length d3, .int .i64 x.q] 29) = w3 := ⟨_, rfl⟩
  have b23 : Below w2.heap.size w2 w3 := by rw [← hw3]; exact bel_alloc _ _
  have z3 := b23.size
  replace K := Lib.hid ((K.out.below b2).below b23)
  replace Q := Lib.hid ((Q.out.below b2).below b23)
  have I4 : Hid (Que.IV w3 w1.heap.size w2.heap.size C zs) := Que.IV.of_block (w := w2) i4 fun b _ h2 => b23.block b h2
  replace W1 := Lib.hid (bel_trans (bel_trans W1.out b2) b23)
  clear b2 b23 i4
  obtain ⟨k0, k1, k2, k3, k4, k5, k6, kf⟩ := K.out.cells7
  go_wp2_with fail
  refine (copyLine_any A ca x B cb R _ hn hm (H.out.below W1.out HR.out) (HR.out.wide (Nat.le_refl _) W1.out.size)).mono ?_
  rintro e w4 ⟨R4, A4, c4, B4, d4, rfl, v4, r4, b4⟩
  have z4 := b4.size
  replace Q := Lib.hid (Q.out.below b4)
  replace I4 := Lib.hid (I4.out.below b4 (by omega))
  replace W1 := Lib.hid (bel_trans W1.out b4)
  have V4 := Lib.hid v4
  clear b4 v4 hw3 k0 k1 k2 k3 k4 k5 k6 kf K
  obtain ⟨g, hg⟩ : ∃ g, w4.heap.size = g := ⟨_, rfl⟩
  obtain ⟨w5, hw5⟩ : ∃ w5, w4.alloc (.cells #[.slice A4 x.s.ss.length c4, .int .i64 x.s.f, .int .i64 x.s.l, .int .i64 x.s.r, .int .i64 x.s.c, .slice B4 x.ds.length d4, .int .i64 x.q] 31) = w5 := ⟨_, rfl⟩
  have b45 : Below w4.heap.size w4 w5 := by rw [← hw5]; exact bel_alloc _ _
  have Bo : Hid (Bx w5 g 31 #[.slice A4 x.s.ss.length c4, .int .i64 x.s.f, .int .i64 x.s.l, .int .i64 x.s.r, .int .i64 x.s.c, .slice B4 x.ds.length d4, .int .i64 x.q]) := by rw [← hw5]; exact Bx.at_new w4 _ hg _ _
  have z5 : g < w5.heap.size := Bo.out.lt
  replace Q := Lib.hid (Q.out.below b45)
  replace I4 := Lib.hid (I4.out.below b45 (by omega))
  replace V4 := Lib.hid (V4.out.below b45 r4)
  replace W1 := Lib.hid (bel_trans W1.out b45)
  clear b45
  go_wp2
  clear hw5
  go_loopw [9] (fun i wr => ∃ k : Nat, k ≤ zs.length ∧ i = .int .i64 k ∧ ∃ y R9 A9 c9 B9 d9, y = lvAll (zs.take k) x ∧ LeSt g w3.heap.size w5 wr y R9 A9 c9 B9 d9) (fun i _ => zs.length - (intOf i).toNat)
  case atStart => exact ⟨0, Nat.zero_le _, rfl, x, R4, A4, c4, B4, d4, rfl, ⟨Bo.out, V4.out, r4.wide (Nat.le_refl _) (by omega), ⟨rfl, rfl, rfl, Nat.le_refl _, fun _ _ _ => rfl⟩⟩⟩
  case round =>
    obtain ⟨k, hk, rfl, y, Rq, Aq, cq, Bq, dq, hye, he⟩ := hrel
    obtain ⟨bo, sv, hrg, htu⟩ := he
    replace Bo := Lib.hid bo
    have Sv := Lib.hid sv
    have Tu := Lib.hid htu
    have Hye := Lib.hid hye
    have zwr := htu.size
    have hyn : y.s.ss.length ≤ 1048576 := by rw [hye, lvAll_len]; exact hn
    have hym : y.ds.length ≤ 1048576 := by rw [hye]; exact Nat.le_trans (lvAll_few _ _) hm
    clear bo sv htu hye
    by_cases hlt : k < zs.length
    · obtain ⟨t0, ht0⟩ : ∃ t0, zs.getD k 0 = t0 := ⟨_, rfl⟩
      obtain ⟨gi, rfl, hg1, hg2, hri⟩ := (I4.out.turns Tu.out (.inl (by omega)) (by omega)) (by omega)
      have C0 := Lib.hid (hri k hlt).1
      rw [ht0] at C0
      clear hri
      obtain ⟨y', hy'⟩ : ∃ y', lvX y t0 = y' := ⟨_, rfl⟩
      obtain ⟨lb, hlb⟩ : ∃ lb, lvB y t0 = lb := ⟨_, rfl⟩
      have Hq1 : Hid (y' = lvAll (zs.take (k + 1)) x) := by
        show y' = _
        rw [lvAll_take hlt, ← Hye.out, ht0, hy']
      have HLv : Hid (∀ V, LnV V Rq Aq Bq y → Rq.In 0 V.heap.size → Calls Try.prog 31 #[.agg #[.slice Aq y.s.ss.length cq, .int .i64 y.s.f, .int .i64 y.s.l, .int .i64 y.s.r, .int .i64 y.s.c, .slice Bq y.ds.length dq, .int .i64 y.q], .int .i64 t0] V (NewL2 V y' (.bool lb))) := fun V h1 h2 => by
        rw [← hy', ← hlb]
        exact specLeave_any Aq cq y Bq dq t0 Rq V hyn hym h1 h2
      clear hy' hlb ht0
      have hk0 : (0 : Int) ≤ (k : Int) := by omega
      have hk1 : (k : Int) < (zs.length : Int) := by omega
      have hk2 : (k : Int) < 100 := by omega
      go_wp2_with fail
      have HS : Hid (wr.drew.cell? ⟨gi, k, none⟩ = some (.int .i64 t0)) := C0.out
      refine wp_region_held_drew (S := fun V => V.cell? ⟨gi, k, none⟩ = some (.int .i64 t0)) (by kernel_rfl) HS.out (fun _ => ?_)
      replace Bo : Hid (Bx wr.drew g 31 #[.slice Aq y.s.ss.length cq, .int .i64 y.s.f, .int .i64 y.s.l, .int .i64 y.s.r, .int .i64 y.s.c, .slice Bq y.ds.length dq, .int .i64 y.q]) := Bo.out
      replace Sv : Hid (LnV wr.drew Rq Aq Bq y) := ⟨Sv.out.apart, Sv.out.s, Sv.out.h⟩
      replace Tu : Hid (Que.Turns g (g + 1) w5 wr.drew) := ⟨Tu.out.os, Tu.out.tape, Tu.out.output, Tu.out.size, Tu.out.block⟩
      obtain ⟨v, hv⟩ : ∃ v, wr.drew = v := ⟨_, rfl⟩
      have zv0 : v.heap.size = wr.heap.size := by rw [← hv]; rfl
      rw [hv] at HS Bo Sv Tu ⊢
      clear hv C0
      refine wpAnyH_take (i := 1) (v := (.slice (some ⟨gi, 0, none⟩) zs.length cc)) rfl (by kernel_rfl) (by kernel_rfl) (by kernel_rfl) (fun _ _ _ h => h) (.inl ⟨rfl, fun V hS => ?y0⟩) HS.out ?_
      case y0 =>
        clear hS
        go_simp
      go_simp
      refine wpAnyH_take (i := 2) (v := (.int .i64 (k : Int))) rfl (by kernel_rfl) (by kernel_rfl) (by kernel_rfl) (fun _ _ _ h => h) (.inl ⟨rfl, fun V hS => ?y0⟩) HS.out ?_
      case y0 =>
        clear hS
        go_simp
      go_simp
      refine wpAnyH_take (i := 3) (v := (.pointer (some ⟨gi, k, none⟩))) rfl (by kernel_rfl) (by kernel_rfl) (by kernel_rfl) (fun _ _ _ h => h) (.inl ⟨rfl, fun V hS => ?y0⟩) HS.out ?_
      case y0 =>
        clear hS
        go_simp
      go_simp
      refine wpAnyH_take (i := 4) (v := .int .i64 t0) rfl (by kernel_rfl) (by kernel_rfl) (by kernel_rfl) (fun _ _ _ h => h) (.inl ⟨rfl, fun V hS => ?y4⟩) HS.out ?_
      case y4 => go_simp
      go_simp
      refine wpAnyH_ready (rs := [0]) (by kernel_rfl) (by simp) (AllReadyH.cons rfl (fun J hJ => ?_) AllReadyH.nil)
      skip
      obtain ⟨k0, k1, k2, k3, k4, k5, k6, kf⟩ := Bo.out.cells7
      go_simp
      clear k0 k1 k2 k3 k4 k5 k6 kf
      refine hJ.out _ _ HS.out (fun _ => ?_)
      clear hJ J
      go_simp
      refine wpAnyH_ready (rs := [5]) (by kernel_rfl) (by simp) (AllReadyH.cons rfl (fun J hJ => ?_) AllReadyH.nil)
      skip
      go_simp
      refine (HLv.out v Sv.out (hrg.wide (Nat.zero_le _) (by omega))).mono ?_
      rintro e v1 ⟨R2, A2, c2, B2, d2, rfl, y2, r2, b2⟩
      have zr := b2.size
      replace HS := Lib.hid ((b2.cell (p := ⟨gi, k, none⟩) (show gi < v.heap.size by omega)).trans HS.out)
      replace Bo := Lib.hid (Bo.out.below b2)
      replace Tu := Lib.hid (Tu.out.trans (Que.Turns.of_below b2))
      have Y := Lib.hid y2
      clear b2 y2
      refine hJ.out _ _ HS.out (fun _ => ?_)
      clear hJ J
      go_simp
      refine wpAnyH_take (i := 6) (v := (.tuple #[.agg #[.slice A2 y'.s.ss.length c2, .int .i64 y'.s.f, .int .i64 y'.s.l, .int .i64 y'.s.r, .int .i64 y'.s.c, .slice B2 y'.ds.length d2, .int .i64 y'.q], .bool lb])) rfl (by kernel_rfl) (by kernel_rfl) (by kernel_rfl) (fun _ _ _ h => h) (.inl ⟨rfl, fun V hS => ?y0⟩) HS.out ?_
      case y0 =>
        clear hS
        go_simp
      go_simp
      refine wpAnyH_take (i := 7) (v := (.agg #[.slice A2 y'.s.ss.length c2, .int .i64 y'.s.f, .int .i64 y'.s.l, .int .i64 y'.s.r, .int .i64 y'.s.c, .slice B2 y'.ds.length d2, .int .i64 y'.q])) rfl (by kernel_rfl) (by kernel_rfl) (by kernel_rfl) (fun _ _ _ h => h) (.inl ⟨rfl, fun V hS => ?y0⟩) HS.out ?_
      case y0 =>
        clear hS
        go_simp
      go_simp
      refine wpAnyH_take (i := 8) (v := (.bool lb)) rfl (by kernel_rfl) (by kernel_rfl) (by kernel_rfl) (fun _ _ _ h => h) (.inl ⟨rfl, fun V hS => ?y0⟩) HS.out ?_
      case y0 =>
        clear hS
        go_simp
      go_simp
      refine wpAnyH_ready (rs := [9]) (by kernel_rfl) (by simp) (AllReadyH.cons rfl (fun J hJ => ?_) AllReadyH.nil)
      skip
      obtain ⟨k0, k1, k2, k3, k4, k5, k6, kf⟩ := Bo.out.cells7
      go_simp
      clear k0 k1 k2 k3 k4 k5 k6 kf
      obtain ⟨vz, hvz⟩ : ∃ vz, sets g 0 [.slice A2 y'.s.ss.length c2, .int .i64 y'.s.f, .int .i64 y'.s.l, .int .i64 y'.s.r, .int .i64 y'.s.c, .slice B2 y'.ds.length d2, .int .i64 y'.q] v1 = vz := ⟨_, rfl⟩
      have zvz := sets_size g [.slice A2 y'.s.ss.length c2, .int .i64 y'.s.f, .int .i64 y'.s.l, .int .i64 y'.s.r, .int .i64 y'.s.c, .slice B2 y'.ds.length d2, .int .i64 y'.q] 0 v1
      replace Bo := Lib.hid (Bo.out.put7 (.slice A2 y'.s.ss.length c2) (.int .i64 y'.s.f) (.int .i64 y'.s.l) (.int .i64 y'.s.r) (.int .i64 y'.s.c) (.slice B2 y'.ds.length d2) (.int .i64 y'.q))
      replace Y := Lib.hid (LnV.sto (g := g) (o := 0) (r := [.slice A2 y'.s.ss.length c2, .int .i64 y'.s.f, .int .i64 y'.s.l, .int .i64 y'.s.r, .int .i64 y'.s.c, .slice B2 y'.ds.length d2, .int .i64 y'.q]) Y.out r2 (.inl (by omega)))
      have tz9 := turns_sets [.slice A2 y'.s.ss.length c2, .int .i64 y'.s.f, .int .i64 y'.s.l, .int .i64 y'.s.r, .int .i64 y'.s.c, .slice B2 y'.ds.length d2, .int .i64 y'.q] 0 Tu.out
      have hne9 : gi ≠ g := by omega
      have hz9 := sets_other g hne9 [.slice A2 y'.s.ss.length c2, .int .i64 y'.s.f, .int .i64 y'.s.l, .int .i64 y'.s.r, .int .i64 y'.s.c, .slice B2 y'.ds.length d2, .int .i64 y'.q] 0 v1
      have hc9 : ∀ v9 : World, v9.heap[gi]? = v1.heap[gi]? → v9.cell? ⟨gi, k, none⟩ = some (.int .i64 t0) := fun v9 h9 => (World.cell?_of_block h9).trans HS.out
      change J _ (sets g 0 [.slice A2 y'.s.ss.length c2, .int .i64 y'.s.f, .int .i64 y'.s.l, .int .i64 y'.s.r, .int .i64 y'.s.c, .slice B2 y'.ds.length d2, .int .i64 y'.q] v1)
      rw [hvz] at Bo Y zvz tz9 hz9 ⊢
      replace HS := Lib.hid (hc9 _ hz9)
      clear hvz hz9 hc9
      refine hJ.out _ _ HS.out (fun _ => ?_)
      clear hJ J
      go_simp
      refine wpAnyH_done (by kernel_rfl) ?_ _
      go_wp2
      go_roundw
      case rel => exact ⟨k + 1, by omega, by go_num, y', R2, A2, c2, B2, d2, Hq1.out, ⟨Bo.out, Y.out, r2.wide (by omega) (by omega), tz9⟩⟩
      case measure => simp [intOf]; omega
    · obtain rfl : k = zs.length := by omega
      have hs9 : y = lvAll zs x := by rw [Hye.out, List.take_length]
      have Qr : Hid (Bx wr (w.heap.size + 1) 31 #[.slice none 0 0, .int .i64 0, .int .i64 0, .int .i64 0, .int .i64 0, .slice none 0 0, .int .i64 0]) := Q.out.of_block (Tu.out.block _ (by omega) (.inl (by omega)))
      have Ir := Lib.hid (I4.out.turns Tu.out (.inl (by omega)) (by omega))
      have Wr : Hid (Below w.heap.size w wr) := W1.out.trans (Tu.out.below (by omega) (by omega))
      have Hy : Hid (exX x now = y) := by show exX x now = _; rw [Hx.out.2.2, hs9]
      clear hs9
      obtain ⟨k0, k1, k2, k3, k4, k5, k6, kf⟩ := Bo.out.cells7
      obtain ⟨q0, q1, q2, q3, q4, q5, q6, qf⟩ := Qr.out.cells7
      go_wp2_with fail
      refine bodyPost_ret (v := .tuple #[.agg #[.slice Aq y.s.ss.length cq, .int .i64 y.s.f, .int .i64 y.s.l, .int .i64 y.s.r, .int .i64 y.s.c, .slice Bq y.ds.length dq, .int .i64 y.q], .slice C zs.length cc]) (by simp [results, Try.results34, go_sem, q0, q1, q2, q3, q4, q5, q6]) rfl ?_
      rw [Hy.out, Hx.out.2.1]
      have F := new_sto (w := w) (g := w.heap.size + 1) (o := 0) (r := [.slice Aq y.s.ss.length cq, .int .i64 y.s.f, .int .i64 y.s.l, .int .i64 y.s.r, .int .i64 y.s.c, .slice Bq y.ds.length dq, .int .i64 y.q]) (v := wr) (n := wr.heap.size) Sv.out (hrg.wide (by omega) (Nat.le_refl _)) (Nat.le_refl _) Wr.out (by omega)
      have hot : ∀ b, b ≠ w.heap.size + 1 → (sets (w.heap.size + 1) 0 [.slice Aq y.s.ss.length cq, .int .i64 y.s.f, .int .i64 y.s.l, .int .i64 y.s.r, .int .i64 y.s.c, .slice Bq y.ds.length dq, .int .i64 y.q] wr).heap[b]? = wr.heap[b]? := fun b hb => sets_other (w.heap.size + 1) hb [.slice Aq y.s.ss.length cq, .int .i64 y.s.f, .int .i64 y.s.l, .int .i64 y.s.r, .int .i64 y.s.c, .slice Bq y.ds.length dq, .int .i64 y.q] 0 wr
      have zF := sets_size (w.heap.size + 1) [.slice Aq y.s.ss.length cq, .int .i64 y.s.f, .int .i64 y.s.l, .int .i64 y.s.r, .int .i64 y.s.c, .slice Bq y.ds.length dq, .int .i64 y.q] 0 wr
      change NewLI w _ _ _ (sets (w.heap.size + 1) 0 [.slice Aq y.s.ss.length cq, .int .i64 y.s.f, .int .i64 y.s.l, .int .i64 y.s.r, .int .i64 y.s.c, .slice Bq y.ds.length dq, .int .i64 y.q] wr)
      obtain ⟨wz, hwz⟩ : ∃ wz, sets (w.heap.size + 1) 0 [.slice Aq y.s.ss.length cq, .int .i64 y.s.f, .int .i64 y.s.l, .int .i64 y.s.r, .int .i64 y.s.c, .slice Bq y.ds.length dq, .int .i64 y.q] wr = wz := ⟨_, rfl⟩
      rw [hwz] at F hot zF ⊢
      clear hwz
      have f1 := hrg.a
      have f2 := hrg.c
      refine ⟨Rq, Aq, cq, Bq, dq, C, cc, w1.heap.size, w2.heap.size, rfl, F.1, F.2.1, ?_, by omega, by omega, .inl (by omega), .inl (by omega), F.2.2⟩
      exact Que.IV.of_block (w := wr) Ir.out fun b h1 h2 => hot b (by omega)
end Go.Proofs.Ytpjelojmkmednaa.Ln
