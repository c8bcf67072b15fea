/- What the program's Expire answers. -/
import Derived.Test.YtpjelojmkmednaaLc9
import Derived.Test.YtpjelojmkmednaaLlx
namespace Go.Proofs.Ytpjelojmkmednaa.Ln
open Go.RowKit Go.Deep Base

theorem exL_few (x : Lx) (now : Int) : (exL x now).length ≤ x.ds.length := by
  unfold exL
  split
  · unfold Hp.popL
    split
    · exact Hp.popI_len _ _ _
    · exact Nat.zero_le _
  · exact Nat.zero_le _

/-- Between two rounds: the queue that is left in the box at g; its rows lie behind base, apart from blocks lo0 to hi0. -/
structure ExSt (g base lo0 hi0 : Nat) (ds : List Hp.Du) (q : Int) (B : Option Addr) (cb : Nat) (w0 wr : World) (s : Qx) (A : Option Addr) (ca lo hi : Nat) : Prop where
  box : Bx wr g 31 #[.slice A s.ss.length ca, .int .i64 s.f, .int .i64 s.l, .int .i64 s.r, .int .i64 s.c, .slice B ds.length cb, .int .i64 q]
  row : Que.SlV wr lo hi A s.ss
  top : hi ≤ wr.heap.size
  low : base ≤ lo
  off : hi ≤ lo0 ∨ hi0 ≤ lo
  turns : Que.Turns g (g + 1) w0 wr

theorem sets_os (g : Nat) : ∀ (r : List Value) (o : Nat) (w : World), (sets g o r w).os = w.os ∧ (sets g o r w).tape = w.tape ∧ (sets g o r w).output = w.output
  | [], _, _ => ⟨rfl, rfl, rfl⟩
  | _ :: r, o, _ => sets_os g r (o + 1) _

theorem turns_sets {g : Nat} {w0 : World} (r : List Value) (o : Nat) {v : World} (h : Que.Turns g (g + 1) w0 v) : Que.Turns g (g + 1) w0 (sets g o r v) :=
  ⟨(sets_os g r o v).1.trans h.os, (sets_os g r o v).2.1.trans h.tape, (sets_os g r o v).2.2.trans h.output, by rw [sets_size]; exact h.size, fun k hk hd => (sets_other g (by omega) r o v).trans (h.block k hk hd)⟩

set_option maxRecDepth 100000 in
set_option maxHeartbeats 40000000 in
theorem implExpire_any (A : Option Addr) (ca : Nat) (x : Lx) (B : Option Addr) (cb : Nat) (now : Int) (R : Rg) (w : World) (hn : x.s.ss.length ≤ 1048576) (hm : x.ds.length ≤ 1048576) (h : LnV w R A B x) (hR : R.In 0 w.heap.size) :
    Calls Try.prog 17 #[.agg #[.slice A x.s.ss.length ca, .int .i64 x.s.f, .int .i64 x.s.l, .int .i64 x.s.r, .int .i64 x.s.c, .slice B x.ds.length cb, .int .i64 x.q], .int .i64 now] w (NewLI w (exX x now) (exL x now)) := by
  have H := Lib.hid h
  have HR := Lib.hid hR
  clear h hR
  go_enter Try.func17, Try.ntmps17
  go_wp2_with fail
  have hB : ∀ o o', Below w.heap.size w ((w.alloc o).alloc o') := fun o o' => ((Below.refl _ _).alloc (Nat.le_refl _) _).alloc (by simp) _
  refine (sameLine_any A ca x B cb R _ hn hm (H.out.below (hB _ _) HR.out) (HR.out.wide (Nat.le_refl _) (hB _ _).size)).mono ?_
  rintro e w1 ⟨R1, A1, c1, B1, d1, rfl, v1, r1, b1⟩
  have K : Hid (Bx w1 w.heap.size 31 #[.slice A x.s.ss.length ca, .int .i64 x.s.f, .int .i64 x.s.l, .int .i64 x.s.r, .int .i64 x.s.c, .slice B x.ds.length cb, .int .i64 x.q]) := ((Bx.new w _ _).alloc _).below b1
  have Q : Hid (Bx w1 (w.heap.size + 1) 31 #[.slice none 0 0, .int .i64 0, .int .i64 0, .int .i64 0, .int .i64 0, .slice none 0 0, .int .i64 0]) := (Bx.at_new (w.alloc _) _ (by simp) _ _).below b1
  have W1 := Lib.hid (bel_trans (hB _ _) b1)
  have z1 : w.heap.size + 1 < w1.heap.size := Q.out.lt
  have V1 := Lib.hid v1
  simp only [World.size_alloc] at r1
  clear b1 hB v1
  obtain ⟨g, hg⟩ : ∃ g, w1.heap.size = g := ⟨_, rfl⟩
  obtain ⟨w2, hw2⟩ : ∃ w2, w1.alloc (.cells #[.slice A1 x.s.ss.length c1, .int .i64 x.s.f, .int .i64 x.s.l, .int .i64 x.s.r, .int .i64 x.s.c, .slice B1 x.ds.length d1, .int .i64 x.q] 31) = w2 := ⟨_, rfl⟩
  have b12 : Below w1.heap.size w1 w2 := by rw [← hw2]; exact bel_alloc _ _
  have Bo : Hid (Bx w2 g 31 #[.slice A1 x.s.ss.length c1, .int .i64 x.s.f, .int .i64 x.s.l, .int .i64 x.s.r, .int .i64 x.s.c, .slice B1 x.ds.length d1, .int .i64 x.q]) := by rw [← hw2]; exact Bx.at_new w1 _ hg _ _
  replace K := Lib.hid (K.out.below b12)
  replace Q := Lib.hid (Q.out.below b12)
  replace V1 := Lib.hid (V1.out.below b12 r1)
  replace W1 := Lib.hid (bel_trans W1.out b12)
  have z2 : g < w2.heap.size := Bo.out.lt
  clear b12
  obtain ⟨k0, k1, k2, k3, k4, k5, k6, kf⟩ := K.out.cells7
  go_wp2_with fail
  refine (implLineOk_any A ca x B cb R _ hm (H.out.below W1.out HR.out) (HR.out.wide (Nat.le_refl _) W1.out.size)).mono ?_
  rintro e w3 ⟨rfl, b3⟩
  have z3 := b3.size
  replace K := Lib.hid (K.out.below b3)
  replace Q := Lib.hid (Q.out.below b3)
  replace Bo := Lib.hid (Bo.out.below b3)
  replace V1 := Lib.hid (V1.out.below b3 (r1.wide (Nat.le_refl _) (by omega)))
  replace W1 := Lib.hid (bel_trans W1.out b3)
  clear b3 hw2 k0 k1 k2 k3 k4 k5 k6 kf
  cases ho : okL x
  · have Hno := Lib.hid (ex_bad (now := now) ho)
    clear ho
    obtain ⟨k0, k1, k2, k3, k4, k5, k6, kf⟩ := Bo.out.cells7
    obtain ⟨q0, q1, q2, q3, q4, q5, q6, qf⟩ := Q.out.cells7
    go_wp2_with fail
    refine bodyPost_ret (v := .tuple #[.agg #[.slice A1 x.s.ss.length c1, .int .i64 x.s.f, .int .i64 x.s.l, .int .i64 x.s.r, .int .i64 x.s.c, .slice B1 x.ds.length d1, .int .i64 x.q], .slice none 0 0]) (by simp [results, Try.results17, go_sem, q0, q1, q2, q3, q4, q5, q6]) rfl ?_
    rw [Hno.out.1, Hno.out.2]
    have F := new_sto (w := w) (g := w.heap.size + 1) (o := 0) (r := [.slice A1 x.s.ss.length c1, .int .i64 x.s.f, .int .i64 x.s.l, .int .i64 x.s.r, .int .i64 x.s.c, .slice B1 x.ds.length d1, .int .i64 x.q]) (v := w3) (n := w3.heap.size) V1.out (r1.wide (Nat.le_refl _) (by omega)) (Nat.le_refl _) W1.out (by omega)
    have f1 := r1.a
    have f2 := r1.c
    exact ⟨R1, A1, c1, B1, d1, none, 0, w.heap.size, w.heap.size, rfl, F.1, F.2.1, Que.IV.nil _ _ _ _, Nat.le_refl _, F.2.2.size, .inl (by omega), .inl (by omega), F.2.2⟩
  have Hx := Lib.hid (ex_ok now ho)
  have Hv := Lib.hid (okL_iff.1 ho)
  clear ho
  have f100 := Hv.out.hp.few
  obtain ⟨k0, k1, k2, k3, k4, k5, k6, kf⟩ := K.out.cells7
  go_wp2_with fail
  refine (Hp.implPop_any B _ cb R.c R.d x.ds _ now _ rfl hm (H.out.h.below W1.out HR.out.d) (Nat.le_trans HR.out.d W1.out.size)).mono ?_
  rintro e w4 ⟨B3, d3, C, cc, mid, rfl, m1, m2, v4, i4, b4⟩
  obtain ⟨ds', hds⟩ : ∃ ds', Hp.popD x.ds x.q now = ds' := ⟨_, rfl⟩
  obtain ⟨zs, hzs⟩ : ∃ zs, Hp.popL x.ds x.q now = zs := ⟨_, rfl⟩
  have hzl : zs.length ≤ 100 := by
    have := exL_few x now
    rw [Hx.out.2.1, hzs] at this
    omega
  rw [hds, hzs] at Hx
  rw [hds] at v4 ⊢
  rw [hzs] at i4 ⊢
  clear hds hzs k0 k1 k2 k3 k4 k5 k6 kf K
  have z4 := b4.size
  replace Q := Lib.hid (Q.out.below b4)
  replace Bo := Lib.hid (Bo.out.below b4)
  replace V1 := Lib.hid (V1.out.s.below b4 (by have := r1.b; omega))
  replace W1 := Lib.hid (bel_trans W1.out b4)
  obtain ⟨w5, hw5⟩ : ∃ w5, (w4.setCell ⟨g, 5, none⟩ (.slice B3 ds'.length d3)).setCell ⟨g, 6, none⟩ (.int .i64 x.q) = w5 := ⟨_, rfl⟩
  have hw5' : sets g 5 [.slice B3 ds'.length d3, .int .i64 x.q] w4 = w5 := hw5
  have z5 := sets_size g [.slice B3 ds'.length d3, .int .i64 x.q] 5 w4
  have D : Hid (Hp.DV w5 w3.heap.size mid B3 ds') := by rw [← hw5']; exact dv_sets v4 (by omega)
  have I5 : Hid (Que.IV w5 mid w4.heap.size C zs) := by
    rw [← hw5']
    exact Que.IV.of_block (w := w4) i4 fun b h1 h2 => sets_other g (by omega) _ _ _
  replace V1 : Hid (Que.SlV w5 R1.a R1.b A1 x.s.ss) := by rw [← hw5']; exact slv_sets V1.out (by have := r1.b; omega)
  replace Q : Hid (Bx w5 (w.heap.size + 1) 31 #[.slice none 0 0, .int .i64 0, .int .i64 0, .int .i64 0, .int .i64 0, .slice none 0 0, .int .i64 0]) := by rw [← hw5']; exact Q.out.sto (by omega)
  have Bo5 : Hid (Bx w5 g 31 #[.slice A1 x.s.ss.length c1, .int .i64 x.s.f, .int .i64 x.s.l, .int .i64 x.s.r, .int .i64 x.s.c, .slice B3 ds'.length d3, .int .i64 x.q]) := by rw [← hw5']; exact Bo.out.put2 _ _
  have W5 : Hid (Below w.heap.size w w5) := by rw [← hw5']; exact sets_below g _ (by omega) _ _ _ W1.out
  obtain ⟨k0, k1, k2, k3, k4, k5, k6, kf⟩ := Bo.out.cells7
  rw [hw5'] at z5
  clear hw5' b4 v4 i4 W1 Bo
  go_wp2
  clear hw5 k0 k1 k2 k3 k4 k5 k6 kf
  go_loopw [26] (fun i wr => ∃ k : Nat, k ≤ zs.length ∧ i = .int .i64 k ∧ ∃ s A9 c9 l9 h9, s = quAll (zs.take k) x.s ∧ ExSt g (w.heap.size + 1 + 1) w3.heap.size w4.heap.size ds' x.q B3 d3 w5 wr s A9 c9 l9 h9) (fun i _ => zs.length - (intOf i).toNat)
  case atStart =>
    refine ⟨0, Nat.zero_le _, rfl, x.s, A1, c1, R1.a, R1.b, rfl, ⟨Bo5.out, V1.out, ?_, r1.a, .inl ?_, ⟨rfl, rfl, rfl, Nat.le_refl _, fun _ _ _ => rfl⟩⟩⟩
    · have := r1.b; omega
    · have := r1.b; omega
  case round =>
    obtain ⟨k, hk, rfl, s, Aq, cq, lq, hq, hse, he⟩ := hrel
    obtain ⟨bo, sv, htop, hlow, hoff, htu⟩ := he
    have Bo := Lib.hid bo
    have Sv := Lib.hid sv
    have Tu := Lib.hid htu
    have Hse := Lib.hid hse
    have zwr := htu.size
    have hs : s.ss.length ≤ 1048576 := by rw [hse, quAll_len]; exact hn
    clear bo sv htu hse
    by_cases hlt : k < zs.length
    · obtain ⟨t0, ht0⟩ : ∃ t0, zs.getD k 0 = t0 := ⟨_, rfl⟩
      obtain ⟨gi, rfl, hg1, hg2, hri⟩ := (I5.out.turns Tu.out (.inr (by omega)) (by omega)) (by omega)
      have c0 := (hri k hlt).1
      rw [ht0] at c0
      clear hri
      obtain ⟨pl, hpl⟩ : ∃ pl, s.place t0 = pl := ⟨_, rfl⟩
      obtain ⟨r, hr⟩ : ∃ r, s.remAt pl = r := ⟨_, rfl⟩
      have Hpl := Lib.hid hpl
      have Hr := Lib.hid hr
      have Hq1 : Hid (r = quAll (zs.take (k + 1)) x.s) := by
        show r = _
        rw [List.take_succ_eq_append_getElem hlt, quAll_snoc, ← Hse.out]
        have e9 : zs[k] = t0 := by rw [← ht0]; simp [List.getD_eq_getElem?_getD, hlt]
        rw [e9, hpl, hr]
      clear hpl hr ht0
      have hk0 : (0 : Int) ≤ (k : Int) := by omega
      have hk1 : (k : Int) < (zs.length : Int) := by omega
      have hk2 : (k : Int) < 100 := by omega
      go_wp2_with fail
      have HS : Hid (Below g wr wr.drew) := (Below.refl _ _).drew
      refine wp_region_held_drew (S := fun V => Below g wr V) (by kernel_rfl) HS.out (fun _ => ?_)
      replace Bo : Hid (Bx wr.drew g 31 #[.slice Aq s.ss.length cq, .int .i64 s.f, .int .i64 s.l, .int .i64 s.r, .int .i64 s.c, .slice B3 ds'.length d3, .int .i64 x.q]) := Bo.out
      replace Sv : Hid (Que.SlV wr.drew lq hq Aq s.ss) := Sv.out
      replace Tu : Hid (Que.Turns g (g + 1) w5 wr.drew) := ⟨Tu.out.os, Tu.out.tape, Tu.out.output, Tu.out.size, Tu.out.block⟩
      obtain ⟨v, hv⟩ : ∃ v, wr.drew = v := ⟨_, rfl⟩
      have zv0 : v.heap.size = wr.heap.size := by rw [← hv]; rfl
      rw [hv] at HS Bo Sv Tu ⊢
      clear hv c0
      refine wpAnyH_take (i := 0) (v := (.pointer (some ⟨g, 0, none⟩))) rfl (by kernel_rfl) (by kernel_rfl) (by kernel_rfl) (fun _ _ _ h => h) (.inl ⟨rfl, fun V hS => ?y0⟩) HS.out ?_
      case y0 =>
        clear hS
        go_simp
      go_simp
      refine wpAnyH_take (i := 2) (v := (.pointer (some ⟨g, 0, none⟩))) rfl (by kernel_rfl) (by kernel_rfl) (by kernel_rfl) (fun _ _ _ h => h) (.inl ⟨rfl, fun V hS => ?y0⟩) HS.out ?_
      case y0 =>
        clear hS
        go_simp
      go_simp
      refine wpAnyH_take (i := 4) (v := (.int .i64 t0)) rfl (by kernel_rfl) (by kernel_rfl) (by kernel_rfl) (fun _ _ _ h => h) (.inl ⟨rfl, fun V hS => ?y0⟩) HS.out ?_
      case y0 =>
        clear hS
        go_simp
      go_simp
      refine wpAnyH_ready (rs := [1, 3]) (by kernel_rfl) (by simp) (AllReadyH.cons rfl (fun J hJ => ?_) (AllReadyH.cons rfl (fun J hJ => ?_) AllReadyH.nil))
      · skip
        obtain ⟨k0, k1, k2, k3, k4, k5, k6, kf⟩ := Bo.out.cells7
        go_simp
        clear k0 k1 k2 k3 k4 k5 k6 kf
        refine hJ.out _ _ HS.out (fun _ => ?_)
        clear hJ J
        go_simp
        skip
        refine wpAnyH_ready (rs := [3]) (by kernel_rfl) (by simp) (AllReadyH.cons rfl (fun J hJ => ?_) AllReadyH.nil)
        skip
        obtain ⟨k0, k1, k2, k3, k4, k5, k6, kf⟩ := Bo.out.cells7
        go_simp
        clear k0 k1 k2 k3 k4 k5 k6 kf
        refine hJ.out _ _ HS.out (fun _ => ?_)
        clear hJ J
        go_simp
        skip
        refine wpAnyH_ready (rs := [5]) (by kernel_rfl) (by simp) (AllReadyH.cons rfl (fun J hJ => ?_) AllReadyH.nil)
        skip
        go_simp
        refine (Que.implPlace_any Aq _ cq s.ss _ _ _ _ t0 lq hq v rfl Sv.out (by omega)).mono ?_
        rintro e v1 ⟨rfl, b1⟩
        have e9 : Que.placeA s.ss s.f s.l s.r s.c t0 = s.place t0 := rfl
        rw [e9]
        clear e9
        rw [Hpl.out]
        have zp := b1.size
        replace HS := Lib.hid (HS.out.trans (b1.mono (by omega)))
        replace Bo := Lib.hid (Bo.out.below b1)
        replace Sv := Lib.hid (Sv.out.below b1 (by omega))
        replace Tu := Lib.hid (Tu.out.trans (Que.Turns.of_below b1))
        clear b1
        refine hJ.out _ _ HS.out (fun _ => ?_)
        clear hJ J
        go_simp
        skip
        refine wpAnyH_ready (rs := [6]) (by kernel_rfl) (by simp) (AllReadyH.cons rfl (fun J hJ => ?_) AllReadyH.nil)
        skip
        go_simp
        refine (Que.implRemove_any Aq _ cq lq hq s.ss _ _ _ _ pl v1 rfl hs Sv.out (by omega)).mono ?_
        intro e v2 hp
        obtain ⟨A2, c2, rfl, y2, b2⟩ := rem_q hp
        have zr := b2.size
        rw [Hr.out] at y2 ⊢
        replace HS := Lib.hid (HS.out.trans (b2.mono (by omega)))
        replace Bo := Lib.hid (Bo.out.below b2)
        replace Tu := Lib.hid (Tu.out.trans (Que.Turns.of_below b2))
        have Y := Lib.hid y2
        clear b2 y2 hp
        obtain ⟨ia, hia⟩ : ∃ ia, s.idAt pl = ia := ⟨_, rfl⟩
        rw [hia]
        clear hia
        refine hJ.out _ _ HS.out (fun _ => ?_)
        clear hJ J
        go_simp
        refine wpAnyH_take (i := 7) (v := (.tuple #[.agg #[.slice A2 r.ss.length c2, .int .i64 r.f, .int .i64 r.l, .int .i64 r.r, .int .i64 r.c], .int .i64 ia])) rfl (by kernel_rfl) (by kernel_rfl) (by kernel_rfl) (fun _ _ _ h => h) (.inl ⟨rfl, fun V hS => ?y0⟩) HS.out ?_
        case y0 =>
          clear hS
          go_simp
        go_simp
        refine wpAnyH_take (i := 8) (v := (.agg #[.slice A2 r.ss.length c2, .int .i64 r.f, .int .i64 r.l, .int .i64 r.r, .int .i64 r.c])) rfl (by kernel_rfl) (by kernel_rfl) (by kernel_rfl) (fun _ _ _ h => h) (.inl ⟨rfl, fun V hS => ?y0⟩) HS.out ?_
        case y0 =>
          clear hS
          go_simp
        go_simp
        refine wpAnyH_take (i := 9) (v := (.int .i64 ia)) rfl (by kernel_rfl) (by kernel_rfl) (by kernel_rfl) (fun _ _ _ h => h) (.inl ⟨rfl, fun V hS => ?y0⟩) HS.out ?_
        case y0 =>
          clear hS
          go_simp
        go_simp
        refine wpAnyH_take (i := 10) (v := (.pointer (some ⟨g, 0, none⟩))) rfl (by kernel_rfl) (by kernel_rfl) (by kernel_rfl) (fun _ _ _ h => h) (.inl ⟨rfl, fun V hS => ?y0⟩) HS.out ?_
        case y0 =>
          clear hS
          go_simp
        go_simp
        refine wpAnyH_ready (rs := [11]) (by kernel_rfl) (by simp) (AllReadyH.cons rfl (fun J hJ => ?_) AllReadyH.nil)
        skip
        obtain ⟨k0, k1, k2, k3, k4, k5, k6, kf⟩ := Bo.out.cells7
        go_simp
        clear k0 k1 k2 k3 k4 k5 k6 kf
        obtain ⟨vz, hvz⟩ : ∃ vz, sets g 0 [.slice A2 r.ss.length c2, .int .i64 r.f, .int .i64 r.l, .int .i64 r.r, .int .i64 r.c] v2 = vz := ⟨_, rfl⟩
        have zvz := sets_size g [.slice A2 r.ss.length c2, .int .i64 r.f, .int .i64 r.l, .int .i64 r.r, .int .i64 r.c] 0 v2
        replace Bo := Lib.hid (Bo.out.put5 (.slice A2 r.ss.length c2) (.int .i64 r.f) (.int .i64 r.l) (.int .i64 r.r) (.int .i64 r.c))
        replace Y := Lib.hid (slv_sets (g := g) (o := 0) (r := [.slice A2 r.ss.length c2, .int .i64 r.f, .int .i64 r.l, .int .i64 r.r, .int .i64 r.c]) Y.out (by omega))
        replace HS := Lib.hid (sets_below g _ (Nat.le_refl _) [.slice A2 r.ss.length c2, .int .i64 r.f, .int .i64 r.l, .int .i64 r.r, .int .i64 r.c] 0 _ HS.out)
        have tz9 := turns_sets [.slice A2 r.ss.length c2, .int .i64 r.f, .int .i64 r.l, .int .i64 r.r, .int .i64 r.c] 0 Tu.out
        change J _ (sets g 0 [.slice A2 r.ss.length c2, .int .i64 r.f, .int .i64 r.l, .int .i64 r.r, .int .i64 r.c] v2)
        rw [hvz] at Bo Y HS zvz tz9 ⊢
        clear hvz
        refine hJ.out _ _ HS.out (fun _ => ?_)
        clear hJ J
        go_simp
        refine wpAnyH_done (by kernel_rfl) ?_ _
        have hk9 : (0 : Int) ≤ (k : Int) := by omega
        have hk8 : (k : Int) < 100 := by omega
        go_wp2
        go_roundw
        case rel => exact ⟨k + 1, by omega, by go_num, r, A2, c2, (v1).heap.size, (v2).heap.size, Hq1.out, ⟨Bo.out, Y.out, by omega, by omega, .inr (by omega), tz9⟩⟩
        case measure => simp [intOf]; omega
        skip
      · skip
        obtain ⟨k0, k1, k2, k3, k4, k5, k6, kf⟩ := Bo.out.cells7
        go_simp
        clear k0 k1 k2 k3 k4 k5 k6 kf
        refine hJ.out _ _ HS.out (fun _ => ?_)
        clear hJ J
        go_simp
        skip
        refine wpAnyH_ready (rs := [1, 5]) (by kernel_rfl) (by simp) (AllReadyH.cons rfl (fun J hJ => ?_) (AllReadyH.cons rfl (fun J hJ => ?_) AllReadyH.nil))
        · skip
          obtain ⟨k0, k1, k2, k3, k4, k5, k6, kf⟩ := Bo.out.cells7
          go_simp
          clear k0 k1 k2 k3 k4 k5 k6 kf
          refine hJ.out _ _ HS.out (fun _ => ?_)
          clear hJ J
          go_simp
          skip
          refine wpAnyH_ready (rs := [5]) (by kernel_rfl) (by simp) (AllReadyH.cons rfl (fun J hJ => ?_) AllReadyH.nil)
          skip
          go_simp
          refine (Que.implPlace_any Aq _ cq s.ss _ _ _ _ t0 lq hq v rfl Sv.out (by omega)).mono ?_
          rintro e v1 ⟨rfl, b1⟩
          have e9 : Que.placeA s.ss s.f s.l s.r s.c t0 = s.place t0 := rfl
          rw [e9]
          clear e9
          rw [Hpl.out]
          have zp := b1.size
          replace HS := Lib.hid (HS.out.trans (b1.mono (by omega)))
          replace Bo := Lib.hid (Bo.out.below b1)
          replace Sv := Lib.hid (Sv.out.below b1 (by omega))
          replace Tu := Lib.hid (Tu.out.trans (Que.Turns.of_below b1))
          clear b1
          refine hJ.out _ _ HS.out (fun _ => ?_)
          clear hJ J
          go_simp
          skip
          refine wpAnyH_ready (rs := [6]) (by kernel_rfl) (by simp) (AllReadyH.cons rfl (fun J hJ => ?_) AllReadyH.nil)
          skip
          go_simp
          refine (Que.implRemove_any Aq _ cq lq hq s.ss _ _ _ _ pl v1 rfl hs Sv.out (by omega)).mono ?_
          intro e v2 hp
          obtain ⟨A2, c2, rfl, y2, b2⟩ := rem_q hp
          have zr := b2.size
          rw [Hr.out] at y2 ⊢
          replace HS := Lib.hid (HS.out.trans (b2.mono (by omega)))
          replace Bo := Lib.hid (Bo.out.below b2)
          replace Tu := Lib.hid (Tu.out.trans (Que.Turns.of_below b2))
          have Y := Lib.hid y2
          clear b2 y2 hp
          obtain ⟨ia, hia⟩ : ∃ ia, s.idAt pl = ia := ⟨_, rfl⟩
          rw [hia]
          clear hia
          refine hJ.out _ _ HS.out (fun _ => ?_)
          clear hJ J
          go_simp
          refine wpAnyH_take (i := 7) (v := (.tuple #[.agg #[.slice A2 r.ss.length c2, .int .i64 r.f, .int .i64 r.l, .int .i64 r.r, .int .i64 r.c], .int .i64 ia])) rfl (by kernel_rfl) (by kernel_rfl) (by kernel_rfl) (fun _ _ _ h => h) (.inl ⟨rfl, fun V hS => ?y0⟩) HS.out ?_
          case y0 =>
            clear hS
            go_simp
          go_simp
          refine wpAnyH_take (i := 8) (v := (.agg #[.slice A2 r.ss.length c2, .int .i64 r.f, .int .i64 r.l, .int .i64 r.r, .int .i64 r.c])) rfl (by kernel_rfl) (by kernel_rfl) (by kernel_rfl) (fun _ _ _ h => h) (.inl ⟨rfl, fun V hS => ?y0⟩) HS.out ?_
          case y0 =>
            clear hS
            go_simp
          go_simp
          refine wpAnyH_take (i := 9) (v := (.int .i64 ia)) rfl (by kernel_rfl) (by kernel_rfl) (by kernel_rfl) (fun _ _ _ h => h) (.inl ⟨rfl, fun V hS => ?y0⟩) HS.out ?_
          case y0 =>
            clear hS
            go_simp
          go_simp
          refine wpAnyH_take (i := 10) (v := (.pointer (some ⟨g, 0, none⟩))) rfl (by kernel_rfl) (by kernel_rfl) (by kernel_rfl) (fun _ _ _ h => h) (.inl ⟨rfl, fun V hS => ?y0⟩) HS.out ?_
          case y0 =>
            clear hS
            go_simp
          go_simp
          refine wpAnyH_ready (rs := [11]) (by kernel_rfl) (by simp) (AllReadyH.cons rfl (fun J hJ => ?_) AllReadyH.nil)
          skip
          obtain ⟨k0, k1, k2, k3, k4, k5, k6, kf⟩ := Bo.out.cells7
          go_simp
          clear k0 k1 k2 k3 k4 k5 k6 kf
          obtain ⟨vz, hvz⟩ : ∃ vz, sets g 0 [.slice A2 r.ss.length c2, .int .i64 r.f, .int .i64 r.l, .int .i64 r.r, .int .i64 r.c] v2 = vz := ⟨_, rfl⟩
          have zvz := sets_size g [.slice A2 r.ss.length c2, .int .i64 r.f, .int .i64 r.l, .int .i64 r.r, .int .i64 r.c] 0 v2
          replace Bo := Lib.hid (Bo.out.put5 (.slice A2 r.ss.length c2) (.int .i64 r.f) (.int .i64 r.l) (.int .i64 r.r) (.int .i64 r.c))
          replace Y := Lib.hid (slv_sets (g := g) (o := 0) (r := [.slice A2 r.ss.length c2, .int .i64 r.f, .int .i64 r.l, .int .i64 r.r, .int .i64 r.c]) Y.out (by omega))
          replace HS := Lib.hid (sets_below g _ (Nat.le_refl _) [.slice A2 r.ss.length c2, .int .i64 r.f, .int .i64 r.l, .int .i64 r.r, .int .i64 r.c] 0 _ HS.out)
          have tz9 := turns_sets [.slice A2 r.ss.length c2, .int .i64 r.f, .int .i64 r.l, .int .i64 r.r, .int .i64 r.c] 0 Tu.out
          change J _ (sets g 0 [.slice A2 r.ss.length c2, .int .i64 r.f, .int .i64 r.l, .int .i64 r.r, .int .i64 r.c] v2)
          rw [hvz] at Bo Y HS zvz tz9 ⊢
          clear hvz
          refine hJ.out _ _ HS.out (fun _ => ?_)
          clear hJ J
          go_simp
          refine wpAnyH_done (by kernel_rfl) ?_ _
          have hk9 : (0 : Int) ≤ (k : Int) := by omega
          have hk8 : (k : Int) < 100 := by omega
          go_wp2
          go_roundw
          case rel => exact ⟨k + 1, by omega, by go_num, r, A2, c2, (v1).heap.size, (v2).heap.size, Hq1.out, ⟨Bo.out, Y.out, by omega, by omega, .inr (by omega), tz9⟩⟩
          case measure => simp [intOf]; omega
          skip
        · skip
          go_simp
          refine (Que.implPlace_any Aq _ cq s.ss _ _ _ _ t0 lq hq v rfl Sv.out (by omega)).mono ?_
          rintro e v1 ⟨rfl, b1⟩
          have e9 : Que.placeA s.ss s.f s.l s.r s.c t0 = s.place t0 := rfl
          rw [e9]
          clear e9
          rw [Hpl.out]
          have zp := b1.size
          replace HS := Lib.hid (HS.out.trans (b1.mono (by omega)))
          replace Bo := Lib.hid (Bo.out.below b1)
          replace Sv := Lib.hid (Sv.out.below b1 (by omega))
          replace Tu := Lib.hid (Tu.out.trans (Que.Turns.of_below b1))
          clear b1
          refine hJ.out _ _ HS.out (fun _ => ?_)
          clear hJ J
          go_simp
          skip
          refine wpAnyH_ready (rs := [1]) (by kernel_rfl) (by simp) (AllReadyH.cons rfl (fun J hJ => ?_) AllReadyH.nil)
          skip
          obtain ⟨k0, k1, k2, k3, k4, k5, k6, kf⟩ := Bo.out.cells7
          go_simp
          clear k0 k1 k2 k3 k4 k5 k6 kf
          refine hJ.out _ _ HS.out (fun _ => ?_)
          clear hJ J
          go_simp
          skip
          refine wpAnyH_ready (rs := [6]) (by kernel_rfl) (by simp) (AllReadyH.cons rfl (fun J hJ => ?_) AllReadyH.nil)
          skip
          go_simp
          refine (Que.implRemove_any Aq _ cq lq hq s.ss _ _ _ _ pl v1 rfl hs Sv.out (by omega)).mono ?_
          intro e v2 hp
          obtain ⟨A2, c2, rfl, y2, b2⟩ := rem_q hp
          have zr := b2.size
          rw [Hr.out] at y2 ⊢
          replace HS := Lib.hid (HS.out.trans (b2.mono (by omega)))
          replace Bo := Lib.hid (Bo.out.below b2)
          replace Tu := Lib.hid (Tu.out.trans (Que.Turns.of_below b2))
          have Y := Lib.hid y2
          clear b2 y2 hp
          obtain ⟨ia, hia⟩ : ∃ ia, s.idAt pl = ia := ⟨_, rfl⟩
          rw [hia]
          clear hia
          refine hJ.out _ _ HS.out (fun _ => ?_)
          clear hJ J
          go_simp
          refine wpAnyH_take (i := 7) (v := (.tuple #[.agg #[.slice A2 r.ss.length c2, .int .i64 r.f, .int .i64 r.l, .int .i64 r.r, .int .i64 r.c], .int .i64 ia])) rfl (by kernel_rfl) (by kernel_rfl) (by kernel_rfl) (fun _ _ _ h => h) (.inl ⟨rfl, fun V hS => ?y0⟩) HS.out ?_
          case y0 =>
            clear hS
            go_simp
          go_simp
          refine wpAnyH_take (i := 8) (v := (.agg #[.slice A2 r.ss.length c2, .int .i64 r.f, .int .i64 r.l, .int .i64 r.r, .int .i64 r.c])) rfl (by kernel_rfl) (by kernel_rfl) (by kernel_rfl) (fun _ _ _ h => h) (.inl ⟨rfl, fun V hS => ?y0⟩) HS.out ?_
          case y0 =>
            clear hS
            go_simp
          go_simp
          refine wpAnyH_take (i := 9) (v := (.int .i64 ia)) rfl (by kernel_rfl) (by kernel_rfl) (by kernel_rfl) (fun _ _ _ h => h) (.inl ⟨rfl, fun V hS => ?y0⟩) HS.out ?_
          case y0 =>
            clear hS
            go_simp
          go_simp
          refine wpAnyH_take (i := 10) (v := (.pointer (some ⟨g, 0, none⟩))) rfl (by kernel_rfl) (by kernel_rfl) (by kernel_rfl) (fun _ _ _ h => h) (.inl ⟨rfl, fun V hS => ?y0⟩) HS.out ?_
          case y0 =>
            clear hS
            go_simp
          go_simp
          refine wpAnyH_ready (rs := [11]) (by kernel_rfl) (by simp) (AllReadyH.cons rfl (fun J hJ => ?_) AllReadyH.nil)
          skip
          obtain ⟨k0, k1, k2, k3, k4, k5, k6, kf⟩ := Bo.out.cells7
          go_simp
          clear k0 k1 k2 k3 k4 k5 k6 kf
          obtain ⟨vz, hvz⟩ : ∃ vz, sets g 0 [.slice A2 r.ss.length c2, .int .i64 r.f, .int .i64 r.l, .int .i64 r.r, .int .i64 r.c] v2 = vz := ⟨_, rfl⟩
          have zvz := sets_size g [.slice A2 r.ss.length c2, .int .i64 r.f, .int .i64 r.l, .int .i64 r.r, .int .i64 r.c] 0 v2
          replace Bo := Lib.hid (Bo.out.put5 (.slice A2 r.ss.length c2) (.int .i64 r.f) (.int .i64 r.l) (.int .i64 r.r) (.int .i64 r.c))
          replace Y := Lib.hid (slv_sets (g := g) (o := 0) (r := [.slice A2 r.ss.length c2, .int .i64 r.f, .int .i64 r.l, .int .i64 r.r, .int .i64 r.c]) Y.out (by omega))
          replace HS := Lib.hid (sets_below g _ (Nat.le_refl _) [.slice A2 r.ss.length c2, .int .i64 r.f, .int .i64 r.l, .int .i64 r.r, .int .i64 r.c] 0 _ HS.out)
          have tz9 := turns_sets [.slice A2 r.ss.length c2, .int .i64 r.f, .int .i64 r.l, .int .i64 r.r, .int .i64 r.c] 0 Tu.out
          change J _ (sets g 0 [.slice A2 r.ss.length c2, .int .i64 r.f, .int .i64 r.l, .int .i64 r.r, .int .i64 r.c] v2)
          rw [hvz] at Bo Y HS zvz tz9 ⊢
          clear hvz
          refine hJ.out _ _ HS.out (fun _ => ?_)
          clear hJ J
          go_simp
          refine wpAnyH_done (by kernel_rfl) ?_ _
          have hk9 : (0 : Int) ≤ (k : Int) := by omega
          have hk8 : (k : Int) < 100 := by omega
          go_wp2
          go_roundw
          case rel => exact ⟨k + 1, by omega, by go_num, r, A2, c2, (v1).heap.size, (v2).heap.size, Hq1.out, ⟨Bo.out, Y.out, by omega, by omega, .inr (by omega), tz9⟩⟩
          case measure => simp [intOf]; omega
          skip
    · obtain rfl : k = zs.length := by omega
      have hs9 : s = quAll zs x.s := by rw [Hse.out, List.take_length]
      have Qr : Hid (Bx wr (w.heap.size + 1) 31 #[.slice none 0 0, .int .i64 0, .int .i64 0, .int .i64 0, .int .i64 0, .slice none 0 0, .int .i64 0]) := Q.out.of_block (Tu.out.block _ (by omega) (.inl (by omega)))
      have Dr : Hid (Hp.DV wr w3.heap.size mid B3 ds') := D.out.of_block fun b h1 h2 => Tu.out.block b (by omega) (by omega)
      have Ir := Lib.hid (I5.out.turns Tu.out (.inr (by omega)) (by omega))
      have Wr : Hid (Below w.heap.size w wr) := W5.out.trans (Tu.out.below (by omega) (by omega))
      have zw5 := W5.out.size
      have Hy : Hid (exX x now = ⟨s, ds', x.q⟩) := by show exX x now = _; rw [Hx.out.1, hs9]
      clear hs9
      obtain ⟨k0, k1, k2, k3, k4, k5, k6, kf⟩ := Bo.out.cells7
      obtain ⟨q0, q1, q2, q3, q4, q5, q6, qf⟩ := Qr.out.cells7
      go_wp2_with fail
      refine bodyPost_ret (v := .tuple #[.agg #[.slice Aq s.ss.length cq, .int .i64 s.f, .int .i64 s.l, .int .i64 s.r, .int .i64 s.c, .slice B3 ds'.length d3, .int .i64 x.q], .slice C zs.length cc]) (by simp [results, Try.results17, go_sem, q0, q1, q2, q3, q4, q5, q6]) rfl ?_
      rw [Hy.out, Hx.out.2.1]
      have hV : LnV wr ⟨lq, hq, w3.heap.size, mid⟩ Aq B3 ⟨s, ds', x.q⟩ := ⟨by show hq ≤ w3.heap.size ∨ mid ≤ lq; omega, Sv.out, Dr.out⟩
      have hR : Rg.In ⟨lq, hq, w3.heap.size, mid⟩ (w.heap.size + 1 + 1) wr.heap.size := ⟨hlow, htop, by show w.heap.size + 1 + 1 ≤ w3.heap.size; omega, by show mid ≤ wr.heap.size; omega⟩
      have F := new_sto (w := w) (g := w.heap.size + 1) (o := 0) (r := [.slice Aq s.ss.length cq, .int .i64 s.f, .int .i64 s.l, .int .i64 s.r, .int .i64 s.c, .slice B3 ds'.length d3, .int .i64 x.q]) (v := wr) (n := wr.heap.size) hV hR (Nat.le_refl _) Wr.out (by omega)
      have hot : ∀ b, b ≠ w.heap.size + 1 → (sets (w.heap.size + 1) 0 [.slice Aq s.ss.length cq, .int .i64 s.f, .int .i64 s.l, .int .i64 s.r, .int .i64 s.c, .slice B3 ds'.length d3, .int .i64 x.q] wr).heap[b]? = wr.heap[b]? := fun b hb => sets_other (w.heap.size + 1) hb [.slice Aq s.ss.length cq, .int .i64 s.f, .int .i64 s.l, .int .i64 s.r, .int .i64 s.c, .slice B3 ds'.length d3, .int .i64 x.q] 0 wr
      have zF := sets_size (w.heap.size + 1) [.slice Aq s.ss.length cq, .int .i64 s.f, .int .i64 s.l, .int .i64 s.r, .int .i64 s.c, .slice B3 ds'.length d3, .int .i64 x.q] 0 wr
      change NewLI w _ _ _ (sets (w.heap.size + 1) 0 [.slice Aq s.ss.length cq, .int .i64 s.f, .int .i64 s.l, .int .i64 s.r, .int .i64 s.c, .slice B3 ds'.length d3, .int .i64 x.q] wr)
      obtain ⟨wz, hwz⟩ : ∃ wz, sets (w.heap.size + 1) 0 [.slice Aq s.ss.length cq, .int .i64 s.f, .int .i64 s.l, .int .i64 s.r, .int .i64 s.c, .slice B3 ds'.length d3, .int .i64 x.q] wr = wz := ⟨_, rfl⟩
      rw [hwz] at F hot zF ⊢
      clear hwz
      refine ⟨⟨lq, hq, w3.heap.size, mid⟩, Aq, cq, B3, d3, C, cc, mid, w4.heap.size, rfl, F.1, F.2.1, ?_, by omega, by omega, by show w4.heap.size ≤ lq ∨ hq ≤ mid; omega, .inr (Nat.le_refl _), F.2.2⟩
      exact Que.IV.of_block (w := wr) Ir.out fun b h1 h2 => hot b (by omega)
end Go.Proofs.Ytpjelojmkmednaa.Ln
