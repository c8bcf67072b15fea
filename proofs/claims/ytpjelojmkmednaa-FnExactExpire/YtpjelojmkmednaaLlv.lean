/- What Leave answers: the program's. -/
import Derived.Test.YtpjelojmkmednaaLc9
import Derived.Deep.DeepCutAuto
namespace Go.Proofs.Ytpjelojmkmednaa.Ln
open Go.RowKit Go.Deep Base

theorem Bx.all5 {w : World} {g : Nat} {ty : TypeId} {v0 v1 v2 v3 v4 : Value} (h : Bx w g ty #[v0, v1, v2, v3, v4]) (u0 u1 u2 u3 u4 : Value) : Bx (Ln.sets g 0 [u0, u1, u2, u3, u4] w) g ty #[u0, u1, u2, u3, u4] :=
  ((((h.set 0 u0).set 1 u1).set 2 u2).set 3 u3).set 4 u4

set_option maxRecDepth 100000 in
set_option maxHeartbeats 4000000 in
theorem implLeave_any (A : Option Addr) (ca : Nat) (x : Lx) (B : Option Addr) (cb : Nat) (t : Int) (R : Rg) (w : World) (hn : x.s.ss.length ≤ 1048576) (hm : x.ds.length ≤ 1048576) (h : LnV w R A B x) (hR : R.In 0 w.heap.size) :
    Calls Try.prog 32 #[.agg #[.slice A x.s.ss.length ca, .int .i64 x.s.f, .int .i64 x.s.l, .int .i64 x.s.r, .int .i64 x.s.c, .slice B x.ds.length cb, .int .i64 x.q], .int .i64 t] w (NewL2 w (lvX x t) (.bool (lvB x t))) := by
  have H := Lib.hid h
  have HR := Lib.hid hR
  clear h hR
  go_enter Try.func32, Try.ntmps32
  go_wp2_with fail
  have hB : ∀ o o', Below w.heap.size w ((w.alloc o).alloc o') := fun o o' => ((Below.refl _ _).alloc (Nat.le_refl _) _).alloc (by simp) _
  refine (implLineOk_any A ca x B cb R _ hm (H.out.below (hB _ _) HR.out) (HR.out.wide (Nat.le_refl _) (hB _ _).size)).mono ?_
  rintro e w1 ⟨rfl, b1⟩
  have K : Hid (Bx w1 w.heap.size 31 #[.slice A x.s.ss.length ca, .int .i64 x.s.f, .int .i64 x.s.l, .int .i64 x.s.r, .int .i64 x.s.c, .slice B x.ds.length cb, .int .i64 x.q]) := ((Bx.new w _ _).alloc _).below b1
  have Q : Hid (Bx w1 (w.heap.size + 1) 31 #[.slice none 0 0, .int .i64 0, .int .i64 0, .int .i64 0, .int .i64 0, .slice none 0 0, .int .i64 0]) := (Bx.at_new (w.alloc _) _ (by simp) _ _).below b1
  have W1 := Lib.hid (bel_trans (hB _ _) b1)
  have z1 : w.heap.size + 1 < w1.heap.size := Q.out.lt
  clear b1 hB
  obtain ⟨k0, k1, k2, k3, k4, k5, k6, kf⟩ := K.out.cells7
  cases ho : okL x
  · have Hno := Lib.hid (lv_bad (t := t) ho)
    clear ho
    have zR : w.heap.size + 1 + 1 ≤ w1.heap.size := z1
    go_wp2_with fail
    refine (sameLine_any A ca x B cb R _ hn hm (H.out.below W1.out HR.out) (HR.out.wide (Nat.le_refl _) W1.out.size)).mono ?_
    rintro e w9 ⟨R9, A9, c9, B9, d9, rfl, v9, r9, b9⟩
    replace Q := Lib.hid (Q.out.below b9)
    have zq := Q.out.lt
    have V9 := Lib.hid v9
    have z9 := b9.size
    replace W1 := Lib.hid (bel_trans W1.out b9)
    clear b9 v9
    obtain ⟨q0, q1, q2, q3, q4, q5, q6, qf⟩ := Q.out.cells7
    go_wp2_with fail
    refine bodyPost_ret (v := .tuple #[.agg #[.slice A9 x.s.ss.length c9, .int .i64 x.s.f, .int .i64 x.s.l, .int .i64 x.s.r, .int .i64 x.s.c, .slice B9 x.ds.length d9, .int .i64 x.q], .bool false]) (by simp [results, (Try.results32), go_sem, q0, q1, q2, q3, q4, q5, q6]) rfl ?_
    rw [Hno.out.1, Hno.out.2]
    refine ⟨R9, A9, c9, B9, d9, rfl, ?_⟩
    exact new_sto (g := w.heap.size + 1) (o := 0) (r := [.slice A9 x.s.ss.length c9, .int .i64 x.s.f, .int .i64 x.s.l, .int .i64 x.s.r, .int .i64 x.s.c, .slice B9 x.ds.length d9, .int .i64 x.q]) (n := w9.heap.size) V9.out (r9.wide zR (Nat.le_refl _)) (Nat.le_refl _) W1.out (by omega)
    skip
  have Hv := Lib.hid (okL_iff.1 ho)
  have Hlv := Lib.hid (lv_ok t ho)
  clear ho
  obtain ⟨pl, hpl⟩ : ∃ pl, x.s.place t = pl := ⟨_, rfl⟩
  obtain ⟨r, hr⟩ : ∃ r, x.s.remAt pl = r := ⟨_, rfl⟩
  obtain ⟨id, hid⟩ : ∃ id, x.s.idAt pl = id := ⟨_, rfl⟩
  have HPl : Hid (∀ V, Below w1.heap.size w1 V → Calls Try.prog 48 #[.agg #[.slice A x.s.ss.length ca, .int .i64 x.s.f, .int .i64 x.s.l, .int .i64 x.s.r, .int .i64 x.s.c], .int .i64 t] V fun e w' => e = .returned (.int .i64 pl) ∧ Below V.heap.size V w') := fun V hV => by
    rw [← hpl]
    exact Que.implPlace_any A _ ca x.s.ss _ _ _ _ t R.a R.b V rfl (H.out.s.below (bel_trans W1.out hV) HR.out.b) (Nat.le_trans HR.out.b (Nat.le_trans W1.out.size hV.size))
  have HRm : Hid (∀ V, Below w1.heap.size w1 V → Calls Try.prog 47 #[.agg #[.slice A x.s.ss.length ca, .int .i64 x.s.f, .int .i64 x.s.l, .int .i64 x.s.r, .int .i64 x.s.c], .int .i64 pl] V fun e w' => ∃ A2 c2, e = .returned (.tuple #[.agg #[.slice A2 r.ss.length c2, .int .i64 r.f, .int .i64 r.l, .int .i64 r.r, .int .i64 r.c], .int .i64 id]) ∧ Que.SlV w' V.heap.size w'.heap.size A2 r.ss ∧ Below V.heap.size V w') := fun V hV => by
    rw [← hr, ← hid]
    exact (Que.implRemove_any A _ ca R.a R.b x.s.ss _ _ _ _ pl V rfl hn (H.out.s.below (bel_trans W1.out hV) HR.out.b) (Nat.le_trans HR.out.b (Nat.le_trans W1.out.size hV.size))).mono fun _ _ h => rem_q h
  have Hx : Hid (lvX x t = ⟨r, Hp.canD x.ds x.q t, x.q⟩) := by show lvX x t = _; rw [Hlv.out.1, hpl, hr]
  clear hpl hr hid
  go_wp2_with fail
  go_cut [6] (fun p wx => ∃ g A2 c2 lo hi, p = .pointer (some ⟨g, 0, none⟩) ∧ Bx wx g 26 #[.slice A2 r.ss.length c2, .int .i64 r.f, .int .i64 r.l, .int .i64 r.r, .int .i64 r.c] ∧ Que.SlV wx lo hi A2 r.ss ∧ Below w1.heap.size w1 wx ∧ w1.heap.size ≤ lo ∧ hi ≤ wx.heap.size ∧ w1.heap.size ≤ g)
  case first =>
    have HS : Hid (Below w1.heap.size w1 w1.drew) := (Below.refl _ _).drew
    refine wp_region_held_drew (S := fun V => Below w1.heap.size w1 V) (by kernel_rfl) HS.out (fun _ => ?_)
    obtain ⟨v, hv⟩ : ∃ v, w1.drew = v := ⟨_, rfl⟩
    have z0 : w1.heap.size ≤ v.heap.size := by rw [← hv]; exact Nat.le_refl _
    rw [hv] at HS ⊢
    clear hv k0 k1 k2 k3 k4 k5 k6 kf
    refine wpAnyH_take (i := 0) (v := (.pointer (some ⟨w.heap.size, 0, none⟩))) rfl (by kernel_rfl) (by kernel_rfl) (by kernel_rfl) (fun _ _ _ h => h) (.inl ⟨rfl, fun V hS => ?y0⟩) HS.out ?_
    case y0 =>
      clear hS
      go_simp
    go_simp
    refine wpAnyH_take (i := 1) (v := (.agg #[.slice A x.s.ss.length ca, .int .i64 x.s.f, .int .i64 x.s.l, .int .i64 x.s.r, .int .i64 x.s.c])) rfl (by kernel_rfl) (by kernel_rfl) (by kernel_rfl) (fun _ _ _ h => h) (.inl ⟨rfl, fun V hS => ?y0⟩) HS.out ?_
    case y0 =>
      obtain ⟨s0, s1, s2, s3, s4, s5, s6, s7⟩ := (K.out.below hS).cells7
      clear hS s7
      go_simp
    go_simp
    refine wpAnyH_take (i := 2) (v := (.pointer (some ⟨w.heap.size, 0, none⟩))) rfl (by kernel_rfl) (by kernel_rfl) (by kernel_rfl) (fun _ _ _ h => h) (.inl ⟨rfl, fun V hS => ?y0⟩) HS.out ?_
    case y0 =>
      clear hS
      go_simp
    go_simp
    refine wpAnyH_take (i := 3) (v := (.agg #[.slice A x.s.ss.length ca, .int .i64 x.s.f, .int .i64 x.s.l, .int .i64 x.s.r, .int .i64 x.s.c])) rfl (by kernel_rfl) (by kernel_rfl) (by kernel_rfl) (fun _ _ _ h => h) (.inl ⟨rfl, fun V hS => ?y0⟩) HS.out ?_
    case y0 =>
      obtain ⟨s0, s1, s2, s3, s4, s5, s6, s7⟩ := (K.out.below hS).cells7
      clear hS s7
      go_simp
    go_simp
    refine wpAnyH_take (i := 4) (v := (.int .i64 t)) rfl (by kernel_rfl) (by kernel_rfl) (by kernel_rfl) (fun _ _ _ h => h) (.inl ⟨rfl, fun V hS => ?y0⟩) HS.out ?_
    case y0 =>
      clear hS
      go_simp
    go_simp
    refine wpAnyH_ready (rs := [5, 10]) (by kernel_rfl) (by simp) (AllReadyH.cons rfl (fun J hJ => ?_) (AllReadyH.cons rfl (fun J hJ => ?_) AllReadyH.nil))
    · skip
      go_simp
      refine (HPl.out v HS.out).mono ?_
      rintro e v1 ⟨rfl, b1⟩
      have zp := b1.size
      replace HS := Lib.hid (HS.out.trans (b1.mono HS.out.size))
      have BP := Lib.hid b1
      clear b1
      refine hJ.out _ _ HS.out (fun _ => ?_)
      clear hJ J
      go_simp
      skip
      refine wpAnyH_ready (rs := [6, 10]) (by kernel_rfl) (by simp) (AllReadyH.cons rfl (fun J hJ => ?_) (AllReadyH.cons rfl (fun J hJ => ?_) AllReadyH.nil))
      · skip
        go_simp
        refine (HRm.out v1 HS.out).mono ?_
        intro e v2 hp
        obtain ⟨A2, c2, rfl, y2, b2⟩ := hp
        have zr := b2.size
        replace HS := Lib.hid (HS.out.trans (b2.mono HS.out.size))
        have Y := Lib.hid y2
        have BR := Lib.hid b2
        clear b2 y2
        refine hJ.out _ _ HS.out (fun _ => ?_)
        clear hJ J
        go_simp
        refine wpAnyH_take (i := 7) (v := (.tuple #[.agg #[.slice A2 r.ss.length c2, .int .i64 r.f, .int .i64 r.l, .int .i64 r.r, .int .i64 r.c], .int .i64 id])) rfl (by kernel_rfl) (by kernel_rfl) (by kernel_rfl) (fun _ _ _ h => h) (.inl ⟨rfl, fun V hS => ?y0⟩) HS.out ?_
        case y0 =>
          clear hS
          go_simp
        go_simp
        refine wpAnyH_take (i := 8) (v := (.agg #[.slice A2 r.ss.length c2, .int .i64 r.f, .int .i64 r.l, .int .i64 r.r, .int .i64 r.c])) rfl (by kernel_rfl) (by kernel_rfl) (by kernel_rfl) (fun _ _ _ h => h) (.inl ⟨rfl, fun V hS => ?y0⟩) HS.out ?_
        case y0 =>
          clear hS
          go_simp
        go_simp
        refine wpAnyH_take (i := 9) (v := (.int .i64 id)) rfl (by kernel_rfl) (by kernel_rfl) (by kernel_rfl) (fun _ _ _ h => h) (.inl ⟨rfl, fun V hS => ?y0⟩) HS.out ?_
        case y0 =>
          clear hS
          go_simp
        go_simp
        skip
        refine wpAnyH_ready (rs := [10]) (by kernel_rfl) (by simp) (AllReadyH.cons rfl (fun J hJ => ?_) AllReadyH.nil)
        skip
        go_simp
        obtain ⟨v3, hal⟩ : ∃ v3, (v2).alloc (.cells #[.slice none 0 0, .int .i64 0, .int .i64 0, .int .i64 0, .int .i64 0] 26) = v3 := ⟨_, rfl⟩
        have ba : Below (v2).heap.size v2 v3 := by rw [← hal]; exact bel_alloc _ _
        have G : Hid (Bx v3 (v2).heap.size 26 #[.slice none 0 0, .int .i64 0, .int .i64 0, .int .i64 0, .int .i64 0]) := by rw [← hal]; exact Bx.new _ _ _
        have zg := G.out.lt
        rw [hal]
        clear hal
        replace HS := Lib.hid (HS.out.trans (ba.mono HS.out.size))
        have BA := Lib.hid ba
        clear ba
        refine hJ.out _ _ HS.out (fun _ => ?_)
        clear hJ J
        go_simp
        skip
        replace Y := Lib.hid (Y.out.below BA.out (Nat.le_refl _))
        refine wpAnyH_ready (rs := [11]) (by kernel_rfl) (by simp) (AllReadyH.cons rfl (fun J hJ => ?_) AllReadyH.nil)
        skip
        obtain ⟨g0, g1, g2, g3, g4, gf⟩ := G.out.cells5
        go_simp
        clear g0 g1 g2 g3 g4 gf
        obtain ⟨vz, hvz⟩ : ∃ vz, sets (v2.heap.size) 0 [.slice A2 r.ss.length c2, .int .i64 r.f, .int .i64 r.l, .int .i64 r.r, .int .i64 r.c] v3 = vz := ⟨_, rfl⟩
        have zvz := sets_size (v2.heap.size) [.slice A2 r.ss.length c2, .int .i64 r.f, .int .i64 r.l, .int .i64 r.r, .int .i64 r.c] 0 v3
        replace G := Lib.hid (G.out.all5 (.slice A2 r.ss.length c2) (.int .i64 r.f) (.int .i64 r.l) (.int .i64 r.r) (.int .i64 r.c))
        replace Y := Lib.hid (slv_sets (g := v2.heap.size) (o := 0) (r := [.slice A2 r.ss.length c2, .int .i64 r.f, .int .i64 r.l, .int .i64 r.r, .int .i64 r.c]) Y.out (by omega))
        replace HS := Lib.hid (sets_below (v2.heap.size) _ (by omega) [.slice A2 r.ss.length c2, .int .i64 r.f, .int .i64 r.l, .int .i64 r.r, .int .i64 r.c] 0 _ HS.out)
        change J _ (sets (v2.heap.size) 0 [.slice A2 r.ss.length c2, .int .i64 r.f, .int .i64 r.l, .int .i64 r.r, .int .i64 r.c] v3)
        rw [hvz] at G Y HS zvz ⊢
        clear hvz
        refine hJ.out _ _ HS.out (fun _ => ?_)
        clear hJ J
        go_simp
        refine wpAnyH_take (i := 12) (v := (.int .i64 id)) rfl (by kernel_rfl) (by kernel_rfl) (by kernel_rfl) (fun _ _ _ h => h) (.inl ⟨rfl, fun V hS => ?y0⟩) HS.out ?_
        case y0 =>
          clear hS
          go_simp
        go_simp
        refine wpAnyH_done (by kernel_rfl) ?_ _
        go_wp2_with fail
        go_meet
        exact ⟨v2.heap.size, A2, c2, v1.heap.size, v2.heap.size, rfl, G.out, Y.out, HS.out, by omega, by omega, by omega⟩
        skip
      · skip
        go_simp
        obtain ⟨v2, hal⟩ : ∃ v2, (v1).alloc (.cells #[.slice none 0 0, .int .i64 0, .int .i64 0, .int .i64 0, .int .i64 0] 26) = v2 := ⟨_, rfl⟩
        have ba : Below (v1).heap.size v1 v2 := by rw [← hal]; exact bel_alloc _ _
        have G : Hid (Bx v2 (v1).heap.size 26 #[.slice none 0 0, .int .i64 0, .int .i64 0, .int .i64 0, .int .i64 0]) := by rw [← hal]; exact Bx.new _ _ _
        have zg := G.out.lt
        rw [hal]
        clear hal
        replace HS := Lib.hid (HS.out.trans (ba.mono HS.out.size))
        have BA := Lib.hid ba
        clear ba
        refine hJ.out _ _ HS.out (fun _ => ?_)
        clear hJ J
        go_simp
        skip
        refine wpAnyH_ready (rs := [6]) (by kernel_rfl) (by simp) (AllReadyH.cons rfl (fun J hJ => ?_) AllReadyH.nil)
        skip
        go_simp
        refine (HRm.out v2 HS.out).mono ?_
        intro e v3 hp
        obtain ⟨A2, c2, rfl, y2, b2⟩ := hp
        have zr := b2.size
        replace HS := Lib.hid (HS.out.trans (b2.mono HS.out.size))
        have Y := Lib.hid y2
        have BR := Lib.hid b2
        clear b2 y2
        refine hJ.out _ _ HS.out (fun _ => ?_)
        clear hJ J
        go_simp
        refine wpAnyH_take (i := 7) (v := (.tuple #[.agg #[.slice A2 r.ss.length c2, .int .i64 r.f, .int .i64 r.l, .int .i64 r.r, .int .i64 r.c], .int .i64 id])) rfl (by kernel_rfl) (by kernel_rfl) (by kernel_rfl) (fun _ _ _ h => h) (.inl ⟨rfl, fun V hS => ?y0⟩) HS.out ?_
        case y0 =>
          clear hS
          go_simp
        go_simp
        refine wpAnyH_take (i := 8) (v := (.agg #[.slice A2 r.ss.length c2, .int .i64 r.f, .int .i64 r.l, .int .i64 r.r, .int .i64 r.c])) rfl (by kernel_rfl) (by kernel_rfl) (by kernel_rfl) (fun _ _ _ h => h) (.inl ⟨rfl, fun V hS => ?y0⟩) HS.out ?_
        case y0 =>
          clear hS
          go_simp
        go_simp
        refine wpAnyH_take (i := 9) (v := (.int .i64 id)) rfl (by kernel_rfl) (by kernel_rfl) (by kernel_rfl) (fun _ _ _ h => h) (.inl ⟨rfl, fun V hS => ?y0⟩) HS.out ?_
        case y0 =>
          clear hS
          go_simp
        go_simp
        skip
        replace G := Lib.hid (G.out.below BR.out)
        refine wpAnyH_ready (rs := [11]) (by kernel_rfl) (by simp) (AllReadyH.cons rfl (fun J hJ => ?_) AllReadyH.nil)
        skip
        obtain ⟨g0, g1, g2, g3, g4, gf⟩ := G.out.cells5
        go_simp
        clear g0 g1 g2 g3 g4 gf
        obtain ⟨vz, hvz⟩ : ∃ vz, sets (v1.heap.size) 0 [.slice A2 r.ss.length c2, .int .i64 r.f, .int .i64 r.l, .int .i64 r.r, .int .i64 r.c] v3 = vz := ⟨_, rfl⟩
        have zvz := sets_size (v1.heap.size) [.slice A2 r.ss.length c2, .int .i64 r.f, .int .i64 r.l, .int .i64 r.r, .int .i64 r.c] 0 v3
        replace G := Lib.hid (G.out.all5 (.slice A2 r.ss.length c2) (.int .i64 r.f) (.int .i64 r.l) (.int .i64 r.r) (.int .i64 r.c))
        replace Y := Lib.hid (slv_sets (g := v1.heap.size) (o := 0) (r := [.slice A2 r.ss.length c2, .int .i64 r.f, .int .i64 r.l, .int .i64 r.r, .int .i64 r.c]) Y.out (by omega))
        replace HS := Lib.hid (sets_below (v1.heap.size) _ (by omega) [.slice A2 r.ss.length c2, .int .i64 r.f, .int .i64 r.l, .int .i64 r.r, .int .i64 r.c] 0 _ HS.out)
        change J _ (sets (v1.heap.size) 0 [.slice A2 r.ss.length c2, .int .i64 r.f, .int .i64 r.l, .int .i64 r.r, .int .i64 r.c] v3)
        rw [hvz] at G Y HS zvz ⊢
        clear hvz
        refine hJ.out _ _ HS.out (fun _ => ?_)
        clear hJ J
        go_simp
        refine wpAnyH_take (i := 12) (v := (.int .i64 id)) rfl (by kernel_rfl) (by kernel_rfl) (by kernel_rfl) (fun _ _ _ h => h) (.inl ⟨rfl, fun V hS => ?y0⟩) HS.out ?_
        case y0 =>
          clear hS
          go_simp
        go_simp
        refine wpAnyH_done (by kernel_rfl) ?_ _
        go_wp2_with fail
        go_meet
        exact ⟨v1.heap.size, A2, c2, v2.heap.size, v3.heap.size, rfl, G.out, Y.out, HS.out, by omega, by omega, by omega⟩
        skip
    · skip
      go_simp
      obtain ⟨v1, hal⟩ : ∃ v1, (v).alloc (.cells #[.slice none 0 0, .int .i64 0, .int .i64 0, .int .i64 0, .int .i64 0] 26) = v1 := ⟨_, rfl⟩
      have ba : Below (v).heap.size v v1 := by rw [← hal]; exact bel_alloc _ _
      have G : Hid (Bx v1 (v).heap.size 26 #[.slice none 0 0, .int .i64 0, .int .i64 0, .int .i64 0, .int .i64 0]) := by rw [← hal]; exact Bx.new _ _ _
      have zg := G.out.lt
      rw [hal]
      clear hal
      replace HS := Lib.hid (HS.out.trans (ba.mono HS.out.size))
      have BA := Lib.hid ba
      clear ba
      refine hJ.out _ _ HS.out (fun _ => ?_)
      clear hJ J
      go_simp
      skip
      refine wpAnyH_ready (rs := [5]) (by kernel_rfl) (by simp) (AllReadyH.cons rfl (fun J hJ => ?_) AllReadyH.nil)
      skip
      go_simp
      refine (HPl.out v1 HS.out).mono ?_
      rintro e v2 ⟨rfl, b1⟩
      have zp := b1.size
      replace HS := Lib.hid (HS.out.trans (b1.mono HS.out.size))
      have BP := Lib.hid b1
      clear b1
      refine hJ.out _ _ HS.out (fun _ => ?_)
      clear hJ J
      go_simp
      skip
      replace G := Lib.hid (G.out.below BP.out)
      refine wpAnyH_ready (rs := [6]) (by kernel_rfl) (by simp) (AllReadyH.cons rfl (fun J hJ => ?_) AllReadyH.nil)
      skip
      go_simp
      refine (HRm.out v2 HS.out).mono ?_
      intro e v3 hp
      obtain ⟨A2, c2, rfl, y2, b2⟩ := hp
      have zr := b2.size
      replace HS := Lib.hid (HS.out.trans (b2.mono HS.out.size))
      have Y := Lib.hid y2
      have BR := Lib.hid b2
      clear b2 y2
      refine hJ.out _ _ HS.out (fun _ => ?_)
      clear hJ J
      go_simp
      refine wpAnyH_take (i := 7) (v := (.tuple #[.agg #[.slice A2 r.ss.length c2, .int .i64 r.f, .int .i64 r.l, .int .i64 r.r, .int .i64 r.c], .int .i64 id])) rfl (by kernel_rfl) (by kernel_rfl) (by kernel_rfl) (fun _ _ _ h => h) (.inl ⟨rfl, fun V hS => ?y0⟩) HS.out ?_
      case y0 =>
        clear hS
        go_simp
      go_simp
      refine wpAnyH_take (i := 8) (v := (.agg #[.slice A2 r.ss.length c2, .int .i64 r.f, .int .i64 r.l, .int .i64 r.r, .int .i64 r.c])) rfl (by kernel_rfl) (by kernel_rfl) (by kernel_rfl) (fun _ _ _ h => h) (.inl ⟨rfl, fun V hS => ?y0⟩) HS.out ?_
      case y0 =>
        clear hS
        go_simp
      go_simp
      refine wpAnyH_take (i := 9) (v := (.int .i64 id)) rfl (by kernel_rfl) (by kernel_rfl) (by kernel_rfl) (fun _ _ _ h => h) (.inl ⟨rfl, fun V hS => ?y0⟩) HS.out ?_
      case y0 =>
        clear hS
        go_simp
      go_simp
      skip
      replace G := Lib.hid (G.out.below BR.out)
      refine wpAnyH_ready (rs := [11]) (by kernel_rfl) (by simp) (AllReadyH.cons rfl (fun J hJ => ?_) AllReadyH.nil)
      skip
      obtain ⟨g0, g1, g2, g3, g4, gf⟩ := G.out.cells5
      go_simp
      clear g0 g1 g2 g3 g4 gf
      obtain ⟨vz, hvz⟩ : ∃ vz, sets (v.heap.size) 0 [.slice A2 r.ss.length c2, .int .i64 r.f, .int .i64 r.l, .int .i64 r.r, .int .i64 r.c] v3 = vz := ⟨_, rfl⟩
      have zvz := sets_size (v.heap.size) [.slice A2 r.ss.length c2, .int .i64 r.f, .int .i64 r.l, .int .i64 r.r, .int .i64 r.c] 0 v3
      replace G := Lib.hid (G.out.all5 (.slice A2 r.ss.length c2) (.int .i64 r.f) (.int .i64 r.l) (.int .i64 r.r) (.int .i64 r.c))
      replace Y := Lib.hid (slv_sets (g := v.heap.size) (o := 0) (r := [.slice A2 r.ss.length c2, .int .i64 r.f, .int .i64 r.l, .int .i64 r.r, .int .i64 r.c]) Y.out (by omega))
      replace HS := Lib.hid (sets_below (v.heap.size) _ (by omega) [.slice A2 r.ss.length c2, .int .i64 r.f, .int .i64 r.l, .int .i64 r.r, .int .i64 r.c] 0 _ HS.out)
      change J _ (sets (v.heap.size) 0 [.slice A2 r.ss.length c2, .int .i64 r.f, .int .i64 r.l, .int .i64 r.r, .int .i64 r.c] v3)
      rw [hvz] at G Y HS zvz ⊢
      clear hvz
      refine hJ.out _ _ HS.out (fun _ => ?_)
      clear hJ J
      go_simp
      refine wpAnyH_take (i := 12) (v := (.int .i64 id)) rfl (by kernel_rfl) (by kernel_rfl) (by kernel_rfl) (fun _ _ _ h => h) (.inl ⟨rfl, fun V hS => ?y0⟩) HS.out ?_
      case y0 =>
        clear hS
        go_simp
      go_simp
      refine wpAnyH_done (by kernel_rfl) ?_ _
      go_wp2_with fail
      go_meet
      exact ⟨v.heap.size, A2, c2, v2.heap.size, v3.heap.size, rfl, G.out, Y.out, HS.out, by omega, by omega, by omega⟩
      skip
  case rest =>
    obtain ⟨g, A2, c2, lo, hi, rfl, gb, gy, bw, hlo, hhi, hgl⟩ := hcut
    replace K := Lib.hid (K.out.below bw)
    replace Q := Lib.hid (Q.out.below bw)
    have P := Lib.hid gb
    have Y := Lib.hid gy
    have W2 := Lib.hid (bel_trans W1.out bw)
    have zc := bw.size
    clear bw gb gy k0 k1 k2 k3 k4 k5 k6 kf
    have zQ := Q.out.lt
    have zP := P.out.lt
    obtain ⟨k0, k1, k2, k3, k4, k5, k6, kf⟩ := K.out.cells7
    go_wp2_with fail
    refine (Hp.implCancel_any B _ cb R.c R.d x.ds _ t _ rfl hm (H.out.h.below W2.out HR.out.d) (Nat.le_trans HR.out.d W2.out.size)).mono ?_
    rintro e w3 ⟨B3, d3, rfl, v3, b3⟩
    obtain ⟨ds', hds⟩ : ∃ ds', Hp.canD x.ds x.q t = ds' := ⟨_, rfl⟩
    obtain ⟨fl, hfl⟩ : ∃ fl, Hp.canB x.ds x.q t = fl := ⟨_, rfl⟩
    have Hfl : Hid (lvB x t = fl) := by
      show lvB x t = fl
      rw [← hfl]
      by_cases hm : t ∈ x.s.ids
      · obtain ⟨_, h2, h3, _⟩ := lv_some Hv.out hm
        rw [h2, h3]
      · obtain ⟨_, _, _, h2, _, h3⟩ := lv_none Hv.out hm
        rw [h2, h3]
    rw [hds] at v3 Hx ⊢
    rw [hfl]
    clear hds hfl k0 k1 k2 k3 k4 k5 k6 kf
    have z3 := b3.size
    obtain ⟨w4, hw4⟩ : ∃ w4, w3.alloc (.cells #[.slice B3 ds'.length d3, .int .i64 x.q] 29) = w4 := ⟨_, rfl⟩
    have b34 : Below w3.heap.size w3 w4 := by rw [← hw4]; exact bel_alloc w3 _
    have G : Hid (Bx w4 w3.heap.size 29 #[.slice B3 ds'.length d3, .int .i64 x.q]) := by rw [← hw4]; exact Bx.new w3 _ _
    replace Q := Lib.hid ((Q.out.below b3).below b34)
    replace P := Lib.hid ((P.out.below b3).below b34)
    replace Y := Lib.hid ((Y.out.below b3 hhi).below b34 (by omega))
    have V3 := Lib.hid (v3.below b34 (Nat.le_refl _))
    replace W2 := Lib.hid (bel_trans (bel_trans W2.out b3) b34)
    have z4 : w3.heap.size < w4.heap.size := G.out.lt
    clear b3 b34 v3
    obtain ⟨p0, p1, p2, p3, p4, pf⟩ := P.out.cells5
    obtain ⟨g0, g1, gf⟩ := G.out.cells2
    obtain ⟨q0, q1, q2, q3, q4, q5, q6, qf⟩ := Q.out.cells7
    go_wp2_with fail
    refine bodyPost_ret (v := .tuple #[.agg #[.slice A2 r.ss.length c2, .int .i64 r.f, .int .i64 r.l, .int .i64 r.r, .int .i64 r.c, .slice B3 ds'.length d3, .int .i64 x.q], .bool fl]) (by simp [results, Try.results32, go_sem, q0, q1, q2, q3, q4, q5, q6]) rfl ?_
    rw [Hx.out, Hfl.out]
    refine ⟨⟨lo, hi, wc.heap.size, w3.heap.size⟩, A2, c2, B3, d3, rfl, ?_⟩
    exact new_sto (g := w.heap.size + 1) (o := 0) (r := [.slice A2 r.ss.length c2, .int .i64 r.f, .int .i64 r.l, .int .i64 r.r, .int .i64 r.c, .slice B3 ds'.length d3, .int .i64 x.q]) (n := w4.heap.size)
      ⟨.inl hhi, Y.out, V3.out⟩ ⟨by show w.heap.size + 1 + 1 ≤ lo; omega, by show hi ≤ w4.heap.size; omega, by show w.heap.size + 1 + 1 ≤ wc.heap.size; omega, by show w3.heap.size ≤ w4.heap.size; omega⟩ (Nat.le_refl _) W2.out (by omega)
end Go.Proofs.Ytpjelojmkmednaa.Ln
