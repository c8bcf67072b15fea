/- What the reference's ServeFirst answers. -/
import Derived.Test.YtpjelojmkmednaaLlv2
import Derived.Test.YtpjelojmkmednaaLll
import Derived.Deep.DeepCutAuto
namespace Go.Proofs.Ytpjelojmkmednaa.Ln
open Go.RowKit Go.Deep Base

set_option maxRecDepth 100000 in
set_option maxHeartbeats 4000000 in
theorem specServe_any (A : Option Addr) (ca : Nat) (x : Lx) (B : Option Addr) (cb : Nat) (R : Rg) (w : World) (hn : x.s.ss.length ≤ 1048576) (hm : x.ds.length ≤ 1048576) (h : LnV w R A B x) (hR : R.In 0 w.heap.size) :
    Calls Try.prog 33 #[.agg #[.slice A x.s.ss.length ca, .int .i64 x.s.f, .int .i64 x.s.l, .int .i64 x.s.r, .int .i64 x.s.c, .slice B x.ds.length cb, .int .i64 x.q]] w (NewL2 w (sfX x) (.int .i64 (sfT x))) := by
  have H := Lib.hid h
  have HR := Lib.hid hR
  clear h hR
  go_enter Try.func33, Try.ntmps33
  go_wp2_with fail
  have hB : ∀ o o', Below w.heap.size w ((w.alloc o).alloc o') := fun o o' => ((Below.refl _ _).alloc (Nat.le_refl _) _).alloc (by simp) _
  refine (specList_any A ca x B cb R _ hn hm (H.out.below (hB _ _) HR.out) (HR.out.wide (Nat.le_refl _) (hB _ _).size)).mono ?_
  rintro e w1 ⟨G, cg, rfl, v1, b1⟩
  have K : Hid (Bx w1 w.heap.size 31 #[.slice A x.s.ss.length ca, .int .i64 x.s.f, .int .i64 x.s.l, .int .i64 x.s.r, .int .i64 x.s.c, .slice B x.ds.length cb, .int .i64 x.q]) := ((Bx.new w _ _).alloc _).below b1
  have Q : Hid (Bx w1 (w.heap.size + 1) 31 #[.slice none 0 0, .int .i64 0, .int .i64 0, .int .i64 0, .int .i64 0, .slice none 0 0, .int .i64 0]) := (Bx.at_new (w.alloc _) _ (by simp) _ _).below b1
  have W1 := Lib.hid (bel_trans (hB _ _) b1)
  have z1 : w.heap.size + 1 < w1.heap.size := Q.out.lt
  have IVr := Lib.hid v1
  simp only [World.size_alloc] at IVr
  clear b1 hB v1
  obtain ⟨zs, hzs⟩ : ∃ zs, llA x = zs := ⟨_, rfl⟩
  rw [hzs] at IVr ⊢
  obtain ⟨k0, k1, k2, k3, k4, k5, k6, kf⟩ := K.out.cells7
  cases zs with
  | nil =>
    have Hno : Hid (sfX x = x ∧ sfT x = 0) := by
      show sfX x = x ∧ sfT x = 0
      cases ho : okL x
      · exact sf_bad ho
      · unfold llA at hzs
        rw [if_pos ho] at hzs
        exact sf_none (okL_iff.1 ho) hzs
    clear hzs
    have zR : w.heap.size + 1 + 1 ≤ w1.heap.size := z1
    go_wp2_with fail
    refine (copyLine_any A ca x B cb R _ hn hm (H.out.below W1.out HR.out) (HR.out.wide (Nat.le_refl _) W1.out.size)).mono ?_
    rintro e w9 ⟨R9, A9, c9, B9, d9, rfl, v9, r9, b9⟩
    replace Q := Lib.hid (Q.out.below b9)
    have zq := Q.out.lt
    have V9 := Lib.hid v9
    have z9 := b9.size
    replace W1 := Lib.hid (bel_trans W1.out b9)
    clear b9 v9
    obtain ⟨q0, q1, q2, q3, q4, q5, q6, qf⟩ := Q.out.cells7
    go_wp2_with fail
    refine bodyPost_ret (v := .tuple #[.agg #[.slice A9 x.s.ss.length c9, .int .i64 x.s.f, .int .i64 x.s.l, .int .i64 x.s.r, .int .i64 x.s.c, .slice B9 x.ds.length d9, .int .i64 x.q], .int .i64 0]) (by simp [results, (Try.results33), go_sem, q0, q1, q2, q3, q4, q5, q6]) rfl ?_
    rw [Hno.out.1, Hno.out.2]
    refine ⟨R9, A9, c9, B9, d9, rfl, ?_⟩
    exact new_sto (g := w.heap.size + 1) (o := 0) (r := [.slice A9 x.s.ss.length c9, .int .i64 x.s.f, .int .i64 x.s.l, .int .i64 x.s.r, .int .i64 x.s.c, .slice B9 x.ds.length d9, .int .i64 x.q]) (n := w9.heap.size) V9.out (r9.wide zR (Nat.le_refl _)) (Nat.le_refl _) W1.out (by omega)
    skip
  | cons t0 r0 =>
    have Hsf : Hid (sfX x = lvX x t0 ∧ sfT x = t0) := by
      show sfX x = lvX x t0 ∧ sfT x = t0
      cases ho : okL x
      · unfold llA at hzs
        rw [if_neg (by rw [ho]; simp)] at hzs
        cases hzs
      · unfold llA at hzs
        rw [if_pos ho] at hzs
        exact sf_some (okL_iff.1 ho) hzs
    obtain ⟨gi, rfl, hg1, hg2, hri⟩ := IVr.out (by simp)
    have C0 : Hid (w1.cell? ⟨gi, 0, none⟩ = some (.int .i64 t0)) := (hri 0 (by simp)).1
    obtain ⟨n, hn0⟩ : ∃ n, (t0 :: r0).length = n := ⟨_, rfl⟩
    have hnp : 0 < n := by rw [← hn0]; simp
    rw [hn0]
    have hne : ((n : Int) == 0) = false := by simp; omega
    have hnp' : (0 : Int) < (n : Int) := by omega
    obtain ⟨y, hy⟩ : ∃ y, lvX x t0 = y := ⟨_, rfl⟩
    obtain ⟨lb, hlb⟩ : ∃ lb, lvB x t0 = lb := ⟨_, rfl⟩
    rw [hy] at Hsf
    have HLv : Hid (∀ V, Below w1.heap.size w1 V → Calls Try.prog 31 #[.agg #[.slice A x.s.ss.length ca, .int .i64 x.s.f, .int .i64 x.s.l, .int .i64 x.s.r, .int .i64 x.s.c, .slice B x.ds.length cb, .int .i64 x.q], .int .i64 t0] V (NewL2 V y (.bool lb))) := fun V hV => by
      rw [← hy, ← hlb]
      exact specLeave_any A ca x B cb t0 R V hn hm (H.out.below (bel_trans W1.out hV) HR.out) (HR.out.wide (Nat.le_refl _) (Nat.le_trans W1.out.size hV.size))
    clear hzs hri hn0 hy hlb IVr
    go_wp2_with fail
    go_cut [5] (fun p wx => ∃ g R2 A2 c2 B2 d2, p = .pointer (some ⟨g, 0, none⟩) ∧ Bx wx g 31 #[.slice A2 y.s.ss.length c2, .int .i64 y.s.f, .int .i64 y.s.l, .int .i64 y.s.r, .int .i64 y.s.c, .slice B2 y.ds.length d2, .int .i64 y.q] ∧ LnV wx R2 A2 B2 y ∧ R2.In w1.heap.size wx.heap.size ∧ Below w1.heap.size w1 wx ∧ w1.heap.size ≤ g)
    case first =>
      have HS : Hid (Below w1.heap.size w1 w1.drew) := (Below.refl _ _).drew
      refine wp_region_held_drew (S := fun V => Below w1.heap.size w1 V) (by kernel_rfl) HS.out (fun _ => ?_)
      obtain ⟨v, hv⟩ : ∃ v, w1.drew = v := ⟨_, rfl⟩
      have z0 : w1.heap.size ≤ v.heap.size := by rw [← hv]; exact Nat.le_refl _
      rw [hv] at HS ⊢
      clear hv k0 k1 k2 k3 k4 k5 k6 kf
      refine wpAnyH_take (i := 0) (v := (.agg #[.slice A x.s.ss.length ca, .int .i64 x.s.f, .int .i64 x.s.l, .int .i64 x.s.r, .int .i64 x.s.c, .slice B x.ds.length cb, .int .i64 x.q])) rfl (by kernel_rfl) (by kernel_rfl) (by kernel_rfl) (fun _ _ _ h => h) (.inl ⟨rfl, fun V hS => ?y0⟩) HS.out ?_
      case y0 =>
        obtain ⟨s0, s1, s2, s3, s4, s5, s6, s7⟩ := (K.out.below hS).cells7
        clear hS s7
        go_simp
      go_simp
      refine wpAnyH_take (i := 1) (v := (.slice (some ⟨gi, 0, none⟩) n cg)) rfl (by kernel_rfl) (by kernel_rfl) (by kernel_rfl) (fun _ _ _ h => h) (.inl ⟨rfl, fun V hS => ?y0⟩) HS.out ?_
      case y0 =>
        clear hS
        go_simp
      go_simp
      refine wpAnyH_take (i := 2) (v := (.pointer (some ⟨gi, 0, none⟩))) rfl (by kernel_rfl) (by kernel_rfl) (by kernel_rfl) (fun _ _ _ h => h) (.inl ⟨rfl, fun V hS => ?y0⟩) HS.out ?_
      case y0 =>
        clear hS
        go_simp
      go_simp
      refine wpAnyH_take (i := 3) (v := .int .i64 t0) rfl (by kernel_rfl) (by kernel_rfl) (by kernel_rfl) (fun _ _ _ h => h) (.inl ⟨rfl, fun V hS => ?y3⟩) HS.out ?_
      case y3 =>
        have s0 : V.cell? ⟨gi, 0, none⟩ = some (.int .i64 t0) := (hS.cell (p := ⟨gi, 0, none⟩) hg2).trans C0.out
        clear hS
        go_simp
      go_simp
      refine wpAnyH_ready (rs := [4, 8]) (by kernel_rfl) (by simp) (AllReadyH.cons rfl (fun J hJ => ?_) (AllReadyH.cons rfl (fun J hJ => ?_) AllReadyH.nil))
      · skip
        go_simp
        refine (HLv.out v HS.out).mono ?_
        rintro e v1 ⟨R2, A2, c2, B2, d2, rfl, y2, r2, b2⟩
        have zr := b2.size
        replace HS := Lib.hid (HS.out.trans (b2.mono HS.out.size))
        have Y := Lib.hid y2
        have BR := Lib.hid b2
        have HR2 := Lib.hid r2
        clear b2 y2 r2
        refine hJ.out _ _ HS.out (fun _ => ?_)
        clear hJ J
        go_simp
        refine wpAnyH_take (i := 5) (v := (.tuple #[.agg #[.slice A2 y.s.ss.length c2, .int .i64 y.s.f, .int .i64 y.s.l, .int .i64 y.s.r, .int .i64 y.s.c, .slice B2 y.ds.length d2, .int .i64 y.q], .bool lb])) rfl (by kernel_rfl) (by kernel_rfl) (by kernel_rfl) (fun _ _ _ h => h) (.inl ⟨rfl, fun V hS => ?y0⟩) HS.out ?_
        case y0 =>
          clear hS
          go_simp
        go_simp
        refine wpAnyH_take (i := 6) (v := (.agg #[.slice A2 y.s.ss.length c2, .int .i64 y.s.f, .int .i64 y.s.l, .int .i64 y.s.r, .int .i64 y.s.c, .slice B2 y.ds.length d2, .int .i64 y.q])) rfl (by kernel_rfl) (by kernel_rfl) (by kernel_rfl) (fun _ _ _ h => h) (.inl ⟨rfl, fun V hS => ?y0⟩) HS.out ?_
        case y0 =>
          clear hS
          go_simp
        go_simp
        refine wpAnyH_take (i := 7) (v := (.bool lb)) rfl (by kernel_rfl) (by kernel_rfl) (by kernel_rfl) (fun _ _ _ h => h) (.inl ⟨rfl, fun V hS => ?y0⟩) HS.out ?_
        case y0 =>
          clear hS
          go_simp
        go_simp
        skip
        refine wpAnyH_ready (rs := [8]) (by kernel_rfl) (by simp) (AllReadyH.cons rfl (fun J hJ => ?_) AllReadyH.nil)
        skip
        go_simp
        obtain ⟨v2, hal⟩ : ∃ v2, (v1).alloc (.cells #[.slice none 0 0, .int .i64 0, .int .i64 0, .int .i64 0, .int .i64 0, .slice none 0 0, .int .i64 0] 31) = v2 := ⟨_, rfl⟩
        have ba : Below (v1).heap.size v1 v2 := by rw [← hal]; exact bel_alloc _ _
        have G : Hid (Bx v2 (v1).heap.size 31 #[.slice none 0 0, .int .i64 0, .int .i64 0, .int .i64 0, .int .i64 0, .slice none 0 0, .int .i64 0]) := by rw [← hal]; exact Bx.new _ _ _
        have zg := G.out.lt
        rw [hal]
        clear hal
        replace HS := Lib.hid (HS.out.trans (ba.mono HS.out.size))
        have BA := Lib.hid ba
        clear ba
        refine hJ.out _ _ HS.out (fun _ => ?_)
        clear hJ J
        go_simp
        skip
        replace Y := Lib.hid (Y.out.below BA.out HR2.out)
        refine wpAnyH_ready (rs := [9]) (by kernel_rfl) (by simp) (AllReadyH.cons rfl (fun J hJ => ?_) AllReadyH.nil)
        skip
        obtain ⟨g0, g1, g2, g3, g4, g5, g6, gf⟩ := G.out.cells7
        go_simp
        clear g0 g1 g2 g3 g4 g5 g6 gf
        obtain ⟨vz, hvz⟩ : ∃ vz, sets (v1.heap.size) 0 [.slice A2 y.s.ss.length c2, .int .i64 y.s.f, .int .i64 y.s.l, .int .i64 y.s.r, .int .i64 y.s.c, .slice B2 y.ds.length d2, .int .i64 y.q] v2 = vz := ⟨_, rfl⟩
        have zvz := sets_size (v1.heap.size) [.slice A2 y.s.ss.length c2, .int .i64 y.s.f, .int .i64 y.s.l, .int .i64 y.s.r, .int .i64 y.s.c, .slice B2 y.ds.length d2, .int .i64 y.q] 0 v2
        replace G := Lib.hid (G.out.put7 (.slice A2 y.s.ss.length c2) (.int .i64 y.s.f) (.int .i64 y.s.l) (.int .i64 y.s.r) (.int .i64 y.s.c) (.slice B2 y.ds.length d2) (.int .i64 y.q))
        replace Y := Lib.hid (LnV.sto (g := v1.heap.size) (o := 0) (r := [.slice A2 y.s.ss.length c2, .int .i64 y.s.f, .int .i64 y.s.l, .int .i64 y.s.r, .int .i64 y.s.c, .slice B2 y.ds.length d2, .int .i64 y.q]) Y.out HR2.out (by omega))
        replace HS := Lib.hid (sets_below (v1.heap.size) _ (by omega) [.slice A2 y.s.ss.length c2, .int .i64 y.s.f, .int .i64 y.s.l, .int .i64 y.s.r, .int .i64 y.s.c, .slice B2 y.ds.length d2, .int .i64 y.q] 0 _ HS.out)
        change J _ (sets (v1.heap.size) 0 [.slice A2 y.s.ss.length c2, .int .i64 y.s.f, .int .i64 y.s.l, .int .i64 y.s.r, .int .i64 y.s.c, .slice B2 y.ds.length d2, .int .i64 y.q] v2)
        rw [hvz] at G Y HS zvz ⊢
        clear hvz
        refine hJ.out _ _ HS.out (fun _ => ?_)
        clear hJ J
        go_simp
        refine wpAnyH_take (i := 10) (v := (.bool lb)) rfl (by kernel_rfl) (by kernel_rfl) (by kernel_rfl) (fun _ _ _ h => h) (.inl ⟨rfl, fun V hS => ?y0⟩) HS.out ?_
        case y0 =>
          clear hS
          go_simp
        go_simp
        refine wpAnyH_done (by kernel_rfl) ?_ _
        go_wp2_with fail
        go_meet
        exact ⟨v1.heap.size, R2, A2, c2, B2, d2, rfl, G.out, Y.out, HR2.out.wide (by omega) (by omega), HS.out, by omega⟩
        skip
      · skip
        go_simp
        obtain ⟨v1, hal⟩ : ∃ v1, (v).alloc (.cells #[.slice none 0 0, .int .i64 0, .int .i64 0, .int .i64 0, .int .i64 0, .slice none 0 0, .int .i64 0] 31) = v1 := ⟨_, rfl⟩
        have ba : Below (v).heap.size v v1 := by rw [← hal]; exact bel_alloc _ _
        have G : Hid (Bx v1 (v).heap.size 31 #[.slice none 0 0, .int .i64 0, .int .i64 0, .int .i64 0, .int .i64 0, .slice none 0 0, .int .i64 0]) := by rw [← hal]; exact Bx.new _ _ _
        have zg := G.out.lt
        rw [hal]
        clear hal
        replace HS := Lib.hid (HS.out.trans (ba.mono HS.out.size))
        have BA := Lib.hid ba
        clear ba
        refine hJ.out _ _ HS.out (fun _ => ?_)
        clear hJ J
        go_simp
        skip
        refine wpAnyH_ready (rs := [4]) (by kernel_rfl) (by simp) (AllReadyH.cons rfl (fun J hJ => ?_) AllReadyH.nil)
        skip
        go_simp
        refine (HLv.out v1 HS.out).mono ?_
        rintro e v2 ⟨R2, A2, c2, B2, d2, rfl, y2, r2, b2⟩
        have zr := b2.size
        replace HS := Lib.hid (HS.out.trans (b2.mono HS.out.size))
        have Y := Lib.hid y2
        have BR := Lib.hid b2
        have HR2 := Lib.hid r2
        clear b2 y2 r2
        refine hJ.out _ _ HS.out (fun _ => ?_)
        clear hJ J
        go_simp
        refine wpAnyH_take (i := 5) (v := (.tuple #[.agg #[.slice A2 y.s.ss.length c2, .int .i64 y.s.f, .int .i64 y.s.l, .int .i64 y.s.r, .int .i64 y.s.c, .slice B2 y.ds.length d2, .int .i64 y.q], .bool lb])) rfl (by kernel_rfl) (by kernel_rfl) (by kernel_rfl) (fun _ _ _ h => h) (.inl ⟨rfl, fun V hS => ?y0⟩) HS.out ?_
        case y0 =>
          clear hS
          go_simp
        go_simp
        refine wpAnyH_take (i := 6) (v := (.agg #[.slice A2 y.s.ss.length c2, .int .i64 y.s.f, .int .i64 y.s.l, .int .i64 y.s.r, .int .i64 y.s.c, .slice B2 y.ds.length d2, .int .i64 y.q])) rfl (by kernel_rfl) (by kernel_rfl) (by kernel_rfl) (fun _ _ _ h => h) (.inl ⟨rfl, fun V hS => ?y0⟩) HS.out ?_
        case y0 =>
          clear hS
          go_simp
        go_simp
        refine wpAnyH_take (i := 7) (v := (.bool lb)) rfl (by kernel_rfl) (by kernel_rfl) (by kernel_rfl) (fun _ _ _ h => h) (.inl ⟨rfl, fun V hS => ?y0⟩) HS.out ?_
        case y0 =>
          clear hS
          go_simp
        go_simp
        skip
        replace G := Lib.hid (G.out.below BR.out)
        refine wpAnyH_ready (rs := [9]) (by kernel_rfl) (by simp) (AllReadyH.cons rfl (fun J hJ => ?_) AllReadyH.nil)
        skip
        obtain ⟨g0, g1, g2, g3, g4, g5, g6, gf⟩ := G.out.cells7
        go_simp
        clear g0 g1 g2 g3 g4 g5 g6 gf
        obtain ⟨vz, hvz⟩ : ∃ vz, sets (v.heap.size) 0 [.slice A2 y.s.ss.length c2, .int .i64 y.s.f, .int .i64 y.s.l, .int .i64 y.s.r, .int .i64 y.s.c, .slice B2 y.ds.length d2, .int .i64 y.q] v2 = vz := ⟨_, rfl⟩
        have zvz := sets_size (v.heap.size) [.slice A2 y.s.ss.length c2, .int .i64 y.s.f, .int .i64 y.s.l, .int .i64 y.s.r, .int .i64 y.s.c, .slice B2 y.ds.length d2, .int .i64 y.q] 0 v2
        replace G := Lib.hid (G.out.put7 (.slice A2 y.s.ss.length c2) (.int .i64 y.s.f) (.int .i64 y.s.l) (.int .i64 y.s.r) (.int .i64 y.s.c) (.slice B2 y.ds.length d2) (.int .i64 y.q))
        replace Y := Lib.hid (LnV.sto (g := v.heap.size) (o := 0) (r := [.slice A2 y.s.ss.length c2, .int .i64 y.s.f, .int .i64 y.s.l, .int .i64 y.s.r, .int .i64 y.s.c, .slice B2 y.ds.length d2, .int .i64 y.q]) Y.out HR2.out (by omega))
        replace HS := Lib.hid (sets_below (v.heap.size) _ (by omega) [.slice A2 y.s.ss.length c2, .int .i64 y.s.f, .int .i64 y.s.l, .int .i64 y.s.r, .int .i64 y.s.c, .slice B2 y.ds.length d2, .int .i64 y.q] 0 _ HS.out)
        change J _ (sets (v.heap.size) 0 [.slice A2 y.s.ss.length c2, .int .i64 y.s.f, .int .i64 y.s.l, .int .i64 y.s.r, .int .i64 y.s.c, .slice B2 y.ds.length d2, .int .i64 y.q] v2)
        rw [hvz] at G Y HS zvz ⊢
        clear hvz
        refine hJ.out _ _ HS.out (fun _ => ?_)
        clear hJ J
        go_simp
        refine wpAnyH_take (i := 10) (v := (.bool lb)) rfl (by kernel_rfl) (by kernel_rfl) (by kernel_rfl) (fun _ _ _ h => h) (.inl ⟨rfl, fun V hS => ?y0⟩) HS.out ?_
        case y0 =>
          clear hS
          go_simp
        go_simp
        refine wpAnyH_done (by kernel_rfl) ?_ _
        go_wp2_with fail
        go_meet
        exact ⟨v.heap.size, R2, A2, c2, B2, d2, rfl, G.out, Y.out, HR2.out.wide (by omega) (by omega), HS.out, by omega⟩
        skip
    case rest =>
      obtain ⟨g, R2, A2, c2, B2, d2, rfl, gb, gy, r2, bw, hgl⟩ := hcut
      replace Q := Lib.hid (Q.out.below bw)
      have W2 := Lib.hid (bel_trans W1.out bw)
      have zc := bw.size
      have Y := Lib.hid gy
      have HR2 := Lib.hid r2
      have zQ := Q.out.lt
      have HS : Hid (Bx wc.drew g 31 #[.slice A2 y.s.ss.length c2, .int .i64 y.s.f, .int .i64 y.s.l, .int .i64 y.s.r, .int .i64 y.s.c, .slice B2 y.ds.length d2, .int .i64 y.q] ∧ wc.drew.cell? ⟨gi, 0, none⟩ = some (.int .i64 t0)) := ⟨gb, (bw.cell (p := ⟨gi, 0, none⟩) hg2).trans C0.out⟩
      clear bw gy r2 k0 k1 k2 k3 k4 k5 k6 kf gb
      go_wp2_with fail
      refine wp_region_held_drew (S := fun V => Bx V g 31 #[.slice A2 y.s.ss.length c2, .int .i64 y.s.f, .int .i64 y.s.l, .int .i64 y.s.r, .int .i64 y.s.c, .slice B2 y.ds.length d2, .int .i64 y.q] ∧ V.cell? ⟨gi, 0, none⟩ = some (.int .i64 t0)) (by kernel_rfl) HS.out (fun _ => ?_)
      replace Q : Hid (Bx wc.drew (w.heap.size + 1) 31 #[.slice none 0 0, .int .i64 0, .int .i64 0, .int .i64 0, .int .i64 0, .slice none 0 0, .int .i64 0]) := Q.out
      replace Y : Hid (LnV wc.drew R2 A2 B2 y) := ⟨Y.out.apart, Y.out.s, Y.out.h⟩
      replace W2 := Lib.hid W2.out.drew
      obtain ⟨v, hv⟩ : ∃ v, wc.drew = v := ⟨_, rfl⟩
      have hvs : v.heap.size = wc.heap.size := by rw [← hv]; rfl
      rw [hv] at HS Q Y W2 ⊢
      clear hv
      refine wpAnyH_take (i := 0) (v := (.agg #[.slice A2 y.s.ss.length c2, .int .i64 y.s.f, .int .i64 y.s.l, .int .i64 y.s.r, .int .i64 y.s.c, .slice B2 y.ds.length d2, .int .i64 y.q])) rfl (by kernel_rfl) (by kernel_rfl) (by kernel_rfl) (fun _ _ _ h => h) (.inl ⟨rfl, fun V hS => ?y0⟩) HS.out ?_
      case y0 =>
        obtain ⟨s0, s1, s2, s3, s4, s5, s6, s7⟩ := hS.1.cells7
        clear hS s7
        go_simp
      go_simp
      refine wpAnyH_take (i := 1) (v := (.slice (some ⟨gi, 0, none⟩) n cg)) rfl (by kernel_rfl) (by kernel_rfl) (by kernel_rfl) (fun _ _ _ h => h) (.inl ⟨rfl, fun V hS => ?y0⟩) HS.out ?_
      case y0 =>
        clear hS
        go_simp
      go_simp
      refine wpAnyH_take (i := 2) (v := (.pointer (some ⟨gi, 0, none⟩))) rfl (by kernel_rfl) (by kernel_rfl) (by kernel_rfl) (fun _ _ _ h => h) (.inl ⟨rfl, fun V hS => ?y0⟩) HS.out ?_
      case y0 =>
        clear hS
        go_simp
      go_simp
      refine wpAnyH_take (i := 3) (v := .int .i64 t0) rfl (by kernel_rfl) (by kernel_rfl) (by kernel_rfl) (fun _ _ _ h => h) (.inl ⟨rfl, fun V hS => ?y3⟩) HS.out ?_
      case y3 =>
        have s0 := hS.2
        clear hS
        go_simp
      go_simp
      refine wpAnyH_ready (rs := [4]) (by kernel_rfl) (by simp) (AllReadyH.cons rfl (fun J hJ => ?_) AllReadyH.nil)
      skip
      obtain ⟨q0, q1, q2, q3, q4, q5, q6, qf⟩ := Q.out.cells7
      go_simp
      clear q0 q1 q2 q3 q4 q5 q6 qf
      obtain ⟨v3, hv3⟩ : ∃ v3, sets (w.heap.size + 1) 0 [.slice A2 y.s.ss.length c2, .int .i64 y.s.f, .int .i64 y.s.l, .int .i64 y.s.r, .int .i64 y.s.c, .slice B2 y.ds.length d2, .int .i64 y.q] v = v3 := ⟨_, rfl⟩
      have F := Lib.hid (new_sto (w := w) (g := w.heap.size + 1) (o := 0) (r := [.slice A2 y.s.ss.length c2, .int .i64 y.s.f, .int .i64 y.s.l, .int .i64 y.s.r, .int .i64 y.s.c, .slice B2 y.ds.length d2, .int .i64 y.q]) (v := v) (n := wc.heap.size) (R := R2) (A := A2) (B := B2) (x := y) Y.out (HR2.out.wide z1 (Nat.le_refl _)) (by omega) W2.out (by omega))
      replace Q := Lib.hid (Q.out.put7 (.slice A2 y.s.ss.length c2) (.int .i64 y.s.f) (.int .i64 y.s.l) (.int .i64 y.s.r) (.int .i64 y.s.c) (.slice B2 y.ds.length d2) (.int .i64 y.q))
      have hne9 : gi ≠ w.heap.size + 1 := by omega
      have hc9 : ∀ v9 : World, v9.heap[gi]? = v.heap[gi]? → v9.cell? ⟨gi, 0, none⟩ = some (.int .i64 t0) := fun v9 h9 => (World.cell?_of_block h9).trans HS.out.2
      have hz9 := sets_other (w.heap.size + 1) hne9 [.slice A2 y.s.ss.length c2, .int .i64 y.s.f, .int .i64 y.s.l, .int .i64 y.s.r, .int .i64 y.s.c, .slice B2 y.ds.length d2, .int .i64 y.q] 0 v
      have hb9 := Bx.sto (r := [.slice A2 y.s.ss.length c2, .int .i64 y.s.f, .int .i64 y.s.l, .int .i64 y.s.r, .int .i64 y.s.c, .slice B2 y.ds.length d2, .int .i64 y.q]) (o := 0) (g := w.heap.size + 1) HS.out.1 (by omega)
      change J _ (sets (w.heap.size + 1) 0 [.slice A2 y.s.ss.length c2, .int .i64 y.s.f, .int .i64 y.s.l, .int .i64 y.s.r, .int .i64 y.s.c, .slice B2 y.ds.length d2, .int .i64 y.q] v)
      rw [hv3] at F Q hz9 hb9 ⊢
      replace HS := Lib.hid (And.intro hb9 (hc9 _ hz9))
      clear hv3 hz9 hb9 hc9
      refine hJ.out _ _ HS.out (fun _ => ?_)
      clear hJ J
      go_simp
      refine wpAnyH_take (i := 5) (v := (.int .i64 t0)) rfl (by kernel_rfl) (by kernel_rfl) (by kernel_rfl) (fun _ _ _ h => h) (.inl ⟨rfl, fun V hS => ?y0⟩) HS.out ?_
      case y0 =>
        clear hS
        go_simp
      go_simp
      refine wpAnyH_done (by kernel_rfl) ?_ _
      obtain ⟨q0, q1, q2, q3, q4, q5, q6, qf⟩ := Q.out.cells7
      go_wp2_with fail
      refine bodyPost_ret (v := .tuple #[.agg #[.slice A2 y.s.ss.length c2, .int .i64 y.s.f, .int .i64 y.s.l, .int .i64 y.s.r, .int .i64 y.s.c, .slice B2 y.ds.length d2, .int .i64 y.q], .int .i64 t0]) (by simp [results, Try.results33, go_sem, q0, q1, q2, q3, q4, q5, q6]) rfl ?_
      rw [Hsf.out.1, Hsf.out.2]
      exact ⟨R2, A2, c2, B2, d2, rfl, F.out⟩
end Go.Proofs.Ytpjelojmkmednaa.Ln
