/- The reference's copy of a line; what a push and a removal hand back, in the words of lines. -/
import Derived.Test.YtpjelojmkmednaaLcp
namespace Go.Proofs.Ytpjelojmkmednaa.Ln
open Go.RowKit Go.Deep Base

theorem push_q {w w' : World} {e : Ending} {s : Qx} {t : Int} (h : Que.PushEnd w s.ss.length s.ss s.f s.l s.r s.c t e w') :
    ∃ A cap, e = .returned (.tuple #[.agg #[.slice A (s.push t).ss.length cap, .int .i64 (s.push t).f, .int .i64 (s.push t).l, .int .i64 (s.push t).r, .int .i64 (s.push t).c], .int .i64 (s.slot t)]) ∧ Que.SlV w' w.heap.size w'.heap.size A (s.push t).ss ∧ Below w.heap.size w w' := by
  unfold Que.PushEnd at h
  cases hm : s.may t
  · have hm' : Que.canPush s.ss s.f s.l s.r s.c t = false := hm
    rw [if_neg (by rw [hm']; simp)] at h
    rw [(Qx.push_no hm).1, (Qx.push_no hm).2]
    exact h
  · have hm' : Que.canPush s.ss s.f s.l s.r s.c t = true := hm
    rw [if_pos hm'] at h
    obtain ⟨A, cap, h1, h2, h3⟩ := h
    refine ⟨A, cap, ?_, ?_, h3⟩
    · rw [h1, Qx.push_len]
      unfold Qx.push Qx.slot
      rw [if_pos hm, if_pos hm]
    · unfold Qx.push
      rw [if_pos hm]
      exact h2
theorem rem_q {w w' : World} {e : Ending} {s : Qx} {p : Int} (h : Que.RemEnd w s.ss.length s.ss s.f s.l s.r s.c p e w') :
    ∃ A cap, e = .returned (.tuple #[.agg #[.slice A (s.remAt p).ss.length cap, .int .i64 (s.remAt p).f, .int .i64 (s.remAt p).l, .int .i64 (s.remAt p).r, .int .i64 (s.remAt p).c], .int .i64 (s.idAt p)]) ∧ Que.SlV w' w.heap.size w'.heap.size A (s.remAt p).ss ∧ Below w.heap.size w w' := by
  unfold Que.RemEnd at h
  cases hm : s.can p
  · have hm' : Que.canRem s.ss s.f s.l s.r s.c p = false := hm
    rw [if_neg (by rw [hm']; simp)] at h
    rw [(Qx.remAt_no hm).1, (Qx.remAt_no hm).2]
    exact h
  · have hm' : Que.canRem s.ss s.f s.l s.r s.c p = true := hm
    rw [if_pos hm'] at h
    obtain ⟨A, cap, h1, h2, h3⟩ := h
    refine ⟨A, cap, ?_, ?_, h3⟩
    · rw [h1, Qx.remAt_len]
      unfold Qx.remAt Qx.idAt
      rw [if_pos hm, if_pos hm]
    · unfold Qx.remAt
      rw [if_pos hm]
      exact h2

set_option maxRecDepth 100000 in
set_option maxHeartbeats 2000000 in
theorem copyLine_any (A : Option Addr) (ca : Nat) (x : Lx) (B : Option Addr) (cb : Nat) (R : Rg) (w : World) (hn : x.s.ss.length ≤ 1048576) (hm : x.ds.length ≤ 1048576) (h : LnV w R A B x) (hR : R.In 0 w.heap.size) :
    Calls Try.prog 70 #[.agg #[.slice A x.s.ss.length ca, .int .i64 x.s.f, .int .i64 x.s.l, .int .i64 x.s.r, .int .i64 x.s.c, .slice B x.ds.length cb, .int .i64 x.q]] w (NewL w x) := by
  have H := Lib.hid h
  have HR := Lib.hid hR
  clear h hR
  go_enter Try.func70, Try.ntmps70
  go_wp2_with fail
  obtain ⟨v0, hv0⟩ : ∃ v0, ((w.alloc (.cells #[.slice A x.s.ss.length ca, .int .i64 x.s.f, .int .i64 x.s.l, .int .i64 x.s.r, .int .i64 x.s.c, .slice B x.ds.length cb, .int .i64 x.q] 31)).alloc (.cells #[.slice none 0 0, .int .i64 0, .int .i64 0, .int .i64 0, .int .i64 0, .slice none 0 0, .int .i64 0] 31)) = v0 := ⟨_, rfl⟩
  have Q : Hid (Bx v0.drew (w.heap.size + 1) 31 #[.slice none 0 0, .int .i64 0, .int .i64 0, .int .i64 0, .int .i64 0, .slice none 0 0, .int .i64 0]) := by rw [← hv0]; exact Bx.at_new (w.alloc _) _ (by simp) _ _
  have HS : Hid (Bx v0.drew w.heap.size 31 #[.slice A x.s.ss.length ca, .int .i64 x.s.f, .int .i64 x.s.l, .int .i64 x.s.r, .int .i64 x.s.c, .slice B x.ds.length cb, .int .i64 x.q] ∧ Below w.heap.size w v0.drew) := by rw [← hv0]; exact ⟨(Bx.new w _ _).alloc _, (((Below.refl _ _).alloc (Nat.le_refl _) _).alloc (by simp) _).drew⟩
  rw [hv0]
  refine wp_region_held_drew (S := fun V => Bx V w.heap.size 31 #[.slice A x.s.ss.length ca, .int .i64 x.s.f, .int .i64 x.s.l, .int .i64 x.s.r, .int .i64 x.s.c, .slice B x.ds.length cb, .int .i64 x.q] ∧ Below w.heap.size w V) (by kernel_rfl) HS.out (fun _ => ?_)
  clear hv0
  obtain ⟨v, hv⟩ : ∃ v, v0.drew = v := ⟨_, rfl⟩
  rw [hv] at Q HS ⊢
  clear hv
  have zv : w.heap.size + 1 < v.heap.size := Q.out.lt
  refine wpAnyH_take (i := 0) (v := (.pointer (some ⟨w.heap.size, 0, none⟩))) rfl (by kernel_rfl) (by kernel_rfl) (by kernel_rfl) (fun _ _ _ h => h) (.inl ⟨rfl, fun V hS => ?y0⟩) HS.out ?_
  case y0 =>
    clear hS
    go_simp
  go_simp
  refine wpAnyH_take (i := 1) (v := (.agg #[.slice A x.s.ss.length ca, .int .i64 x.s.f, .int .i64 x.s.l, .int .i64 x.s.r, .int .i64 x.s.c])) rfl (by kernel_rfl) (by kernel_rfl) (by kernel_rfl) (fun _ _ _ h => h) (.inl ⟨rfl, fun V hS => ?y0⟩) HS.out ?_
  case y0 =>
    obtain ⟨s0, s1, s2, s3, s4, s5, s6, s7⟩ := hS.1.cells7
    clear hS s7
    go_simp
  go_simp
  refine wpAnyH_take (i := 3) (v := (.pointer (some ⟨w.heap.size, 5, none⟩))) rfl (by kernel_rfl) (by kernel_rfl) (by kernel_rfl) (fun _ _ _ h => h) (.inl ⟨rfl, fun V hS => ?y0⟩) HS.out ?_
  case y0 =>
    clear hS
    go_simp
  go_simp
  refine wpAnyH_take (i := 4) (v := (.agg #[.slice B x.ds.length cb, .int .i64 x.q])) rfl (by kernel_rfl) (by kernel_rfl) (by kernel_rfl) (fun _ _ _ h => h) (.inl ⟨rfl, fun V hS => ?y0⟩) HS.out ?_
  case y0 =>
    obtain ⟨s0, s1, s2, s3, s4, s5, s6, s7⟩ := hS.1.cells7
    clear hS s7
    go_simp
  go_simp
  refine wpAnyH_ready (rs := [2]) (by kernel_rfl) (by simp) (AllReadyH.cons rfl (fun J hJ => ?_) AllReadyH.nil)
  skip
  go_simp
  refine (Que.copy_any A _ ca R.a R.b _ _ _ _ x.s.ss v rfl hn (H.out.s.below HS.out.2 HR.out.b) (Nat.le_trans HR.out.b HS.out.2.size)).mono ?_
  rintro e v1 ⟨A1, c1, rfl, y1, b1⟩
  replace Q := Lib.hid (Q.out.below b1)
  replace HS := Lib.hid (And.intro (HS.out.1.below b1) (HS.out.2.trans (b1.mono HS.out.2.size)))
  have Y := Lib.hid y1
  have z1 := b1.size
  clear b1 y1
  refine hJ.out _ _ HS.out (fun _ => ?_)
  clear hJ J
  go_simp
  refine wpAnyH_ready (rs := [5]) (by kernel_rfl) (by simp) (AllReadyH.cons rfl (fun J hJ => ?_) AllReadyH.nil)
  skip
  go_simp
  refine (Hp.copy_any B _ cb R.c R.d _ x.ds v1 rfl hm (H.out.h.below HS.out.2 HR.out.d) (Nat.le_trans HR.out.d HS.out.2.size)).mono ?_
  rintro e v2 ⟨B1, d1, rfl, y2, b2, _⟩
  replace Q := Lib.hid (Q.out.below b2)
  replace Y := Lib.hid (Y.out.below b2 (Nat.le_refl _))
  replace HS := Lib.hid (And.intro (HS.out.1.below b2) (HS.out.2.trans (b2.mono HS.out.2.size)))
  have D := Lib.hid y2
  have z2 := b2.size
  clear b2 y2
  refine hJ.out _ _ HS.out (fun _ => ?_)
  clear hJ J
  go_simp
  refine wpAnyH_take (i := 6) (v := (.agg #[.slice A1 x.s.ss.length c1, .int .i64 x.s.f, .int .i64 x.s.l, .int .i64 x.s.r, .int .i64 x.s.c, .slice B1 x.ds.length d1, .int .i64 x.q])) rfl (by kernel_rfl) (by kernel_rfl) (by kernel_rfl) (fun _ _ _ h => h) (.inl ⟨rfl, fun V hS => ?y0⟩) HS.out ?_
  case y0 =>
    clear hS
    go_simp
  go_simp
  refine wpAnyH_ready (rs := [7]) (by kernel_rfl) (by simp) (AllReadyH.cons rfl (fun J hJ => ?_) AllReadyH.nil)
  skip
  obtain ⟨q0, q1, q2, q3, q4, q5, q6, qf⟩ := Q.out.cells7
  go_simp
  clear q0 q1 q2 q3 q4 q5 q6 qf
  obtain ⟨v3, hv3⟩ : ∃ v3, sets (w.heap.size + 1) 0 [.slice A1 x.s.ss.length c1, .int .i64 x.s.f, .int .i64 x.s.l, .int .i64 x.s.r, .int .i64 x.s.c, .slice B1 x.ds.length d1, .int .i64 x.q] v2 = v3 := ⟨_, rfl⟩
  have F := Lib.hid (new_sto (w := w) (g := w.heap.size + 1) (o := 0) (r := [.slice A1 x.s.ss.length c1, .int .i64 x.s.f, .int .i64 x.s.l, .int .i64 x.s.r, .int .i64 x.s.c, .slice B1 x.ds.length d1, .int .i64 x.q]) (v := v2) (n := v2.heap.size) (R := ⟨v.heap.size, v1.heap.size, v1.heap.size, v2.heap.size⟩) (A := A1) (B := B1) (x := x)
    ⟨.inl (Nat.le_refl _), Y.out, D.out⟩ ⟨zv, z2, Nat.le_trans zv z1, Nat.le_refl _⟩ (Nat.le_refl _) HS.out.2 (by omega))
  replace Q := Lib.hid (Q.out.put7 (.slice A1 x.s.ss.length c1) (.int .i64 x.s.f) (.int .i64 x.s.l) (.int .i64 x.s.r) (.int .i64 x.s.c) (.slice B1 x.ds.length d1) (.int .i64 x.q))
  replace HS := Lib.hid (And.intro (HS.out.1.sto (r := [.slice A1 x.s.ss.length c1, .int .i64 x.s.f, .int .i64 x.s.l, .int .i64 x.s.r, .int .i64 x.s.c, .slice B1 x.ds.length d1, .int .i64 x.q]) (o := 0) (g := w.heap.size + 1) (by omega)) F.out.2.2)
  rw [hv3] at F Q HS
  change J _ (sets (w.heap.size + 1) 0 [.slice A1 x.s.ss.length c1, .int .i64 x.s.f, .int .i64 x.s.l, .int .i64 x.s.r, .int .i64 x.s.c, .slice B1 x.ds.length d1, .int .i64 x.q] v2)
  rw [hv3]
  clear hv3
  refine hJ.out _ _ HS.out (fun _ => ?_)
  clear hJ J
  go_simp
  refine wpAnyH_done (by kernel_rfl) ?_ _
  obtain ⟨q0, q1, q2, q3, q4, q5, q6, qf⟩ := Q.out.cells7
  go_wp2_with fail
  exact bodyPost_ret (v := .agg #[.slice A1 x.s.ss.length c1, .int .i64 x.s.f, .int .i64 x.s.l, .int .i64 x.s.r, .int .i64 x.s.c, .slice B1 x.ds.length d1, .int .i64 x.q]) (by simp [results, Try.results70, go_sem, q0, q1, q2, q3, q4, q5, q6]) rfl ⟨_, A1, c1, B1, d1, rfl, F.out⟩
end Go.Proofs.Ytpjelojmkmednaa.Ln
