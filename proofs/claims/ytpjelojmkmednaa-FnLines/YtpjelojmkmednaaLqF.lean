/- The walk of the law of NewQueue. What PopFront answers: the program's, then the reference's. -/
import Derived.Test.YtpjelojmkmednaaLq3
import Derived.Test.YtpjelojmkmednaaLqC
namespace Go.Proofs.Ytpjelojmkmednaa.Que
open Go.RowKit Go.Deep Base

theorem size_undrew (w : World) : w.drew.heap.size = w.heap.size := rfl


end Go.Proofs.Ytpjelojmkmednaa.Que

namespace Go.Proofs.Ytpjelojmkmednaa.Que
open Go.RowKit Go.Deep Base Rng

theorem remEnd_new (n : Nat) (ss : List Sl) (f l r c p : Int) (hn : ss.length = n) : ∃ (ss' : List Sl) (f' l' r' c' v : Int), ss'.length = n ∧ ∀ w e w', RemEnd w n ss f l r c p e w' ↔ NewQ2 w n ss' f' l' r' c' (.int .i64 v) e w' := by
  by_cases h : canRem ss f l r c p = true
  · exact ⟨remS ss r p.toNat, _, _, _, _, (sl ss p.toNat).id, by rw [remS_len]; exact hn, fun w e w' => by unfold RemEnd; rw [if_pos h]⟩
  · exact ⟨ss, f, l, r, c, 0, hn, fun w e w' => by unfold RemEnd; rw [if_neg h]⟩

set_option maxRecDepth 100000 in
set_option maxHeartbeats 1000000 in
theorem implPop_any (A : Option Addr) (n cap lo hi : Nat) (ss : List Sl) (f l r c : Int) (w : World) (hn : ss.length = n) (hm : n ≤ 1048576) (h : SlV w lo hi A ss) (hhi : hi ≤ w.heap.size) :
    Calls Try.prog 44 #[.agg #[.slice A n cap, .int .i64 f, .int .i64 l, .int .i64 r, .int .i64 c]] w (RemEnd w n ss f l r c f) := by
  obtain ⟨ss', f', l', r', c', v, hn', hE⟩ := remEnd_new n ss f l r c f hn
  have HE := Lib.hid hE
  have Hn := Lib.hid hn
  have HS := Lib.hid h
  have Hhi := Lib.hid hhi
  clear h hn hhi hE hn'
  go_enter Try.func44, Try.ntmps44
  go_wp2_with fail
  have hB0 : Below w.heap.size w ((w.alloc (.cells #[.slice A n cap, .int .i64 f, .int .i64 l, .int .i64 r, .int .i64 c] 26)).alloc (.cells #[.slice none 0 0, .int .i64 0, .int .i64 0, .int .i64 0, .int .i64 0] 26)) := ((Below.refl _ _).alloc (Nat.le_refl _) _).alloc (by simp) _
  have hK0 : Blk5 ((w.alloc (.cells #[.slice A n cap, .int .i64 f, .int .i64 l, .int .i64 r, .int .i64 c] 26)).alloc (.cells #[.slice none 0 0, .int .i64 0, .int .i64 0, .int .i64 0, .int .i64 0] 26)) (w.heap.size + 1) (.slice none 0 0) (.int .i64 0) (.int .i64 0) (.int .i64 0) (.int .i64 0) := by
    have h := heap_alloc_new (w.alloc (.cells #[.slice A n cap, .int .i64 f, .int .i64 l, .int .i64 r, .int .i64 c] 26)) (.cells #[.slice none 0 0, .int .i64 0, .int .i64 0, .int .i64 0, .int .i64 0] 26)
    simp only [World.size_alloc] at h
    exact h
  refine (implRemove_any A n cap lo hi ss f l r c f _ Hn.out hm (HS.out.below hB0 Hhi.out) (by have := Hhi.out; simp; omega)).mono ?_
  intro e w1 hend
  obtain ⟨A1, c1, rfl, v1, b1⟩ := (HE.out _ _ _).1 hend
  clear hend
  have K1 : Hid (Blk5 w1 (w.heap.size + 1) (.slice none 0 0) (.int .i64 0) (.int .i64 0) (.int .i64 0) (.int .i64 0)) := Blk5.below hK0 b1
  have B1 := Lib.hid (bel_trans hB0 b1)
  have V1 := Lib.hid v1
  have z0 : w.heap.size + 1 < (((w.alloc (.cells #[.slice A n cap, .int .i64 f, .int .i64 l, .int .i64 r, .int .i64 c] 26)).alloc (.cells #[.slice none 0 0, .int .i64 0, .int .i64 0, .int .i64 0, .int .i64 0] 26))).heap.size := Blk5.lt hK0
  clear b1 v1
  obtain ⟨e0, e1, e2, e3, e4, ef⟩ := K1.out.cells
  go_wp2_with fail
  refine bodyPost_ret (v := .tuple #[.agg #[.slice A1 n c1, .int .i64 f', .int .i64 l', .int .i64 r', .int .i64 c'], .int .i64 v]) (by simp [results, (Try.results44), go_sem, e0, e1, e2, e3, e4]) rfl ((HE.out _ _ _).2 ⟨A1, c1, rfl, ?_, ?_⟩)
  · refine SlV.wide (lo := (((w.alloc (.cells #[.slice A n cap, .int .i64 f, .int .i64 l, .int .i64 r, .int .i64 c] 26)).alloc (.cells #[.slice none 0 0, .int .i64 0, .int .i64 0, .int .i64 0, .int .i64 0] 26))).heap.size) (hi := w1.heap.size) ?_ (by omega) (by simp [World.setCell])
    iterate 5 refine SlV.setCell ?_ (by exact z0) _
    exact V1.out
  · iterate 5 refine Below.setCell ?_ (by show w.heap.size ≤ w.heap.size + 1; omega) _
    exact B1.out


end Go.Proofs.Ytpjelojmkmednaa.Que
