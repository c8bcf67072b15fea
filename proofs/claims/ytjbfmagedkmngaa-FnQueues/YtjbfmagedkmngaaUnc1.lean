/- The copy of any slice of slots, and what unchanged answers. -/
import Derived.Test.YtjbfmagedkmngaaPla1
namespace Go.Proofs.Ytjbfmagedkmngaa.Que
open Go.RowKit Go.Deep Base Rng

set_option maxHeartbeats 400000 in
theorem clone_zero (a : Addr) (cap : Nat) (w : World) : Calls Try.prog 60 #[.slice (some a) 0 cap] w (NewS w 0 []) := by
  obtain ⟨i0, hi0, hz0, hz1, hz2⟩ := info_parts infoSlot
  have Hi0 := Lib.hid hi0
  have Hz0 := Lib.hid hz0
  have Hz1 := Lib.hid hz1
  have Hz2 := Lib.hid hz2
  clear hi0 hz0 hz1 hz2
  have hnil := fun W => Lib.run_eql_slice_nil (P := Try.prog) W 24 51 (some a) 0 cap 0 0 Try.underlying24
  go_enter Try.func60, Try.ntmps60
  go_wp2_with (at_builtin; refine wpList_append_own _ rfl _ _ 24 rfl w.heap.size 51 i0 _ 4 32 Try.underlying24 Hi0.out Hz0.out Hz1.out Hz2.out rfl (by decide) _ 0 [] rfl ?c0h a 0 cap [] rfl ?c6h ?c1h ?c2h ?c3h ?c4h ?c5h ?_)
  case c0h =>
    have h := World.ownsRow_lit (base := w.heap.size) (e := 51) (size := 4) w #[] 0 (Nat.le_refl _) (by simp) (by simp)
    simp at h
    exact h
  case c6h => rfl
  case c1h => intro j v hv; simp at hv
  case c2h => intro u hu; cases hu
  case c3h => unfold maxLen; omega
  case c4h => omega
  case c5h => simp
  · intro v' w1 hown hgr _
    obtain ⟨A', cap', rfl⟩ := owns_form hown
    have Hg := Lib.hid hgr
    clear hown hgr
    go_wp2
    go_ret
    refine ⟨A', cap', rfl, fun h => absurd h (by simp), (bel_alloc w _).grown Hg.out (by simp) (fun k e => ?_)⟩
    simp [Value.ownBlock] at e
    omega

theorem clone_none (cap : Nat) (w : World) : Calls Try.prog 60 #[.slice none 0 cap] w (NewS w 0 []) := by
  have hnil := fun W => Lib.run_eql_slice_nil (P := Try.prog) W 24 51 none 0 cap 0 0 Try.underlying24
  go_enter Try.func60, Try.ntmps60
  go_wp2
  go_ret
  exact ⟨none, 0, rfl, fun h => absurd h (by simp), Below.refl _ _⟩

theorem clone_sl (A : Option Addr) (n cap lo hi : Nat) (ss : List Sl) (w : World) (hn : ss.length = n) (hm : n ≤ 1048576) (h : SlV w lo hi A ss) (hhi : hi ≤ w.heap.size) :
    Calls Try.prog 60 #[.slice A n cap] w (NewS w n ss) := by
  cases hs : ss with
  | nil =>
    subst hs
    simp at hn
    subst hn
    cases A with
    | none => exact clone_none cap w
    | some a => exact clone_zero a cap w
  | cons x t =>
    rw [← hs]
    obtain ⟨g, rfl, _, h2, h3⟩ := h (by rw [hs]; simp)
    exact clone_any g n cap ss w hn hm h3 (by omega)

set_option maxRecDepth 100000 in
set_option maxHeartbeats 1000000 in
theorem unchanged_any (A : Option Addr) (n cap lo hi : Nat) (ss : List Sl) (f l r c : Int) (w : World) (hn : ss.length = n) (hm : n ≤ 1048576) (h : SlV w lo hi A ss) (hhi : hi ≤ w.heap.size) :
    Calls Try.prog 47 #[.agg #[.slice A n cap, .int .i64 f, .int .i64 l, .int .i64 r, .int .i64 c]] w (NewQ w n ss f l r c) := by
  have Hn := Lib.hid hn
  have HS := Lib.hid h
  have Hhi := Lib.hid hhi
  clear h hn hhi
  go_enter Try.func47, Try.ntmps47
  go_wp2_with fail
  have hB0 : Below w.heap.size w ((w.alloc (.cells #[.slice A n cap, .int .i64 f, .int .i64 l, .int .i64 r, .int .i64 c] 26)).alloc (.cells #[.slice none 0 0, .int .i64 0, .int .i64 0, .int .i64 0, .int .i64 0] 26)) := ((Below.refl _ _).alloc (Nat.le_refl _) _).alloc (by simp) _
  refine (clone_sl A n cap lo hi ss _ Hn.out hm (HS.out.below hB0 Hhi.out) (by have := Hhi.out; simp; omega)).mono ?_
  rintro e w1 ⟨A1, c1, rfl, v1, b1⟩
  have K1 : Hid (Blk5 w1 w.heap.size _ _ _ _ _) := Blk5.below (Blk5.alloc (heap_alloc_new w _) _) b1
  have K2 : Hid (Blk5 w1 (w.heap.size + 1) (.slice none 0 0) (.int .i64 0) (.int .i64 0) (.int .i64 0) (.int .i64 0)) := by
    have h := heap_alloc_new (w.alloc (.cells #[.slice A n cap, .int .i64 f, .int .i64 l, .int .i64 r, .int .i64 c] 26)) (.cells #[.slice none 0 0, .int .i64 0, .int .i64 0, .int .i64 0, .int .i64 0] 26)
    simp only [World.size_alloc] at h
    exact Blk5.below h b1
  have B1 := Lib.hid (bel_trans hB0 b1)
  have V1 : Hid (SlV w1 (w.heap.size + 1 + 1) w1.heap.size A1 ss) := by have h := v1; simp only [World.size_alloc] at h; exact h
  have z1 : w.heap.size + 1 < w1.heap.size := K2.out.lt
  clear b1 v1 hB0
  obtain ⟨d0, d1, d2, d3, d4, df⟩ := K1.out.cells
  obtain ⟨e0, e1, e2, e3, e4, ef⟩ := K2.out.cells
  go_wp2_with fail
  refine bodyPost_ret (v := .agg #[.slice A1 n c1, .int .i64 f, .int .i64 l, .int .i64 r, .int .i64 c]) (by simp [results, Try.results47, go_sem, e0, e1, e2, e3, e4]) rfl ⟨A1, c1, rfl, ?_, ?_⟩
  · refine SlV.wide (lo := w.heap.size + 1 + 1) (hi := w1.heap.size) ?_ (by omega) (by simp [World.setCell])
    iterate 6 refine SlV.setCell ?_ (by simp <;> omega) _
    exact V1.out
  · iterate 6 refine Below.setCell ?_ (by simp <;> omega) _
    exact B1.out
end Go.Proofs.Ytjbfmagedkmngaa.Que
