/- The draw of Redials: some configuration and some list of draws, at most 301. -/
import Derived.Test.YtmmoelijpemlfaaDcf3
import Derived.Test.YtmmoelijpemlfaaIntN
namespace Go.Proofs.Ytmmoelijpemlfaa.Draw
open Go.RowKit Go.Deep Base Rw

theorem size_any (A : Option Addr) (n cap : Nat) (w : World) (hn : n ≤ 1048576) :
    Calls Try.prog 44 #[.slice A n cap, .int .i64 20] w fun e w' => (∃ x, e = .returned (.int .i64 x) ∧ 2 ≤ x ∧ x ≤ 20) ∧ w = w' := by
  obtain ⟨p, hp⟩ : ∃ p : Nat, n / 16 = p := ⟨_, rfl⟩
  have hd : ((n : Int)).tdiv 16 = (p : Int) := by
    rw [Int.tdiv_eq_ediv_of_nonneg (by omega)]; omega
  have hp1 : p ≤ 1048576 := by omega
  clear hp
  have h1 : 0 ≤ (2 : Int) + (p : Int) ∧ (2 : Int) + (p : Int) ≤ 1048578 := by omega
  have hw : IntKind.i64.wrap (p : Int) = (p : Int) := IntWalk.i64_in _ (by omega)
  have hw2 : IntKind.i64.wrap (2 + (p : Int)) = 2 + (p : Int) := IntWalk.i64_in _ (by omega)
  by_cases h60 : (20 : Int) < 2 + (p : Int)
  · go_enter Try.func44, Try.ntmps44
    go_wp2
    go_ret
    exact ⟨⟨20, rfl, by omega, by omega⟩, rfl⟩
  · go_enter Try.func44, Try.ntmps44
    go_wp2
    go_ret
    exact ⟨⟨_, rfl, by omega, by omega⟩, rfl⟩

theorem big_any (A : Option Addr) (n cap : Nat) (w : World) (hm : n ≤ maxLen) : Calls Try.prog 11 #[.slice A n cap] w fun e w' => e = .returned (.bool (decide (1048576 < n))) ∧ w = w' := by
  unfold maxLen at hm
  go_enter Try.func11, Try.ntmps11
  go_wp2
  go_ret
  exact ⟨ret_bool (by simp; omega), rfl⟩

theorem bel_of_grown {a b : World} {row : Option Nat} {B : Nat} (h : a.grownBy b row) (hr : ∀ j, row = some j → B ≤ j) (hB : B ≤ a.heap.size) : Below B a b :=
  ⟨h.os, h.tape, h.output, h.size, fun i hi => h.block i (by omega) (fun e => by have := hr i e.symm; omega)⟩

/-- While the draws of Redials are drawn: the cursor in block g, the configuration in block kb, the row u of the draws so far. -/
structure RdSt (w W : World) (g : Nat) (A : Option Addr) (n cap : Nat) (zs : List Int) (kb : Nat) (c : Nat → Int) (u : Value) (ids : List Int) : Prop where
  cur : Cur W g A n cap zs
  kblk : W.heap[kb]? = some (.cells #[.int .i64 (c 0), .int .i64 (c 1), .int .i64 (c 2), .int .i64 (c 3), .int .i64 (c 4), .int .i64 (c 5), .int .i64 (c 6), .int .i64 (c 7), .int .i64 (c 8), .int .i64 (c 9), .int .i64 (c 10), .int .i64 (c 11), .int .i64 (c 12), .int .i64 (c 13)] 25 (0, 0))
  res : W.heap[w.heap.size]? = some (.cells #[.int .i64 0, .int .i64 0, .int .i64 0, .int .i64 0, .int .i64 0, .int .i64 0, .int .i64 0, .int .i64 0, .int .i64 0, .int .i64 0, .int .i64 0, .int .i64 0, .int .i64 0, .int .i64 0] 25 (0, 0))
  bel : Below w.heap.size w W
  own : W.ownsRow (kb + 1) 3 1 u ids.length (ids.map (Value.int .i64))
  lt1 : w.heap.size < g
  lt2 : g < kb

theorem RdSt.klt {w W : World} {g : Nat} {A : Option Addr} {n cap : Nat} {zs : List Int} {kb : Nat} {c : Nat → Int} {u : Value} {ids : List Int} (h : RdSt w W g A n cap zs kb c u ids) : kb < W.heap.size := row_lt h.kblk
theorem RdSt.ob {w W : World} {g : Nat} {A : Option Addr} {n cap : Nat} {zs : List Int} {kb : Nat} {c : Nat → Int} {u : Value} {ids : List Int} (h : RdSt w W g A n cap zs kb c u ids) : ∀ j, u.ownBlock = some j → kb + 1 ≤ j := fun j e => (h.own.lt j e).1

theorem RdSt.draw {w W : World} {g : Nat} {A : Option Addr} {n cap : Nat} {zs : List Int} {kb : Nat} {c : Nat → Int} {u : Value} {ids : List Int} {W' : World} (h : RdSt w W g A n cap zs kb c u ids) (hc : Cur W' g A n cap zs) (hg : W.grownBy W' (some g)) : RdSt w W' g A n cap zs kb c u ids := by
  have h1 := h.lt1
  have h2 := h.lt2
  have h3 := h.klt
  refine ⟨hc, (hg.block _ h3 (fun e => by injection e with e; omega)).trans h.kblk, (hg.block _ (by omega) (fun e => by injection e with e; omega)).trans h.res, h.bel.trans (grown_below hg (by omega) (by omega)), h.own.kept hg ?_, h1, h2⟩
  cases e : u.ownBlock with
  | none => exact .inl rfl
  | some j => exact .inr (fun e' => by injection e' with e'; have := h.ob j e; omega)

theorem RdSt.push {w W : World} {g : Nat} {A : Option Addr} {n cap : Nat} {zs : List Int} {kb : Nat} {c : Nat → Int} {u : Value} {ids : List Int} {W' : World} {o : Obj} {x : Int} {v : Value} (h : RdSt w W g A n cap zs kb c u ids) (hown : W'.ownsRow (kb + 1) 3 1 v (ids.length + 1) (ids.map (Value.int .i64) ++ [.int .i64 x])) (hg : (W.alloc o).grownBy W' u.ownBlock) : RdSt w W' g A n cap zs kb c v (ids ++ [x]) := by
  have h1 := h.lt1
  have h2 := h.lt2
  have h3 := h.klt
  have hb : Below (kb + 1) W W' := ((Below.refl _ W).alloc (by omega) o).trans (bel_of_grown hg h.ob (by simp; omega))
  exact ⟨h.cur.keep (hb.mono (by omega)), (hb.block _ (by omega)).trans h.kblk, (hb.block _ (by omega)).trans h.res, h.bel.trans (hb.mono (by omega)), by simpa using hown, h1, h2⟩

theorem RdSt.store {w W : World} {g : Nat} {A : Option Addr} {n cap : Nat} {zs : List Int} {kb : Nat} {c : Nat → Int} {u : Value} {ids : List Int} {c' : Nat → Int} (h : RdSt w W g A n cap zs kb c u ids) (i : Nat) (x : Int) (e : (#[.int .i64 (c 0), .int .i64 (c 1), .int .i64 (c 2), .int .i64 (c 3), .int .i64 (c 4), .int .i64 (c 5), .int .i64 (c 6), .int .i64 (c 7), .int .i64 (c 8), .int .i64 (c 9), .int .i64 (c 10), .int .i64 (c 11), .int .i64 (c 12), .int .i64 (c 13)] : Array Value).setIfInBounds i (.int .i64 x) = #[.int .i64 (c' 0), .int .i64 (c' 1), .int .i64 (c' 2), .int .i64 (c' 3), .int .i64 (c' 4), .int .i64 (c' 5), .int .i64 (c' 6), .int .i64 (c' 7), .int .i64 (c' 8), .int .i64 (c' 9), .int .i64 (c' 10), .int .i64 (c' 11), .int .i64 (c' 12), .int .i64 (c' 13)]) : RdSt w (W.setCell ⟨kb, i, none⟩ (.int .i64 x)) g A n cap zs kb c' u ids := by
  have h1 := h.lt1
  have h2 := h.lt2
  have hb : Below kb W (W.setCell ⟨kb, i, none⟩ (.int .i64 x)) := (Below.refl kb W).setCell (p := ⟨kb, i, none⟩) (Nat.le_refl kb) _
  refine ⟨h.cur.keep (hb.mono (by omega)), set_to h.kblk i _ _ e, (hb.block _ (by omega)).trans h.res, h.bel.trans (hb.mono (by omega)), h.own.kept (grown_set W kb i _) ?_, h1, h2⟩
  cases e : u.ownBlock with
  | none => exact .inl rfl
  | some j => exact .inr (fun e' => by injection e' with e'; have := h.ob j e; omega)

/-- What the draw of Redials hands back. -/
def DrewRed (w : World) (e : Ending) (w' : World) : Prop :=
  ∃ (c : Nat → Int) (A' : Option Addr) (cap' : Nat) (ds : List Int), e = .returned (.tuple #[.agg #[.int .i64 (c 0), .int .i64 (c 1), .int .i64 (c 2), .int .i64 (c 3), .int .i64 (c 4), .int .i64 (c 5), .int .i64 (c 6), .int .i64 (c 7), .int .i64 (c 8), .int .i64 (c 9), .int .i64 (c 10), .int .i64 (c 11), .int .i64 (c 12), .int .i64 (c 13)], .slice A' ds.length cap']) ∧ Ints w' A' ds ∧ ds.length ≤ 301 ∧ Below w.heap.size w w'

theorem drewRed_drew {w W' : World} {e : Ending} (h : DrewRed w e W') : DrewRed w e W'.drew := by
  obtain ⟨c, A', cap', ds, rfl, h1, h2, h3⟩ := h
  exact ⟨c, A', cap', ds, rfl, h1, h2, h3.drew⟩

theorem drewRed_end {w W W' : World} {c : Nat → Int} {A' : Option Addr} {cap' kb : Nat} {ids : List Int} (h : W.ownsRow (kb + 1) 3 1 (.slice A' ids.length cap') ids.length (ids.map (Value.int .i64))) (hb : Below w.heap.size w W) (hl : ids.length ≤ 301) (hk : w.heap.size < kb) (ht : Turns w.heap.size (w.heap.size + 1) W W') :
    DrewRed w (.returned (.tuple #[.agg #[.int .i64 (c 0), .int .i64 (c 1), .int .i64 (c 2), .int .i64 (c 3), .int .i64 (c 4), .int .i64 (c 5), .int .i64 (c 6), .int .i64 (c 7), .int .i64 (c 8), .int .i64 (c 9), .int .i64 (c 10), .int .i64 (c 11), .int .i64 (c 12), .int .i64 (c 13)], .slice A' ids.length cap'])) W' := by
  refine ⟨c, A', cap', ids, rfl, ?_, hl, hb.trans (ht.below (Nat.le_refl _) hb.size)⟩
  exact ((iv_owns h).turns ht (.inr (by omega)) (Nat.le_refl _)).ints


end Go.Proofs.Ytmmoelijpemlfaa.Draw
