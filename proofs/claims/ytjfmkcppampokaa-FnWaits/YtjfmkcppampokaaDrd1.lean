/- The draw of Redials: some configuration and some list of draws, at most 301. -/
import Derived.Test.YtjfmkcppampokaaDcf3
import Derived.Test.YtjfmkcppampokaaIntN
namespace Go.Proofs.Ytjfmkcppampokaa.Draw
open Go.RowKit Go.Deep Base Rw

theorem size_any (A : Option Addr) (n cap : Nat) (w : World) (hn : n ≤ 1048576) :
    Calls Try.prog 34 #[.slice A n cap, .int .i64 20] w fun e w' => (∃ x, e = .returned (.int .i64 x) ∧ 2 ≤ x ∧ x ≤ 20) ∧ w = w' := by
  obtain ⟨p, hp⟩ : ∃ p : Nat, n / 16 = p := ⟨_, rfl⟩
  have hd : ((n : Int)).tdiv 16 = (p : Int) := by
    rw [Int.tdiv_eq_ediv_of_nonneg (by omega)]; omega
  have hp1 : p ≤ 1048576 := by omega
  clear hp
  have h1 : 0 ≤ (2 : Int) + (p : Int) ∧ (2 : Int) + (p : Int) ≤ 1048578 := by omega
  have hw : IntKind.i64.wrap (p : Int) = (p : Int) := IntWalk.i64_in _ (by omega)
  have hw2 : IntKind.i64.wrap (2 + (p : Int)) = 2 + (p : Int) := IntWalk.i64_in _ (by omega)
  by_cases h60 : (20 : Int) < 2 + (p : Int)
  · go_enter Try.func34, Try.ntmps34
    go_wp2
    go_ret
    exact ⟨⟨20, rfl, by omega, by omega⟩, rfl⟩
  · go_enter Try.func34, Try.ntmps34
    go_wp2
    go_ret
    exact ⟨⟨_, rfl, by omega, by omega⟩, rfl⟩

theorem big_any (A : Option Addr) (n cap : Nat) (w : World) (hm : n ≤ maxLen) : Calls Try.prog 10 #[.slice A n cap] w fun e w' => e = .returned (.bool (decide (1048576 < n))) ∧ w = w' := by
  unfold maxLen at hm
  go_enter Try.func10, Try.ntmps10
  go_wp2
  go_ret
  exact ⟨ret_bool (by simp; omega), rfl⟩

theorem at_any (A : Option Addr) (n cap : Nat) (zs : List Int) (k : Nat) (hk : k ≤ 1000) (w : World) (B : Nat) (hn : zs.length = n) (hs : n ≤ 1048576) (hb : Bytes w B A zs) :
    Calls Try.prog 18 #[.slice A n cap, .int .i64 k] w fun e w' => (∃ x, e = .returned (.int .i64 x) ∧ 0 ≤ x ∧ x ≤ 255) ∧ w = w' := by
  have HB := Lib.hid hb
  have HN := Lib.hid hn
  clear hb hn
  by_cases h0 : k < n
  · obtain ⟨b, off, rfl, hlb, hcb⟩ := HB.out.2 (by have := HN.out; omega)
    have hz := HB.out.1 k (by have := HN.out; omega)
    have cz := hcb k (by have := HN.out; omega)
    clear hcb
    generalize zs.getD k 0 = z at hz cz
    obtain ⟨z0, z1⟩ := hz
    have h0' : (k : Int) < (n : Int) := by omega
    have hk0 : (0 : Int) ≤ (k : Int) := by omega
    go_enter Try.func18, Try.ntmps18
    go_wp2
    go_ret
    exact ⟨⟨z, rfl, z0, by omega⟩, rfl⟩
  · have h0' : ¬ (k : Int) < (n : Int) := by omega
    have hm : 0 ≤ ((k : Int) * 13 + (n : Int) * 5).tmod 256 ∧ ((k : Int) * 13 + (n : Int) * 5).tmod 256 ≤ 255 := by
      rw [Int.tmod_eq_emod_of_nonneg (by omega)]; omega
    go_enter Try.func18, Try.ntmps18
    go_wp2
    go_ret
    exact ⟨⟨_, rfl, by omega, by omega⟩, rfl⟩

theorem bel_of_grown {a b : World} {row : Option Nat} {B : Nat} (h : a.grownBy b row) (hr : ∀ j, row = some j → B ≤ j) (hB : B ≤ a.heap.size) : Below B a b :=
  ⟨h.os, h.tape, h.output, h.size, fun i hi => h.block i (by omega) (fun e => by have := hr i e.symm; omega)⟩

/-- While the draws of Redials are drawn: the cursor in block g, the configuration in block kb, the row u of the draws so far. -/
structure RdSt (w W : World) (g : Nat) (A : Option Addr) (n cap : Nat) (zs : List Int) (kb : Nat) (c : Nat → Int) (u : Value) (ids : List Int) : Prop where
  cur : Cur W g A n cap zs
  kblk : W.heap[kb]? = some (.cells #[.int .i64 (c 0), .int .i64 (c 1), .int .i64 (c 2), .int .i64 (c 3), .int .i64 (c 4), .int .i64 (c 5), .int .i64 (c 6), .int .i64 (c 7), .int .i64 (c 8), .int .i64 (c 9), .int .i64 (c 10), .int .i64 (c 11), .int .i64 (c 12), .int .i64 (c 13)] 25 (0, 0))
  res : W.heap[w.heap.size]? = some (.cells #[.int .i64 0, .int .i64 0, .int .i64 0, .int .i64 0, .int .i64 0, .int .i64 0, .int .i64 0, .int .i64 0, .int .i64 0, .int .i64 0, .int .i64 0, .int .i64 0, .int .i64 0, .int .i64 0] 25 (0, 0))
  bel : Below w.heap.size w W
  own : W.ownsRow (kb + 1) 3 1 u ids.length (ids.map (Value.int .i64))
  lt1 : w.heap.size < g
  lt2 : g < kb

theorem RdSt.klt {w W : World} {g : Nat} {A : Option Addr} {n cap : Nat} {zs : List Int} {kb : Nat} {c : Nat → Int} {u : Value} {ids : List Int} (h : RdSt w W g A n cap zs kb c u ids) : kb < W.heap.size := row_lt h.kblk
theorem RdSt.ob {w W : World} {g : Nat} {A : Option Addr} {n cap : Nat} {zs : List Int} {kb : Nat} {c : Nat → Int} {u : Value} {ids : List Int} (h : RdSt w W g A n cap zs kb c u ids) : ∀ j, u.ownBlock = some j → kb + 1 ≤ j := fun j e => (h.own.lt j e).1

theorem RdSt.draw {w W : World} {g : Nat} {A : Option Addr} {n cap : Nat} {zs : List Int} {kb : Nat} {c : Nat → Int} {u : Value} {ids : List Int} {W' : World} (h : RdSt w W g A n cap zs kb c u ids) (hc : Cur W' g A n cap zs) (hg : W.grownBy W' (some g)) : RdSt w W' g A n cap zs kb c u ids := by
  have h1 := h.lt1
  have h2 := h.lt2
  have h3 := h.klt
  refine ⟨hc, (hg.block _ h3 (fun e => by injection e with e; omega)).trans h.kblk, (hg.block _ (by omega) (fun e => by injection e with e; omega)).trans h.res, h.bel.trans (grown_below hg (by omega) (by omega)), h.own.kept hg ?_, h1, h2⟩
  cases e : u.ownBlock with
  | none => exact .inl rfl
  | some j => exact .inr (fun e' => by injection e' with e'; have := h.ob j e; omega)

theorem RdSt.push {w W : World} {g : Nat} {A : Option Addr} {n cap : Nat} {zs : List Int} {kb : Nat} {c : Nat → Int} {u : Value} {ids : List Int} {W' : World} {o : Obj} {x : Int} {v : Value} (h : RdSt w W g A n cap zs kb c u ids) (hown : W'.ownsRow (kb + 1) 3 1 v (ids.length + 1) (ids.map (Value.int .i64) ++ [.int .i64 x])) (hg : (W.alloc o).grownBy W' u.ownBlock) : RdSt w W' g A n cap zs kb c v (ids ++ [x]) := by
  have h1 := h.lt1
  have h2 := h.lt2
  have h3 := h.klt
  have hb : Below (kb + 1) W W' := ((Below.refl _ W).alloc (by omega) o).trans (bel_of_grown hg h.ob (by simp; omega))
  exact ⟨h.cur.keep (hb.mono (by omega)), (hb.block _ (by omega)).trans h.kblk, (hb.block _ (by omega)).trans h.res, h.bel.trans (hb.mono (by omega)), by simpa using hown, h1, h2⟩

theorem RdSt.store {w W : World} {g : Nat} {A : Option Addr} {n cap : Nat} {zs : List Int} {kb : Nat} {c : Nat → Int} {u : Value} {ids : List Int} {c' : Nat → Int} (h : RdSt w W g A n cap zs kb c u ids) (i : Nat) (x : Int) (e : (#[.int .i64 (c 0), .int .i64 (c 1), .int .i64 (c 2), .int .i64 (c 3), .int .i64 (c 4), .int .i64 (c 5), .int .i64 (c 6), .int .i64 (c 7), .int .i64 (c 8), .int .i64 (c 9), .int .i64 (c 10), .int .i64 (c 11), .int .i64 (c 12), .int .i64 (c 13)] : Array Value).setIfInBounds i (.int .i64 x) = #[.int .i64 (c' 0), .int .i64 (c' 1), .int .i64 (c' 2), .int .i64 (c' 3), .int .i64 (c' 4), .int .i64 (c' 5), .int .i64 (c' 6), .int .i64 (c' 7), .int .i64 (c' 8), .int .i64 (c' 9), .int .i64 (c' 10), .int .i64 (c' 11), .int .i64 (c' 12), .int .i64 (c' 13)]) : RdSt w (W.setCell ⟨kb, i, none⟩ (.int .i64 x)) g A n cap zs kb c' u ids := by
  have h1 := h.lt1
  have h2 := h.lt2
  have hb : Below kb W (W.setCell ⟨kb, i, none⟩ (.int .i64 x)) := (Below.refl kb W).setCell (p := ⟨kb, i, none⟩) (Nat.le_refl kb) _
  refine ⟨h.cur.keep (hb.mono (by omega)), set_to h.kblk i _ _ e, (hb.block _ (by omega)).trans h.res, h.bel.trans (hb.mono (by omega)), h.own.kept (grown_set W kb i _) ?_, h1, h2⟩
  cases e : u.ownBlock with
  | none => exact .inl rfl
  | some j => exact .inr (fun e' => by injection e' with e'; have := h.ob j e; omega)

/-- What the draw of Redials hands back. -/
def DrewRed (w : World) (e : Ending) (w' : World) : Prop :=
  ∃ (c : Nat → Int) (A' : Option Addr) (cap' : Nat) (ds : List Int), e = .returned (.tuple #[.agg #[.int .i64 (c 0), .int .i64 (c 1), .int .i64 (c 2), .int .i64 (c 3), .int .i64 (c 4), .int .i64 (c 5), .int .i64 (c 6), .int .i64 (c 7), .int .i64 (c 8), .int .i64 (c 9), .int .i64 (c 10), .int .i64 (c 11), .int .i64 (c 12), .int .i64 (c 13)], .slice A' ds.length cap']) ∧ Ints w' A' ds ∧ ds.length ≤ 301 ∧ Below w.heap.size w w'

theorem drewRed_drew {w W' : World} {e : Ending} (h : DrewRed w e W') : DrewRed w e W'.drew := by
  obtain ⟨c, A', cap', ds, rfl, h1, h2, h3⟩ := h
  exact ⟨c, A', cap', ds, rfl, h1, h2, h3.drew⟩

theorem drewRed_end {w W W' : World} {c : Nat → Int} {A' : Option Addr} {cap' kb : Nat} {ids : List Int} (h : W.ownsRow (kb + 1) 3 1 (.slice A' ids.length cap') ids.length (ids.map (Value.int .i64))) (hb : Below w.heap.size w W) (hl : ids.length ≤ 301) (hk : w.heap.size < kb) (ht : Turns w.heap.size (w.heap.size + 1) W W') :
    DrewRed w (.returned (.tuple #[.agg #[.int .i64 (c 0), .int .i64 (c 1), .int .i64 (c 2), .int .i64 (c 3), .int .i64 (c 4), .int .i64 (c 5), .int .i64 (c 6), .int .i64 (c 7), .int .i64 (c 8), .int .i64 (c 9), .int .i64 (c 10), .int .i64 (c 11), .int .i64 (c 12), .int .i64 (c 13)], .slice A' ids.length cap'])) W' := by
  refine ⟨c, A', cap', ids, rfl, ?_, hl, hb.trans (ht.below (Nat.le_refl _) hb.size)⟩
  exact ((iv_owns h).turns ht (.inr (by omega)) (Nat.le_refl _)).ints

set_option maxRecDepth 100000 in
set_option maxHeartbeats 4000000 in
theorem drawRed_any (A : Option Addr) (n cap : Nat) (zs : List Int) (w : World) (hn : zs.length = n) (hs : n ≤ 1048576) (hb : Bytes w w.heap.size A zs) :
    Calls Try.prog 11 #[.slice A n cap] w (DrewRed w) := by
  have Hn := Lib.hid hn
  have HB := Lib.hid hb
  clear hn hb
  go_enter Try.func11, Try.ntmps11
  go_wp2_with fail
  have hb0 := bel_alloc w (.cells #[.int .i64 0, .int .i64 0, .int .i64 0, .int .i64 0, .int .i64 0, .int .i64 0, .int .i64 0, .int .i64 0, .int .i64 0, .int .i64 0, .int .i64 0, .int .i64 0, .int .i64 0, .int .i64 0] 25)
  have hr0 := heap_alloc_new w (.cells #[.int .i64 0, .int .i64 0, .int .i64 0, .int .i64 0, .int .i64 0, .int .i64 0, .int .i64 0, .int .i64 0, .int .i64 0, .int .i64 0, .int .i64 0, .int .i64 0, .int .i64 0, .int .i64 0] 25)
  have hz0 : (w.alloc (.cells #[.int .i64 0, .int .i64 0, .int .i64 0, .int .i64 0, .int .i64 0, .int .i64 0, .int .i64 0, .int .i64 0, .int .i64 0, .int .i64 0, .int .i64 0, .int .i64 0, .int .i64 0, .int .i64 0] 25)).heap.size = w.heap.size + 1 := by simp
  refine (draw04_any A n cap zs _ Hn.out hs ?hby).mono ?_
  case hby => exact ⟨HB.out.1, fun hp => by
    obtain ⟨b, off, e, hb, hc⟩ := HB.out.2 hp
    exact ⟨b, off, e, by omega, fun i hi => (hb0.cell (p := ⟨b, off + i, none⟩) hb).trans (hc i hi)⟩⟩
  rintro e w1 ⟨g, c, rfl, hg, hc1, b1⟩
  rw [hz0] at hg
  have hgl := hc1.lt
  go_wp2_with fail
  have S : Hid (RdSt w ((w1.alloc (.cells #[.int .i64 (c 0), .int .i64 (c 1), .int .i64 (c 2), .int .i64 (c 3), .int .i64 (c 4), .int .i64 (c 5), .int .i64 (c 6), .int .i64 (c 7), .int .i64 (c 8), .int .i64 (c 9), .int .i64 (c 10), .int .i64 (c 11), .int .i64 (c 12), .int .i64 (c 13)] 25)).alloc (.cells #[] 3)) g A n cap zs w1.heap.size c (.slice (some ⟨w1.heap.size + 1, 0, none⟩) 0 0) []) := by
    have ba := bel_trans (bel_alloc w1 (.cells #[.int .i64 (c 0), .int .i64 (c 1), .int .i64 (c 2), .int .i64 (c 3), .int .i64 (c 4), .int .i64 (c 5), .int .i64 (c 6), .int .i64 (c 7), .int .i64 (c 8), .int .i64 (c 9), .int .i64 (c 10), .int .i64 (c 11), .int .i64 (c 12), .int .i64 (c 13)] 25)) (bel_alloc _ (.cells #[] 3))
    have hk : (w1.alloc (.cells #[.int .i64 (c 0), .int .i64 (c 1), .int .i64 (c 2), .int .i64 (c 3), .int .i64 (c 4), .int .i64 (c 5), .int .i64 (c 6), .int .i64 (c 7), .int .i64 (c 8), .int .i64 (c 9), .int .i64 (c 10), .int .i64 (c 11), .int .i64 (c 12), .int .i64 (c 13)] 25)).heap[w1.heap.size]? = some (.cells #[.int .i64 (c 0), .int .i64 (c 1), .int .i64 (c 2), .int .i64 (c 3), .int .i64 (c 4), .int .i64 (c 5), .int .i64 (c 6), .int .i64 (c 7), .int .i64 (c 8), .int .i64 (c 9), .int .i64 (c 10), .int .i64 (c 11), .int .i64 (c 12), .int .i64 (c 13)] 25 (0, 0)) := heap_alloc_new w1 _
    have O0 := World.ownsRow_lit (base := w1.heap.size + 1) (e := 3) (size := 1) (w1.alloc (.cells #[.int .i64 (c 0), .int .i64 (c 1), .int .i64 (c 2), .int .i64 (c 3), .int .i64 (c 4), .int .i64 (c 5), .int .i64 (c 6), .int .i64 (c 7), .int .i64 (c 8), .int .i64 (c 9), .int .i64 (c 10), .int .i64 (c 11), .int .i64 (c 12), .int .i64 (c 13)] 25)) #[] 0 (by simp) (by simp) (by simp)
    exact ⟨(hc1.alloc _).alloc _, ((bel_alloc _ _).block _ (by simp)).trans hk, (ba.block _ (by omega)).trans ((b1.block _ (by rw [hz0]; omega)).trans hr0), bel_trans (bel_trans hb0 b1) ba, by simpa using O0, by omega, hgl⟩
  clear hb0 hr0 hz0 b1 hc1
  obtain ⟨W, hW⟩ : ∃ W, (w1.alloc (.cells #[.int .i64 (c 0), .int .i64 (c 1), .int .i64 (c 2), .int .i64 (c 3), .int .i64 (c 4), .int .i64 (c 5), .int .i64 (c 6), .int .i64 (c 7), .int .i64 (c 8), .int .i64 (c 9), .int .i64 (c 10), .int .i64 (c 11), .int .i64 (c 12), .int .i64 (c 13)] 25)).alloc (.cells #[] 3) = W := ⟨_, rfl⟩
  rw [hW] at S ⊢
  clear hW
  generalize w1.heap.size = kb at S hgl ⊢
  refine (size_any A n cap _ hs).mono ?_
  rintro e w' ⟨⟨q, rfl, q0, q1⟩, rfl⟩
  go_wp2_with fail
  refine (below_any g A n cap zs q _ S.out.cur).mono ?_
  rintro e w2 ⟨m, rfl, hx, hc, hg'⟩
  obtain ⟨m0, m1⟩ := hx.2 (by omega)
  replace S := Lib.hid (S.out.draw hc hg')
  clear hx hc hg'
  go_wp2_with fail
  refine (once_any g A n cap zs 40 _ S.out.cur).mono ?_
  rintro e w3 ⟨x, rfl, hc, hg'⟩
  replace S := Lib.hid (S.out.draw hc hg')
  clear hc hg'
  have hm : 0 ≤ m ∧ m ≤ 301 := by omega
  clear m0 m1 q0 q1
  cases x
  rotate_left
  · go_wp2_with fail
    refine (below_any g A n cap zs 2 _ S.out.cur).mono ?_
    rintro e w4 ⟨y, rfl, hx, hc, hg'⟩
    obtain ⟨y0, y1⟩ := hx.2 (by omega)
    replace S := Lib.hid (S.out.draw hc hg')
    clear hx hc hg'
    have s7 := row_at S.out.kblk 7 (by omega)
    have s8 := row_at S.out.kblk 8 (by omega)
    have sf : ∀ j, w4.frozen? ⟨kb, j, none⟩ = false := fun j => frozen_of_row _ _ j _ _ S.out.kblk
    go_wp2_with fail
    replace S := Lib.hid ((S.out.store (c' := upd c 8 1000000) 8 1000000 rfl).store (c' := upd (upd c 8 1000000) 7 1000000) 7 1000000 rfl)
    obtain ⟨w5, hw5⟩ : ∃ w5, (w4.setCell ⟨kb, 8, none⟩ (.int .i64 1000000)).setCell ⟨kb, 7, none⟩ (.int .i64 1000000) = w5 := ⟨_, rfl⟩
    rw [hw5] at S ⊢
    clear hw5 s7 s8 sf
    generalize upd (upd c 8 1000000) 7 1000000 = c at S
    clear hm
    have hm : 0 ≤ 300 + y ∧ 300 + y ≤ 301 := by omega
    generalize 300 + y = m at hm ⊢
    clear y0 y1
    obtain ⟨p, rfl⟩ := Int.eq_ofNat_of_zero_le hm.1
    go_loopw [6, 8] (fun v i wr => ∃ (u : Value) (k : Nat) (ids : List Int), u = v ∧ i = .int .i64 k ∧ k ≤ p ∧ ids.length = k ∧ RdSt w wr g A n cap zs kb c u ids) (fun _ i _ => p - (intOf i).toNat)
    case atStart => exact ⟨_, 0, [], rfl, rfl, Nat.zero_le _, rfl, S.out⟩
    case round =>
      obtain ⟨u, k, ids, rfl, rfl, hkp, hil, hst⟩ := hrel
      replace S := Lib.hid hst
      have Hil := Lib.hid hil
      clear hst hil
      by_cases hlt : k < p
      · have hlt' : (k : Int) < (p : Int) := by omega
        go_wp2_with fail
        refine (below_any g A n cap zs 1100 _ S.out.cur).mono ?_
        rintro e w6 ⟨y, rfl, hx, hc, hg'⟩
        obtain ⟨y0, y1⟩ := hx.2 (by omega)
        replace S := Lib.hid (S.out.draw hc hg')
        have hk6 := S.out.klt
        clear hx hc hg'
        obtain ⟨i0, hi0, hz0, hz1, hz2⟩ := info_parts infoInt
        have Hi0 := Lib.hid hi0
        have Hz0 := Lib.hid hz0
        have Hz1 := Lib.hid hz1
        have Hz2 := Lib.hid hz2
        clear hi0 hz0 hz1 hz2
        go_wp2_with (at_builtin; refine wpList_append_own _ rfl _ _ 26 rfl (kb + 1) 3 i0 (.int .i64 0) 1 8 Try.underlying26 Hi0.out Hz0.out Hz1.out Hz2.out rfl (by decide) _ _ _ rfl (S.out.own.alloc _) ⟨w6.heap.size, 0, none⟩ 1 1 [.int .i64 (y - 20)] rfl rfl ?c1h ?c2h ?c3h ?c4h ?c5h ?_)
        case c1h => exact new_one_at rfl _ _
        case c2h => simp [Value.oneCell']
        case c3h => rw [Hil.out]; unfold maxLen; omega
        case c4h => rw [Hil.out]; omega
        case c5h => simp; omega
        intro v' w7 hown hgr _
        have S7 := Lib.hid (S.out.push hown hgr)
        clear hown hgr
        go_wp2
        go_roundw
        case rel => exact ⟨_, k + 1, ids ++ [y - 20], rfl, by go_num, by omega, by rw [List.length_append, Hil.out]; rfl, S7.out⟩
        case measure => simp [intOf]; omega
      · have hlt' : ¬ (k : Int) < (p : Int) := by omega
        obtain ⟨A', cap', rfl⟩ := owns_form S.out.own
        have hcl : ∀ j, wr.frozen? ⟨w.heap.size, j, none⟩ = false := fun j => frozen_of_row _ _ j _ _ S.out.res
        have hcz : ∀ j, wr.cell? ⟨w.heap.size, j, none⟩ = (#[.int .i64 0, .int .i64 0, .int .i64 0, .int .i64 0, .int .i64 0, .int .i64 0, .int .i64 0, .int .i64 0, .int .i64 0, .int .i64 0, .int .i64 0, .int .i64 0, .int .i64 0, .int .i64 0] : Array Value)[j]? := fun j => cell_of_row _ _ j _ _ (0, 0) S.out.res
        have z0 : wr.cell? ⟨w.heap.size, 0, none⟩ = some (.int .i64 0) := hcz 0
        have z1 : wr.cell? ⟨w.heap.size, 1, none⟩ = some (.int .i64 0) := hcz 1
        have z2 : wr.cell? ⟨w.heap.size, 2, none⟩ = some (.int .i64 0) := hcz 2
        have z3 : wr.cell? ⟨w.heap.size, 3, none⟩ = some (.int .i64 0) := hcz 3
        have z4 : wr.cell? ⟨w.heap.size, 4, none⟩ = some (.int .i64 0) := hcz 4
        have z5 : wr.cell? ⟨w.heap.size, 5, none⟩ = some (.int .i64 0) := hcz 5
        have z6 : wr.cell? ⟨w.heap.size, 6, none⟩ = some (.int .i64 0) := hcz 6
        have z7 : wr.cell? ⟨w.heap.size, 7, none⟩ = some (.int .i64 0) := hcz 7
        have z8 : wr.cell? ⟨w.heap.size, 8, none⟩ = some (.int .i64 0) := hcz 8
        have z9 : wr.cell? ⟨w.heap.size, 9, none⟩ = some (.int .i64 0) := hcz 9
        have z10 : wr.cell? ⟨w.heap.size, 10, none⟩ = some (.int .i64 0) := hcz 10
        have z11 : wr.cell? ⟨w.heap.size, 11, none⟩ = some (.int .i64 0) := hcz 11
        have z12 : wr.cell? ⟨w.heap.size, 12, none⟩ = some (.int .i64 0) := hcz 12
        have z13 : wr.cell? ⟨w.heap.size, 13, none⟩ = some (.int .i64 0) := hcz 13
        have s0 : wr.cell? ⟨kb, 0, none⟩ = some (.int .i64 (c 0)) := cell_of_row _ _ 0 _ _ (0, 0) S.out.kblk
        have s1 : wr.cell? ⟨kb, 1, none⟩ = some (.int .i64 (c 1)) := cell_of_row _ _ 1 _ _ (0, 0) S.out.kblk
        have s2 : wr.cell? ⟨kb, 2, none⟩ = some (.int .i64 (c 2)) := cell_of_row _ _ 2 _ _ (0, 0) S.out.kblk
        have s3 : wr.cell? ⟨kb, 3, none⟩ = some (.int .i64 (c 3)) := cell_of_row _ _ 3 _ _ (0, 0) S.out.kblk
        have s4 : wr.cell? ⟨kb, 4, none⟩ = some (.int .i64 (c 4)) := cell_of_row _ _ 4 _ _ (0, 0) S.out.kblk
        have s5 : wr.cell? ⟨kb, 5, none⟩ = some (.int .i64 (c 5)) := cell_of_row _ _ 5 _ _ (0, 0) S.out.kblk
        have s6 : wr.cell? ⟨kb, 6, none⟩ = some (.int .i64 (c 6)) := cell_of_row _ _ 6 _ _ (0, 0) S.out.kblk
        have s7 : wr.cell? ⟨kb, 7, none⟩ = some (.int .i64 (c 7)) := cell_of_row _ _ 7 _ _ (0, 0) S.out.kblk
        have s8 : wr.cell? ⟨kb, 8, none⟩ = some (.int .i64 (c 8)) := cell_of_row _ _ 8 _ _ (0, 0) S.out.kblk
        have s9 : wr.cell? ⟨kb, 9, none⟩ = some (.int .i64 (c 9)) := cell_of_row _ _ 9 _ _ (0, 0) S.out.kblk
        have s10 : wr.cell? ⟨kb, 10, none⟩ = some (.int .i64 (c 10)) := cell_of_row _ _ 10 _ _ (0, 0) S.out.kblk
        have s11 : wr.cell? ⟨kb, 11, none⟩ = some (.int .i64 (c 11)) := cell_of_row _ _ 11 _ _ (0, 0) S.out.kblk
        have s12 : wr.cell? ⟨kb, 12, none⟩ = some (.int .i64 (c 12)) := cell_of_row _ _ 12 _ _ (0, 0) S.out.kblk
        have s13 : wr.cell? ⟨kb, 13, none⟩ = some (.int .i64 (c 13)) := cell_of_row _ _ 13 _ _ (0, 0) S.out.kblk
        clear hcz
        go_wp2
        refine bodyPost_ret (v := .tuple #[.agg #[.int .i64 (c 0), .int .i64 (c 1), .int .i64 (c 2), .int .i64 (c 3), .int .i64 (c 4), .int .i64 (c 5), .int .i64 (c 6), .int .i64 (c 7), .int .i64 (c 8), .int .i64 (c 9), .int .i64 (c 10), .int .i64 (c 11), .int .i64 (c 12), .int .i64 (c 13)], .slice A' ids.length cap']) (by simp [results, Try.results11, go_sem, z0, z1, z2, z3, z4, z5, z6, z7, z8, z9, z10, z11, z12, z13]) rfl ?_
        refine drewRed_end S.out.own S.out.bel (by have := Hil.out; omega) (by have := S.out.lt1; have := S.out.lt2; omega) ?_
        iterate 14 refine Turns.setCell ?_ (by show w.heap.size ≤ w.heap.size; omega) (by show w.heap.size < w.heap.size + 1; omega) _
        exact Turns.of_below (Below.refl _ _)
  · go_wp2_with fail
    obtain ⟨p, rfl⟩ := Int.eq_ofNat_of_zero_le hm.1
    go_loopw [6, 8] (fun v i wr => ∃ (u : Value) (k : Nat) (ids : List Int), u = v ∧ i = .int .i64 k ∧ k ≤ p ∧ ids.length = k ∧ RdSt w wr g A n cap zs kb c u ids) (fun _ i _ => p - (intOf i).toNat)
    case atStart => exact ⟨_, 0, [], rfl, rfl, Nat.zero_le _, rfl, S.out⟩
    case round =>
      obtain ⟨u, k, ids, rfl, rfl, hkp, hil, hst⟩ := hrel
      replace S := Lib.hid hst
      have Hil := Lib.hid hil
      clear hst hil
      by_cases hlt : k < p
      · have hlt' : (k : Int) < (p : Int) := by omega
        go_wp2_with fail
        refine (below_any g A n cap zs 1100 _ S.out.cur).mono ?_
        rintro e w6 ⟨y, rfl, hx, hc, hg'⟩
        obtain ⟨y0, y1⟩ := hx.2 (by omega)
        replace S := Lib.hid (S.out.draw hc hg')
        have hk6 := S.out.klt
        clear hx hc hg'
        obtain ⟨i0, hi0, hz0, hz1, hz2⟩ := info_parts infoInt
        have Hi0 := Lib.hid hi0
        have Hz0 := Lib.hid hz0
        have Hz1 := Lib.hid hz1
        have Hz2 := Lib.hid hz2
        clear hi0 hz0 hz1 hz2
        go_wp2_with (at_builtin; refine wpList_append_own _ rfl _ _ 26 rfl (kb + 1) 3 i0 (.int .i64 0) 1 8 Try.underlying26 Hi0.out Hz0.out Hz1.out Hz2.out rfl (by decide) _ _ _ rfl (S.out.own.alloc _) ⟨w6.heap.size, 0, none⟩ 1 1 [.int .i64 (y - 20)] rfl rfl ?c1h ?c2h ?c3h ?c4h ?c5h ?_)
        case c1h => exact new_one_at rfl _ _
        case c2h => simp [Value.oneCell']
        case c3h => rw [Hil.out]; unfold maxLen; omega
        case c4h => rw [Hil.out]; omega
        case c5h => simp; omega
        intro v' w7 hown hgr _
        have S7 := Lib.hid (S.out.push hown hgr)
        clear hown hgr
        go_wp2
        go_roundw
        case rel => exact ⟨_, k + 1, ids ++ [y - 20], rfl, by go_num, by omega, by rw [List.length_append, Hil.out]; rfl, S7.out⟩
        case measure => simp [intOf]; omega
      · have hlt' : ¬ (k : Int) < (p : Int) := by omega
        obtain ⟨A', cap', rfl⟩ := owns_form S.out.own
        have hcl : ∀ j, wr.frozen? ⟨w.heap.size, j, none⟩ = false := fun j => frozen_of_row _ _ j _ _ S.out.res
        have hcz : ∀ j, wr.cell? ⟨w.heap.size, j, none⟩ = (#[.int .i64 0, .int .i64 0, .int .i64 0, .int .i64 0, .int .i64 0, .int .i64 0, .int .i64 0, .int .i64 0, .int .i64 0, .int .i64 0, .int .i64 0, .int .i64 0, .int .i64 0, .int .i64 0] : Array Value)[j]? := fun j => cell_of_row _ _ j _ _ (0, 0) S.out.res
        have z0 : wr.cell? ⟨w.heap.size, 0, none⟩ = some (.int .i64 0) := hcz 0
        have z1 : wr.cell? ⟨w.heap.size, 1, none⟩ = some (.int .i64 0) := hcz 1
        have z2 : wr.cell? ⟨w.heap.size, 2, none⟩ = some (.int .i64 0) := hcz 2
        have z3 : wr.cell? ⟨w.heap.size, 3, none⟩ = some (.int .i64 0) := hcz 3
        have z4 : wr.cell? ⟨w.heap.size, 4, none⟩ = some (.int .i64 0) := hcz 4
        have z5 : wr.cell? ⟨w.heap.size, 5, none⟩ = some (.int .i64 0) := hcz 5
        have z6 : wr.cell? ⟨w.heap.size, 6, none⟩ = some (.int .i64 0) := hcz 6
        have z7 : wr.cell? ⟨w.heap.size, 7, none⟩ = some (.int .i64 0) := hcz 7
        have z8 : wr.cell? ⟨w.heap.size, 8, none⟩ = some (.int .i64 0) := hcz 8
        have z9 : wr.cell? ⟨w.heap.size, 9, none⟩ = some (.int .i64 0) := hcz 9
        have z10 : wr.cell? ⟨w.heap.size, 10, none⟩ = some (.int .i64 0) := hcz 10
        have z11 : wr.cell? ⟨w.heap.size, 11, none⟩ = some (.int .i64 0) := hcz 11
        have z12 : wr.cell? ⟨w.heap.size, 12, none⟩ = some (.int .i64 0) := hcz 12
        have z13 : wr.cell? ⟨w.heap.size, 13, none⟩ = some (.int .i64 0) := hcz 13
        have s0 : wr.cell? ⟨kb, 0, none⟩ = some (.int .i64 (c 0)) := cell_of_row _ _ 0 _ _ (0, 0) S.out.kblk
        have s1 : wr.cell? ⟨kb, 1, none⟩ = some (.int .i64 (c 1)) := cell_of_row _ _ 1 _ _ (0, 0) S.out.kblk
        have s2 : wr.cell? ⟨kb, 2, none⟩ = some (.int .i64 (c 2)) := cell_of_row _ _ 2 _ _ (0, 0) S.out.kblk
        have s3 : wr.cell? ⟨kb, 3, none⟩ = some (.int .i64 (c 3)) := cell_of_row _ _ 3 _ _ (0, 0) S.out.kblk
        have s4 : wr.cell? ⟨kb, 4, none⟩ = some (.int .i64 (c 4)) := cell_of_row _ _ 4 _ _ (0, 0) S.out.kblk
        have s5 : wr.cell? ⟨kb, 5, none⟩ = some (.int .i64 (c 5)) := cell_of_row _ _ 5 _ _ (0, 0) S.out.kblk
        have s6 : wr.cell? ⟨kb, 6, none⟩ = some (.int .i64 (c 6)) := cell_of_row _ _ 6 _ _ (0, 0) S.out.kblk
        have s7 : wr.cell? ⟨kb, 7, none⟩ = some (.int .i64 (c 7)) := cell_of_row _ _ 7 _ _ (0, 0) S.out.kblk
        have s8 : wr.cell? ⟨kb, 8, none⟩ = some (.int .i64 (c 8)) := cell_of_row _ _ 8 _ _ (0, 0) S.out.kblk
        have s9 : wr.cell? ⟨kb, 9, none⟩ = some (.int .i64 (c 9)) := cell_of_row _ _ 9 _ _ (0, 0) S.out.kblk
        have s10 : wr.cell? ⟨kb, 10, none⟩ = some (.int .i64 (c 10)) := cell_of_row _ _ 10 _ _ (0, 0) S.out.kblk
        have s11 : wr.cell? ⟨kb, 11, none⟩ = some (.int .i64 (c 11)) := cell_of_row _ _ 11 _ _ (0, 0) S.out.kblk
        have s12 : wr.cell? ⟨kb, 12, none⟩ = some (.int .i64 (c 12)) := cell_of_row _ _ 12 _ _ (0, 0) S.out.kblk
        have s13 : wr.cell? ⟨kb, 13, none⟩ = some (.int .i64 (c 13)) := cell_of_row _ _ 13 _ _ (0, 0) S.out.kblk
        clear hcz
        go_wp2
        refine bodyPost_ret (v := .tuple #[.agg #[.int .i64 (c 0), .int .i64 (c 1), .int .i64 (c 2), .int .i64 (c 3), .int .i64 (c 4), .int .i64 (c 5), .int .i64 (c 6), .int .i64 (c 7), .int .i64 (c 8), .int .i64 (c 9), .int .i64 (c 10), .int .i64 (c 11), .int .i64 (c 12), .int .i64 (c 13)], .slice A' ids.length cap']) (by simp [results, Try.results11, go_sem, z0, z1, z2, z3, z4, z5, z6, z7, z8, z9, z10, z11, z12, z13]) rfl ?_
        refine drewRed_end S.out.own S.out.bel (by have := Hil.out; omega) (by have := S.out.lt1; have := S.out.lt2; omega) ?_
        iterate 14 refine Turns.setCell ?_ (by show w.heap.size ≤ w.heap.size; omega) (by show w.heap.size < w.heap.size + 1; omega) _
        exact Turns.of_below (Below.refl _ _)
end Go.Proofs.Ytjfmkcppampokaa.Draw
