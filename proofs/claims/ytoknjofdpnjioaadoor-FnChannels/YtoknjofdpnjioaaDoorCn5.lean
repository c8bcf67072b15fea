/- The history of a channel: the states before all events and behind each. -/
import Derived.Test.YtoknjofdpnjioaaDoorCn4
import Derived.Test.YtoknjofdpnjioaaDoorRowO
namespace Go.Proofs.YtoknjofdpnjioaaDoor.Cn
open Go.RowKit Go.Deep Base Rw

/-- The state behind the first k events. -/
def stAt (es : List Int) : Nat → Int
  | 0 => 0
  | k + 1 => go (stAt es k) (es.getD k 0)

/-- The states before all events and behind each of the first k. -/
def histL (es : List Int) (k : Nat) : List Int := (List.range (k + 1)).map (stAt es)
theorem hist_len (es : List Int) (k : Nat) : (histL es k).length = k + 1 := by simp [histL]
theorem hist_at (es : List Int) {k i : Nat} (h : i ≤ k) : (histL es k).getD i 0 = stAt es i := by
  simp [histL, List.getD_eq_getElem?_getD, show i < k + 1 by omega]
theorem hist_succ (es : List Int) (k : Nat) : histL es (k + 1) = histL es k ++ [go (stAt es k) (es.getD k 0)] := by
  simp only [histL, List.range_succ (n := k + 1), List.map_append, List.map_cons, List.map_nil, stAt]

/-- The states behind each of the first k events. -/
def playL (es : List Int) (k : Nat) : List Int := (List.range k).map fun i => stAt es (i + 1)
theorem play_len (es : List Int) (k : Nat) : (playL es k).length = k := by simp [playL]
theorem play_at (es : List Int) {k i : Nat} (h : i < k) : (playL es k).getD i 0 = stAt es (i + 1) := by
  simp [playL, List.getD_eq_getElem?_getD, h]
theorem play_succ (es : List Int) (k : Nat) : playL es (k + 1) = playL es k ++ [go (stAt es k) (es.getD k 0)] := by
  simp only [playL, List.range_succ (n := k), List.map_append, List.map_cons, List.map_nil, stAt]

/-- Between two rounds: the row so far, the chart. -/
structure HiSt (b : Nat) (W wr : World) (v : Value) (ids : List Int) : Prop where
  own : wr.ownsRow W.heap.size 3 1 v ids.length (ids.map (Value.int .i64))
  old : Turns b (b + 1) W wr
  ch : Cht wr b

theorem HiSt.step {b : Nat} {W wr w1 : World} {v v' : Value} {ids : List Int} {x : Int} {o : Obj} (h : HiSt b W wr v ids) (hb : b < W.heap.size) (hown : w1.ownsRow W.heap.size 3 1 v' (ids.length + 1) (ids.map (Value.int .i64) ++ [.int .i64 x])) (hg : (wr.alloc o).grownBy w1 v.ownBlock) : HiSt b W w1 v' (ids ++ [x]) := by
  have hz := h.old.size
  have ho : ∀ k, k < W.heap.size → some k ≠ v.ownBlock := fun k hk e => by have := (h.own.lt k e.symm).1; omega
  have hg2 : ∀ k, k < W.heap.size → w1.heap[k]? = wr.heap[k]? := fun k hk => (hg.block k (by simp; omega) (ho k hk)).trans ((bel_alloc wr o).block k (by omega))
  refine ⟨by simpa using hown, ⟨hg.os.trans h.old.os, hg.tape.trans h.old.tape, hg.output.trans h.old.output, ?_, fun k hk ho' => (hg2 k hk).trans (h.old.block k hk ho')⟩, h.ch.of_block (hg2 b hb)⟩
  have := hg.size
  simp at this
  omega

theorem HiSt.keep {b : Nat} {W wr w2 : World} {v : Value} {ids : List Int} (h : HiSt b W wr v ids) (hb : b < W.heap.size) (ht : Turns b (b + 1) wr w2) (hc : Cht w2 b) : HiSt b W w2 v ids := by
  refine ⟨h.own.kept (row := some b) ⟨ht.os, ht.tape, ht.output, ht.size, fun i hi hne => ht.block i hi ?_⟩ (.inr fun e => ?_), h.old.trans ht, hc⟩
  · have : i ≠ b := fun e => hne (by rw [e])
    omega
  · have := (h.own.lt b e).1
    omega

theorem owns_cap {w : World} {base n cap : Nat} {e : TypeId} {A : Option Addr} {xs : List Value} (h : w.ownsRow base e 1 (.slice A n cap) n xs) : n ≤ cap := by
  rcases h.2 with ⟨hv, hn⟩ | ⟨g, cap', cur, hv, hb, hg, hle, hfr⟩
  · omega
  · injection hv with _ _ e
    omega

/-- How history ends. -/
def HistEnd (b : Nat) (es : List Int) (n : Nat) (w : World) (e : Ending) (w' : World) : Prop := ∃ A cap, e = .returned (.slice A (n + 1) cap) ∧ n + 1 ≤ cap ∧ IV w' w.heap.size w'.heap.size A (histL es n) ∧ Turns b (b + 1) w w'

set_option maxRecDepth 100000 in
set_option maxHeartbeats 1600000 in
theorem history_any (b : Nat) (A : Option Addr) (n cap : Nat) (es : List Int) (w : World) (hc : Cht w b) (hm : Mvs w) (hb1 : b ≠ 1) (hn : es.length = n) (hn3 : n ≤ 300) (h : ∀ W, Turns b (b + 1) w W → Ints W A es) :
    Calls Tryd.prog 31 #[.pointer (some ⟨b, 0, none⟩), .slice A n cap] w (HistEnd b es n w) := by
  have HM := Lib.hid hm
  have HC := Lib.hid hc
  have hbl : b < w.heap.size := hc.lt
  have Hn := Lib.hid hn
  have HS := Lib.hid h
  clear hm hc h hn
  have L1 : Hid (HiSt b w (w.alloc (.cells #[.int .i64 0] 3)) (.slice (some ⟨w.heap.size, 0, none⟩) 1 1) (histL es 0)) := Lib.hid ⟨(ListSt.one (W := w) 0).own, Turns.of_below (bel_alloc _ _), HC.out.below (bel_alloc _ _)⟩
  go_enter Tryd.func31, Tryd.ntmps31
  go_wp2
  go_loopw [5, 13] (fun v i wr => ∃ (u : Value) (k : Nat), u = v ∧ k ≤ n ∧ i = .int .i64 k ∧ HiSt b w wr u (histL es k)) (fun _ i _ => n - (intOf i).toNat)
  case atStart => exact ⟨_, 0, rfl, Nat.zero_le _, rfl, L1.out⟩
  case round =>
    obtain ⟨u, k, rfl, hk, rfl, hst⟩ := hrel
    have Hst := Lib.hid hst
    have z1 : w.heap.size ≤ wr.heap.size := hst.old.size
    clear hst L1
    by_cases hlt : k < n
    · obtain ⟨g, off, rfl, hc⟩ := HS.out wr Hst.out.old (by have := Hn.out; omega)
      have hck := hc k (by have := Hn.out; omega)
      clear hc
      have Hs := Lib.hid (hist_succ es k)
      obtain ⟨A', cap', rfl⟩ := owns_form Hst.out.own
      obtain ⟨g', rfl, hg1, hg2, hri⟩ := iv_owns Hst.out.own (by rw [hist_len]; omega)
      have hek := (hri k (by rw [hist_len]; omega)).1
      rw [hist_at es (Nat.le_refl k)] at hek
      clear hri
      rw [hist_len] at Hst ⊢
      generalize es.getD k 0 = z at hck Hs
      generalize stAt es k = s at hek Hs
      have HSt := Lib.hid (fun w => step_any b s z w)
      generalize go s z = s' at Hs HSt
      generalize hHL : histL es k = hl at Hst Hs
      have hll : hl.length = k + 1 := by rw [← hHL, hist_len]
      have Hll := Lib.hid hll
      clear hHL hll
      obtain ⟨i0, hi0, hz0, hz1, hz2⟩ := info_parts infoInt
      have Hi0 := Lib.hid hi0
      have Hz0 := Lib.hid hz0
      have Hz1 := Lib.hid hz1
      have Hz2 := Lib.hid hz2
      clear hi0 hz0 hz1 hz2
      go_wp2_with fail
      refine (HSt.out _ Hst.out.ch (HM.out.turn Hst.out.old (by omega)) hb1).mono ?_
      rintro e w2 ⟨rfl, hc2, ht2⟩
      replace Hst := Lib.hid (Hst.out.keep hbl ht2 hc2)
      have z2 : wr.heap.size ≤ w2.heap.size := ht2.size
      clear ht2 hc2 hck hek
      go_wp2_with (at_builtin; refine wpList_append_own _ rfl _ _ 24 rfl w.heap.size 3 i0 (.int .i64 0) 1 8 Tryd.underlying24 Hi0.out Hz0.out Hz1.out Hz2.out rfl (by decide) _ _ _ rfl (Hst.out.own.alloc _) ⟨w2.heap.size, 0, none⟩ 1 1 [.int .i64 s'] rfl rfl ?c1h ?c2h ?c3h ?c4h ?c5h ?_)
      case c1h => exact new_one_at rfl _ _
      case c2h => simp [Value.oneCell']
      case c3h => rw [Hll.out]; unfold maxLen; omega
      case c4h => rw [Hll.out]; omega
      case c5h => simp; omega
      · intro v' w4 hown hg _
        have hst1 := Hst.out.step hbl hown hg
        rw [← Hs.out] at hst1
        have HQ := Lib.hid hst1
        clear hst1 hown hg
        go_wp2
        go_roundw
        case rel => exact ⟨_, k + 1, rfl, by omega, by go_num, HQ.out⟩
        case measure => simp [intOf]; omega
    · obtain rfl : k = n := by omega
      obtain ⟨A', cap', rfl⟩ := owns_form Hst.out.own
      have hcap : k + 1 ≤ cap' := by
        have := Hst.out.own
        rw [hist_len] at this
        exact owns_cap this
      rw [hist_len] at Hst ⊢
      go_wp2
      go_ret
      exact ⟨A', cap', rfl, hcap, iv_owns (by have := Hst.out.own; rwa [hist_len] at this), Hst.out.old⟩
end Go.Proofs.YtoknjofdpnjioaaDoor.Cn
