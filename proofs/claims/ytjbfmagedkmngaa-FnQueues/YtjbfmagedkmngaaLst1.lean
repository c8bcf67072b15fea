/- What the reference's ListQueue answers. -/
import Derived.Test.YtjbfmagedkmngaaInt2
import Derived.Test.YtjbfmagedkmngaaPla1
namespace Go.Proofs.Ytjbfmagedkmngaa.Que
open Go.RowKit Go.Deep Base

def listA (ss : List Sl) (f l r c : Int) : List Int := if okQ ss f l r c = true then idsOf ss (usOf ss f) else []
theorem listA_no {ss : List Sl} {f l r c : Int} (h : okQ ss f l r c = false) : listA ss f l r c = [] := by unfold listA; rw [if_neg (by rw [h]; simp)]
theorem listA_val {ss : List Sl} {f l r c : Int} {us fs : List Nat} (v : Val ss f l r c us fs) : listA ss f l r c = idsOf ss us := by unfold listA; rw [if_pos (val_ok v), val_us v]

/-- Between two rounds: the row of the Ids so far. -/
structure ListSt (B : Nat) (W wr : World) (v : Value) (ids : List Int) : Prop where
  own : wr.ownsRow B 3 1 v ids.length (ids.map (Value.int .i64))
  old : Below B W wr
theorem ListSt.step {B : Nat} {W wr w1 : World} {v v' : Value} {ids : List Int} {x : Int} {o : Obj} (h : ListSt B W wr v ids) (hB : B = W.heap.size) (hown : w1.ownsRow B 3 1 v' (ids.length + 1) (ids.map (Value.int .i64) ++ [.int .i64 x])) (hg : (wr.alloc o).grownBy w1 v.ownBlock) : ListSt B W w1 v' (ids ++ [x]) := by
  have hsz : B ≤ wr.heap.size := by rw [hB]; exact h.old.size
  refine ⟨by simpa using hown, (h.old.alloc hsz o).grown hg (by simp; omega) (fun j e => by have := (h.own.lt j e).1; omega)⟩
theorem grown_below {w w' : World} (h : Below w.heap.size w w') (row : Option Nat) : w.grownBy w' row := ⟨h.os, h.tape, h.output, h.size, fun i hi _ => h.block i hi⟩

set_option maxRecDepth 100000 in
set_option maxHeartbeats 2000000 in
theorem specList_any (A : Option Addr) (n cap : Nat) (ss : List Sl) (f l r c : Int) (lo hi : Nat) (w : World) (hn : ss.length = n) (hm : n ≤ 1048576) (h : SlV w lo hi A ss) (hhi : hi ≤ w.heap.size) :
    Calls Try.prog 37 #[.agg #[.slice A n cap, .int .i64 f, .int .i64 l, .int .i64 r, .int .i64 c]] w (NewI w (listA ss f l r c)) := by
  have Hn := Lib.hid hn
  have HS := Lib.hid h
  have Hhi := Lib.hid hhi
  clear h hn hhi
  go_enter Try.func37, Try.ntmps37
  go_wp2_with fail
  have hB0 : Below w.heap.size w ((w.alloc (.cells #[.slice A n cap, .int .i64 f, .int .i64 l, .int .i64 r, .int .i64 c] 26)).alloc (.cells #[] 3)) := bel_trans (bel_alloc w _) (bel_alloc _ _)
  have X0 : Blk5 ((w.alloc (.cells #[.slice A n cap, .int .i64 f, .int .i64 l, .int .i64 r, .int .i64 c] 26)).alloc (.cells #[] 3)) w.heap.size (.slice A n cap) (.int .i64 f) (.int .i64 l) (.int .i64 r) (.int .i64 c) := Blk5.alloc (heap_alloc_new w _) _
  have O0 := World.ownsRow_lit (base := w.heap.size + 1) (e := 3) (size := 1) (w.alloc (.cells #[.slice A n cap, .int .i64 f, .int .i64 l, .int .i64 r, .int .i64 c] 26)) #[] 0 (by simp) (by simp) (by simp)
  refine (specQueueOk_any A n cap lo hi f l r c ss _ Hn.out hm (HS.out.below hB0 Hhi.out) (by have := Hhi.out; simp; omega)).mono ?_
  rintro e w1 ⟨rfl, b1⟩
  have X1 := Lib.hid (X0.below b1)
  have B1 := Lib.hid (bel_trans hB0 b1)
  have V1 := Lib.hid (HS.out.below B1.out Hhi.out)
  have L1 : Hid (ListSt (w.heap.size + 1) (w.alloc (.cells #[.slice A n cap, .int .i64 f, .int .i64 l, .int .i64 r, .int .i64 c] 26)) w1 (.slice (some ⟨w.heap.size + 1, 0, none⟩) 0 0) []) := by
    refine ⟨?_, ?_⟩
    · have h := O0.kept (grown_below b1 none) (.inr (by simp [Value.ownBlock]))
      simpa using h
    · exact ((Below.refl _ _).alloc (by simp) _).trans (b1.mono (by simp))
  clear b1 X0 O0 hB0
  cases hok : okQ ss f l r c
  · have Ho := Lib.hid (listA_no hok)
    clear hok
    go_wp2_with fail
    go_ret
    exact ⟨none, 0, by rw [Ho.out]; rfl, by rw [Ho.out]; exact IV.nil _ _ _ _, B1.out⟩
  obtain ⟨us, fs, v⟩ := ok_val hok
  clear hok
  have hn := Hn.out
  rw [v.len] at hn
  subst hn
  have Hv := Lib.hid v
  have Hus := Lib.hid (seg_head v.seg)
  have hul : us.length ≤ 60 := by have := v.full; rw [List.length_append] at this; omega
  have Hul := Lib.hid hul
  have Hi := Lib.hid (listA_val v)
  clear v V1 hul
  have HW : Hid (∀ wr, Below (w.heap.size + 1) (w.alloc (.cells #[.slice A 60 cap, .int .i64 f, .int .i64 l, .int .i64 r, .int .i64 c] 26)) wr → Blk5 wr w.heap.size (.slice A 60 cap) (.int .i64 f) (.int .i64 l) (.int .i64 r) (.int .i64 c) ∧ SlV wr lo hi A ss ∧ Below w.heap.size w wr) := fun wr hb =>
    ⟨Blk5.of_block (heap_alloc_new w _) (hb.block _ (by omega)), HS.out.below ((bel_alloc w _).trans (hb.mono (by omega))) Hhi.out, (bel_alloc w _).trans (hb.mono (by omega))⟩
  obtain ⟨x0, x1, x2, x3, x4, xf⟩ := X1.out.cells
  go_wp2_with fail
  clear x0 x1 x2 x3 x4 xf
  go_loopw [3, 4] (fun v p wr => ∃ pre suf, us = pre ++ suf ∧ p = .int .i64 (headOf suf) ∧ ListSt (w.heap.size + 1) (w.alloc (.cells #[.slice A 60 cap, .int .i64 f, .int .i64 l, .int .i64 r, .int .i64 c] 26)) wr v (idsOf ss pre)) (fun _ p _ => left us (intOf p))
  case atStart => exact ⟨[], us, rfl, by rw [← Hus.out], L1.out⟩
  case round =>
    obtain ⟨pre, suf, hus, rfl, hst⟩ := hrel
    have Hst := Lib.hid hst
    clear hst L1 X1 B1
    obtain ⟨hbx, hsv, hbw⟩ := HW.out _ Hst.out.old
    obtain ⟨x0, x1, x2, x3, x4, xf⟩ := hbx.cells
    have Hbw := Lib.hid hbw
    have Hsv := Lib.hid hsv
    clear hbx hsv hbw
    cases suf with
    | nil =>
      rw [List.append_nil] at hus
      subst hus
      obtain ⟨A', cap', rfl⟩ := owns_form Hst.out.own
      simp only [headOf]
      go_wp2
      go_ret
      refine ⟨A', cap', by rw [Hi.out]; rfl, ?_, Hbw.out⟩
      rw [Hi.out]
      exact (iv_owns Hst.out.own).wide (by omega) (Nat.le_refl _)
    | cons x suf =>
      subst hus
      have hx60 : x < 60 := Hv.out.lt x (by simp)
      obtain ⟨g, rfl, hg1, hg2, hrd⟩ := Hsv.out (by rw [Hv.out.len]; omega)
      obtain ⟨c0, c1, c2, c3, _⟩ := hrd x (by rw [Hv.out.len]; exact hx60)
      have hx0 : (0 : Int) ≤ (x : Int) := by omega
      have hx1 : (x : Int) < 60 := by omega
      have hxn : ((x : Int) != -1) = true := by simp
      have Hnx := Lib.hid (seg_next Hv.out.seg)
      have hnd : (pre ++ x :: suf).Nodup := (List.nodup_append.1 Hv.out.nd).1
      have Hlt := Lib.hid (left_less hnd)
      clear hnd hrd
      obtain ⟨s, hs⟩ : ∃ s, ss.getD x zSl = s := ⟨_, rfl⟩
      have hs' : sl ss x = s := hs
      rw [hs] at c0 c1 c2 c3
      have Hs := Lib.hid hs'
      have Hs0 := Lib.hid hs
      clear hs hs'
      obtain ⟨sid, sprev, snext, sused⟩ := s
      dsimp only at c0 c1 c2 c3
      have hnx : snext = headOf suf := by have := Hnx.out; rw [Hs.out] at this; exact this
      subst hnx
      simp only [headOf]
      generalize hnq : headOf suf = nq at c2 Hlt Hs Hs0
      have Hnq := Lib.hid hnq
      clear hnq
      obtain ⟨i0, hi0, hz0, hz1, hz2⟩ := info_parts infoInt
      have Hi0 := Lib.hid hi0
      have Hz0 := Lib.hid hz0
      have Hz1 := Lib.hid hz1
      have Hz2 := Lib.hid hz2
      clear hi0 hz0 hz1 hz2
      have hsz : w.heap.size + 1 ≤ wr.heap.size := by have := Hst.out.old.size; simpa using this
      have hpl : pre.length ≤ 60 := by have := Hul.out; rw [List.length_append] at this; omega
      have Hpl := Lib.hid hpl
      clear hpl
      go_wp2_with (at_builtin; refine wpList_append_own _ rfl _ _ 28 rfl (w.heap.size + 1) 3 i0 (.int .i64 0) 1 8 Try.underlying28 Hi0.out Hz0.out Hz1.out Hz2.out rfl (by decide) _ _ _ rfl (Hst.out.own.alloc _) ⟨wr.heap.size, 0, none⟩ 1 1 [.int .i64 sid] rfl rfl ?c1h ?c2h ?c3h ?c4h ?c5h ?_)
      case c1h => exact new_one_at rfl _ _
      case c2h => simp [Value.oneCell']
      case c3h => rw [idsOf_len]; have := Hpl.out; unfold maxLen; omega
      case c4h => rw [idsOf_len]; have := Hpl.out; omega
      case c5h => simp; omega
      · intro v' w1 hown hg _
        have hst1 := Hst.out.step (by simp) hown hg
        obtain ⟨hbx, hsv, _⟩ := HW.out _ hst1.old
        obtain ⟨d0, _, _, _, _, _⟩ := hbx.cells
        obtain ⟨g', e', _, _, hcs⟩ := hsv (by rw [Hv.out.len]; omega)
        cases e'
        obtain ⟨_, _, e2, _, _⟩ := hcs x (by rw [Hv.out.len]; exact hx60)
        rw [Hs0.out] at e2
        have HQ : Hid (ListSt (w.heap.size + 1) (w.alloc (.cells #[.slice (some ⟨g, 0, none⟩) 60 cap, .int .i64 f, .int .i64 l, .int .i64 r, .int .i64 c] 26)) w1 v' (idsOf ss (pre ++ [x]))) := by
          have := idsOf_snoc ss pre x
          rw [Hs.out] at this
          show ListSt _ _ _ _ _
          rw [this]; exact hst1
        clear hst1 hown hg hcs hbx hsv x0 x1 x2 x3 x4 xf c0 c1 c2 c3
        dsimp only at e2
        go_wp2
        go_roundw
        case rel => exact ⟨pre ++ [x], suf, by simp, congrArg (Value.int .i64) Hnq.out.symm, HQ.out⟩
        case measure => exact Hlt.out
end Go.Proofs.Ytjbfmagedkmngaa.Que
