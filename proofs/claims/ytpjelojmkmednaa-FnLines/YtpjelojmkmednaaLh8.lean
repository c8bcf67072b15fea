/- What spec.l03Copy makes. The reference's CancelDue. -/
import Derived.Test.YtpjelojmkmednaaLh7
import Derived.Deep.RegionLaw
import Derived.Deep.AppendLies
namespace Go.Proofs.Ytpjelojmkmednaa.Hp
open Go.RowKit Go.Deep Base

theorem cellsL_one (s : Du) : cellsL [s] = [.int .i64 s.at, .int .i64 s.seq, .int .i64 s.id] := rfl
theorem new_three_at {w : World} {B : Nat} (h : w.heap.size = B) (a b c : Value) (t : TypeId) : ∀ j u, [a, b, c][j]? = some u → (w.alloc (.cells #[a, b, c] t)).cell? ((⟨B, 0, none⟩ : Addr).add j) = some u := by
  subst h
  intro j u hj
  have ea : (⟨w.heap.size, 0, none⟩ : Addr).add j = ⟨w.heap.size, j, none⟩ := by
    unfold Addr.add; split
    · next h => subst h; rfl
    · simp
  rw [ea, cell_of_row _ _ j #[a, b, c] t (0, 0) (heap_alloc_new w _)]
  simpa using hj

theorem Blk2.set0 {w : World} {g : Nat} {v0 v1 : Value} (h : Blk2 w g v0 v1) (u : Value) : Blk2 (w.setCell ⟨g, 0, none⟩ u) g u v1 := by
  unfold Blk2 at h ⊢
  simp [World.setCell, Array.getElem?_modify, h]

theorem grown_set (w : World) (b o : Nat) (u : Value) : w.grownBy (w.setCell ⟨b, o, none⟩ u) (some b) :=
  ⟨rfl, rfl, rfl, by simp [World.setCell], fun k _ hk => heap_setCell_other w _ _ _ (fun e => hk (by rw [e]))⟩

theorem far_cells {wr w1 : World} {B : Nat} {v : Value} {e : TypeId} {size k : Nat} {xs : List Value} {o : Obj} (hg : (wr.alloc o).drew.grownBy w1 v.ownBlock) (h : wr.ownsRow B e size v k xs) :
    ∀ b j, b < B ∧ b < wr.heap.size → w1.cell? ⟨b, j, none⟩ = wr.cell? ⟨b, j, none⟩ := fun b j hb => by
  have e1 : w1.heap[b]? = (wr.alloc o).heap[b]? := hg.block b (by show b < (wr.alloc o).heap.size; simp; omega) (fun e => by have := (h.lt b e.symm).1; omega)
  exact World.cell?_of_block (w := wr) (e1.trans (Below.heap_alloc wr o b hb.2))
theorem far_frozen {wr w1 : World} {B : Nat} {v : Value} {e : TypeId} {size k : Nat} {xs : List Value} {o : Obj} (hg : (wr.alloc o).drew.grownBy w1 v.ownBlock) (h : wr.ownsRow B e size v k xs) :
    ∀ b j, b < B ∧ b < wr.heap.size → w1.frozen? ⟨b, j, none⟩ = wr.frozen? ⟨b, j, none⟩ := fun b j hb => by
  have e1 : w1.heap[b]? = (wr.alloc o).heap[b]? := hg.block b (by show b < (wr.alloc o).heap.size; simp; omega) (fun e => by have := (h.lt b e.symm).1; omega)
  exact World.frozen?_of_block (w := wr) (e1.trans (Below.heap_alloc wr o b hb.2))
theorem grown_undrew {a b : World} {row : Option Nat} (h : a.drew.grownBy b row) : a.grownBy b row := ⟨h.os, h.tape, h.output, h.size, h.block⟩

structure CopySt (B : Nat) (w wr : World) (v q : Value) (k : Nat) (ds : List Du) : Prop where
  box : Blk2 wr (B + 1 + 1) v q
  own : wr.ownsRow (B + 1 + 1 + 1) 80 3 v k (cellsL (ds.take k))
  old : Below (B + 1 + 1) w wr

theorem CopySt.step {B : Nat} {w wr w1 : World} {v v' q : Value} {k : Nat} {ds : List Du} {o : Obj} (h : CopySt B w wr v q k ds) {xs : List Value} (hx : cellsL (ds.take (k + 1)) = xs) (hown : w1.ownsRow (B + 1 + 1 + 1) 80 3 v' (k + 1) xs) (hg : (wr.alloc o).grownBy w1 v.ownBlock) :
    CopySt B w (w1.setCell ⟨B + 1 + 1, 0, none⟩ v') v' q (k + 1) ds := by
  have hlt := h.box.lt
  have hne : some (B + 1 + 1) ≠ v.ownBlock := fun e => by have := (h.own.lt _ e.symm).1; omega
  have hb1 : Blk2 w1 (B + 1 + 1) v q := (h.box.alloc o).of_block (hg.block _ (by simp; omega) hne)
  refine ⟨hb1.set0 v', ?_, ?_⟩
  · rw [hx]
    refine hown.kept (grown_set _ _ _ _) (.inr fun e => ?_)
    have := (hown.lt _ e).1
    omega
  · exact ((h.old.alloc (by omega) o).grown hg (by simp; omega) (fun j e => by have := (h.own.lt j e).1; omega)).setCell (by simp) _

def LoopC (B : Nat) (w wr : World) (q : Value) (k : Nat) (ds : List Du) : Prop := ∃ v, CopySt B w wr v q k ds

/-- A new heap comes back, with the form of its slice's block. -/
def NewHS (w : World) (n : Nat) (ds : List Du) (q : Int) (e : Ending) (w' : World) : Prop :=
  ∃ A cap, e = .returned (.agg #[.slice A n cap, .int .i64 q]) ∧ DV w' w.heap.size w'.heap.size A ds ∧ Below w.heap.size w w' ∧ Sh w' w.heap.size w'.heap.size A n cap

set_option maxRecDepth 100000 in
set_option maxHeartbeats 1000000 in
theorem copy_any (A : Option Addr) (n cap lo hi : Nat) (q : Int) (ds : List Du) (w : World) (hn : ds.length = n) (hm : n ≤ 1048576) (h : DV w lo hi A ds) (hs : hi ≤ w.heap.size) :
    Calls Try.prog 110 #[.agg #[.slice A n cap, .int .i64 q]] w (NewHS w n ds q) := by
  have Hn := Lib.hid hn
  clear hn
  have HI := Lib.hid h
  clear h
  go_enter Try.func110, Try.ntmps110
  go_wp2
  go_loopw [4] (fun i wr => ∃ k : Nat, k ≤ n ∧ i = .int .i64 k ∧ LoopC w.heap.size ((w.alloc (.cells #[.slice A n cap, .int .i64 q] 29)).alloc (.cells #[.slice none 0 0, .int .i64 0] 29)) wr (.int .i64 q) k ds) (fun i _ => n - (intOf i).toNat)
  case atStart =>
    refine ⟨0, Nat.zero_le _, rfl, .slice none 0 0, ⟨?_, ?_, ?_⟩⟩
    · have h := heap_alloc_new ((w.alloc (.cells #[.slice A n cap, .int .i64 q] 29)).alloc (.cells #[.slice none 0 0, .int .i64 0] 29)) (.cells #[.slice none 0 0, .int .i64 q] 29)
      simp only [World.size_alloc] at h
      exact h
    · exact World.ownsRow_nil _ _ _ _
    · exact (Below.refl _ _).alloc (by simp) _
  case round =>
    obtain ⟨k, hk, rfl, v, hst⟩ := hrel
    have Hst := Lib.hid hst
    clear hst
    obtain ⟨b0, _, _⟩ := (Blk2.of_block (w := (w.alloc (.cells #[.slice A n cap, .int .i64 q] 29)).alloc (.cells #[.slice none 0 0, .int .i64 0] 29)) (Blk2.alloc (heap_alloc_new w _) _) (Hst.out.old.block w.heap.size (by omega))).cells
    obtain ⟨x0, x1, xf⟩ := Hst.out.box.cells
    by_cases hlt : k < n
    · have Hb : Hid (Below w.heap.size w wr) := ((((Below.refl _ _).alloc (Nat.le_refl _) _).alloc (by simp) _).trans (Hst.out.old.mono (by omega)))
      obtain ⟨g, rfl, hg1, hg2, hcs⟩ := (HI.out.below Hb.out hs) (by have := Hn.out; omega)
      obtain ⟨c0, c1, c2, _⟩ := hcs k (by have := Hn.out; omega)
      clear hcs
      have Hx : Hid (cellsL (ds.take (k + 1)) = cellsL (ds.take k) ++ [.int .i64 (ds.getD k zDu).at, .int .i64 (ds.getD k zDu).seq, .int .i64 (ds.getD k zDu).id]) := by
        have hk' : k < ds.length := by have := Hn.out; omega
        show _ = _
        rw [List.take_succ_eq_append_getElem hk', cellsL_append, ← cellsL_one]; simp [List.getD_eq_getElem?_getD, hk']
      generalize ds.getD k zDu = s at c0 c1 c2 Hx
      obtain ⟨i0, hi0, hz0, hz1, hz2⟩ := info_parts infoDue
      have Hi0 := Lib.hid hi0
      have Hz0 := Lib.hid hz0
      have Hz1 := Lib.hid hz1
      have Hz2 := Lib.hid hz2
      clear hi0 hz0 hz1 hz2
      have hsz := Hst.out.box.lt
      have hne : some (w.heap.size + 1 + 1) ≠ v.ownBlock := fun e => by have := (Hst.out.own.lt _ e.symm).1; omega
      have hne2 : some (w.heap.size) ≠ v.ownBlock := fun e => by have := (Hst.out.own.lt _ e.symm).1; omega
      have hne3 : some g ≠ v.ownBlock := fun e => by have := (Hst.out.own.lt _ e.symm).1; omega
      have HH : Hid ((w.heap.size + 1 + 1 < w.heap.size + 1 + 1 + 1 ∧ w.heap.size + 1 + 1 < wr.heap.size) ∧ (w.heap.size < w.heap.size + 1 + 1 + 1 ∧ w.heap.size < wr.heap.size) ∧ (g < w.heap.size + 1 + 1 + 1 ∧ g < wr.heap.size)) := ⟨by omega, by omega, by omega⟩
      have HG : Hid (w.heap.size ≠ w.heap.size + 1 + 1 ∧ g ≠ w.heap.size + 1 + 1) := ⟨by omega, by omega⟩
      have hk0 : (0 : Int) ≤ (k : Int) := Int.natCast_nonneg _
      have hk1 : (k : Int) < (n : Int) := by omega
      go_wp2
      go_region_law
        ((refine step_append_lies _ (by rfl) _ _ _ (by rfl) (w.heap.size + 1 + 1 + 1) 80 i0 _ 3 24 Try.underlying27 Hi0.out Hz0.out Hz1.out Hz2.out rfl (by omega) v k _ (by rfl) ((Hst.out.own.alloc _).drew)
            ⟨wr.heap.size, 0, none⟩ 1 1 [.int .i64 s.at, .int .i64 s.seq, .int .i64 s.id] (by rfl) (by rfl) (new_three_at (w := wr) rfl _ _ _ _) (by simp [Value.oneCell'])
            (by omega) (by unfold maxLen; omega) (by omega) (by simp; omega) (wr.heap.size + 1) (by simp) ?_; intro gg cap' w1 hown hgrow hat hlt'; have yq := (far_cells hgrow Hst.out.own (w.heap.size + 1 + 1) 0 HH.out.1).trans x0; have yf := (far_frozen hgrow Hst.out.own (w.heap.size + 1 + 1) 0 HH.out.1).trans (xf 0)))
      all_goals
        have HQ := Lib.hid (Hst.out.step Hx.out hown (grown_undrew hgrow))
        clear hown hgrow hat hlt' yq yf hne hne2 hne3 hk0 hk1
        go_wp2
        go_roundw
        case rel => exact ⟨k + 1, by omega, by go_num, _, HQ.out⟩
        case measure => simp [intOf]; omega
    · obtain rfl : k = n := by omega
      obtain ⟨A', cap', rfl⟩ := owns_form Hst.out.own
      obtain ⟨z0, z1, zf⟩ := (Blk2.of_block (w := (w.alloc (.cells #[.slice A k cap, .int .i64 q] 29)).alloc (.cells #[.slice none 0 0, .int .i64 0] 29)) (g := w.heap.size + 1) (by have h := heap_alloc_new (w.alloc (.cells #[.slice A k cap, .int .i64 q] 29)) (.cells #[.slice none 0 0, .int .i64 0] 29); rw [World.size_alloc] at h; exact h) (Hst.out.old.block (w.heap.size + 1) (by omega))).cells
      have ho := Hst.out.own
      rw [show ds.take k = ds from List.take_of_length_le (by have := Hn.out; omega)] at ho
      have Ho := Lib.hid ho
      clear ho
      go_wp2
      refine bodyPost_ret (v := .agg #[.slice A' k cap', .int .i64 q]) (by simp [results, Try.results110, go_sem, z0, z1]) rfl ⟨A', cap', rfl, ?_, ?_, ?_⟩
      · refine DV.wide (lo := w.heap.size + 1 + 1 + 1) (hi := wr.heap.size) ?_ (by omega) (by simp [World.setCell])
        iterate 2 refine DV.setCell ?_ (by simp <;> omega) _
        exact dv_owns Hn.out Ho.out
      · iterate 2 refine Below.setCell ?_ (by simp <;> omega) _
        exact (((Below.refl _ _).alloc (Nat.le_refl _) _).alloc (by simp) _).trans (Hst.out.old.mono (by omega))
      · refine Sh.wide (lo := w.heap.size + 1 + 1 + 1) (hi := wr.heap.size) ?_ (by omega) (by simp [World.setCell])
        iterate 2 refine Sh.setCell ?_ (by simp <;> omega) _
        exact sh_owns Ho.out
end Go.Proofs.Ytpjelojmkmednaa.Hp

namespace Go.Proofs.Ytpjelojmkmednaa.Hp
open Go.RowKit Go.Deep Base

theorem cutD_eq {ds : List Du} {k m : Nat} (hn : ds.length = m + 1) : cutD ds k = (ds.set k (ds.getD m zDu)).take m := by
  unfold cutD swapD
  rw [hn, show m + 1 - 1 = m from rfl]
  apply List.ext_getElem?
  intro i
  rw [List.getElem?_take, List.getElem?_take]
  split
  · next h =>
    rw [List.getElem?_set_ne (by omega)]
  · rfl

/-- As HeapEnd, with the form of the slice's block. -/
def HeapEndS (w : World) (ds' : List Du) (q' : Int) (v : Bool) (e : Ending) (w' : World) : Prop :=
  ∃ A cap, e = .returned (.tuple #[.agg #[.slice A ds'.length cap, .int .i64 q'], .bool v]) ∧ DV w' w.heap.size w'.heap.size A ds' ∧ Below w.heap.size w w' ∧ Sh w' w.heap.size w'.heap.size A ds'.length cap
theorem HeapEndS.plain {w : World} {ds' : List Du} {q' : Int} {v : Bool} {e : Ending} {w' : World} (h : HeapEndS w ds' q' v e w') : HeapEnd w ds' q' v e w' := by
  obtain ⟨A, cap, h1, h2, h3, _⟩ := h
  exact ⟨A, cap, h1, h2, h3⟩

set_option maxRecDepth 100000 in
set_option maxHeartbeats 1000000 in
theorem specCancel_any (A : Option Addr) (n cap lo hi : Nat) (ds : List Du) (q id : Int) (w : World) (hn : ds.length = n) (hm : n ≤ 1048576) (h : DV w lo hi A ds) (hs : hi ≤ w.heap.size) :
    Calls Try.prog 74 #[.agg #[.slice A n cap, .int .i64 q], .int .i64 id] w (HeapEndS w (canD ds q id) q (canB ds q id)) := by
  have Hn := Lib.hid hn
  have HI := Lib.hid h
  clear hn h
  go_enter Try.func74, Try.ntmps74
  go_wp2_with fail
  have hB0 : Below w.heap.size w ((w.alloc (.cells #[.slice A n cap, .int .i64 q] 29)).alloc (.cells #[.slice none 0 0, .int .i64 0] 29)) := ((Below.refl _ _).alloc (Nat.le_refl _) _).alloc (by simp) _
  refine (copy_any A n cap lo hi q ds _ Hn.out hm (HI.out.below hB0 hs) (by simp; omega)).mono ?_
  rintro e w1 ⟨A1, c1, rfl, v1, b1, sh1⟩
  have X1 : Hid (Blk2 w1 w.heap.size (.slice A n cap) (.int .i64 q)) := Blk2.below (Blk2.alloc (heap_alloc_new w _) _) b1
  have Y1 : Hid (Blk2 w1 (w.heap.size + 1) (.slice none 0 0) (.int .i64 0)) := by
    have h := heap_alloc_new (w.alloc (.cells #[.slice A n cap, .int .i64 q] 29)) (.cells #[.slice none 0 0, .int .i64 0] 29)
    rw [World.size_alloc] at h
    exact (b1.block _ (by simp)).trans h
  have V1 : Hid (DV w1 (w.heap.size + 1 + 1) w1.heap.size A1 ds) := by have h := v1; simp only [World.size_alloc] at h; exact h
  have S1 : Hid (Sh w1 (w.heap.size + 1 + 1) w1.heap.size A1 n c1) := by have h := sh1; simp only [World.size_alloc] at h; exact h
  have B1 := Lib.hid (bel_trans hB0 b1)
  have z1 : w.heap.size + 1 < w1.heap.size := Y1.out.lt
  have z1' : w.heap.size < w1.heap.size := by omega
  clear b1 v1 hB0 sh1
  obtain ⟨x0, x1, xf⟩ := X1.out.cells
  go_wp2_with fail
  obtain ⟨W3, hW3⟩ : ∃ W3, w1.alloc (.cells #[.slice A1 n c1, .int .i64 q] 29) = W3 := ⟨_, rfl⟩
  have T3 : Hid (Blk2 W3 w1.heap.size (.slice A1 n c1) (.int .i64 q)) := by rw [← hW3]; exact heap_alloc_new w1 _
  have V3 : Hid (DV W3 (w.heap.size + 1 + 1) w1.heap.size A1 ds) := by rw [← hW3]; exact V1.out.below (bel_alloc w1 _) (Nat.le_refl _)
  have S3 : Hid (Sh W3 (w.heap.size + 1 + 1) w1.heap.size A1 n c1) := by rw [← hW3]; exact S1.out.below (bel_alloc w1 _) (Nat.le_refl _)
  have X3 : Hid (Blk2 W3 w.heap.size (.slice A n cap) (.int .i64 q)) := by rw [← hW3]; exact X1.out.alloc _
  have Y3 : Hid (Blk2 W3 (w.heap.size + 1) (.slice none 0 0) (.int .i64 0)) := by rw [← hW3]; exact Y1.out.alloc _
  have B3 : Hid (Below w.heap.size w W3) := by rw [← hW3]; exact bel_trans B1.out (bel_alloc w1 _)
  have z3 : w1.heap.size < W3.heap.size := by rw [← hW3]; simp
  rw [hW3]
  clear hW3 V1 B1 S1 X1 Y1 x0 x1 xf
  refine (specHeapOk_any A n cap lo hi ds q W3 Hn.out hm (HI.out.below B3.out hs) (by have := B3.out.size; omega)).mono ?_
  rintro e w4 ⟨rfl, b4⟩
  have B4 := Lib.hid (bel_trans B3.out b4)
  have T4 := Lib.hid (T3.out.below b4)
  have V4 := Lib.hid (V3.out.below b4 (by omega))
  have S4 := Lib.hid (S3.out.below b4 (by omega))
  have X4 := Lib.hid (X3.out.below b4)
  have Y4 := Lib.hid (Y3.out.below b4)
  have z4 : w1.heap.size < w4.heap.size := T4.out.lt
  clear b4 T3 V3 S3 X3 Y3 B3
  obtain ⟨x0, x1, xf⟩ := X4.out.cells
  have HEnd : Hid (∀ w5, canB ds q id = false → Below w4.heap.size w4 w5 → HeapEndS w (canD ds q id) q (canB ds q id) (.returned (.tuple #[.agg #[.slice A1 n c1, .int .i64 q], .bool false])) ((w5.setCell ⟨w.heap.size + 1, 0, none⟩ (.slice A1 n c1)).setCell ⟨w.heap.size + 1, 1, none⟩ (.int .i64 q))) := fun w5 hno b5 => by
    have := b5.size
    rw [canD_no hno, hno]
    refine ⟨A1, c1, by rw [Hn.out], ?_, ?_, ?_⟩
    · refine DV.wide (lo := w.heap.size + 1 + 1) (hi := w1.heap.size) ?_ (by omega) (by simp [World.setCell]; omega)
      iterate 2 refine DV.setCell ?_ (by show w.heap.size + 1 < w.heap.size + 1 + 1; omega) _
      exact V4.out.below b5 (by omega)
    · iterate 2 refine Below.setCell ?_ (by show w.heap.size ≤ w.heap.size + 1; omega) _
      exact bel_trans B4.out b5
    · rw [Hn.out]
      refine Sh.wide (lo := w.heap.size + 1 + 1) (hi := w1.heap.size) ?_ (by omega) (by simp [World.setCell]; omega)
      iterate 2 refine Sh.setCell ?_ (by show w.heap.size + 1 < w.heap.size + 1 + 1; omega) _
      exact S4.out.below b5 (by omega)
  cases hok : okH ds q
  · have Hno := Lib.hid (canB_bad (id := id) hok)
    clear hok
    obtain ⟨t0, t1, tf⟩ := T4.out.cells
    obtain ⟨y0, y1, yf⟩ := Y4.out.cells
    have hyl := Y4.out.lt
    go_wp2
    exact bodyPost_ret (v := .tuple #[.agg #[.slice A1 n c1, .int .i64 q], .bool false]) (by simp [results, Try.results74, go_sem, y0, y1]) rfl (HEnd.out w4 Hno.out (Below.refl _ _))
  have Hok := Lib.hid hok
  clear hok
  go_wp2_with fail
  refine (specFind_any A n cap lo hi ds q id w4 Hn.out hm (HI.out.below B4.out hs) (by have := B4.out.size; omega)).mono ?_
  rintro e w5 ⟨rfl, b5⟩
  have B5 := Lib.hid b5
  have T5 := Lib.hid (T4.out.below b5)
  have V5 := Lib.hid (V4.out.below b5 (by omega))
  have S5 := Lib.hid (S4.out.below b5 (by omega))
  have Y5 := Lib.hid (Y4.out.below b5)
  have z5 : w1.heap.size < w5.heap.size := T5.out.lt
  clear b5 T4 V4 S4 X4 Y4 x0 x1 xf
  obtain ⟨t0, t1, tf⟩ := T5.out.cells
  obtain ⟨y0, y1, yf⟩ := Y5.out.cells
  have hyl := Y5.out.lt
  by_cases hf : fndD ds id < 0
  · have Hno := Lib.hid (canB_none (q := q) hf)
    obtain ⟨fv, hfv⟩ : ∃ fv, fndD ds id = fv := ⟨_, rfl⟩
    rw [hfv] at hf ⊢
    clear hfv
    go_wp2
    exact bodyPost_ret (v := .tuple #[.agg #[.slice A1 n c1, .int .i64 q], .bool false]) (by simp [results, Try.results74, go_sem, y0, y1]) rfl (HEnd.out w5 Hno.out B5.out)
  clear HEnd
  obtain ⟨k, hfk, hkl⟩ := fndD_lt hf
  have Hcd := Lib.hid (canD_yes Hok.out hfk)
  have Hcan := Lib.hid (canB_yes Hok.out hfk)
  rw [hfk]
  clear hf hfk
  rw [Hn.out] at hkl
  have hk0 : (0 : Int) ≤ (k : Int) := by omega
  have hkn : ¬ (k : Int) < 0 := by omega
  obtain ⟨g, cur, rfl, hg1, hg2, hgc, hcap, hcm, hcs⟩ : ∃ g cur, A1 = some ⟨g, 0, none⟩ ∧ w.heap.size + 1 + 1 ≤ g ∧ g < w1.heap.size ∧ w5.heap[g]? = some (.cells cur 80 (0, 0)) ∧ n ≤ c1 ∧ c1 ≤ maxLen ∧ cur.size = c1 * 3 := by
    rcases S5.out with ⟨_, h0, _⟩ | h
    · omega
    · exact h
  have R5 : Hid (Rd w5 g ds) := by
    obtain ⟨g', e, _, _, h3⟩ := V5.out (by rw [Hn.out]; omega)
    injection e with e
    injection e with e _ _
    subst e
    exact h3
  have Hgc := Lib.hid hgc
  have Hcm := Lib.hid hcm
  have Hcs := Lib.hid hcs
  clear hgc hcm hcs
  obtain ⟨m, rfl⟩ : ∃ m, n = m + 1 := ⟨n - 1, by omega⟩
  obtain ⟨p0, p1, p2, pf⟩ := R5.out m (by rw [Hn.out]; omega)
  obtain ⟨q0, q1, q2, _⟩ := R5.out k (by rw [Hn.out]; omega)
  obtain ⟨pat, pseq, pid, hpd⟩ : ∃ a b c, ds.getD m zDu = ⟨a, b, c⟩ := ⟨_, _, _, rfl⟩
  rw [hpd] at p0 p1 p2
  dsimp only at p0 p1 p2
  generalize ds.getD k zDu = dk at q0 q1 q2
  have Hpd := Lib.hid hpd
  clear hpd
  have hm0 : (0 : Int) ≤ (m : Int) := by omega
  have hk1 : (k : Int) < (m : Int) + 1 := by omega
  have hmc : (m : Int) ≤ (c1 : Int) := by omega
  have hgw : g ≠ w1.heap.size := by omega
  have hwg : w1.heap.size ≠ g := by omega
  have hgl : g < w5.heap.size := by omega
  go_wp2_with fail
  go_region
  obtain ⟨W6, hW6⟩ : ∃ W6, (((w5.setCell ⟨g, k * 3, none⟩ (.int .i64 pat)).setCell ⟨g, k * 3 + 1, none⟩ (.int .i64 pseq)).setCell ⟨g, k * 3 + 2, none⟩ (.int .i64 pid)).drew = W6 := ⟨_, rfl⟩
  have R6 : Hid (Rd W6 g (ds.set k ⟨pat, pseq, pid⟩)) := by rw [← hW6]; exact (R5.out.set3 k ⟨pat, pseq, pid⟩).of_block rfl
  have N6 : Hid (Tn g (g + 1) w5 W6) := by
    rw [← hW6]
    exact ((Tn.of_below (Below.refl _ _)).set3 (Nat.le_refl _) (Nat.lt_succ_self _) k ⟨pat, pseq, pid⟩).trans (Tn.of_below (Below.refl _ _).drew)
  rw [hW6]
  clear hW6 p0 p1 p2 pf q0 q1 q2 t0 t1 tf y0 y1 yf hyl
  have T6 : Hid (Blk2 W6 w1.heap.size (.slice (some ⟨g, 0, none⟩) (m + 1) c1) (.int .i64 q)) := T5.out.of_block (N6.out.block _ z5 (by omega))
  have Y6 : Hid (Blk2 W6 (w.heap.size + 1) (.slice none 0 0) (.int .i64 0)) := Y5.out.of_block (N6.out.block _ (by omega) (by omega))
  have z6 : w5.heap.size ≤ W6.heap.size := N6.out.size
  have hcl : Hid ((cutD ds k).length = m) := by show (cutD ds k).length = m; rw [cutD_len, Hn.out]; rfl
  have HT7 : Hid (Blk2 (W6.setCell ⟨w1.heap.size, 0, none⟩ (.slice (some ⟨g, 0, none⟩) m c1)) w1.heap.size (.slice (some ⟨g, 0, none⟩) m c1) (.int .i64 q)) := T6.out.set0 _
  have HR7 : Hid (Rd (W6.setCell ⟨w1.heap.size, 0, none⟩ (.slice (some ⟨g, 0, none⟩) m c1)) g (cutD ds k)) := by
    rw [cutD_eq Hn.out, Hpd.out]
    exact (R6.out.take m).of_block (heap_setCell_other W6 _ _ _ (by show g ≠ w1.heap.size; omega))
  have HN7 : Hid (Tn g (w1.heap.size + 1) w5 (W6.setCell ⟨w1.heap.size, 0, none⟩ (.slice (some ⟨g, 0, none⟩) m c1))) := (N6.out.wide (Nat.le_refl _) (by omega)).setCell (by omega) (by omega) _
  obtain ⟨t0, t1, tf⟩ := T6.out.cells
  have htl := T6.out.lt
  have HEnd : Hid (∀ w8, Blk2 w8 w1.heap.size (.slice (some ⟨g, 0, none⟩) m c1) (.int .i64 q) → Rd w8 g (remD ds k) → Tn g (w1.heap.size + 1) w5 w8 → HeapEndS w (canD ds q id) q (canB ds q id) (.returned (.tuple #[.agg #[.slice (some ⟨g, 0, none⟩) m c1, .int .i64 q], .bool true])) ((w8.setCell ⟨w.heap.size + 1, 0, none⟩ (.slice (some ⟨g, 0, none⟩) m c1)).setCell ⟨w.heap.size + 1, 1, none⟩ (.int .i64 q))) := fun w8 _ r8 n8 => by
    have s8 := n8.size
    rw [Hcd.out, Hcan.out]
    refine ⟨some ⟨g, 0, none⟩, c1, by rw [remD_len, Hn.out]; rfl, ?_, ?_, ?_⟩
    · refine DV.wide (lo := w.heap.size + 1 + 1) (hi := w8.heap.size) ?_ (by omega) (by simp [World.setCell])
      iterate 2 refine DV.setCell ?_ (by show w.heap.size + 1 < w.heap.size + 1 + 1; omega) _
      exact fun _ => ⟨g, rfl, hg1, by omega, r8⟩
    · iterate 2 refine Below.setCell ?_ (by show w.heap.size ≤ w.heap.size + 1; omega) _
      exact (bel_trans B4.out B5.out).trans (n8.toTurns.below (by omega) (by have := B4.out.size; have := B5.out.size; omega))
    · rw [remD_len, Hn.out]
      refine Sh.wide (lo := w.heap.size + 1 + 1) (hi := w8.heap.size) ?_ (by omega) (by simp [World.setCell])
      iterate 2 refine Sh.setCell ?_ (by show w.heap.size + 1 < w.heap.size + 1 + 1; omega) _
      obtain ⟨cur', hc', hs'⟩ := n8.shape g _ _ Hgc.out
      exact .inr ⟨g, cur', rfl, hg1, by omega, hc', by omega, Hcm.out, by rw [hs']; exact Hcs.out⟩
  by_cases hkm : k < m
  · have Hrem : Hid (remD ds k = downD m (upD k (cutD ds k) k) k) := by show remD ds k = _; unfold remD; rw [Hn.out, if_pos (by omega)]; rfl
    go_wp2_with fail
    obtain ⟨W7, hW7⟩ : ∃ W7, W6.setCell ⟨w1.heap.size, 0, none⟩ (.slice (some ⟨g, 0, none⟩) m c1) = W7 := ⟨_, rfl⟩
    rw [hW7] at HT7 HR7 HN7 ⊢
    clear hW7 t0 t1 tf
    have s7 := HN7.out.size
    refine (specUp_any g m c1 k (cutD ds k) W7 hcl.out (by omega) hkm HR7.out (by omega)).mono ?_
    rintro e w8 ⟨rfl, rd8, tn8⟩
    have R8 := Lib.hid rd8
    have T8 := Lib.hid (HT7.out.of_block (tn8.block _ (by omega) (by omega)))
    have N8 := Lib.hid (HN7.out.trans (tn8.wide (Nat.le_refl _) (show g + 1 ≤ w1.heap.size + 1 by omega)))
    have s8 := tn8.size
    clear rd8 tn8
    obtain ⟨t0, t1, tf⟩ := T8.out.cells
    have htl8 := T8.out.lt
    go_wp2_with fail
    refine (specDown_any g m c1 k (upD k (cutD ds k) k) w8 (by rw [upD_len]; exact hcl.out) (by omega) hkm R8.out (by omega)).mono ?_
    rintro e w9 ⟨rfl, rd9, tn9⟩
    have R9 : Hid (Rd w9 g (remD ds k)) := by rw [Hrem.out]; exact rd9
    have T9 := Lib.hid (T8.out.of_block (tn9.block _ (by omega) (by omega)))
    have N9 := Lib.hid (N8.out.trans (tn9.wide (Nat.le_refl _) (show g + 1 ≤ w1.heap.size + 1 by omega)))
    have s9 := tn9.size
    clear rd9 tn9 t0 t1 tf
    obtain ⟨t0, t1, tf⟩ := T9.out.cells
    have Y9 : Hid (Blk2 w9 (w.heap.size + 1) (.slice none 0 0) (.int .i64 0)) := Y5.out.of_block (N9.out.block _ (by omega) (by omega))
    obtain ⟨y0, y1, yf⟩ := Y9.out.cells
    have hyl := Y9.out.lt
    have htl9 := T9.out.lt
    go_wp2
    exact bodyPost_ret (v := .tuple #[.agg #[.slice (some ⟨g, 0, none⟩) m c1, .int .i64 q], .bool true]) (by simp [results, Try.results74, go_sem, y0, y1]) rfl (HEnd.out w9 T9.out R9.out N9.out)
  · have Hrem : Hid (remD ds k = cutD ds k) := by show remD ds k = _; unfold remD; rw [Hn.out, if_neg (by omega)]
    rw [← Hrem.out] at HR7
    obtain ⟨y0, y1, yf⟩ := Y6.out.cells
    have hyl := Y6.out.lt
    have hne1 : w1.heap.size ≠ w.heap.size + 1 := by omega
    have hne2 : w.heap.size + 1 ≠ w1.heap.size := by omega
    go_wp2
    exact bodyPost_ret (v := .tuple #[.agg #[.slice (some ⟨g, 0, none⟩) m c1, .int .i64 q], .bool true]) (by simp [results, Try.results74, go_sem, y0, y1]) rfl (HEnd.out _ HT7.out HR7.out HN7.out)
end Go.Proofs.Ytpjelojmkmednaa.Hp
