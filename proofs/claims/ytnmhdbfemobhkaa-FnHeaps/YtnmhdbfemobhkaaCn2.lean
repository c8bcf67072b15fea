/- The program's CancelDue. -/
import Derived.Test.YtnmhdbfemobhkaaCn1
import Derived.Test.YtnmhdbfemobhkaaDue1
namespace Go.Proofs.Ytnmhdbfemobhkaa.Hp
open Go.RowKit Go.Deep Base

/-- CancelDue's answer: may it, and the items behind it. -/
def canB (ds : List Du) (q id : Int) : Bool := okH ds q && decide (0 ≤ fndD ds id)
def canD (ds : List Du) (q id : Int) : List Du := if canB ds q id = true then remD ds (fndD ds id).toNat else ds
theorem canB_bad {ds : List Du} {q id : Int} (h : okH ds q = false) : canB ds q id = false := by unfold canB; rw [h]; rfl
theorem canB_none {ds : List Du} {q id : Int} (h : fndD ds id < 0) : canB ds q id = false := by unfold canB; rw [decide_eq_false (by omega)]; simp
theorem canB_yes {ds : List Du} {q id : Int} {k : Nat} (h : okH ds q = true) (hk : fndD ds id = (k : Int)) : canB ds q id = true := by unfold canB; rw [h, hk, decide_eq_true (by omega)]; rfl
theorem canD_no {ds : List Du} {q id : Int} (h : canB ds q id = false) : canD ds q id = ds := by unfold canD; rw [if_neg (by rw [h]; simp)]
theorem canD_yes {ds : List Du} {q id : Int} {k : Nat} (h : okH ds q = true) (hk : fndD ds id = (k : Int)) : canD ds q id = remD ds k := by unfold canD; rw [if_pos (canB_yes h hk), hk, Int.toNat_natCast]
theorem canD_len (ds : List Du) (q id : Int) : (canD ds q id).length ≤ ds.length := by
  unfold canD
  split
  · rw [remD_len]; omega
  · exact Nat.le_refl _

/-- What a call leaves that hands back a heap and whether it did what was asked. -/
def HeapEnd (w : World) (ds' : List Du) (q' : Int) (v : Bool) (e : Ending) (w' : World) : Prop :=
  ∃ A cap, e = .returned (.tuple #[.agg #[.slice A ds'.length cap, .int .i64 q'], .bool v]) ∧ DV w' w.heap.size w'.heap.size A ds' ∧ Below w.heap.size w w'

set_option maxRecDepth 100000 in
set_option maxHeartbeats 1000000 in
theorem implCancel_any (A : Option Addr) (n cap lo hi : Nat) (ds : List Du) (q id : Int) (w : World) (hn : ds.length = n) (hm : n ≤ 1048576) (h : DV w lo hi A ds) (hs : hi ≤ w.heap.size) :
    Calls Try.prog 32 #[.agg #[.slice A n cap, .int .i64 q], .int .i64 id] w (HeapEnd w (canD ds q id) q (canB ds q id)) := by
  have Hn := Lib.hid hn
  have HI := Lib.hid h
  clear hn h
  go_enter Try.func32, Try.ntmps32
  go_wp2_with fail
  have hB0 : Below w.heap.size w ((w.alloc (.cells #[.slice A n cap, .int .i64 q] 28)).alloc (.cells #[.slice none 0 0, .int .i64 0] 28)) := ((Below.refl _ _).alloc (Nat.le_refl _) _).alloc (by simp) _
  refine (treeOf_sh A n cap lo hi ds q _ Hn.out hm (HI.out.below hB0 hs) (by simp; omega)).mono ?_
  rintro e w1 ⟨A1, c1, rfl, v1, b1, sh1⟩
  have X1 : Hid (Blk2 w1 w.heap.size (.slice A n cap) (.int .i64 q)) := Blk2.below (Blk2.alloc (heap_alloc_new w _) _) b1
  have Y1 : Hid (Blk2 w1 (w.heap.size + 1) (.slice none 0 0) (.int .i64 0)) := by
    have h := heap_alloc_new (w.alloc (.cells #[.slice A n cap, .int .i64 q] 28)) (.cells #[.slice none 0 0, .int .i64 0] 28)
    rw [World.size_alloc] at h
    exact (b1.block _ (by simp)).trans h
  have V1 : Hid (DV w1 (w.heap.size + 1 + 1) w1.heap.size A1 ds) := by have h := v1; simp only [World.size_alloc] at h; exact h
  have S1 : Hid (Sh w1 (w.heap.size + 1 + 1) w1.heap.size A1 n c1) := by have h := sh1; simp only [World.size_alloc] at h; exact h
  have B1 := Lib.hid (bel_trans hB0 b1)
  have z1 : w.heap.size + 1 < w1.heap.size := Y1.out.lt
  clear b1 v1 hB0 sh1
  go_wp2_with fail
  obtain ⟨W3, hW3⟩ : ∃ W3, w1.alloc (.cells #[.slice A1 n c1, .func (.func 78) #[] #[]] 69) = W3 := ⟨_, rfl⟩
  have T3 : Hid (Tr W3 w1.heap.size A1 n c1) := by rw [← hW3]; exact heap_alloc_new w1 _
  have V3 : Hid (DV W3 (w.heap.size + 1 + 1) w1.heap.size A1 ds) := by rw [← hW3]; exact V1.out.below (bel_alloc w1 _) (Nat.le_refl _)
  have S3 : Hid (Sh W3 (w.heap.size + 1 + 1) w1.heap.size A1 n c1) := by rw [← hW3]; exact S1.out.below (bel_alloc w1 _) (Nat.le_refl _)
  have X3 : Hid (Blk2 W3 w.heap.size (.slice A n cap) (.int .i64 q)) := by rw [← hW3]; exact X1.out.alloc _
  have Y3 : Hid (Blk2 W3 (w.heap.size + 1) (.slice none 0 0) (.int .i64 0)) := by rw [← hW3]; exact Y1.out.alloc _
  have B3 : Hid (Below w.heap.size w W3) := by rw [← hW3]; exact bel_trans B1.out (bel_alloc w1 _)
  have z3 : w1.heap.size < W3.heap.size := by rw [← hW3]; simp
  rw [hW3]
  clear hW3 V1 B1 S1 X1 Y1
  refine (indexOf_any A1 n c1 _ _ ds id W3 Hn.out hm V3.out (by omega)).mono ?_
  rintro e w4 ⟨rfl, b4⟩
  have B4 := Lib.hid (bel_trans B3.out b4)
  have T4 := Lib.hid (T3.out.below b4)
  have V4 := Lib.hid (V3.out.below b4 (by omega))
  have S4 := Lib.hid (S3.out.below b4 (by omega))
  have X4 := Lib.hid (X3.out.below b4)
  have Y4 := Lib.hid (Y3.out.below b4)
  have z4 : w1.heap.size < w4.heap.size := T4.out.lt
  clear b4 T3 V3 S3 X3 Y3 B3
  obtain ⟨x0, x1, xf⟩ := X4.out.cells
  cases hcan : canB ds q id
  · have Hcan := Lib.hid hcan
    have Hcd := Lib.hid (canD_no hcan)
    have hno : okH ds q = false ∨ (okH ds q = true ∧ fndD ds id < 0) := by
      unfold canB at hcan
      cases ho : okH ds q
      · exact .inl rfl
      · rw [ho] at hcan
        simp at hcan
        exact .inr ⟨rfl, by omega⟩
    clear hcan
    obtain ⟨ok, hok⟩ : ∃ ok, okH ds q = ok := ⟨_, rfl⟩
    obtain ⟨fv, hfv⟩ : ∃ fv, fndD ds id = fv := ⟨_, rfl⟩
    rw [hok, hfv] at hno
    rw [hok, hfv]
    clear hok hfv
    have HSame : Hid (∀ W, Below w4.heap.size w4 W → Calls Try.prog 56 #[.agg #[.slice A n cap, .int .i64 q]] W (NewH W n ds q)) := fun W hW =>
      sameHeap_any A n cap lo hi ds q W Hn.out hm (HI.out.below (bel_trans B4.out hW) hs) (by have := B4.out.size; have := hW.size; omega)
    have HEnd : Hid (∀ w5 A5 c5, DV w5 w4.heap.size w5.heap.size A5 ds → Below w4.heap.size w4 w5 → HeapEnd w (canD ds q id) q (canB ds q id) (.returned (.tuple #[.agg #[.slice A5 n c5, .int .i64 q], .bool false])) ((w5.setCell ⟨w.heap.size + 1, 0, none⟩ (.slice A5 n c5)).setCell ⟨w.heap.size + 1, 1, none⟩ (.int .i64 q))) := fun w5 A5 c5 v5 b5 => by
      have := b5.size
      rw [Hcd.out, Hcan.out]
      refine ⟨A5, c5, by rw [Hn.out], ?_, ?_⟩
      · refine DV.wide (lo := w4.heap.size) (hi := w5.heap.size) ?_ (by omega) (by simp [World.setCell])
        iterate 2 refine DV.setCell ?_ (by show w.heap.size + 1 < w4.heap.size; omega) _
        exact v5
      · iterate 2 refine Below.setCell ?_ (by show w.heap.size ≤ w.heap.size + 1; omega) _
        exact bel_trans B4.out b5
    rcases hno with rfl | ⟨rfl, hf⟩
    · go_wp2_with fail
      refine (HSame.out _ (Below.refl _ _)).mono ?_
      rintro e w5 ⟨A5, c5, rfl, v5, b5⟩
      have Y5 := Lib.hid (Y4.out.below b5)
      have V5 := Lib.hid v5
      have B5 := Lib.hid b5
      clear b5 v5
      obtain ⟨y0, y1, yf⟩ := Y5.out.cells
      have hyl := Y5.out.lt
      go_wp2
      exact bodyPost_ret (v := .tuple #[.agg #[.slice A5 n c5, .int .i64 q], .bool false]) (by simp [results, Try.results32, go_sem, y0, y1]) rfl (HEnd.out w5 A5 c5 V5.out B5.out)
    · go_wp2_with fail
      refine (HSame.out _ (Below.refl _ _)).mono ?_
      rintro e w5 ⟨A5, c5, rfl, v5, b5⟩
      have Y5 := Lib.hid (Y4.out.below b5)
      have V5 := Lib.hid v5
      have B5 := Lib.hid b5
      clear b5 v5
      obtain ⟨y0, y1, yf⟩ := Y5.out.cells
      have hyl := Y5.out.lt
      go_wp2
      exact bodyPost_ret (v := .tuple #[.agg #[.slice A5 n c5, .int .i64 q], .bool false]) (by simp [results, Try.results32, go_sem, y0, y1]) rfl (HEnd.out w5 A5 c5 V5.out B5.out)
  have hok : okH ds q = true := by unfold canB at hcan; simp at hcan; exact hcan.1
  have hf : ¬ fndD ds id < 0 := by unfold canB at hcan; simp at hcan; omega
  obtain ⟨k, hfk, hkl⟩ := fndD_lt hf
  have Hcd := Lib.hid (canD_yes hok hfk)
  have Hcan := Lib.hid hcan
  rw [hok, hfk]
  clear hok hf hfk hcan
  rw [Hn.out] at hkl
  have hk0 : (0 : Int) ≤ (k : Int) := by omega
  have hkn : ¬ (k : Int) < 0 := by omega
  obtain ⟨g, cur, rfl, hg1, hg2, hgc, hcap, hcm, hcs⟩ : ∃ g cur, A1 = some ⟨g, 0, none⟩ ∧ w.heap.size + 1 + 1 ≤ g ∧ g < w1.heap.size ∧ w4.heap[g]? = some (.cells cur 39 (0, 0)) ∧ n ≤ c1 ∧ c1 ≤ maxLen ∧ cur.size = c1 * 3 := by
    rcases S4.out with ⟨_, h0, _⟩ | h
    · omega
    · exact h
  have R4 : Hid (Rd w4 g ds) := by
    obtain ⟨g', e, _, _, h3⟩ := V4.out (by rw [Hn.out]; omega)
    injection e with e
    injection e with e _ _
    subst e
    exact h3
  obtain ⟨m, rfl⟩ : ∃ m, n = m + 1 := ⟨n - 1, by omega⟩
  go_wp2_with fail
  refine (remove_any w1.heap.size g m c1 k g (w1.heap.size + 1) ds w4 Hn.out hm hkl hcap T4.out R4.out (by omega) (by omega) (Nat.le_refl _) (by omega) (by omega) (by omega)).mono ?_
  rintro e w5 ⟨rfl, t5, r5, n5⟩
  have R5 := Lib.hid r5
  have N5 := Lib.hid n5
  have X5 := Lib.hid (X4.out.of_block (n5.block _ (by omega) (by omega)))
  have Y5 := Lib.hid (Y4.out.of_block (n5.block _ (by omega) (by omega)))
  have T5 := Lib.hid t5
  have z5 : w4.heap.size ≤ w5.heap.size := n5.size
  clear r5 n5 t5 x0 x1 xf hgc hcs hcm
  obtain ⟨t0, t1, _⟩ := T5.out.cells
  obtain ⟨x0, x1, xf⟩ := X5.out.cells
  obtain ⟨y0, y1, yf⟩ := Y5.out.cells
  have hyl := Y5.out.lt
  have htl := T5.out.lt
  go_wp2
  refine bodyPost_ret (v := .tuple #[.agg #[.slice (some ⟨g, 0, none⟩) m c1, .int .i64 q], .bool true]) (by simp [results, Try.results32, go_sem, y0, y1]) rfl ⟨some ⟨g, 0, none⟩, c1, by rw [Hcd.out, remD_len, Hn.out, Hcan.out]; rfl, ?_, ?_⟩
  · refine DV.wide (lo := w.heap.size + 1 + 1) (hi := w5.heap.size) ?_ (by omega) (by simp [World.setCell])
    iterate 2 refine DV.setCell ?_ (by show w.heap.size + 1 < w.heap.size + 1 + 1; omega) _
    rw [Hcd.out]
    exact fun _ => ⟨g, rfl, hg1, by omega, R5.out⟩
  · iterate 2 refine Below.setCell ?_ (by show w.heap.size ≤ w.heap.size + 1; omega) _
    exact B4.out.trans (N5.out.toTurns.below (by omega) (by have := B4.out.size; omega))
end Go.Proofs.Ytnmhdbfemobhkaa.Hp
