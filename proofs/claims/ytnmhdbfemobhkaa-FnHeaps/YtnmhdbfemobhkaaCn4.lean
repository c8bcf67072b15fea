/- The reference's CancelDue. -/
import Derived.Test.YtnmhdbfemobhkaaCn3
namespace Go.Proofs.Ytnmhdbfemobhkaa.Hp
open Go.RowKit Go.Deep Base

theorem cutD_eq {ds : List Du} {k m : Nat} (hn : ds.length = m + 1) : cutD ds k = (ds.set k (ds.getD m zDu)).take m := by
  unfold cutD swapD
  rw [hn, show m + 1 - 1 = m from rfl]
  apply List.ext_getElem?
  intro i
  rw [List.getElem?_take, List.getElem?_take]
  split
  · next h =>
    rw [List.getElem?_set_ne (by omega)]
  · rfl

/-- As HeapEnd, with the form of the slice's block. -/
def HeapEndS (w : World) (ds' : List Du) (q' : Int) (v : Bool) (e : Ending) (w' : World) : Prop :=
  ∃ A cap, e = .returned (.tuple #[.agg #[.slice A ds'.length cap, .int .i64 q'], .bool v]) ∧ DV w' w.heap.size w'.heap.size A ds' ∧ Below w.heap.size w w' ∧ Sh w' w.heap.size w'.heap.size A ds'.length cap
theorem HeapEndS.plain {w : World} {ds' : List Du} {q' : Int} {v : Bool} {e : Ending} {w' : World} (h : HeapEndS w ds' q' v e w') : HeapEnd w ds' q' v e w' := by
  obtain ⟨A, cap, h1, h2, h3, _⟩ := h
  exact ⟨A, cap, h1, h2, h3⟩

set_option maxRecDepth 100000 in
set_option maxHeartbeats 1000000 in
theorem specCancel_any (A : Option Addr) (n cap lo hi : Nat) (ds : List Du) (q id : Int) (w : World) (hn : ds.length = n) (hm : n ≤ 1048576) (h : DV w lo hi A ds) (hs : hi ≤ w.heap.size) :
    Calls Try.prog 31 #[.agg #[.slice A n cap, .int .i64 q], .int .i64 id] w (HeapEndS w (canD ds q id) q (canB ds q id)) := by
  have Hn := Lib.hid hn
  have HI := Lib.hid h
  clear hn h
  go_enter Try.func31, Try.ntmps31
  go_wp2_with fail
  have hB0 : Below w.heap.size w ((w.alloc (.cells #[.slice A n cap, .int .i64 q] 28)).alloc (.cells #[.slice none 0 0, .int .i64 0] 28)) := ((Below.refl _ _).alloc (Nat.le_refl _) _).alloc (by simp) _
  refine (copy_any A n cap lo hi q ds _ Hn.out hm (HI.out.below hB0 hs) (by simp; omega)).mono ?_
  rintro e w1 ⟨A1, c1, rfl, v1, b1, sh1⟩
  have X1 : Hid (Blk2 w1 w.heap.size (.slice A n cap) (.int .i64 q)) := Blk2.below (Blk2.alloc (heap_alloc_new w _) _) b1
  have Y1 : Hid (Blk2 w1 (w.heap.size + 1) (.slice none 0 0) (.int .i64 0)) := by
    have h := heap_alloc_new (w.alloc (.cells #[.slice A n cap, .int .i64 q] 28)) (.cells #[.slice none 0 0, .int .i64 0] 28)
    rw [World.size_alloc] at h
    exact (b1.block _ (by simp)).trans h
  have V1 : Hid (DV w1 (w.heap.size + 1 + 1) w1.heap.size A1 ds) := by have h := v1; simp only [World.size_alloc] at h; exact h
  have S1 : Hid (Sh w1 (w.heap.size + 1 + 1) w1.heap.size A1 n c1) := by have h := sh1; simp only [World.size_alloc] at h; exact h
  have B1 := Lib.hid (bel_trans hB0 b1)
  have z1 : w.heap.size + 1 < w1.heap.size := Y1.out.lt
  have z1' : w.heap.size < w1.heap.size := by omega
  clear b1 v1 hB0 sh1
  obtain ⟨x0, x1, xf⟩ := X1.out.cells
  go_wp2_with fail
  obtain ⟨W3, hW3⟩ : ∃ W3, w1.alloc (.cells #[.slice A1 n c1, .int .i64 q] 28) = W3 := ⟨_, rfl⟩
  have T3 : Hid (Blk2 W3 w1.heap.size (.slice A1 n c1) (.int .i64 q)) := by rw [← hW3]; exact heap_alloc_new w1 _
  have V3 : Hid (DV W3 (w.heap.size + 1 + 1) w1.heap.size A1 ds) := by rw [← hW3]; exact V1.out.below (bel_alloc w1 _) (Nat.le_refl _)
  have S3 : Hid (Sh W3 (w.heap.size + 1 + 1) w1.heap.size A1 n c1) := by rw [← hW3]; exact S1.out.below (bel_alloc w1 _) (Nat.le_refl _)
  have X3 : Hid (Blk2 W3 w.heap.size (.slice A n cap) (.int .i64 q)) := by rw [← hW3]; exact X1.out.alloc _
  have Y3 : Hid (Blk2 W3 (w.heap.size + 1) (.slice none 0 0) (.int .i64 0)) := by rw [← hW3]; exact Y1.out.alloc _
  have B3 : Hid (Below w.heap.size w W3) := by rw [← hW3]; exact bel_trans B1.out (bel_alloc w1 _)
  have z3 : w1.heap.size < W3.heap.size := by rw [← hW3]; simp
  rw [hW3]
  clear hW3 V1 B1 S1 X1 Y1 x0 x1 xf
  refine (specHeapOk_any A n cap lo hi ds q W3 Hn.out hm (HI.out.below B3.out hs) (by have := B3.out.size; omega)).mono ?_
  rintro e w4 ⟨rfl, b4⟩
  have B4 := Lib.hid (bel_trans B3.out b4)
  have T4 := Lib.hid (T3.out.below b4)
  have V4 := Lib.hid (V3.out.below b4 (by omega))
  have S4 := Lib.hid (S3.out.below b4 (by omega))
  have X4 := Lib.hid (X3.out.below b4)
  have Y4 := Lib.hid (Y3.out.below b4)
  have z4 : w1.heap.size < w4.heap.size := T4.out.lt
  clear b4 T3 V3 S3 X3 Y3 B3
  obtain ⟨x0, x1, xf⟩ := X4.out.cells
  have HEnd : Hid (∀ w5, canB ds q id = false → Below w4.heap.size w4 w5 → HeapEndS w (canD ds q id) q (canB ds q id) (.returned (.tuple #[.agg #[.slice A1 n c1, .int .i64 q], .bool false])) ((w5.setCell ⟨w.heap.size + 1, 0, none⟩ (.slice A1 n c1)).setCell ⟨w.heap.size + 1, 1, none⟩ (.int .i64 q))) := fun w5 hno b5 => by
    have := b5.size
    rw [canD_no hno, hno]
    refine ⟨A1, c1, by rw [Hn.out], ?_, ?_, ?_⟩
    · refine DV.wide (lo := w.heap.size + 1 + 1) (hi := w1.heap.size) ?_ (by omega) (by simp [World.setCell]; omega)
      iterate 2 refine DV.setCell ?_ (by show w.heap.size + 1 < w.heap.size + 1 + 1; omega) _
      exact V4.out.below b5 (by omega)
    · iterate 2 refine Below.setCell ?_ (by show w.heap.size ≤ w.heap.size + 1; omega) _
      exact bel_trans B4.out b5
    · rw [Hn.out]
      refine Sh.wide (lo := w.heap.size + 1 + 1) (hi := w1.heap.size) ?_ (by omega) (by simp [World.setCell]; omega)
      iterate 2 refine Sh.setCell ?_ (by show w.heap.size + 1 < w.heap.size + 1 + 1; omega) _
      exact S4.out.below b5 (by omega)
  cases hok : okH ds q
  · have Hno := Lib.hid (canB_bad (id := id) hok)
    clear hok
    obtain ⟨t0, t1, tf⟩ := T4.out.cells
    obtain ⟨y0, y1, yf⟩ := Y4.out.cells
    have hyl := Y4.out.lt
    go_wp2
    exact bodyPost_ret (v := .tuple #[.agg #[.slice A1 n c1, .int .i64 q], .bool false]) (by simp [results, Try.results31, go_sem, y0, y1]) rfl (HEnd.out w4 Hno.out (Below.refl _ _))
  have Hok := Lib.hid hok
  clear hok
  go_wp2_with fail
  refine (specFind_any A n cap lo hi ds q id w4 Hn.out hm (HI.out.below B4.out hs) (by have := B4.out.size; omega)).mono ?_
  rintro e w5 ⟨rfl, b5⟩
  have B5 := Lib.hid b5
  have T5 := Lib.hid (T4.out.below b5)
  have V5 := Lib.hid (V4.out.below b5 (by omega))
  have S5 := Lib.hid (S4.out.below b5 (by omega))
  have Y5 := Lib.hid (Y4.out.below b5)
  have z5 : w1.heap.size < w5.heap.size := T5.out.lt
  clear b5 T4 V4 S4 X4 Y4 x0 x1 xf
  obtain ⟨t0, t1, tf⟩ := T5.out.cells
  obtain ⟨y0, y1, yf⟩ := Y5.out.cells
  have hyl := Y5.out.lt
  by_cases hf : fndD ds id < 0
  · have Hno := Lib.hid (canB_none (q := q) hf)
    obtain ⟨fv, hfv⟩ : ∃ fv, fndD ds id = fv := ⟨_, rfl⟩
    rw [hfv] at hf ⊢
    clear hfv
    go_wp2
    exact bodyPost_ret (v := .tuple #[.agg #[.slice A1 n c1, .int .i64 q], .bool false]) (by simp [results, Try.results31, go_sem, y0, y1]) rfl (HEnd.out w5 Hno.out B5.out)
  clear HEnd
  obtain ⟨k, hfk, hkl⟩ := fndD_lt hf
  have Hcd := Lib.hid (canD_yes Hok.out hfk)
  have Hcan := Lib.hid (canB_yes Hok.out hfk)
  rw [hfk]
  clear hf hfk
  rw [Hn.out] at hkl
  have hk0 : (0 : Int) ≤ (k : Int) := by omega
  have hkn : ¬ (k : Int) < 0 := by omega
  obtain ⟨g, cur, rfl, hg1, hg2, hgc, hcap, hcm, hcs⟩ : ∃ g cur, A1 = some ⟨g, 0, none⟩ ∧ w.heap.size + 1 + 1 ≤ g ∧ g < w1.heap.size ∧ w5.heap[g]? = some (.cells cur 39 (0, 0)) ∧ n ≤ c1 ∧ c1 ≤ maxLen ∧ cur.size = c1 * 3 := by
    rcases S5.out with ⟨_, h0, _⟩ | h
    · omega
    · exact h
  have R5 : Hid (Rd w5 g ds) := by
    obtain ⟨g', e, _, _, h3⟩ := V5.out (by rw [Hn.out]; omega)
    injection e with e
    injection e with e _ _
    subst e
    exact h3
  have Hgc := Lib.hid hgc
  have Hcm := Lib.hid hcm
  have Hcs := Lib.hid hcs
  clear hgc hcm hcs
  obtain ⟨m, rfl⟩ : ∃ m, n = m + 1 := ⟨n - 1, by omega⟩
  obtain ⟨p0, p1, p2, pf⟩ := R5.out m (by rw [Hn.out]; omega)
  obtain ⟨q0, q1, q2, _⟩ := R5.out k (by rw [Hn.out]; omega)
  obtain ⟨pat, pseq, pid, hpd⟩ : ∃ a b c, ds.getD m zDu = ⟨a, b, c⟩ := ⟨_, _, _, rfl⟩
  rw [hpd] at p0 p1 p2
  dsimp only at p0 p1 p2
  generalize ds.getD k zDu = dk at q0 q1 q2
  have Hpd := Lib.hid hpd
  clear hpd
  have hm0 : (0 : Int) ≤ (m : Int) := by omega
  have hk1 : (k : Int) < (m : Int) + 1 := by omega
  have hmc : (m : Int) ≤ (c1 : Int) := by omega
  have hgw : g ≠ w1.heap.size := by omega
  have hwg : w1.heap.size ≠ g := by omega
  have hgl : g < w5.heap.size := by omega
  go_wp2_with fail
  go_region
  obtain ⟨W6, hW6⟩ : ∃ W6, (((w5.setCell ⟨g, k * 3, none⟩ (.int .i64 pat)).setCell ⟨g, k * 3 + 1, none⟩ (.int .i64 pseq)).setCell ⟨g, k * 3 + 2, none⟩ (.int .i64 pid)).drew = W6 := ⟨_, rfl⟩
  have R6 : Hid (Rd W6 g (ds.set k ⟨pat, pseq, pid⟩)) := by rw [← hW6]; exact (R5.out.set3 k ⟨pat, pseq, pid⟩).of_block rfl
  have N6 : Hid (Tn g (g + 1) w5 W6) := by
    rw [← hW6]
    exact ((Tn.of_below (Below.refl _ _)).set3 (Nat.le_refl _) (Nat.lt_succ_self _) k ⟨pat, pseq, pid⟩).trans (Tn.of_below (Below.refl _ _).drew)
  rw [hW6]
  clear hW6 p0 p1 p2 pf q0 q1 q2 t0 t1 tf y0 y1 yf hyl
  have T6 : Hid (Blk2 W6 w1.heap.size (.slice (some ⟨g, 0, none⟩) (m + 1) c1) (.int .i64 q)) := T5.out.of_block (N6.out.block _ z5 (by omega))
  have Y6 : Hid (Blk2 W6 (w.heap.size + 1) (.slice none 0 0) (.int .i64 0)) := Y5.out.of_block (N6.out.block _ (by omega) (by omega))
  have z6 : w5.heap.size ≤ W6.heap.size := N6.out.size
  have hcl : Hid ((cutD ds k).length = m) := by show (cutD ds k).length = m; rw [cutD_len, Hn.out]; rfl
  have HT7 : Hid (Blk2 (W6.setCell ⟨w1.heap.size, 0, none⟩ (.slice (some ⟨g, 0, none⟩) m c1)) w1.heap.size (.slice (some ⟨g, 0, none⟩) m c1) (.int .i64 q)) := T6.out.set0 _
  have HR7 : Hid (Rd (W6.setCell ⟨w1.heap.size, 0, none⟩ (.slice (some ⟨g, 0, none⟩) m c1)) g (cutD ds k)) := by
    rw [cutD_eq Hn.out, Hpd.out]
    exact (R6.out.take m).of_block (heap_setCell_other W6 _ _ _ (by show g ≠ w1.heap.size; omega))
  have HN7 : Hid (Tn g (w1.heap.size + 1) w5 (W6.setCell ⟨w1.heap.size, 0, none⟩ (.slice (some ⟨g, 0, none⟩) m c1))) := (N6.out.wide (Nat.le_refl _) (by omega)).setCell (by omega) (by omega) _
  obtain ⟨t0, t1, tf⟩ := T6.out.cells
  have htl := T6.out.lt
  have HEnd : Hid (∀ w8, Blk2 w8 w1.heap.size (.slice (some ⟨g, 0, none⟩) m c1) (.int .i64 q) → Rd w8 g (remD ds k) → Tn g (w1.heap.size + 1) w5 w8 → HeapEndS w (canD ds q id) q (canB ds q id) (.returned (.tuple #[.agg #[.slice (some ⟨g, 0, none⟩) m c1, .int .i64 q], .bool true])) ((w8.setCell ⟨w.heap.size + 1, 0, none⟩ (.slice (some ⟨g, 0, none⟩) m c1)).setCell ⟨w.heap.size + 1, 1, none⟩ (.int .i64 q))) := fun w8 _ r8 n8 => by
    have s8 := n8.size
    rw [Hcd.out, Hcan.out]
    refine ⟨some ⟨g, 0, none⟩, c1, by rw [remD_len, Hn.out]; rfl, ?_, ?_, ?_⟩
    · refine DV.wide (lo := w.heap.size + 1 + 1) (hi := w8.heap.size) ?_ (by omega) (by simp [World.setCell])
      iterate 2 refine DV.setCell ?_ (by show w.heap.size + 1 < w.heap.size + 1 + 1; omega) _
      exact fun _ => ⟨g, rfl, hg1, by omega, r8⟩
    · iterate 2 refine Below.setCell ?_ (by show w.heap.size ≤ w.heap.size + 1; omega) _
      exact (bel_trans B4.out B5.out).trans (n8.toTurns.below (by omega) (by have := B4.out.size; have := B5.out.size; omega))
    · rw [remD_len, Hn.out]
      refine Sh.wide (lo := w.heap.size + 1 + 1) (hi := w8.heap.size) ?_ (by omega) (by simp [World.setCell])
      iterate 2 refine Sh.setCell ?_ (by show w.heap.size + 1 < w.heap.size + 1 + 1; omega) _
      obtain ⟨cur', hc', hs'⟩ := n8.shape g _ _ Hgc.out
      exact .inr ⟨g, cur', rfl, hg1, by omega, hc', by omega, Hcm.out, by rw [hs']; exact Hcs.out⟩
  by_cases hkm : k < m
  · have Hrem : Hid (remD ds k = downD m (upD k (cutD ds k) k) k) := by show remD ds k = _; unfold remD; rw [Hn.out, if_pos (by omega)]; rfl
    go_wp2_with fail
    obtain ⟨W7, hW7⟩ : ∃ W7, W6.setCell ⟨w1.heap.size, 0, none⟩ (.slice (some ⟨g, 0, none⟩) m c1) = W7 := ⟨_, rfl⟩
    rw [hW7] at HT7 HR7 HN7 ⊢
    clear hW7 t0 t1 tf
    have s7 := HN7.out.size
    refine (specUp_any g m c1 k (cutD ds k) W7 hcl.out (by omega) hkm HR7.out (by omega)).mono ?_
    rintro e w8 ⟨rfl, rd8, tn8⟩
    have R8 := Lib.hid rd8
    have T8 := Lib.hid (HT7.out.of_block (tn8.block _ (by omega) (by omega)))
    have N8 := Lib.hid (HN7.out.trans (tn8.wide (Nat.le_refl _) (show g + 1 ≤ w1.heap.size + 1 by omega)))
    have s8 := tn8.size
    clear rd8 tn8
    obtain ⟨t0, t1, tf⟩ := T8.out.cells
    have htl8 := T8.out.lt
    go_wp2_with fail
    refine (specDown_any g m c1 k (upD k (cutD ds k) k) w8 (by rw [upD_len]; exact hcl.out) (by omega) hkm R8.out (by omega)).mono ?_
    rintro e w9 ⟨rfl, rd9, tn9⟩
    have R9 : Hid (Rd w9 g (remD ds k)) := by rw [Hrem.out]; exact rd9
    have T9 := Lib.hid (T8.out.of_block (tn9.block _ (by omega) (by omega)))
    have N9 := Lib.hid (N8.out.trans (tn9.wide (Nat.le_refl _) (show g + 1 ≤ w1.heap.size + 1 by omega)))
    have s9 := tn9.size
    clear rd9 tn9 t0 t1 tf
    obtain ⟨t0, t1, tf⟩ := T9.out.cells
    have Y9 : Hid (Blk2 w9 (w.heap.size + 1) (.slice none 0 0) (.int .i64 0)) := Y5.out.of_block (N9.out.block _ (by omega) (by omega))
    obtain ⟨y0, y1, yf⟩ := Y9.out.cells
    have hyl := Y9.out.lt
    have htl9 := T9.out.lt
    go_wp2
    exact bodyPost_ret (v := .tuple #[.agg #[.slice (some ⟨g, 0, none⟩) m c1, .int .i64 q], .bool true]) (by simp [results, Try.results31, go_sem, y0, y1]) rfl (HEnd.out w9 T9.out R9.out N9.out)
  · have Hrem : Hid (remD ds k = cutD ds k) := by show remD ds k = _; unfold remD; rw [Hn.out, if_neg (by omega)]
    rw [← Hrem.out] at HR7
    obtain ⟨y0, y1, yf⟩ := Y6.out.cells
    have hyl := Y6.out.lt
    have hne1 : w1.heap.size ≠ w.heap.size + 1 := by omega
    have hne2 : w.heap.size + 1 ≠ w1.heap.size := by omega
    go_wp2
    exact bodyPost_ret (v := .tuple #[.agg #[.slice (some ⟨g, 0, none⟩) m c1, .int .i64 q], .bool true]) (by simp [results, Try.results31, go_sem, y0, y1]) rfl (HEnd.out _ HT7.out HR7.out HN7.out)
end Go.Proofs.Ytnmhdbfemobhkaa.Hp
