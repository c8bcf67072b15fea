/- An item removed from the program's tree; the copy of a heap that a refused call hands back. -/
import Derived.Test.YtnmhdbfemobhkaaUp5
namespace Go.Proofs.Ytnmhdbfemobhkaa.Hp
open Go.RowKit Go.Deep Base

/-- The last item in the place of item k, and the list one shorter. -/
def cutD (ds : List Du) (k : Nat) : List Du := (swapD ds k (ds.length - 1)).take (ds.length - 1)
/-- Item k removed. -/
def remD (ds : List Du) (k : Nat) : List Du := if k < ds.length - 1 then downD (ds.length - 1) (upD k (cutD ds k) k) k else cutD ds k
theorem cutD_len (ds : List Du) (k : Nat) : (cutD ds k).length = ds.length - 1 := by unfold cutD; rw [List.length_take, swapD_len]; omega
theorem remD_len (ds : List Du) (k : Nat) : (remD ds k).length = ds.length - 1 := by
  unfold remD
  split
  · rw [downD_len, upD_len, cutD_len]
  · exact cutD_len ds k

theorem getD_take {ds : List Du} {m i : Nat} (h : i < m) : (ds.take m).getD i zDu = ds.getD i zDu := by simp [List.getD_eq_getElem?_getD, h]
theorem Rd.take {w : World} {g : Nat} {ds : List Du} (h : Rd w g ds) (m : Nat) : Rd w g (ds.take m) := by
  intro i hi
  rw [List.length_take] at hi
  rw [getD_take (by omega)]
  exact h i (by omega)

theorem Tr.store {w : World} {b : Nat} {A : Option Addr} {n cap : Nat} (h : Tr w b A n cap) (A' : Option Addr) (n' cap' : Nat) : Tr (w.setCell ⟨b, 0, none⟩ (.slice A' n' cap')) b A' n' cap' := by
  have := heap_setCell_same w b 0 _ _ (.slice A' n' cap') h
  exact this

set_option maxRecDepth 100000 in
set_option maxHeartbeats 1000000 in
theorem remove_any (b g m cap k lo hi : Nat) (ds : List Du) (w : World) (hn : ds.length = m + 1) (hm : m + 1 ≤ 1048576) (hk : k < m + 1) (hc : m + 1 ≤ cap) (ht : Tr w b (some ⟨g, 0, none⟩) (m + 1) cap) (h : Rd w g ds) (hg : g < w.heap.size) (hbg : b ≠ g) (hlg : lo ≤ g) (hhg : g < hi) (hlb : lo ≤ b) (hhb : b < hi) :
    Calls Try.prog 66 #[.pointer (some ⟨b, 0, none⟩), .int .i64 (k : Int)] w fun e w' => e = .returned (.tuple #[]) ∧ Tr w' b (some ⟨g, 0, none⟩) m cap ∧ Rd w' g (remD ds k) ∧ Tn lo hi w w' := by
  have Hn := Lib.hid hn
  have HI := Lib.hid h
  have HT := Lib.hid ht
  obtain ⟨t0, t1, _⟩ := ht.cells
  have hbl := ht.lt
  clear hn h ht
  have hk0 : (0 : Int) ≤ (k : Int) := by omega
  have hm0 : (0 : Int) ≤ (m : Int) := by omega
  have hmc : (m : Int) ≤ (cap : Int) := by omega
  have hgb : g ≠ b := fun e => hbg e.symm
  go_enter Try.func66, Try.ntmps66
  go_wp2_with fail
  refine (exchange_any b g (m + 1) cap k m ds w Hn.out hk (by omega) HT.out HI.out hbg).mono ?_
  rintro e w1 ⟨rfl, rd1, tn1⟩
  have R1 := Lib.hid rd1
  have T1 := Lib.hid (HT.out.tn tn1 hbg)
  have N1 := Lib.hid (tn1.wide hlg (show g + 1 ≤ hi by omega))
  have hg1 : g < w1.heap.size := Nat.lt_of_lt_of_le hg tn1.size
  clear rd1 tn1 t0 t1 hbl
  obtain ⟨t0, t1, tf⟩ := T1.out.cells
  have hbl := T1.out.lt
  have HW2 : Hid (Tr (w1.setCell ⟨b, 0, none⟩ (.slice (some ⟨g, 0, none⟩) m cap)) b (some ⟨g, 0, none⟩) m cap) := T1.out.store _ _ _
  have HR2 : Hid (Rd (w1.setCell ⟨b, 0, none⟩ (.slice (some ⟨g, 0, none⟩) m cap)) g (cutD ds k)) := by
    have e : cutD ds k = (swapD ds k m).take m := by unfold cutD; rw [Hn.out]; rfl
    rw [e]
    exact (R1.out.take m).of_block (heap_setCell_other w1 _ _ _ (by show g ≠ b; omega))
  have HN2 : Hid (Tn lo hi w (w1.setCell ⟨b, 0, none⟩ (.slice (some ⟨g, 0, none⟩) m cap))) := N1.out.setCell hlb hhb _
  have hcl : Hid ((cutD ds k).length = m) := by show (cutD ds k).length = m; rw [cutD_len, Hn.out]; rfl
  by_cases hkm : k < m
  · have Hrem : Hid (remD ds k = downD m (upD k (cutD ds k) k) k) := by show remD ds k = _; unfold remD; rw [Hn.out, if_pos (by omega)]; rfl
    go_wp2_with fail
    obtain ⟨W2, hW2⟩ : ∃ W2, w1.setCell ⟨b, 0, none⟩ (.slice (some ⟨g, 0, none⟩) m cap) = W2 := ⟨_, rfl⟩
    rw [hW2] at HW2 HR2 HN2 ⊢
    have hg2 : g < W2.heap.size := Nat.lt_of_lt_of_le hg HN2.out.size
    clear hW2
    refine (moveUp_any b g m cap k (cutD ds k) W2 hcl.out (by omega) hkm HW2.out HR2.out hg2 hbg).mono ?_
    rintro e w3 ⟨rfl, rd3, tn3⟩
    have R3 := Lib.hid rd3
    have T3 := Lib.hid (HW2.out.tn tn3 hbg)
    have N3 := Lib.hid (HN2.out.trans (tn3.wide hlg (show g + 1 ≤ hi by omega)))
    have hg3 : g < w3.heap.size := Nat.lt_of_lt_of_le hg2 tn3.size
    clear rd3 tn3
    go_wp2_with fail
    refine (moveDown_any b g m cap k (upD k (cutD ds k) k) w3 (by rw [upD_len]; exact hcl.out) (by omega) hkm T3.out R3.out hg3 hbg).mono ?_
    rintro e w4 ⟨rfl, rd4, tn4⟩
    have R4 := Lib.hid rd4
    have T4 := Lib.hid (T3.out.tn tn4 hbg)
    have N4 := Lib.hid (N3.out.trans (tn4.wide hlg (show g + 1 ≤ hi by omega)))
    clear rd4 tn4
    go_wp2
    go_end0
    exact ⟨rfl, T4.out, by rw [Hrem.out]; exact R4.out, N4.out⟩
  · have Hrem : Hid (remD ds k = cutD ds k) := by show remD ds k = _; unfold remD; rw [Hn.out, if_neg (by omega)]
    go_wp2
    go_end0
    exact ⟨rfl, HW2.out, by rw [Hrem.out]; exact HR2.out, HN2.out⟩

set_option maxRecDepth 100000 in
set_option maxHeartbeats 1000000 in
theorem sameHeap_any (A : Option Addr) (n cap lo hi : Nat) (ds : List Du) (q : Int) (w : World) (hn : ds.length = n) (hm : n ≤ 1048576) (h : DV w lo hi A ds) (hs : hi ≤ w.heap.size) :
    Calls Try.prog 56 #[.agg #[.slice A n cap, .int .i64 q]] w (NewH w n ds q) := by
  have Hn := Lib.hid hn
  have HI := Lib.hid h
  clear hn h
  go_enter Try.func56, Try.ntmps56
  go_wp2_with fail
  have hB0 : Below w.heap.size w ((w.alloc (.cells #[.slice A n cap, .int .i64 q] 28)).alloc (.cells #[.slice none 0 0, .int .i64 0] 28)) := ((Below.refl _ _).alloc (Nat.le_refl _) _).alloc (by simp) _
  refine (clone_dv A n cap lo hi ds _ Hn.out hm (HI.out.below hB0 hs) (by simp; omega)).mono ?_
  rintro e w1 ⟨A1, c1, rfl, v1, b1⟩
  have X1 : Hid (Blk2 w1 w.heap.size (.slice A n cap) (.int .i64 q)) := Blk2.below (Blk2.alloc (heap_alloc_new w _) _) b1
  have Y1 : Hid (Blk2 w1 (w.heap.size + 1) (.slice none 0 0) (.int .i64 0)) := by
    have h := heap_alloc_new (w.alloc (.cells #[.slice A n cap, .int .i64 q] 28)) (.cells #[.slice none 0 0, .int .i64 0] 28)
    rw [World.size_alloc] at h
    exact (b1.block _ (by simp)).trans h
  have V1 : Hid (DV w1 (w.heap.size + 1 + 1) w1.heap.size A1 ds) := by have h := v1; simp only [World.size_alloc] at h; exact h
  have B1 := Lib.hid (bel_trans hB0 b1)
  have z1 : w.heap.size + 1 < w1.heap.size := Y1.out.lt
  clear b1 v1 hB0
  obtain ⟨x0, x1, xf⟩ := X1.out.cells
  obtain ⟨y0, y1, yf⟩ := Y1.out.cells
  go_wp2
  refine bodyPost_ret (v := .agg #[.slice A1 n c1, .int .i64 q]) (by simp [results, Try.results56, go_sem, y0, y1]) rfl ⟨A1, c1, rfl, ?_, ?_⟩
  · refine DV.wide (lo := w.heap.size + 1 + 1) (hi := w1.heap.size) ?_ (by omega) (by simp [World.setCell])
    iterate 3 refine DV.setCell ?_ (by simp <;> omega) _
    exact V1.out
  · iterate 3 refine Below.setCell ?_ (by simp <;> omega) _
    exact B1.out
end Go.Proofs.Ytnmhdbfemobhkaa.Hp
