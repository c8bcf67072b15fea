/- The law of NextDue walked. -/
import Derived.Test.YtnmhdbfemobhkaaNxt2
namespace Go.Proofs.Ytnmhdbfemobhkaa.Hp
open Go.RowKit Go.Deep Base

set_option maxRecDepth 100000 in
set_option maxHeartbeats 1000000 in
theorem lawNextDue (A : Option Addr) (n cap : Nat) (ds : List Du) (q : Int) (w : World) (hn : ds.length = n) (hm : n ≤ 9223372036854775807) (h : LD w A ds) :
    Calls Try.prog 7 #[.agg #[.slice A n cap, .int .i64 q]] w fun e w' => e = .returned (.bool true) ∧ Below w.heap.size w w' := by
  have Hn := Lib.hid hn
  have HA := Lib.hid h
  clear h hn
  go_enter Try.func7, Try.ntmps7
  go_wp2_with fail
  refine (szHeap_any A n cap q 1048576 _ hm (by omega) (by omega)).mono ?_
  rintro e w1 ⟨rfl, b1⟩
  have K1 : Hid (LBk w1 w.heap.size _ _) := LBk.below (heap_alloc_new w _) b1
  have B1 := Lib.hid (bel_trans (bel_alloc w _) b1)
  have z1 : w.heap.size < w1.heap.size := K1.out.lt
  clear b1
  by_cases hl : (1048576 : Int) < n
  · rw [if_pos hl]
    clear hl
    go_wp2
    go_ret
    exact ⟨rfl, B1.out⟩
  rw [if_neg hl]
  have hl0 : 0 ≤ (1048576 : Int) - n := by omega
  have hl1 : ¬ (1048576 : Int) - n < 0 := by omega
  have hm' : n ≤ 1048576 := by omega
  clear hl
  obtain ⟨a0, a1⟩ := K1.out.cells
  go_wp2_with fail
  refine (toHeap_any A n cap ds q w1 Hn.out hm' (HA.out.below B1.out)).mono ?_
  rintro e w2 ⟨A2, c2, rfl, v2, b2⟩
  have s12 := b2.size
  have K2 := Lib.hid (K1.out.below b2)
  have B2 := Lib.hid (bel_trans B1.out b2)
  have V2 := Lib.hid v2
  clear b2 v2 a0 a1
  obtain ⟨a0, a1⟩ := K2.out.cells
  go_wp2_with fail
  refine (specNext_any A2 n c2 w1.heap.size w2.heap.size ds q w2 Hn.out hm' V2.out (Nat.le_refl _)).mono ?_
  rintro e w3 ⟨rfl, b3⟩
  have s23 := b3.size
  obtain ⟨dat, hdat⟩ : ∃ x, (nextD ds q).at = x := ⟨_, rfl⟩
  obtain ⟨dseq, hdseq⟩ : ∃ x, (nextD ds q).seq = x := ⟨_, rfl⟩
  obtain ⟨did, hdid⟩ : ∃ x, (nextD ds q).id = x := ⟨_, rfl⟩
  obtain ⟨ok, hok⟩ : ∃ x, nextOk ds q = x := ⟨_, rfl⟩
  have HE : Hid (∀ w e w', NextEnd w ds q e w' → e = .returned (.tuple #[.agg #[.int .i64 dat, .int .i64 dseq, .int .i64 did], .bool ok]) ∧ Below w.heap.size w w') := fun w e w' h => by unfold NextEnd at h; rw [hdat, hdseq, hdid, hok] at h; exact h
  rw [hdat, hdseq, hdid, hok]
  clear hdat hdseq hdid hok a0 a1
  have b3' := bel_trans b3 (bel_alloc w3 (.cells #[.int .i64 dat, .int .i64 dseq, .int .i64 did] 39))
  have K3 := Lib.hid (K2.out.below b3')
  have B3 := Lib.hid (bel_trans B2.out b3')
  have KW : Hid (Bk3 (w3.alloc (.cells #[.int .i64 dat, .int .i64 dseq, .int .i64 did] 39)) w3.heap.size dat dseq did) := heap_alloc_new w3 _
  clear b3 b3' V2
  obtain ⟨a0, a1⟩ := K3.out.cells
  go_wp2_with fail
  refine (toHeap_any A n cap ds q _ Hn.out hm' (HA.out.below B3.out)).mono ?_
  rintro e w4 ⟨A4, c4, rfl, v4, b4⟩
  have s34 : w3.heap.size < w4.heap.size := by have := b4.size; rw [World.size_alloc] at this; omega
  have b4' := bel_trans b4 (bel_alloc w4 (.cells #[.slice A4 n c4, .int .i64 q] 28))
  have K4 := Lib.hid (K3.out.below b4')
  have B4 := Lib.hid (bel_trans B3.out b4')
  have KW4 := Lib.hid (KW.out.below b4')
  have X4 : Hid (Blk2 (w4.alloc (.cells #[.slice A4 n c4, .int .i64 q] 28)) w4.heap.size (.slice A4 n c4) (.int .i64 q)) := heap_alloc_new w4 _
  have V4 := Lib.hid (v4.below (bel_alloc w4 (.cells #[.slice A4 n c4, .int .i64 q] 28)) (Nat.le_refl _))
  rw [World.size_alloc] at V4
  clear b4 b4' v4 a0 a1 K3 KW
  go_wp2_with fail
  refine (implNext_any A4 n c4 _ _ ds q _ Hn.out hm' V4.out (by simp)).mono ?_
  intro e w5 hend
  obtain ⟨rfl, b5⟩ := HE.out _ _ _ hend
  have s45 : w4.heap.size < w5.heap.size := by have := b5.size; simp at this; omega
  have b5' := bel_trans b5 (bel_alloc w5 (.cells #[.int .i64 dat, .int .i64 dseq, .int .i64 did] 39))
  have K5' := Lib.hid (K4.out.below b5')
  have KW5 := Lib.hid (KW4.out.below b5')
  have X5' := Lib.hid (X4.out.below b5')
  have B5' := Lib.hid (bel_trans B4.out b5')
  have V5' := Lib.hid (V4.out.below b5' (by simp))
  clear hend b5 b5' K4 KW4 X4 V4
  obtain ⟨y0, y1, y2, yf⟩ := KW5.out.cells
  go_wp2_with fail
  refine (eqDue_same dat dseq did _).mono ?_
  rintro e wz ⟨rfl, bz⟩
  have szz : w5.heap.size < wz.heap.size := by have := bz.size; simp at this; omega
  obtain ⟨w5', hw5'⟩ : ∃ x, wz = x := ⟨_, rfl⟩
  rw [hw5'] at bz szz ⊢
  clear hw5'
  have K5 := Lib.hid (K5'.out.below bz)
  have X5 := Lib.hid (X5'.out.below bz)
  have B5 := Lib.hid (bel_trans B5'.out bz)
  have V5 := Lib.hid (V5'.out.below bz (by simp; omega))
  clear bz y0 y1 y2 yf K5' X5' B5' V5' KW5
  have hokn : (ok != ok) = false := by simp
  go_wp2_with fail
  have HT : Hid (Pair w4.heap.size w.heap.size (.slice A4 n c4) (.int .i64 q) (.slice A n cap) (.int .i64 q) w5'.drew) := ⟨X5.out, K5.out⟩
  refine wp_region_held_drew (S := Pair w4.heap.size w.heap.size (.slice A4 n c4) (.int .i64 q) (.slice A n cap) (.int .i64 q)) (by kernel_rfl) HT.out (fun _ => ?_)
  refine wpAnyH_take (i := 0) (v := .agg #[.slice A4 n c4, .int .i64 q]) rfl (by kernel_rfl) (by kernel_rfl) (by kernel_rfl) (fun _ _ _ h => h) (.inl ⟨rfl, fun V hS => ?y0⟩) HT.out ?_
  case y0 =>
    obtain ⟨s0, s1, s5⟩ := hS.1.cells
    clear hS s5
    go_simp
  go_simp
  refine wpAnyH_take (i := 1) (v := .agg #[.slice A n cap, .int .i64 q]) rfl (by kernel_rfl) (by kernel_rfl) (by kernel_rfl) (fun _ _ _ h => h) (.inl ⟨rfl, fun V hS => ?y1⟩) HT.out ?_
  case y1 =>
    obtain ⟨s0, s1⟩ := hS.2.cells
    clear hS
    go_simp
  go_simp
  refine wpAnyH_ready (rs := [2]) (by kernel_rfl) (by simp) (AllReadyH.cons rfl (fun K hK => ?_) AllReadyH.nil)
  go_simp
  refine (toHeap_any A n cap ds q w5'.drew Hn.out hm' (HA.out.below B5.out.drew)).mono ?_
  rintro e w6 ⟨A6, c6, rfl, v6, b6⟩
  have s56 := b6.size
  have V6 := Lib.hid v6
  have V5q := Lib.hid (DV.below (w := w5'.drew) V5.out b6 (show w4.heap.size ≤ w5'.heap.size by omega))
  have B6 := Lib.hid (bel_trans B5.out (bel_of_drew b6))
  have HT6 : Hid (Pair w4.heap.size w.heap.size (.slice A4 n c4) (.int .i64 q) (.slice A n cap) (.int .i64 q) w6) := ⟨HT.out.1.below b6, HT.out.2.below b6⟩
  have s56' : w5'.heap.size ≤ w6.heap.size := s56
  clear b6 v6 s56
  refine hK.out _ _ HT6.out (fun _ => ?_)
  go_simp
  refine wpAnyH_ready (rs := [3]) (by kernel_rfl) (by simp) (AllReadyH.cons rfl (fun K hK => ?_) AllReadyH.nil)
  go_simp
  refine (eqHeap_same A4 A6 n c4 c6 _ _ _ _ ds q w6 Hn.out hm' V5q.out V6.out (by omega) (Nat.le_refl _)).mono ?_
  rintro e w7 ⟨rfl, b7⟩
  have B7 := Lib.hid (bel_trans B6.out b7)
  have HT7 : Hid (Pair w4.heap.size w.heap.size (.slice A4 n c4) (.int .i64 q) (.slice A n cap) (.int .i64 q) w7) := ⟨HT6.out.1.below b7, HT6.out.2.below b7⟩
  clear b7
  refine hK.out _ _ HT7.out (fun _ => ?_)
  go_simp
  refine wpAnyH_ready (rs := [4]) (by kernel_rfl) (by simp) (AllReadyH.cons rfl (fun K hK => ?_) AllReadyH.nil)
  go_simp
  refine hK.out _ _ HT7.out (fun _ => ?_)
  refine wpAnyH_done (by kernel_rfl) ?_ _
  go_wp2
  go_ret
  exact ⟨rfl, B7.out⟩
end Go.Proofs.Ytnmhdbfemobhkaa.Hp
