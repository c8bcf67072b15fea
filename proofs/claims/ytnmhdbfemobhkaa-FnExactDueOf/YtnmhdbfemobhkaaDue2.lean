/- The reference's DueOf; the law of DueOf walked. -/
import Derived.Test.YtnmhdbfemobhkaaDue1
import Derived.Deep.RegionHeld3
namespace Go.Proofs.Ytnmhdbfemobhkaa.Hp
open Go.RowKit Go.Deep Base

set_option maxRecDepth 100000 in
set_option maxHeartbeats 1000000 in
theorem specDueOf_any (A : Option Addr) (n cap lo hi : Nat) (ds : List Du) (q id : Int) (w : World) (hn : ds.length = n) (hm : n ≤ 1048576) (h : DV w lo hi A ds) (hs : hi ≤ w.heap.size) :
    Calls Try.prog 39 #[.agg #[.slice A n cap, .int .i64 q], .int .i64 id] w fun e w' => e = .returned (.int .i64 (dueA ds q id)) ∧ Below w.heap.size w w' := by
  have Hn := Lib.hid hn
  have HI := Lib.hid h
  clear hn h
  go_enter Try.func39, Try.ntmps39
  go_wp2_with fail
  refine (specHeapOk_any A n cap lo hi ds q _ Hn.out hm (HI.out.below (bel_alloc w _) hs) (by simp; omega)).mono ?_
  rintro e w1 ⟨rfl, b1⟩
  have X1 : Hid (Blk2 w1 w.heap.size (.slice A n cap) (.int .i64 q)) := Blk2.below (heap_alloc_new w _) b1
  have B1 := Lib.hid (bel_trans (bel_alloc w _) b1)
  clear b1
  obtain ⟨x0, x1, xf⟩ := X1.out.cells
  cases hok : okH ds q
  · have Ho := Lib.hid (dueA_bad (id := id) hok)
    clear hok
    go_wp2
    go_ret
    exact ⟨by rw [Ho.out]; rfl, B1.out⟩
  go_wp2_with fail
  refine (specFind_any A n cap lo hi ds q id w1 Hn.out hm (HI.out.below B1.out hs) (Nat.le_trans hs B1.out.size)).mono ?_
  rintro e w2 ⟨rfl, b2⟩
  have B2 := Lib.hid (bel_trans B1.out b2)
  have X2 := Lib.hid (X1.out.below b2)
  clear b2 x0 x1 xf
  obtain ⟨x0, x1, xf⟩ := X2.out.cells
  by_cases hf : fndD ds id < 0
  · have Ho := Lib.hid (dueA_none (q := q) hf)
    obtain ⟨fv, hfv⟩ : ∃ fv, fndD ds id = fv := ⟨_, rfl⟩
    rw [hfv] at hf ⊢
    clear hfv hok
    go_wp2
    go_ret
    exact ⟨by rw [Ho.out]; rfl, B2.out⟩
  obtain ⟨k, hfk, hkl⟩ := fndD_lt hf
  have Ho := Lib.hid (dueA_at hok hfk)
  have HF : Hid (∀ W, Below w.heap.size w W → Calls Try.prog 70 #[.agg #[.slice A n cap, .int .i64 q], .int .i64 id] W fun e w' => e = .returned (.int .i64 (k : Int)) ∧ Below W.heap.size W w') := fun W hb => by
    have := specFind_any A n cap lo hi ds q id W Hn.out hm (HI.out.below hb hs) (Nat.le_trans hs hb.size)
    rw [hfk] at this
    exact this
  rw [hfk]
  clear hok hf hfk
  rw [Hn.out] at hkl
  obtain ⟨g, rfl, _, _, hrd⟩ := (HI.out.below B2.out hs) (by have := Hn.out; omega)
  obtain ⟨c0, _, _, _⟩ := hrd k (by have := Hn.out; omega)
  obtain ⟨dat, hd⟩ : ∃ a, (ds.getD k zDu).at = a := ⟨_, rfl⟩
  rw [hd] at c0
  have Hd := Lib.hid hd
  clear hd hrd
  have hk0 : (0 : Int) ≤ (k : Int) := by omega
  have hk1 : (k : Int) < (n : Int) := by omega
  have hkn : ¬ (k : Int) < 0 := by omega
  go_wp2_with fail
  go_region_held3 (fun V => V.cell? ⟨w.heap.size, 0, none⟩ = some (.slice (some ⟨g, 0, none⟩) n cap) ∧ V.cell? ⟨w.heap.size, 1, none⟩ = some (.int .i64 q) ∧ V.cell? ⟨g, k * 3, none⟩ = some (.int .i64 dat))
    (first
      | with_reducible exact ⟨bkeep x0 H5.out, bkeep x1 H5.out, bkeep c0 H5.out⟩
      | go_keep)
    ((go_at_call 70; refine (HF.out _ B2.out.drew).mono ?_; rintro e w5 ⟨rfl, b5⟩; have H5 := Lib.hid (bel_of_drew b5); clear b5))
  go_wp2
  go_ret
  exact ⟨by rw [Ho.out, Hd.out]; rfl, bel_trans B2.out H5.out⟩

set_option maxRecDepth 100000 in
set_option maxHeartbeats 1000000 in
theorem lawDueOf (A : Option Addr) (n cap : Nat) (ds : List Du) (q id : Int) (w : World) (hn : ds.length = n) (hm : n ≤ 9223372036854775807) (h : LD w A ds) :
    Calls Try.prog 9 #[.agg #[.slice A n cap, .int .i64 q], .int .i64 id] w fun e w' => e = .returned (.bool true) ∧ Below w.heap.size w w' := by
  have Hn := Lib.hid hn
  have HA := Lib.hid h
  clear h hn
  go_enter Try.func9, Try.ntmps9
  go_wp2_with fail
  refine (szHeap_any A n cap q 1048576 _ hm (by omega) (by omega)).mono ?_
  rintro e w1 ⟨rfl, b1⟩
  have K1 : Hid (LBk w1 w.heap.size _ _) := LBk.below (heap_alloc_new w _) b1
  have B1 := Lib.hid (bel_trans (bel_alloc w _) b1)
  have z1 : w.heap.size < w1.heap.size := K1.out.lt
  clear b1
  by_cases hl : (1048576 : Int) < n
  · rw [if_pos hl]
    clear hl
    go_wp2
    go_ret
    exact ⟨rfl, B1.out⟩
  rw [if_neg hl]
  have hl0 : 0 ≤ (1048576 : Int) - n := by omega
  have hl1 : ¬ (1048576 : Int) - n < 0 := by omega
  have hm' : n ≤ 1048576 := by omega
  clear hl
  obtain ⟨a0, a1⟩ := K1.out.cells
  go_wp2_with fail
  refine (toHeap_any A n cap ds q w1 Hn.out hm' (HA.out.below B1.out)).mono ?_
  rintro e w2 ⟨A2, c2, rfl, v2, b2⟩
  have s12 := b2.size
  have K2 := Lib.hid (K1.out.below b2)
  have B2 := Lib.hid (bel_trans B1.out b2)
  have V2 := Lib.hid v2
  clear b2 v2 a0 a1
  obtain ⟨a0, a1⟩ := K2.out.cells
  go_wp2_with fail
  refine (specDueOf_any A2 n c2 w1.heap.size w2.heap.size ds q id w2 Hn.out hm' V2.out (Nat.le_refl _)).mono ?_
  rintro e w3 ⟨rfl, b3⟩
  have s23 := b3.size
  have K3 := Lib.hid (K2.out.below b3)
  have B3 := Lib.hid (bel_trans B2.out b3)
  clear b3 a0 a1
  obtain ⟨ok, hok⟩ : ∃ ok, dueA ds q id = ok := ⟨_, rfl⟩
  rw [hok]
  have Hok := Lib.hid hok
  clear hok
  obtain ⟨a0, a1⟩ := K3.out.cells
  go_wp2_with fail
  refine (toHeap_any A n cap ds q w3 Hn.out hm' (HA.out.below B3.out)).mono ?_
  rintro e w4 ⟨A4, c4, rfl, v4, b4⟩
  have s34 := b4.size
  have K4 := Lib.hid (K3.out.below b4)
  have B4 := Lib.hid (bel_trans B3.out b4)
  have V4 := Lib.hid v4
  clear b4 v4 a0 a1
  obtain ⟨a0, a1⟩ := K4.out.cells
  go_wp2_with fail
  refine (implDueOf_any A4 n c4 w3.heap.size w4.heap.size ds q id _ Hn.out hm' (V4.out.below (bel_alloc w4 _) (Nat.le_refl _)) (by simp)).mono ?_
  rintro e w5 ⟨rfl, b5⟩
  have s45 : w4.heap.size < w5.heap.size := by have := b5.size; simp at this; omega
  have K5 := Lib.hid ((K4.out.alloc _).below b5)
  have X5 : Hid (Blk2 w5 w4.heap.size _ _) := Blk2.below (heap_alloc_new w4 _) b5
  have B5 := Lib.hid (bel_trans (bel_trans B4.out (bel_alloc w4 _)) b5)
  have V5 := Lib.hid ((V4.out.below (bel_alloc w4 _) (Nat.le_refl _)).below b5 (by simp))
  clear b5 a0 a1 V4 V2
  rw [Hok.out]
  go_wp2_with fail
  have HT : Hid (Pair w4.heap.size w.heap.size (.slice A4 n c4) (.int .i64 q) (.slice A n cap) (.int .i64 q) w5.drew) := ⟨X5.out, K5.out⟩
  refine wp_region_held_drew (S := Pair w4.heap.size w.heap.size (.slice A4 n c4) (.int .i64 q) (.slice A n cap) (.int .i64 q)) (by kernel_rfl) HT.out (fun _ => ?_)
  refine wpAnyH_take (i := 0) (v := .agg #[.slice A4 n c4, .int .i64 q]) rfl (by kernel_rfl) (by kernel_rfl) (by kernel_rfl) (fun _ _ _ h => h) (.inl ⟨rfl, fun V hS => ?y0⟩) HT.out ?_
  case y0 =>
    obtain ⟨s0, s1, s5⟩ := hS.1.cells
    clear hS s5
    go_simp
  go_simp
  refine wpAnyH_take (i := 1) (v := .agg #[.slice A n cap, .int .i64 q]) rfl (by kernel_rfl) (by kernel_rfl) (by kernel_rfl) (fun _ _ _ h => h) (.inl ⟨rfl, fun V hS => ?y1⟩) HT.out ?_
  case y1 =>
    obtain ⟨s0, s1⟩ := hS.2.cells
    clear hS
    go_simp
  go_simp
  refine wpAnyH_ready (rs := [2]) (by kernel_rfl) (by simp) (AllReadyH.cons rfl (fun K hK => ?_) AllReadyH.nil)
  go_simp
  refine (toHeap_any A n cap ds q w5.drew Hn.out hm' (HA.out.below B5.out.drew)).mono ?_
  rintro e w6 ⟨A6, c6, rfl, v6, b6⟩
  have s56 := b6.size
  have V6 := Lib.hid v6
  have V5' := Lib.hid (DV.below (w := w5.drew) V5.out b6 (show w4.heap.size ≤ w5.heap.size by omega))
  have B6 := Lib.hid (bel_trans B5.out (bel_of_drew b6))
  have HT6 : Hid (Pair w4.heap.size w.heap.size (.slice A4 n c4) (.int .i64 q) (.slice A n cap) (.int .i64 q) w6) := ⟨HT.out.1.below b6, HT.out.2.below b6⟩
  have s56' : w5.heap.size ≤ w6.heap.size := s56
  clear b6 v6 s56
  refine hK.out _ _ HT6.out (fun _ => ?_)
  go_simp
  refine wpAnyH_ready (rs := [3]) (by kernel_rfl) (by simp) (AllReadyH.cons rfl (fun K hK => ?_) AllReadyH.nil)
  go_simp
  refine (eqHeap_same A4 A6 n c4 c6 _ _ _ _ ds q w6 Hn.out hm' V5'.out V6.out (by omega) (Nat.le_refl _)).mono ?_
  rintro e w7 ⟨rfl, b7⟩
  have B7 := Lib.hid (bel_trans B6.out b7)
  have HT7 : Hid (Pair w4.heap.size w.heap.size (.slice A4 n c4) (.int .i64 q) (.slice A n cap) (.int .i64 q) w7) := ⟨HT6.out.1.below b7, HT6.out.2.below b7⟩
  clear b7
  refine hK.out _ _ HT7.out (fun _ => ?_)
  go_simp
  refine wpAnyH_ready (rs := [4]) (by kernel_rfl) (by simp) (AllReadyH.cons rfl (fun K hK => ?_) AllReadyH.nil)
  go_simp
  refine hK.out _ _ HT7.out (fun _ => ?_)
  refine wpAnyH_done (by kernel_rfl) ?_ _
  go_wp2
  go_ret
  exact ⟨rfl, B7.out⟩
end Go.Proofs.Ytnmhdbfemobhkaa.Hp
