/- The law of OnFailure walked. -/
import Derived.Test.YtmmoelijpemlfaaLawB2
import Derived.Test.YtmmoelijpemlfaaBcD
import Derived.Test.YtmmoelijpemlfaaCfg3
import Derived.Deep.DeepCutAuto
namespace Go.Proofs.Ytmmoelijpemlfaa.Bk
open Go.RowKit Go.Deep Base Rw Tick Cf

/-- The law's own configuration in a box. -/
def LC (w : World) (g : Nat) (c : Nat → Int) : Prop := w.heap[g]? = some (.cells #[.int .i64 (c 0), .int .i64 (c 1), .int .i64 (c 2), .int .i64 (c 3), .int .i64 (c 4), .int .i64 (c 5), .int .i64 (c 6), .int .i64 (c 7), .int .i64 (c 8), .int .i64 (c 9), .int .i64 (c 10), .int .i64 (c 11), .int .i64 (c 12), .int .i64 (c 13)] 50 (0, 0))
theorem LC.lt {w : World} {g : Nat} {c : Nat → Int} (h : LC w g c) : g < w.heap.size := (Array.getElem?_eq_some_iff.1 h).1
theorem LC.below {w w' : World} {g B : Nat} {c : Nat → Int} (h : LC w g c) (hb : Below B w w') (hB : g < B) : LC w' g c := (hb.block g hB).trans h
theorem LC.turns {w w' : World} {g lo hi : Nat} {c : Nat → Int} (h : LC w g c) (t : Turns lo hi w w') (h1 : g < w.heap.size) (h2 : g < lo ∨ hi ≤ g) : LC w' g c := (t.block g h1 h2).trans h

/-- What the regions read that hold both arguments: the two boxes. -/
def Args (a b : Nat) (c : Nat → Int) (v0 v1 v2 : Value) (V : World) : Prop := LC V a c ∧ LB V b v0 v1 v2

def Args3 (x : Nat) (x0 x1 x2 : Value) (a b : Nat) (c : Nat → Int) (v0 v1 v2 : Value) (V : World) : Prop := PB V x x0 x1 x2 ∧ LC V a c ∧ LB V b v0 v1 v2
theorem PB.set0 {w : World} {g : Nat} {v0 v1 v2 : Value} (h : PB w g v0 v1 v2) (u : Value) : PB (w.setCell ⟨g, 0, none⟩ u) g u v1 v2 := by
  unfold PB at h ⊢
  simp [World.setCell, Array.getElem?_modify, h]
theorem PB.set2 {w : World} {g : Nat} {v0 v1 v2 : Value} (h : PB w g v0 v1 v2) (u : Value) : PB (w.setCell ⟨g, 2, none⟩ u) g v0 v1 u := by
  unfold PB at h ⊢
  simp [World.setCell, Array.getElem?_modify, h]
theorem PB.fill {w : World} {g : Nat} {v0 v1 v2 : Value} (h : PB w g v0 v1 v2) (a b c : Value) : PB (((w.setCell ⟨g, 0, none⟩ a).setCell ⟨g, 1, none⟩ b).setCell ⟨g, 2, none⟩ c) g a b c := ((h.set0 a).set1 b).set2 c
theorem fail_len (c : Nat → Int) (s u now : Int) (zs : List Int) (h : zs.length ≤ 1048576) : (failR c ⟨s, zs, u⟩ now).1.fails.length ≤ 1048576 := by
  unfold failR
  split
  · next hc =>
    rw [canF_eq] at hc
    simp only [Bool.and_eq_true] at hc
    have hf := (okB_iff.1 hc.1).few
    dsimp only at hf
    split
    · exact Nat.zero_le _
    · split
      · exact h
      · split
        · exact Nat.zero_le _
        · show (keptF c ⟨s, zs, u⟩ now).length ≤ _
          rw [kept_eq]
          have := List.length_filter_le (inW c now) zs
          simp
          omega
  · exact h

set_option maxRecDepth 100000 in
set_option maxHeartbeats 4000000 in
theorem lawOnFailure (c : Nat → Int) (A : Option Addr) (n cap : Nat) (s u now : Int) (zs : List Int) (w : World) (hn : zs.length = n) (hm : n ≤ maxLen) (h : Ints w A zs) :
    Calls Try.prog 7 #[.agg #[.int .i64 (c 0), .int .i64 (c 1), .int .i64 (c 2), .int .i64 (c 3), .int .i64 (c 4), .int .i64 (c 5), .int .i64 (c 6), .int .i64 (c 7), .int .i64 (c 8), .int .i64 (c 9), .int .i64 (c 10), .int .i64 (c 11), .int .i64 (c 12), .int .i64 (c 13)], .agg #[.int .i64 s, .slice A n cap, .int .i64 u], .int .i64 now] w fun e w' => e = .returned (.bool true) ∧ Below w.heap.size w w' := by
  unfold maxLen at hm
  have Hn := Lib.hid hn
  have HA := Lib.hid h
  clear h hn
  go_enter Try.func7, Try.ntmps7
  go_wp2_with fail
  obtain ⟨w1, hw1⟩ : ∃ W', (w.alloc (.cells #[.int .i64 (c 0), .int .i64 (c 1), .int .i64 (c 2), .int .i64 (c 3), .int .i64 (c 4), .int .i64 (c 5), .int .i64 (c 6), .int .i64 (c 7), .int .i64 (c 8), .int .i64 (c 9), .int .i64 (c 10), .int .i64 (c 11), .int .i64 (c 12), .int .i64 (c 13)] 50)).alloc (.cells #[.int .i64 s, .slice A n cap, .int .i64 u] 42) = W' := ⟨_, rfl⟩
  have B : Hid (Below w.heap.size w w1) := by rw [← hw1]; exact bel_two _ _ _
  have KC : Hid (LC w1 w.heap.size c) := by rw [← hw1]; exact LC.below (heap_alloc_new w _) (bel_alloc _ _) (by simp)
  have K : Hid (LB w1 (w.heap.size + 1) (.int .i64 s) (.slice A n cap) (.int .i64 u)) := by
    rw [← hw1]
    have := heap_alloc_new (w.alloc (.cells #[.int .i64 (c 0), .int .i64 (c 1), .int .i64 (c 2), .int .i64 (c 3), .int .i64 (c 4), .int .i64 (c 5), .int .i64 (c 6), .int .i64 (c 7), .int .i64 (c 8), .int .i64 (c 9), .int .i64 (c 10), .int .i64 (c 11), .int .i64 (c 12), .int .i64 (c 13)] 50)) (.cells #[.int .i64 s, .slice A n cap, .int .i64 u] 42)
    simp only [World.size_alloc] at this
    exact this
  have z1 : w.heap.size + 1 < w1.heap.size := K.out.lt
  rw [hw1]
  clear hw1
  refine (szBreaker_any A n cap s u 1048576 _ (by omega) (by omega) (by omega)).mono ?_
  rintro e w2 ⟨rfl, b2⟩
  have z2 : w1.heap.size ≤ w2.heap.size := b2.size
  replace B := Lib.hid (bel_trans B.out b2)
  replace KC := Lib.hid (KC.out.below b2 (by omega))
  replace K := Lib.hid (K.out.below b2 (by omega))
  clear b2
  by_cases hl : (1048576 : Int) < n
  · rw [if_pos hl]
    clear hl
    go_wp2
    go_ret
    exact ⟨rfl, B.out⟩
  rw [if_neg hl]
  have hl0 : 0 ≤ (1048576 : Int) - n := by omega
  have hl1 : ¬ (1048576 : Int) - n < 0 := by omega
  have hm' : n ≤ 1048576 := by omega
  clear hl
  obtain ⟨r, hr⟩ : ∃ r, failR c ⟨s, zs, u⟩ now = r := ⟨_, rfl⟩
  have hfew : r.1.fails.length ≤ 1048576 := by rw [← hr]; exact fail_len c s u now zs (by have := Hn.out; omega)
  have hsp := fun A' c' W hI => specOnFailure_any c A' n c' s u now zs W Hn.out hm' hI
  have him := fun A' c' W hI => implOnFailure_any c A' n c' s u now zs W Hn.out hm' hI
  rw [hr] at hsp him
  clear hr
  obtain ⟨⟨s', zs', u'⟩, bb⟩ := r
  dsimp only at hfew
  have HSP : Hid (∀ A' c' W, Ints W A' zs → Calls Try.prog 32 #[.agg #[.int .i64 (c 0), .int .i64 (c 1), .int .i64 (c 2), .int .i64 (c 3), .int .i64 (c 4), .int .i64 (c 5), .int .i64 (c 6), .int .i64 (c 7), .int .i64 (c 8), .int .i64 (c 9), .int .i64 (c 10), .int .i64 (c 11), .int .i64 (c 12), .int .i64 (c 13)], .agg #[.int .i64 s, .slice A' n c', .int .i64 u], .int .i64 now] W (fun e w' => ∃ Aw cw, e = .returned (.tuple #[.agg #[.int .i64 s', .slice Aw zs'.length cw, .int .i64 u'], .bool bb]) ∧ IV w' W.heap.size w'.heap.size Aw zs' ∧ Below W.heap.size W w')) := hsp
  have HIM : Hid (∀ A' c' W, Ints W A' zs → Calls Try.prog 21 #[.agg #[.int .i64 (c 0), .int .i64 (c 1), .int .i64 (c 2), .int .i64 (c 3), .int .i64 (c 4), .int .i64 (c 5), .int .i64 (c 6), .int .i64 (c 7), .int .i64 (c 8), .int .i64 (c 9), .int .i64 (c 10), .int .i64 (c 11), .int .i64 (c 12), .int .i64 (c 13)], .agg #[.int .i64 s, .slice A' n c', .int .i64 u], .int .i64 now] W (fun e w' => ∃ Aw cw, e = .returned (.tuple #[.agg #[.int .i64 s', .slice Aw zs'.length cw, .int .i64 u'], .bool bb]) ∧ IV w' W.heap.size w'.heap.size Aw zs' ∧ Below W.heap.size W w')) := him
  have HTB : Hid (∀ W, Below w.heap.size w W → Calls Try.prog 24 #[.agg #[.int .i64 s, .slice A n cap, .int .i64 u]] W (fun e w' => ∃ A' c', e = .returned (.agg #[.int .i64 s, .slice A' n c', .int .i64 u]) ∧ IV w' W.heap.size w'.heap.size A' zs ∧ Below W.heap.size W w')) := fun W hW => (toBreaker_any A n cap zs s u W Hn.out hm' (HA.out.below hW)).mono fun e w' ⟨A', c', he, hv, hb⟩ => ⟨A', c', by rw [← Hn.out]; exact he, hv, hb⟩
  clear hsp him
  go_wp2_with fail
  go_cut [8, 9] (fun p b wx => ∃ g lo hi Aw cw, p = .pointer (some ⟨g, 0, none⟩) ∧ b = .bool bb ∧ PB wx g (.int .i64 s') (.slice Aw zs'.length cw) (.int .i64 u') ∧ IV wx lo hi Aw zs' ∧ Below w2.heap.size w2 wx ∧ w2.heap.size ≤ g ∧ w2.heap.size ≤ lo ∧ lo ≤ hi ∧ hi ≤ wx.heap.size ∧ (g < lo ∨ hi ≤ g))
  case first =>
    have HSK : Hid (∀ V, Below w2.heap.size w2 V → Args w.heap.size (w.heap.size + 1) c (.int .i64 s) (.slice A n cap) (.int .i64 u) V) := fun V hV => ⟨KC.out.below hV (by omega), K.out.below hV (by omega)⟩
    have HH : Hid (Below w2.heap.size w2 w2.drew) := (Below.refl _ _).drew
    have HS := Lib.hid (HSK.out _ HH.out)
    refine wp_region_held_drew (S := Args w.heap.size (w.heap.size + 1) c (.int .i64 s) (.slice A n cap) (.int .i64 u)) (by kernel_rfl) HS.out (fun _ => ?_)
    obtain ⟨v0, hv0⟩ : ∃ W', w2.drew = W' := ⟨_, rfl⟩
    have zz0 : w2.heap.size ≤ v0.heap.size := by rw [← hv0]; exact Nat.le_refl _
    rw [hv0] at HH HS ⊢
    clear hv0
    refine wpAnyH_take (i := 0) (v := .agg #[.int .i64 (c 0), .int .i64 (c 1), .int .i64 (c 2), .int .i64 (c 3), .int .i64 (c 4), .int .i64 (c 5), .int .i64 (c 6), .int .i64 (c 7), .int .i64 (c 8), .int .i64 (c 9), .int .i64 (c 10), .int .i64 (c 11), .int .i64 (c 12), .int .i64 (c 13)]) rfl (by kernel_rfl) (by kernel_rfl) (by kernel_rfl) (fun _ _ _ h => h) (.inl ⟨rfl, fun V hS => ?y0⟩) HS.out ?_
    case y0 =>
      obtain ⟨hk, _⟩ := hS
      have q0 : V.cell? ⟨w.heap.size, 0, none⟩ = some (.int .i64 (c 0)) := cell_of_row _ _ 0 _ _ (0, 0) hk
      have q1 : V.cell? ⟨w.heap.size, 1, none⟩ = some (.int .i64 (c 1)) := cell_of_row _ _ 1 _ _ (0, 0) hk
      have q2 : V.cell? ⟨w.heap.size, 2, none⟩ = some (.int .i64 (c 2)) := cell_of_row _ _ 2 _ _ (0, 0) hk
      have q3 : V.cell? ⟨w.heap.size, 3, none⟩ = some (.int .i64 (c 3)) := cell_of_row _ _ 3 _ _ (0, 0) hk
      have q4 : V.cell? ⟨w.heap.size, 4, none⟩ = some (.int .i64 (c 4)) := cell_of_row _ _ 4 _ _ (0, 0) hk
      have q5 : V.cell? ⟨w.heap.size, 5, none⟩ = some (.int .i64 (c 5)) := cell_of_row _ _ 5 _ _ (0, 0) hk
      have q6 : V.cell? ⟨w.heap.size, 6, none⟩ = some (.int .i64 (c 6)) := cell_of_row _ _ 6 _ _ (0, 0) hk
      have q7 : V.cell? ⟨w.heap.size, 7, none⟩ = some (.int .i64 (c 7)) := cell_of_row _ _ 7 _ _ (0, 0) hk
      have q8 : V.cell? ⟨w.heap.size, 8, none⟩ = some (.int .i64 (c 8)) := cell_of_row _ _ 8 _ _ (0, 0) hk
      have q9 : V.cell? ⟨w.heap.size, 9, none⟩ = some (.int .i64 (c 9)) := cell_of_row _ _ 9 _ _ (0, 0) hk
      have q10 : V.cell? ⟨w.heap.size, 10, none⟩ = some (.int .i64 (c 10)) := cell_of_row _ _ 10 _ _ (0, 0) hk
      have q11 : V.cell? ⟨w.heap.size, 11, none⟩ = some (.int .i64 (c 11)) := cell_of_row _ _ 11 _ _ (0, 0) hk
      have q12 : V.cell? ⟨w.heap.size, 12, none⟩ = some (.int .i64 (c 12)) := cell_of_row _ _ 12 _ _ (0, 0) hk
      have q13 : V.cell? ⟨w.heap.size, 13, none⟩ = some (.int .i64 (c 13)) := cell_of_row _ _ 13 _ _ (0, 0) hk
      clear hk
      go_simp
    go_simp
    refine wpAnyH_take (i := 2) (v := .agg #[.int .i64 s, .slice A n cap, .int .i64 u]) rfl (by kernel_rfl) (by kernel_rfl) (by kernel_rfl) (fun _ _ _ h => h) (.inl ⟨rfl, fun V hS => ?y0⟩) HS.out ?_
    case y0 =>
      obtain ⟨_, hk⟩ := hS
      obtain ⟨q0, q1, q2⟩ := hk.cells
      clear hk
      go_simp
    go_simp
    refine wpAnyH_take (i := 4) (v := .int .i64 now) rfl (by kernel_rfl) (by kernel_rfl) (by kernel_rfl) (fun _ _ _ h => h) (.inl ⟨rfl, fun V hS => ?y0⟩) HS.out ?_
    case y0 =>
      clear hS
      go_simp
    go_simp
    refine wpAnyH_ready (rs := [1, 9]) (by kernel_rfl) (by simp) (AllReadyH.cons rfl (fun J hJ => ?_) (AllReadyH.cons rfl (fun J hJ => ?_) AllReadyH.nil))
    · skip
      go_simp
      refine (toConfig_any c _).mono ?_
      rintro e v1 ⟨rfl, bb1⟩
      have zz1 : v0.heap.size ≤ v1.heap.size := bb1.size
      replace HH := Lib.hid (bel_trans HH.out bb1)
      replace HS := Lib.hid (HSK.out _ HH.out)
      clear bb1
      refine hJ.out _ _ HS.out (fun _ => ?_)
      clear hJ J
      go_simp
      refine wpAnyH_ready (rs := [3, 9]) (by kernel_rfl) (by simp) (AllReadyH.cons rfl (fun J hJ => ?_) (AllReadyH.cons rfl (fun J hJ => ?_) AllReadyH.nil))
      · skip
        go_simp
        refine (HTB.out _ (bel_trans B.out HH.out)).mono ?_
        rintro e v2 ⟨A0, c0, rfl, vv2, bb2⟩
        have zz2 : v1.heap.size ≤ v2.heap.size := bb2.size
        replace HH := Lib.hid (bel_trans HH.out bb2)
        replace HS := Lib.hid (HSK.out _ HH.out)
        clear bb2
        have V0 := Lib.hid vv2
        clear vv2
        refine hJ.out _ _ HS.out (fun _ => ?_)
        clear hJ J
        go_simp
        refine wpAnyH_ready (rs := [5, 9]) (by kernel_rfl) (by simp) (AllReadyH.cons rfl (fun J hJ => ?_) (AllReadyH.cons rfl (fun J hJ => ?_) AllReadyH.nil))
        · skip
          go_simp
          refine (HSP.out A0 c0 _ V0.out.ints).mono ?_
          rintro e v3 ⟨Aw, cw, rfl, vv3, bb3⟩
          have zz3 : v2.heap.size ≤ v3.heap.size := bb3.size
          replace V0 := Lib.hid (V0.out.below bb3 (by omega))
          replace HH := Lib.hid (bel_trans HH.out bb3)
          replace HS := Lib.hid (HSK.out _ HH.out)
          clear bb3
          have VR := Lib.hid vv3
          clear vv3
          refine hJ.out _ _ HS.out (fun _ => ?_)
          clear hJ J
          go_simp
          refine wpAnyH_take (i := 6) (v := .tuple #[.agg #[.int .i64 s', .slice Aw zs'.length cw, .int .i64 u'], .bool bb]) rfl (by kernel_rfl) (by kernel_rfl) (by kernel_rfl) (fun _ _ _ h => h) (.inl ⟨rfl, fun V hS => ?y0⟩) HS.out ?_
          case y0 =>
            clear hS
            go_simp
          go_simp
          refine wpAnyH_take (i := 7) (v := .agg #[.int .i64 s', .slice Aw zs'.length cw, .int .i64 u']) rfl (by kernel_rfl) (by kernel_rfl) (by kernel_rfl) (fun _ _ _ h => h) (.inl ⟨rfl, fun V hS => ?y0⟩) HS.out ?_
          case y0 =>
            clear hS
            go_simp
          go_simp
          refine wpAnyH_take (i := 8) (v := .bool bb) rfl (by kernel_rfl) (by kernel_rfl) (by kernel_rfl) (fun _ _ _ h => h) (.inl ⟨rfl, fun V hS => ?y0⟩) HS.out ?_
          case y0 =>
            clear hS
            go_simp
          go_simp
          refine wpAnyH_ready (rs := [9]) (by kernel_rfl) (by simp) (AllReadyH.cons rfl (fun J hJ => ?_) AllReadyH.nil)
          go_simp
          obtain ⟨v4, hv4⟩ : ∃ W', v3.alloc (.cells #[.int .i64 0, .slice none 0 0, .int .i64 0] 31) = W' := ⟨_, rfl⟩
          have bb4 : Below v3.heap.size v3 v4 := by rw [← hv4]; exact bel_alloc _ _
          have G : Hid (PB v4 v3.heap.size (.int .i64 0) (.slice none 0 0) (.int .i64 0)) := by rw [← hv4]; exact heap_alloc_new v3 _
          have zz4 : v3.heap.size < v4.heap.size := G.out.lt
          rw [hv4]
          clear hv4
          replace V0 := Lib.hid (V0.out.below bb4 (by omega))
          replace VR := Lib.hid (VR.out.below bb4 (by omega))
          replace HH := Lib.hid (bel_trans HH.out bb4)
          replace HS := Lib.hid (HSK.out _ HH.out)
          clear bb4
          refine hJ.out _ _ HS.out (fun _ => ?_)
          clear hJ J
          go_simp
          refine wpAnyH_ready (rs := [10]) (by kernel_rfl) (by simp) (AllReadyH.cons rfl (fun J hJ => ?_) AllReadyH.nil)
          obtain ⟨q0, q1, q2, q3⟩ := G.out.cells
          go_simp
          clear q0 q1 q2 q3
          obtain ⟨v5, hv5⟩ : ∃ W', ((v4.setCell ⟨v3.heap.size, 0, none⟩ (.int .i64 s')).setCell ⟨v3.heap.size, 1, none⟩ (.slice Aw zs'.length cw)).setCell ⟨v3.heap.size, 2, none⟩ (.int .i64 u') = W' := ⟨_, rfl⟩
          have GF : Hid (PB v5 v3.heap.size (.int .i64 s') (.slice Aw zs'.length cw) (.int .i64 u')) := by rw [← hv5]; exact G.out.fill _ _ _
          have zz5 : v4.heap.size = v5.heap.size := by rw [← hv5]; simp [World.setCell]
          replace VR : Hid (IV v5 v2.heap.size v3.heap.size Aw zs') := by rw [← hv5]; exact iv_set (iv_set (iv_set VR.out (by show v3.heap.size < v2.heap.size ∨ v3.heap.size ≤ v3.heap.size; omega) _) (by show v3.heap.size < v2.heap.size ∨ v3.heap.size ≤ v3.heap.size; omega) _) (by show v3.heap.size < v2.heap.size ∨ v3.heap.size ≤ v3.heap.size; omega) _
          replace HH : Hid (Below w2.heap.size w2 v5) := by rw [← hv5]; exact ((HH.out.setCell (by show w2.heap.size ≤ v3.heap.size; omega) _).setCell (by show w2.heap.size ≤ v3.heap.size; omega) _).setCell (by show w2.heap.size ≤ v3.heap.size; omega) _
          replace HS := Lib.hid (HSK.out _ HH.out)
          rw [hv5]
          clear hv5
          refine hJ.out _ _ HS.out (fun _ => ?_)
          clear hJ J
          go_simp
          refine wpAnyH_take (i := 11) (v := .bool bb) rfl (by kernel_rfl) (by kernel_rfl) (by kernel_rfl) (fun _ _ _ h => h) (.inl ⟨rfl, fun V hS => ?y0⟩) HS.out ?_
          case y0 =>
            clear hS
            go_simp
          go_simp
          refine wpAnyH_done (by kernel_rfl) ?_ _
          go_wp2
          go_meet
          exact ⟨v3.heap.size, v2.heap.size, v3.heap.size, Aw, cw, rfl, rfl, GF.out, VR.out, HH.out, by omega, by omega, by omega, by omega, by omega⟩
        · skip
          go_simp
          obtain ⟨v3, hv3⟩ : ∃ W', v2.alloc (.cells #[.int .i64 0, .slice none 0 0, .int .i64 0] 31) = W' := ⟨_, rfl⟩
          have bb3 : Below v2.heap.size v2 v3 := by rw [← hv3]; exact bel_alloc _ _
          have G : Hid (PB v3 v2.heap.size (.int .i64 0) (.slice none 0 0) (.int .i64 0)) := by rw [← hv3]; exact heap_alloc_new v2 _
          have zz3 : v2.heap.size < v3.heap.size := G.out.lt
          rw [hv3]
          clear hv3
          replace V0 := Lib.hid (V0.out.below bb3 (by omega))
          replace HH := Lib.hid (bel_trans HH.out bb3)
          replace HS := Lib.hid (HSK.out _ HH.out)
          clear bb3
          refine hJ.out _ _ HS.out (fun _ => ?_)
          clear hJ J
          go_simp
          refine wpAnyH_ready (rs := [5]) (by kernel_rfl) (by simp) (AllReadyH.cons rfl (fun J hJ => ?_) AllReadyH.nil)
          go_simp
          refine (HSP.out A0 c0 _ V0.out.ints).mono ?_
          rintro e v4 ⟨Aw, cw, rfl, vv4, bb4⟩
          have zz4 : v3.heap.size ≤ v4.heap.size := bb4.size
          replace V0 := Lib.hid (V0.out.below bb4 (by omega))
          replace G := Lib.hid (G.out.below bb4 (by omega))
          replace HH := Lib.hid (bel_trans HH.out bb4)
          replace HS := Lib.hid (HSK.out _ HH.out)
          clear bb4
          have VR := Lib.hid vv4
          clear vv4
          refine hJ.out _ _ HS.out (fun _ => ?_)
          clear hJ J
          go_simp
          refine wpAnyH_take (i := 6) (v := .tuple #[.agg #[.int .i64 s', .slice Aw zs'.length cw, .int .i64 u'], .bool bb]) rfl (by kernel_rfl) (by kernel_rfl) (by kernel_rfl) (fun _ _ _ h => h) (.inl ⟨rfl, fun V hS => ?y0⟩) HS.out ?_
          case y0 =>
            clear hS
            go_simp
          go_simp
          refine wpAnyH_take (i := 7) (v := .agg #[.int .i64 s', .slice Aw zs'.length cw, .int .i64 u']) rfl (by kernel_rfl) (by kernel_rfl) (by kernel_rfl) (fun _ _ _ h => h) (.inl ⟨rfl, fun V hS => ?y0⟩) HS.out ?_
          case y0 =>
            clear hS
            go_simp
          go_simp
          refine wpAnyH_take (i := 8) (v := .bool bb) rfl (by kernel_rfl) (by kernel_rfl) (by kernel_rfl) (fun _ _ _ h => h) (.inl ⟨rfl, fun V hS => ?y0⟩) HS.out ?_
          case y0 =>
            clear hS
            go_simp
          go_simp
          refine wpAnyH_ready (rs := [10]) (by kernel_rfl) (by simp) (AllReadyH.cons rfl (fun J hJ => ?_) AllReadyH.nil)
          obtain ⟨q0, q1, q2, q3⟩ := G.out.cells
          go_simp
          clear q0 q1 q2 q3
          obtain ⟨v5, hv5⟩ : ∃ W', ((v4.setCell ⟨v2.heap.size, 0, none⟩ (.int .i64 s')).setCell ⟨v2.heap.size, 1, none⟩ (.slice Aw zs'.length cw)).setCell ⟨v2.heap.size, 2, none⟩ (.int .i64 u') = W' := ⟨_, rfl⟩
          have GF : Hid (PB v5 v2.heap.size (.int .i64 s') (.slice Aw zs'.length cw) (.int .i64 u')) := by rw [← hv5]; exact G.out.fill _ _ _
          have zz5 : v4.heap.size = v5.heap.size := by rw [← hv5]; simp [World.setCell]
          replace VR : Hid (IV v5 v3.heap.size v4.heap.size Aw zs') := by rw [← hv5]; exact iv_set (iv_set (iv_set VR.out (by show v2.heap.size < v3.heap.size ∨ v4.heap.size ≤ v2.heap.size; omega) _) (by show v2.heap.size < v3.heap.size ∨ v4.heap.size ≤ v2.heap.size; omega) _) (by show v2.heap.size < v3.heap.size ∨ v4.heap.size ≤ v2.heap.size; omega) _
          replace HH : Hid (Below w2.heap.size w2 v5) := by rw [← hv5]; exact ((HH.out.setCell (by show w2.heap.size ≤ v2.heap.size; omega) _).setCell (by show w2.heap.size ≤ v2.heap.size; omega) _).setCell (by show w2.heap.size ≤ v2.heap.size; omega) _
          replace HS := Lib.hid (HSK.out _ HH.out)
          rw [hv5]
          clear hv5
          refine hJ.out _ _ HS.out (fun _ => ?_)
          clear hJ J
          go_simp
          refine wpAnyH_take (i := 11) (v := .bool bb) rfl (by kernel_rfl) (by kernel_rfl) (by kernel_rfl) (fun _ _ _ h => h) (.inl ⟨rfl, fun V hS => ?y0⟩) HS.out ?_
          case y0 =>
            clear hS
            go_simp
          go_simp
          refine wpAnyH_done (by kernel_rfl) ?_ _
          go_wp2
          go_meet
          exact ⟨v2.heap.size, v3.heap.size, v4.heap.size, Aw, cw, rfl, rfl, GF.out, VR.out, HH.out, by omega, by omega, by omega, by omega, by omega⟩
      · skip
        go_simp
        obtain ⟨v2, hv2⟩ : ∃ W', v1.alloc (.cells #[.int .i64 0, .slice none 0 0, .int .i64 0] 31) = W' := ⟨_, rfl⟩
        have bb2 : Below v1.heap.size v1 v2 := by rw [← hv2]; exact bel_alloc _ _
        have G : Hid (PB v2 v1.heap.size (.int .i64 0) (.slice none 0 0) (.int .i64 0)) := by rw [← hv2]; exact heap_alloc_new v1 _
        have zz2 : v1.heap.size < v2.heap.size := G.out.lt
        rw [hv2]
        clear hv2
        replace HH := Lib.hid (bel_trans HH.out bb2)
        replace HS := Lib.hid (HSK.out _ HH.out)
        clear bb2
        refine hJ.out _ _ HS.out (fun _ => ?_)
        clear hJ J
        go_simp
        refine wpAnyH_ready (rs := [3]) (by kernel_rfl) (by simp) (AllReadyH.cons rfl (fun J hJ => ?_) AllReadyH.nil)
        go_simp
        refine (HTB.out _ (bel_trans B.out HH.out)).mono ?_
        rintro e v3 ⟨A0, c0, rfl, vv3, bb3⟩
        have zz3 : v2.heap.size ≤ v3.heap.size := bb3.size
        replace G := Lib.hid (G.out.below bb3 (by omega))
        replace HH := Lib.hid (bel_trans HH.out bb3)
        replace HS := Lib.hid (HSK.out _ HH.out)
        clear bb3
        have V0 := Lib.hid vv3
        clear vv3
        refine hJ.out _ _ HS.out (fun _ => ?_)
        clear hJ J
        go_simp
        refine wpAnyH_ready (rs := [5]) (by kernel_rfl) (by simp) (AllReadyH.cons rfl (fun J hJ => ?_) AllReadyH.nil)
        go_simp
        refine (HSP.out A0 c0 _ V0.out.ints).mono ?_
        rintro e v4 ⟨Aw, cw, rfl, vv4, bb4⟩
        have zz4 : v3.heap.size ≤ v4.heap.size := bb4.size
        replace V0 := Lib.hid (V0.out.below bb4 (by omega))
        replace G := Lib.hid (G.out.below bb4 (by omega))
        replace HH := Lib.hid (bel_trans HH.out bb4)
        replace HS := Lib.hid (HSK.out _ HH.out)
        clear bb4
        have VR := Lib.hid vv4
        clear vv4
        refine hJ.out _ _ HS.out (fun _ => ?_)
        clear hJ J
        go_simp
        refine wpAnyH_take (i := 6) (v := .tuple #[.agg #[.int .i64 s', .slice Aw zs'.length cw, .int .i64 u'], .bool bb]) rfl (by kernel_rfl) (by kernel_rfl) (by kernel_rfl) (fun _ _ _ h => h) (.inl ⟨rfl, fun V hS => ?y0⟩) HS.out ?_
        case y0 =>
          clear hS
          go_simp
        go_simp
        refine wpAnyH_take (i := 7) (v := .agg #[.int .i64 s', .slice Aw zs'.length cw, .int .i64 u']) rfl (by kernel_rfl) (by kernel_rfl) (by kernel_rfl) (fun _ _ _ h => h) (.inl ⟨rfl, fun V hS => ?y0⟩) HS.out ?_
        case y0 =>
          clear hS
          go_simp
        go_simp
        refine wpAnyH_take (i := 8) (v := .bool bb) rfl (by kernel_rfl) (by kernel_rfl) (by kernel_rfl) (fun _ _ _ h => h) (.inl ⟨rfl, fun V hS => ?y0⟩) HS.out ?_
        case y0 =>
          clear hS
          go_simp
        go_simp
        refine wpAnyH_ready (rs := [10]) (by kernel_rfl) (by simp) (AllReadyH.cons rfl (fun J hJ => ?_) AllReadyH.nil)
        obtain ⟨q0, q1, q2, q3⟩ := G.out.cells
        go_simp
        clear q0 q1 q2 q3
        obtain ⟨v5, hv5⟩ : ∃ W', ((v4.setCell ⟨v1.heap.size, 0, none⟩ (.int .i64 s')).setCell ⟨v1.heap.size, 1, none⟩ (.slice Aw zs'.length cw)).setCell ⟨v1.heap.size, 2, none⟩ (.int .i64 u') = W' := ⟨_, rfl⟩
        have GF : Hid (PB v5 v1.heap.size (.int .i64 s') (.slice Aw zs'.length cw) (.int .i64 u')) := by rw [← hv5]; exact G.out.fill _ _ _
        have zz5 : v4.heap.size = v5.heap.size := by rw [← hv5]; simp [World.setCell]
        replace VR : Hid (IV v5 v3.heap.size v4.heap.size Aw zs') := by rw [← hv5]; exact iv_set (iv_set (iv_set VR.out (by show v1.heap.size < v3.heap.size ∨ v4.heap.size ≤ v1.heap.size; omega) _) (by show v1.heap.size < v3.heap.size ∨ v4.heap.size ≤ v1.heap.size; omega) _) (by show v1.heap.size < v3.heap.size ∨ v4.heap.size ≤ v1.heap.size; omega) _
        replace HH : Hid (Below w2.heap.size w2 v5) := by rw [← hv5]; exact ((HH.out.setCell (by show w2.heap.size ≤ v1.heap.size; omega) _).setCell (by show w2.heap.size ≤ v1.heap.size; omega) _).setCell (by show w2.heap.size ≤ v1.heap.size; omega) _
        replace HS := Lib.hid (HSK.out _ HH.out)
        rw [hv5]
        clear hv5
        refine hJ.out _ _ HS.out (fun _ => ?_)
        clear hJ J
        go_simp
        refine wpAnyH_take (i := 11) (v := .bool bb) rfl (by kernel_rfl) (by kernel_rfl) (by kernel_rfl) (fun _ _ _ h => h) (.inl ⟨rfl, fun V hS => ?y0⟩) HS.out ?_
        case y0 =>
          clear hS
          go_simp
        go_simp
        refine wpAnyH_done (by kernel_rfl) ?_ _
        go_wp2
        go_meet
        exact ⟨v1.heap.size, v3.heap.size, v4.heap.size, Aw, cw, rfl, rfl, GF.out, VR.out, HH.out, by omega, by omega, by omega, by omega, by omega⟩
    · skip
      go_simp
      obtain ⟨v1, hv1⟩ : ∃ W', v0.alloc (.cells #[.int .i64 0, .slice none 0 0, .int .i64 0] 31) = W' := ⟨_, rfl⟩
      have bb1 : Below v0.heap.size v0 v1 := by rw [← hv1]; exact bel_alloc _ _
      have G : Hid (PB v1 v0.heap.size (.int .i64 0) (.slice none 0 0) (.int .i64 0)) := by rw [← hv1]; exact heap_alloc_new v0 _
      have zz1 : v0.heap.size < v1.heap.size := G.out.lt
      rw [hv1]
      clear hv1
      replace HH := Lib.hid (bel_trans HH.out bb1)
      replace HS := Lib.hid (HSK.out _ HH.out)
      clear bb1
      refine hJ.out _ _ HS.out (fun _ => ?_)
      clear hJ J
      go_simp
      refine wpAnyH_ready (rs := [1]) (by kernel_rfl) (by simp) (AllReadyH.cons rfl (fun J hJ => ?_) AllReadyH.nil)
      go_simp
      refine (toConfig_any c _).mono ?_
      rintro e v2 ⟨rfl, bb2⟩
      have zz2 : v1.heap.size ≤ v2.heap.size := bb2.size
      replace G := Lib.hid (G.out.below bb2 (by omega))
      replace HH := Lib.hid (bel_trans HH.out bb2)
      replace HS := Lib.hid (HSK.out _ HH.out)
      clear bb2
      refine hJ.out _ _ HS.out (fun _ => ?_)
      clear hJ J
      go_simp
      refine wpAnyH_ready (rs := [3]) (by kernel_rfl) (by simp) (AllReadyH.cons rfl (fun J hJ => ?_) AllReadyH.nil)
      go_simp
      refine (HTB.out _ (bel_trans B.out HH.out)).mono ?_
      rintro e v3 ⟨A0, c0, rfl, vv3, bb3⟩
      have zz3 : v2.heap.size ≤ v3.heap.size := bb3.size
      replace G := Lib.hid (G.out.below bb3 (by omega))
      replace HH := Lib.hid (bel_trans HH.out bb3)
      replace HS := Lib.hid (HSK.out _ HH.out)
      clear bb3
      have V0 := Lib.hid vv3
      clear vv3
      refine hJ.out _ _ HS.out (fun _ => ?_)
      clear hJ J
      go_simp
      refine wpAnyH_ready (rs := [5]) (by kernel_rfl) (by simp) (AllReadyH.cons rfl (fun J hJ => ?_) AllReadyH.nil)
      go_simp
      refine (HSP.out A0 c0 _ V0.out.ints).mono ?_
      rintro e v4 ⟨Aw, cw, rfl, vv4, bb4⟩
      have zz4 : v3.heap.size ≤ v4.heap.size := bb4.size
      replace V0 := Lib.hid (V0.out.below bb4 (by omega))
      replace G := Lib.hid (G.out.below bb4 (by omega))
      replace HH := Lib.hid (bel_trans HH.out bb4)
      replace HS := Lib.hid (HSK.out _ HH.out)
      clear bb4
      have VR := Lib.hid vv4
      clear vv4
      refine hJ.out _ _ HS.out (fun _ => ?_)
      clear hJ J
      go_simp
      refine wpAnyH_take (i := 6) (v := .tuple #[.agg #[.int .i64 s', .slice Aw zs'.length cw, .int .i64 u'], .bool bb]) rfl (by kernel_rfl) (by kernel_rfl) (by kernel_rfl) (fun _ _ _ h => h) (.inl ⟨rfl, fun V hS => ?y0⟩) HS.out ?_
      case y0 =>
        clear hS
        go_simp
      go_simp
      refine wpAnyH_take (i := 7) (v := .agg #[.int .i64 s', .slice Aw zs'.length cw, .int .i64 u']) rfl (by kernel_rfl) (by kernel_rfl) (by kernel_rfl) (fun _ _ _ h => h) (.inl ⟨rfl, fun V hS => ?y0⟩) HS.out ?_
      case y0 =>
        clear hS
        go_simp
      go_simp
      refine wpAnyH_take (i := 8) (v := .bool bb) rfl (by kernel_rfl) (by kernel_rfl) (by kernel_rfl) (fun _ _ _ h => h) (.inl ⟨rfl, fun V hS => ?y0⟩) HS.out ?_
      case y0 =>
        clear hS
        go_simp
      go_simp
      refine wpAnyH_ready (rs := [10]) (by kernel_rfl) (by simp) (AllReadyH.cons rfl (fun J hJ => ?_) AllReadyH.nil)
      obtain ⟨q0, q1, q2, q3⟩ := G.out.cells
      go_simp
      clear q0 q1 q2 q3
      obtain ⟨v5, hv5⟩ : ∃ W', ((v4.setCell ⟨v0.heap.size, 0, none⟩ (.int .i64 s')).setCell ⟨v0.heap.size, 1, none⟩ (.slice Aw zs'.length cw)).setCell ⟨v0.heap.size, 2, none⟩ (.int .i64 u') = W' := ⟨_, rfl⟩
      have GF : Hid (PB v5 v0.heap.size (.int .i64 s') (.slice Aw zs'.length cw) (.int .i64 u')) := by rw [← hv5]; exact G.out.fill _ _ _
      have zz5 : v4.heap.size = v5.heap.size := by rw [← hv5]; simp [World.setCell]
      replace VR : Hid (IV v5 v3.heap.size v4.heap.size Aw zs') := by rw [← hv5]; exact iv_set (iv_set (iv_set VR.out (by show v0.heap.size < v3.heap.size ∨ v4.heap.size ≤ v0.heap.size; omega) _) (by show v0.heap.size < v3.heap.size ∨ v4.heap.size ≤ v0.heap.size; omega) _) (by show v0.heap.size < v3.heap.size ∨ v4.heap.size ≤ v0.heap.size; omega) _
      replace HH : Hid (Below w2.heap.size w2 v5) := by rw [← hv5]; exact ((HH.out.setCell (by show w2.heap.size ≤ v0.heap.size; omega) _).setCell (by show w2.heap.size ≤ v0.heap.size; omega) _).setCell (by show w2.heap.size ≤ v0.heap.size; omega) _
      replace HS := Lib.hid (HSK.out _ HH.out)
      rw [hv5]
      clear hv5
      refine hJ.out _ _ HS.out (fun _ => ?_)
      clear hJ J
      go_simp
      refine wpAnyH_take (i := 11) (v := .bool bb) rfl (by kernel_rfl) (by kernel_rfl) (by kernel_rfl) (fun _ _ _ h => h) (.inl ⟨rfl, fun V hS => ?y0⟩) HS.out ?_
      case y0 =>
        clear hS
        go_simp
      go_simp
      refine wpAnyH_done (by kernel_rfl) ?_ _
      go_wp2
      go_meet
      exact ⟨v0.heap.size, v3.heap.size, v4.heap.size, Aw, cw, rfl, rfl, GF.out, VR.out, HH.out, by omega, by omega, by omega, by omega, by omega⟩
  case rest =>
    obtain ⟨w3, hwc⟩ : ∃ W', wc = W' := ⟨_, rfl⟩
    rw [hwc] at hcut ⊢
    clear hwc
    obtain ⟨gw, low, hiw, Aw, cw, rfl, rfl, pw, vw, bw, x1w, x2w, x3w, x4w, x5w⟩ := hcut
    have z3 : w2.heap.size ≤ w3.heap.size := bw.size
    replace B := Lib.hid (bel_trans B.out bw)
    replace KC := Lib.hid (KC.out.below bw (by omega))
    replace K := Lib.hid (K.out.below bw (by omega))
    have PW := Lib.hid pw
    have VW := Lib.hid vw
    clear pw vw bw
    have yw := PW.out.lt
    obtain ⟨q00, q01, q02⟩ := K.out.cells
    have q04 := K.out.lt
    go_wp2_with fail
    clear q00 q01 q02 q04
    refine (toBreaker_any A n cap zs s u _ Hn.out hm' (HA.out.below B.out)).mono ?_
    rintro e w4 ⟨Ax, cx, rfl, v4, b4⟩
    have z4 : w3.heap.size ≤ w4.heap.size := b4.size
    replace B := Lib.hid (bel_trans B.out b4)
    replace KC := Lib.hid (KC.out.below b4 (by omega))
    replace K := Lib.hid (K.out.below b4 (by omega))
    replace PW := Lib.hid (PW.out.below b4 (by omega))
    replace VW := Lib.hid (VW.out.below b4 (by omega))
    clear b4
    have VX := Lib.hid v4
    clear v4
    rw [Hn.out]
    go_wp2_with fail
    obtain ⟨w5, hw5⟩ : ∃ W', w4.alloc (.cells #[.int .i64 s, .slice Ax n cx, .int .i64 u] 31) = W' := ⟨_, rfl⟩
    have b5 : Below w4.heap.size w4 w5 := by rw [← hw5]; exact bel_alloc _ _
    have PX : Hid (PB w5 w4.heap.size (.int .i64 s) (.slice Ax n cx) (.int .i64 u)) := by rw [← hw5]; exact heap_alloc_new w4 _
    have z5 : w4.heap.size < w5.heap.size := PX.out.lt
    rw [hw5]
    clear hw5
    replace B := Lib.hid (bel_trans B.out b5)
    replace KC := Lib.hid (KC.out.below b5 (by omega))
    replace K := Lib.hid (K.out.below b5 (by omega))
    replace PW := Lib.hid (PW.out.below b5 (by omega))
    replace VW := Lib.hid (VW.out.below b5 (by omega))
    replace VX := Lib.hid (VX.out.below b5 (by omega))
    clear b5
    go_cut [11, 12] (fun p b wx => ∃ g lo hi Aw cw, p = .pointer (some ⟨g, 0, none⟩) ∧ b = .bool bb ∧ PB wx g (.int .i64 s') (.slice Aw zs'.length cw) (.int .i64 u') ∧ IV wx lo hi Aw zs' ∧ Below w5.heap.size w5 wx ∧ w5.heap.size ≤ g ∧ w5.heap.size ≤ lo ∧ lo ≤ hi ∧ hi ≤ wx.heap.size ∧ (g < lo ∨ hi ≤ g))
    case first =>
      have HSK : Hid (∀ V, Below w5.heap.size w5 V → Args3 w4.heap.size (.int .i64 s) (.slice Ax n cx) (.int .i64 u) w.heap.size (w.heap.size + 1) c (.int .i64 s) (.slice A n cap) (.int .i64 u) V) := fun V hV => ⟨PX.out.below hV (by omega), KC.out.below hV (by omega), K.out.below hV (by omega)⟩
      have HH : Hid (Below w5.heap.size w5 w5.drew) := (Below.refl _ _).drew
      have HS := Lib.hid (HSK.out _ HH.out)
      refine wp_region_held_drew (S := Args3 w4.heap.size (.int .i64 s) (.slice Ax n cx) (.int .i64 u) w.heap.size (w.heap.size + 1) c (.int .i64 s) (.slice A n cap) (.int .i64 u)) (by kernel_rfl) HS.out (fun _ => ?_)
      obtain ⟨v0, hv0⟩ : ∃ W', w5.drew = W' := ⟨_, rfl⟩
      have zz0 : w5.heap.size ≤ v0.heap.size := by rw [← hv0]; exact Nat.le_refl _
      rw [hv0] at HH HS ⊢
      clear hv0
      refine wpAnyH_take (i := 0) (v := .agg #[.int .i64 (c 0), .int .i64 (c 1), .int .i64 (c 2), .int .i64 (c 3), .int .i64 (c 4), .int .i64 (c 5), .int .i64 (c 6), .int .i64 (c 7), .int .i64 (c 8), .int .i64 (c 9), .int .i64 (c 10), .int .i64 (c 11), .int .i64 (c 12), .int .i64 (c 13)]) rfl (by kernel_rfl) (by kernel_rfl) (by kernel_rfl) (fun _ _ _ h => h) (.inl ⟨rfl, fun V hS => ?y0⟩) HS.out ?_
      case y0 =>
        obtain ⟨_, hk, _⟩ := hS
        have q0 : V.cell? ⟨w.heap.size, 0, none⟩ = some (.int .i64 (c 0)) := cell_of_row _ _ 0 _ _ (0, 0) hk
        have q1 : V.cell? ⟨w.heap.size, 1, none⟩ = some (.int .i64 (c 1)) := cell_of_row _ _ 1 _ _ (0, 0) hk
        have q2 : V.cell? ⟨w.heap.size, 2, none⟩ = some (.int .i64 (c 2)) := cell_of_row _ _ 2 _ _ (0, 0) hk
        have q3 : V.cell? ⟨w.heap.size, 3, none⟩ = some (.int .i64 (c 3)) := cell_of_row _ _ 3 _ _ (0, 0) hk
        have q4 : V.cell? ⟨w.heap.size, 4, none⟩ = some (.int .i64 (c 4)) := cell_of_row _ _ 4 _ _ (0, 0) hk
        have q5 : V.cell? ⟨w.heap.size, 5, none⟩ = some (.int .i64 (c 5)) := cell_of_row _ _ 5 _ _ (0, 0) hk
        have q6 : V.cell? ⟨w.heap.size, 6, none⟩ = some (.int .i64 (c 6)) := cell_of_row _ _ 6 _ _ (0, 0) hk
        have q7 : V.cell? ⟨w.heap.size, 7, none⟩ = some (.int .i64 (c 7)) := cell_of_row _ _ 7 _ _ (0, 0) hk
        have q8 : V.cell? ⟨w.heap.size, 8, none⟩ = some (.int .i64 (c 8)) := cell_of_row _ _ 8 _ _ (0, 0) hk
        have q9 : V.cell? ⟨w.heap.size, 9, none⟩ = some (.int .i64 (c 9)) := cell_of_row _ _ 9 _ _ (0, 0) hk
        have q10 : V.cell? ⟨w.heap.size, 10, none⟩ = some (.int .i64 (c 10)) := cell_of_row _ _ 10 _ _ (0, 0) hk
        have q11 : V.cell? ⟨w.heap.size, 11, none⟩ = some (.int .i64 (c 11)) := cell_of_row _ _ 11 _ _ (0, 0) hk
        have q12 : V.cell? ⟨w.heap.size, 12, none⟩ = some (.int .i64 (c 12)) := cell_of_row _ _ 12 _ _ (0, 0) hk
        have q13 : V.cell? ⟨w.heap.size, 13, none⟩ = some (.int .i64 (c 13)) := cell_of_row _ _ 13 _ _ (0, 0) hk
        clear hk
        go_simp
      go_simp
      refine wpAnyH_take (i := 2) (v := .agg #[.int .i64 s, .slice Ax n cx, .int .i64 u]) rfl (by kernel_rfl) (by kernel_rfl) (by kernel_rfl) (fun _ _ _ h => h) (.inl ⟨rfl, fun V hS => ?y0⟩) HS.out ?_
      case y0 =>
        obtain ⟨hk, _⟩ := hS
        obtain ⟨q0, q1, q2, _⟩ := hk.cells
        clear hk
        go_simp
      go_simp
      refine wpAnyH_take (i := 3) (v := .int .i64 now) rfl (by kernel_rfl) (by kernel_rfl) (by kernel_rfl) (fun _ _ _ h => h) (.inl ⟨rfl, fun V hS => ?y0⟩) HS.out ?_
      case y0 =>
        clear hS
        go_simp
      go_simp
      refine wpAnyH_ready (rs := [1, 8]) (by kernel_rfl) (by simp) (AllReadyH.cons rfl (fun J hJ => ?_) (AllReadyH.cons rfl (fun J hJ => ?_) AllReadyH.nil))
      · skip
        go_simp
        refine (toConfig_any c _).mono ?_
        rintro e v1 ⟨rfl, bb1⟩
        have zz1 : v0.heap.size ≤ v1.heap.size := bb1.size
        replace HH := Lib.hid (bel_trans HH.out bb1)
        replace HS := Lib.hid (HSK.out _ HH.out)
        clear bb1
        refine hJ.out _ _ HS.out (fun _ => ?_)
        clear hJ J
        go_simp
        refine wpAnyH_ready (rs := [4, 8]) (by kernel_rfl) (by simp) (AllReadyH.cons rfl (fun J hJ => ?_) (AllReadyH.cons rfl (fun J hJ => ?_) AllReadyH.nil))
        · skip
          go_simp
          refine (HIM.out Ax cx _ (VX.out.ints.below HH.out)).mono ?_
          rintro e v2 ⟨Aw, cw, rfl, vv2, bb2⟩
          have zz2 : v1.heap.size ≤ v2.heap.size := bb2.size
          replace HH := Lib.hid (bel_trans HH.out bb2)
          replace HS := Lib.hid (HSK.out _ HH.out)
          clear bb2
          have VR := Lib.hid vv2
          clear vv2
          refine hJ.out _ _ HS.out (fun _ => ?_)
          clear hJ J
          go_simp
          refine wpAnyH_take (i := 5) (v := .tuple #[.agg #[.int .i64 s', .slice Aw zs'.length cw, .int .i64 u'], .bool bb]) rfl (by kernel_rfl) (by kernel_rfl) (by kernel_rfl) (fun _ _ _ h => h) (.inl ⟨rfl, fun V hS => ?y0⟩) HS.out ?_
          case y0 =>
            clear hS
            go_simp
          go_simp
          refine wpAnyH_take (i := 6) (v := .agg #[.int .i64 s', .slice Aw zs'.length cw, .int .i64 u']) rfl (by kernel_rfl) (by kernel_rfl) (by kernel_rfl) (fun _ _ _ h => h) (.inl ⟨rfl, fun V hS => ?y0⟩) HS.out ?_
          case y0 =>
            clear hS
            go_simp
          go_simp
          refine wpAnyH_take (i := 7) (v := .bool bb) rfl (by kernel_rfl) (by kernel_rfl) (by kernel_rfl) (fun _ _ _ h => h) (.inl ⟨rfl, fun V hS => ?y0⟩) HS.out ?_
          case y0 =>
            clear hS
            go_simp
          go_simp
          refine wpAnyH_ready (rs := [8]) (by kernel_rfl) (by simp) (AllReadyH.cons rfl (fun J hJ => ?_) AllReadyH.nil)
          go_simp
          obtain ⟨v3, hv3⟩ : ∃ W', v2.alloc (.cells #[.int .i64 0, .slice none 0 0, .int .i64 0] 31) = W' := ⟨_, rfl⟩
          have bb3 : Below v2.heap.size v2 v3 := by rw [← hv3]; exact bel_alloc _ _
          have G : Hid (PB v3 v2.heap.size (.int .i64 0) (.slice none 0 0) (.int .i64 0)) := by rw [← hv3]; exact heap_alloc_new v2 _
          have zz3 : v2.heap.size < v3.heap.size := G.out.lt
          rw [hv3]
          clear hv3
          replace VR := Lib.hid (VR.out.below bb3 (by omega))
          replace HH := Lib.hid (bel_trans HH.out bb3)
          replace HS := Lib.hid (HSK.out _ HH.out)
          clear bb3
          refine hJ.out _ _ HS.out (fun _ => ?_)
          clear hJ J
          go_simp
          refine wpAnyH_ready (rs := [9]) (by kernel_rfl) (by simp) (AllReadyH.cons rfl (fun J hJ => ?_) AllReadyH.nil)
          obtain ⟨q0, q1, q2, q3⟩ := G.out.cells
          go_simp
          clear q0 q1 q2 q3
          obtain ⟨v4, hv4⟩ : ∃ W', ((v3.setCell ⟨v2.heap.size, 0, none⟩ (.int .i64 s')).setCell ⟨v2.heap.size, 1, none⟩ (.slice Aw zs'.length cw)).setCell ⟨v2.heap.size, 2, none⟩ (.int .i64 u') = W' := ⟨_, rfl⟩
          have GF : Hid (PB v4 v2.heap.size (.int .i64 s') (.slice Aw zs'.length cw) (.int .i64 u')) := by rw [← hv4]; exact G.out.fill _ _ _
          have zz4 : v3.heap.size = v4.heap.size := by rw [← hv4]; simp [World.setCell]
          replace VR : Hid (IV v4 v1.heap.size v2.heap.size Aw zs') := by rw [← hv4]; exact iv_set (iv_set (iv_set VR.out (by show v2.heap.size < v1.heap.size ∨ v2.heap.size ≤ v2.heap.size; omega) _) (by show v2.heap.size < v1.heap.size ∨ v2.heap.size ≤ v2.heap.size; omega) _) (by show v2.heap.size < v1.heap.size ∨ v2.heap.size ≤ v2.heap.size; omega) _
          replace HH : Hid (Below w5.heap.size w5 v4) := by rw [← hv4]; exact ((HH.out.setCell (by show w5.heap.size ≤ v2.heap.size; omega) _).setCell (by show w5.heap.size ≤ v2.heap.size; omega) _).setCell (by show w5.heap.size ≤ v2.heap.size; omega) _
          replace HS := Lib.hid (HSK.out _ HH.out)
          rw [hv4]
          clear hv4
          refine hJ.out _ _ HS.out (fun _ => ?_)
          clear hJ J
          go_simp
          refine wpAnyH_take (i := 10) (v := .bool bb) rfl (by kernel_rfl) (by kernel_rfl) (by kernel_rfl) (fun _ _ _ h => h) (.inl ⟨rfl, fun V hS => ?y0⟩) HS.out ?_
          case y0 =>
            clear hS
            go_simp
          go_simp
          refine wpAnyH_done (by kernel_rfl) ?_ _
          go_wp2
          go_meet
          exact ⟨v2.heap.size, v1.heap.size, v2.heap.size, Aw, cw, rfl, rfl, GF.out, VR.out, HH.out, by omega, by omega, by omega, by omega, by omega⟩
        · skip
          go_simp
          obtain ⟨v2, hv2⟩ : ∃ W', v1.alloc (.cells #[.int .i64 0, .slice none 0 0, .int .i64 0] 31) = W' := ⟨_, rfl⟩
          have bb2 : Below v1.heap.size v1 v2 := by rw [← hv2]; exact bel_alloc _ _
          have G : Hid (PB v2 v1.heap.size (.int .i64 0) (.slice none 0 0) (.int .i64 0)) := by rw [← hv2]; exact heap_alloc_new v1 _
          have zz2 : v1.heap.size < v2.heap.size := G.out.lt
          rw [hv2]
          clear hv2
          replace HH := Lib.hid (bel_trans HH.out bb2)
          replace HS := Lib.hid (HSK.out _ HH.out)
          clear bb2
          refine hJ.out _ _ HS.out (fun _ => ?_)
          clear hJ J
          go_simp
          refine wpAnyH_ready (rs := [4]) (by kernel_rfl) (by simp) (AllReadyH.cons rfl (fun J hJ => ?_) AllReadyH.nil)
          go_simp
          refine (HIM.out Ax cx _ (VX.out.ints.below HH.out)).mono ?_
          rintro e v3 ⟨Aw, cw, rfl, vv3, bb3⟩
          have zz3 : v2.heap.size ≤ v3.heap.size := bb3.size
          replace G := Lib.hid (G.out.below bb3 (by omega))
          replace HH := Lib.hid (bel_trans HH.out bb3)
          replace HS := Lib.hid (HSK.out _ HH.out)
          clear bb3
          have VR := Lib.hid vv3
          clear vv3
          refine hJ.out _ _ HS.out (fun _ => ?_)
          clear hJ J
          go_simp
          refine wpAnyH_take (i := 5) (v := .tuple #[.agg #[.int .i64 s', .slice Aw zs'.length cw, .int .i64 u'], .bool bb]) rfl (by kernel_rfl) (by kernel_rfl) (by kernel_rfl) (fun _ _ _ h => h) (.inl ⟨rfl, fun V hS => ?y0⟩) HS.out ?_
          case y0 =>
            clear hS
            go_simp
          go_simp
          refine wpAnyH_take (i := 6) (v := .agg #[.int .i64 s', .slice Aw zs'.length cw, .int .i64 u']) rfl (by kernel_rfl) (by kernel_rfl) (by kernel_rfl) (fun _ _ _ h => h) (.inl ⟨rfl, fun V hS => ?y0⟩) HS.out ?_
          case y0 =>
            clear hS
            go_simp
          go_simp
          refine wpAnyH_take (i := 7) (v := .bool bb) rfl (by kernel_rfl) (by kernel_rfl) (by kernel_rfl) (fun _ _ _ h => h) (.inl ⟨rfl, fun V hS => ?y0⟩) HS.out ?_
          case y0 =>
            clear hS
            go_simp
          go_simp
          refine wpAnyH_ready (rs := [9]) (by kernel_rfl) (by simp) (AllReadyH.cons rfl (fun J hJ => ?_) AllReadyH.nil)
          obtain ⟨q0, q1, q2, q3⟩ := G.out.cells
          go_simp
          clear q0 q1 q2 q3
          obtain ⟨v4, hv4⟩ : ∃ W', ((v3.setCell ⟨v1.heap.size, 0, none⟩ (.int .i64 s')).setCell ⟨v1.heap.size, 1, none⟩ (.slice Aw zs'.length cw)).setCell ⟨v1.heap.size, 2, none⟩ (.int .i64 u') = W' := ⟨_, rfl⟩
          have GF : Hid (PB v4 v1.heap.size (.int .i64 s') (.slice Aw zs'.length cw) (.int .i64 u')) := by rw [← hv4]; exact G.out.fill _ _ _
          have zz4 : v3.heap.size = v4.heap.size := by rw [← hv4]; simp [World.setCell]
          replace VR : Hid (IV v4 v2.heap.size v3.heap.size Aw zs') := by rw [← hv4]; exact iv_set (iv_set (iv_set VR.out (by show v1.heap.size < v2.heap.size ∨ v3.heap.size ≤ v1.heap.size; omega) _) (by show v1.heap.size < v2.heap.size ∨ v3.heap.size ≤ v1.heap.size; omega) _) (by show v1.heap.size < v2.heap.size ∨ v3.heap.size ≤ v1.heap.size; omega) _
          replace HH : Hid (Below w5.heap.size w5 v4) := by rw [← hv4]; exact ((HH.out.setCell (by show w5.heap.size ≤ v1.heap.size; omega) _).setCell (by show w5.heap.size ≤ v1.heap.size; omega) _).setCell (by show w5.heap.size ≤ v1.heap.size; omega) _
          replace HS := Lib.hid (HSK.out _ HH.out)
          rw [hv4]
          clear hv4
          refine hJ.out _ _ HS.out (fun _ => ?_)
          clear hJ J
          go_simp
          refine wpAnyH_take (i := 10) (v := .bool bb) rfl (by kernel_rfl) (by kernel_rfl) (by kernel_rfl) (fun _ _ _ h => h) (.inl ⟨rfl, fun V hS => ?y0⟩) HS.out ?_
          case y0 =>
            clear hS
            go_simp
          go_simp
          refine wpAnyH_done (by kernel_rfl) ?_ _
          go_wp2
          go_meet
          exact ⟨v1.heap.size, v2.heap.size, v3.heap.size, Aw, cw, rfl, rfl, GF.out, VR.out, HH.out, by omega, by omega, by omega, by omega, by omega⟩
      · skip
        go_simp
        obtain ⟨v1, hv1⟩ : ∃ W', v0.alloc (.cells #[.int .i64 0, .slice none 0 0, .int .i64 0] 31) = W' := ⟨_, rfl⟩
        have bb1 : Below v0.heap.size v0 v1 := by rw [← hv1]; exact bel_alloc _ _
        have G : Hid (PB v1 v0.heap.size (.int .i64 0) (.slice none 0 0) (.int .i64 0)) := by rw [← hv1]; exact heap_alloc_new v0 _
        have zz1 : v0.heap.size < v1.heap.size := G.out.lt
        rw [hv1]
        clear hv1
        replace HH := Lib.hid (bel_trans HH.out bb1)
        replace HS := Lib.hid (HSK.out _ HH.out)
        clear bb1
        refine hJ.out _ _ HS.out (fun _ => ?_)
        clear hJ J
        go_simp
        refine wpAnyH_ready (rs := [1]) (by kernel_rfl) (by simp) (AllReadyH.cons rfl (fun J hJ => ?_) AllReadyH.nil)
        go_simp
        refine (toConfig_any c _).mono ?_
        rintro e v2 ⟨rfl, bb2⟩
        have zz2 : v1.heap.size ≤ v2.heap.size := bb2.size
        replace G := Lib.hid (G.out.below bb2 (by omega))
        replace HH := Lib.hid (bel_trans HH.out bb2)
        replace HS := Lib.hid (HSK.out _ HH.out)
        clear bb2
        refine hJ.out _ _ HS.out (fun _ => ?_)
        clear hJ J
        go_simp
        refine wpAnyH_ready (rs := [4]) (by kernel_rfl) (by simp) (AllReadyH.cons rfl (fun J hJ => ?_) AllReadyH.nil)
        go_simp
        refine (HIM.out Ax cx _ (VX.out.ints.below HH.out)).mono ?_
        rintro e v3 ⟨Aw, cw, rfl, vv3, bb3⟩
        have zz3 : v2.heap.size ≤ v3.heap.size := bb3.size
        replace G := Lib.hid (G.out.below bb3 (by omega))
        replace HH := Lib.hid (bel_trans HH.out bb3)
        replace HS := Lib.hid (HSK.out _ HH.out)
        clear bb3
        have VR := Lib.hid vv3
        clear vv3
        refine hJ.out _ _ HS.out (fun _ => ?_)
        clear hJ J
        go_simp
        refine wpAnyH_take (i := 5) (v := .tuple #[.agg #[.int .i64 s', .slice Aw zs'.length cw, .int .i64 u'], .bool bb]) rfl (by kernel_rfl) (by kernel_rfl) (by kernel_rfl) (fun _ _ _ h => h) (.inl ⟨rfl, fun V hS => ?y0⟩) HS.out ?_
        case y0 =>
          clear hS
          go_simp
        go_simp
        refine wpAnyH_take (i := 6) (v := .agg #[.int .i64 s', .slice Aw zs'.length cw, .int .i64 u']) rfl (by kernel_rfl) (by kernel_rfl) (by kernel_rfl) (fun _ _ _ h => h) (.inl ⟨rfl, fun V hS => ?y0⟩) HS.out ?_
        case y0 =>
          clear hS
          go_simp
        go_simp
        refine wpAnyH_take (i := 7) (v := .bool bb) rfl (by kernel_rfl) (by kernel_rfl) (by kernel_rfl) (fun _ _ _ h => h) (.inl ⟨rfl, fun V hS => ?y0⟩) HS.out ?_
        case y0 =>
          clear hS
          go_simp
        go_simp
        refine wpAnyH_ready (rs := [9]) (by kernel_rfl) (by simp) (AllReadyH.cons rfl (fun J hJ => ?_) AllReadyH.nil)
        obtain ⟨q0, q1, q2, q3⟩ := G.out.cells
        go_simp
        clear q0 q1 q2 q3
        obtain ⟨v4, hv4⟩ : ∃ W', ((v3.setCell ⟨v0.heap.size, 0, none⟩ (.int .i64 s')).setCell ⟨v0.heap.size, 1, none⟩ (.slice Aw zs'.length cw)).setCell ⟨v0.heap.size, 2, none⟩ (.int .i64 u') = W' := ⟨_, rfl⟩
        have GF : Hid (PB v4 v0.heap.size (.int .i64 s') (.slice Aw zs'.length cw) (.int .i64 u')) := by rw [← hv4]; exact G.out.fill _ _ _
        have zz4 : v3.heap.size = v4.heap.size := by rw [← hv4]; simp [World.setCell]
        replace VR : Hid (IV v4 v2.heap.size v3.heap.size Aw zs') := by rw [← hv4]; exact iv_set (iv_set (iv_set VR.out (by show v0.heap.size < v2.heap.size ∨ v3.heap.size ≤ v0.heap.size; omega) _) (by show v0.heap.size < v2.heap.size ∨ v3.heap.size ≤ v0.heap.size; omega) _) (by show v0.heap.size < v2.heap.size ∨ v3.heap.size ≤ v0.heap.size; omega) _
        replace HH : Hid (Below w5.heap.size w5 v4) := by rw [← hv4]; exact ((HH.out.setCell (by show w5.heap.size ≤ v0.heap.size; omega) _).setCell (by show w5.heap.size ≤ v0.heap.size; omega) _).setCell (by show w5.heap.size ≤ v0.heap.size; omega) _
        replace HS := Lib.hid (HSK.out _ HH.out)
        rw [hv4]
        clear hv4
        refine hJ.out _ _ HS.out (fun _ => ?_)
        clear hJ J
        go_simp
        refine wpAnyH_take (i := 10) (v := .bool bb) rfl (by kernel_rfl) (by kernel_rfl) (by kernel_rfl) (fun _ _ _ h => h) (.inl ⟨rfl, fun V hS => ?y0⟩) HS.out ?_
        case y0 =>
          clear hS
          go_simp
        go_simp
        refine wpAnyH_done (by kernel_rfl) ?_ _
        go_wp2
        go_meet
        exact ⟨v0.heap.size, v2.heap.size, v3.heap.size, Aw, cw, rfl, rfl, GF.out, VR.out, HH.out, by omega, by omega, by omega, by omega, by omega⟩
    case rest =>
      obtain ⟨w6, hwc⟩ : ∃ W', wc = W' := ⟨_, rfl⟩
      rw [hwc] at hcut ⊢
      clear hwc
      obtain ⟨gg, log, hig, Ag, cg, rfl, rfl, pg, vg, bg, x1g, x2g, x3g, x4g, x5g⟩ := hcut
      have z6 : w5.heap.size ≤ w6.heap.size := bg.size
      replace B := Lib.hid (bel_trans B.out bg)
      replace KC := Lib.hid (KC.out.below bg (by omega))
      replace K := Lib.hid (K.out.below bg (by omega))
      replace PW := Lib.hid (PW.out.below bg (by omega))
      replace VW := Lib.hid (VW.out.below bg (by omega))
      replace VX := Lib.hid (VX.out.below bg (by omega))
      replace PX := Lib.hid (PX.out.below bg (by omega))
      have PG := Lib.hid pg
      have VG := Lib.hid vg
      clear pg vg bg
      have yg := PG.out.lt
      obtain ⟨q00, q01, q02, q03⟩ := PG.out.cells
      have q04 := PG.out.lt
      obtain ⟨q10, q11, q12, q13⟩ := PW.out.cells
      have q14 := PW.out.lt
      go_wp2_with fail
      clear q00 q01 q02 q04 q03 q10 q11 q12 q14 q13
      refine (eqBreaker_same Ag Aw _ cg cw zs' s' u' _ rfl hfew VG.out.ints VW.out.ints).mono ?_
      rintro e w7 ⟨rfl, b7⟩
      have z7 : w6.heap.size ≤ w7.heap.size := b7.size
      replace B := Lib.hid (bel_trans B.out b7)
      replace KC := Lib.hid (KC.out.below b7 (by omega))
      replace K := Lib.hid (K.out.below b7 (by omega))
      replace PW := Lib.hid (PW.out.below b7 (by omega))
      replace VW := Lib.hid (VW.out.below b7 (by omega))
      replace VX := Lib.hid (VX.out.below b7 (by omega))
      replace PX := Lib.hid (PX.out.below b7 (by omega))
      replace PG := Lib.hid (PG.out.below b7 (by omega))
      replace VG := Lib.hid (VG.out.below b7 (by omega))
      clear b7
      go_wp2_with fail
      have HT : Hid (Pair w4.heap.size (w.heap.size + 1) (.int .i64 s) (.slice Ax n cx) (.int .i64 u) (.int .i64 s) (.slice A n cap) (.int .i64 u) w7.drew) := ⟨PX.out, K.out⟩
      refine wp_region_held_drew (S := Pair w4.heap.size (w.heap.size + 1) (.int .i64 s) (.slice Ax n cx) (.int .i64 u) (.int .i64 s) (.slice A n cap) (.int .i64 u)) (by kernel_rfl) HT.out (fun _ => ?_)
      refine wpAnyH_take (i := 0) (v := .agg #[.int .i64 s, .slice Ax n cx, .int .i64 u]) rfl (by kernel_rfl) (by kernel_rfl) (by kernel_rfl) (fun _ _ _ h => h) (.inl ⟨rfl, fun V hS => ?y0⟩) HT.out ?_
      case y0 =>
        obtain ⟨s0, s1, s2, s5⟩ := hS.1.cells
        clear hS s5
        go_simp
      go_simp
      refine wpAnyH_take (i := 1) (v := .agg #[.int .i64 s, .slice A n cap, .int .i64 u]) rfl (by kernel_rfl) (by kernel_rfl) (by kernel_rfl) (fun _ _ _ h => h) (.inl ⟨rfl, fun V hS => ?y1⟩) HT.out ?_
      case y1 =>
        obtain ⟨s0, s1, s2⟩ := hS.2.cells
        clear hS
        go_simp
      go_simp
      refine wpAnyH_ready (rs := [2]) (by kernel_rfl) (by simp) (AllReadyH.cons rfl (fun J hJ => ?_) AllReadyH.nil)
      go_simp
      obtain ⟨w8, hw8⟩ : ∃ W', w7.drew = W' := ⟨_, rfl⟩
      have b8 : Below w7.heap.size w7 w8 := by rw [← hw8]; exact (Below.refl _ _).drew
      have z8 : w7.heap.size ≤ w8.heap.size := b8.size
      rw [hw8]
      clear hw8
      replace B := Lib.hid (bel_trans B.out b8)
      replace KC := Lib.hid (KC.out.below b8 (by omega))
      replace K := Lib.hid (K.out.below b8 (by omega))
      replace PW := Lib.hid (PW.out.below b8 (by omega))
      replace VW := Lib.hid (VW.out.below b8 (by omega))
      replace VX := Lib.hid (VX.out.below b8 (by omega))
      replace PX := Lib.hid (PX.out.below b8 (by omega))
      replace PG := Lib.hid (PG.out.below b8 (by omega))
      replace VG := Lib.hid (VG.out.below b8 (by omega))
      clear b8 HT
      refine (toBreaker_any A n cap zs s u _ Hn.out hm' (HA.out.below B.out)).mono ?_
      rintro e w9 ⟨A9, c9, rfl, v9, b9⟩
      have z9 : w8.heap.size ≤ w9.heap.size := b9.size
      replace B := Lib.hid (bel_trans B.out b9)
      replace KC := Lib.hid (KC.out.below b9 (by omega))
      replace K := Lib.hid (K.out.below b9 (by omega))
      replace PW := Lib.hid (PW.out.below b9 (by omega))
      replace VW := Lib.hid (VW.out.below b9 (by omega))
      replace VX := Lib.hid (VX.out.below b9 (by omega))
      replace PX := Lib.hid (PX.out.below b9 (by omega))
      replace PG := Lib.hid (PG.out.below b9 (by omega))
      replace VG := Lib.hid (VG.out.below b9 (by omega))
      clear b9
      have V0 := Lib.hid v9
      clear v9
      rw [Hn.out]
      refine hJ.out _ _ ⟨PX.out, K.out⟩ (fun _ => ?_)
      clear hJ J
      go_simp
      refine wpAnyH_ready (rs := [3]) (by kernel_rfl) (by simp) (AllReadyH.cons rfl (fun J hJ => ?_) AllReadyH.nil)
      go_simp
      refine (eqBreaker_same Ax A9 n cx c9 zs s u _ Hn.out hm' VX.out.ints V0.out.ints).mono ?_
      rintro e w10 ⟨rfl, b10⟩
      have z10 : w9.heap.size ≤ w10.heap.size := b10.size
      replace B := Lib.hid (bel_trans B.out b10)
      replace KC := Lib.hid (KC.out.below b10 (by omega))
      replace K := Lib.hid (K.out.below b10 (by omega))
      replace PW := Lib.hid (PW.out.below b10 (by omega))
      replace VW := Lib.hid (VW.out.below b10 (by omega))
      replace VX := Lib.hid (VX.out.below b10 (by omega))
      replace PX := Lib.hid (PX.out.below b10 (by omega))
      replace PG := Lib.hid (PG.out.below b10 (by omega))
      replace VG := Lib.hid (VG.out.below b10 (by omega))
      replace V0 := Lib.hid (V0.out.below b10 (by omega))
      clear b10
      clear V0
      refine hJ.out _ _ ⟨PX.out, K.out⟩ (fun _ => ?_)
      clear hJ J
      go_simp
      refine wpAnyH_ready (rs := [4]) (by kernel_rfl) (by simp) (AllReadyH.cons rfl (fun J hJ => ?_) AllReadyH.nil)
      go_simp
      refine hJ.out _ _ ⟨PX.out, K.out⟩ (fun _ => ?_)
      clear hJ J
      refine wpAnyH_done (by kernel_rfl) ?_ _
      obtain ⟨q00, q01, q02, q03⟩ := PX.out.cells
      have q04 := PX.out.lt
      go_wp2_with fail
      clear q00 q01 q02 q04 q03
      refine (markBreaker_any Ax n cx _ _ 1 s u zs _ Hn.out hm' (by omega) (by omega) VX.out (by omega)).mono ?_
      rintro e w11 ⟨rfl, _, t11⟩
      have z11 : w10.heap.size ≤ w11.heap.size := t11.size
      clear VX
      replace B := Lib.hid (B.out.trans (t11.below (by omega) (by omega)))
      replace KC := Lib.hid (KC.out.turns t11 (by omega) (by omega))
      replace K := Lib.hid (K.out.turns t11 (by omega) (by omega))
      replace PW := Lib.hid (PW.out.turns t11 (by omega) (by omega))
      replace VW := Lib.hid (VW.out.turns t11 (by omega) (by omega))
      replace PX := Lib.hid (PX.out.turns t11 (by omega) (by omega))
      replace PG := Lib.hid (PG.out.turns t11 (by omega) (by omega))
      replace VG := Lib.hid (VG.out.turns t11 (by omega) (by omega))
      clear t11
      have hk : ¬ 1 + (n : Int) < 0 := by omega
      obtain ⟨q00, q01, q02, q03⟩ := PG.out.cells
      have q04 := PG.out.lt
      obtain ⟨q10, q11, q12, q13⟩ := PW.out.cells
      have q14 := PW.out.lt
      go_wp2_with fail
      clear q00 q01 q02 q04 q03 q10 q11 q12 q14 q13
      refine (eqBreaker_same Ag Aw _ cg cw zs' s' u' _ rfl hfew VG.out.ints VW.out.ints).mono ?_
      rintro e w12 ⟨rfl, b12⟩
      have z12 : w11.heap.size ≤ w12.heap.size := b12.size
      replace B := Lib.hid (bel_trans B.out b12)
      replace KC := Lib.hid (KC.out.below b12 (by omega))
      replace K := Lib.hid (K.out.below b12 (by omega))
      replace PW := Lib.hid (PW.out.below b12 (by omega))
      replace VW := Lib.hid (VW.out.below b12 (by omega))
      replace PX := Lib.hid (PX.out.below b12 (by omega))
      replace PG := Lib.hid (PG.out.below b12 (by omega))
      replace VG := Lib.hid (VG.out.below b12 (by omega))
      clear b12
      obtain ⟨q00, q01, q02, q03⟩ := PG.out.cells
      have q04 := PG.out.lt
      go_wp2_with fail
      clear q00 q01 q02 q04 q03
      refine (markBreaker_any Ag _ cg _ _ 1 s' u' zs' _ rfl hfew (by omega) (by omega) VG.out (by omega)).mono ?_
      rintro e w13 ⟨rfl, v13, t13⟩
      have z13 : w12.heap.size ≤ w13.heap.size := t13.size
      clear VG
      replace B := Lib.hid (B.out.trans (t13.below (by omega) (by omega)))
      replace KC := Lib.hid (KC.out.turns t13 (by omega) (by omega))
      replace K := Lib.hid (K.out.turns t13 (by omega) (by omega))
      replace PW := Lib.hid (PW.out.turns t13 (by omega) (by omega))
      replace VW := Lib.hid (VW.out.turns t13 (by omega) (by omega))
      replace PX := Lib.hid (PX.out.turns t13 (by omega) (by omega))
      replace PG := Lib.hid (PG.out.turns t13 (by omega) (by omega))
      clear t13
      have VM := Lib.hid v13
      clear v13
      obtain ⟨q00, q01, q02, q03⟩ := PG.out.cells
      have q04 := PG.out.lt
      go_wp2_with fail
      clear q00 q01 q02 q04 q03
      refine (heldBreaker_any Ag _ cg _ _ 1 s' u' _ hfew (by omega) (by omega) VM.out (by omega)).mono ?_
      rintro e w14 ⟨rfl, b14⟩
      have z14 : w13.heap.size ≤ w14.heap.size := b14.size
      replace B := Lib.hid (bel_trans B.out b14)
      replace KC := Lib.hid (KC.out.below b14 (by omega))
      replace K := Lib.hid (K.out.below b14 (by omega))
      replace PW := Lib.hid (PW.out.below b14 (by omega))
      replace VW := Lib.hid (VW.out.below b14 (by omega))
      replace PX := Lib.hid (PX.out.below b14 (by omega))
      replace PG := Lib.hid (PG.out.below b14 (by omega))
      replace VM := Lib.hid (VM.out.below b14 (by omega))
      clear b14
      have hk2 : ¬ 1 + (zs'.length : Int) < 0 := by omega
      go_wp2_with fail
      go_cut [16, 17] (fun p b wx => ∃ g lo hi Aw cw, p = .pointer (some ⟨g, 0, none⟩) ∧ b = .bool bb ∧ PB wx g (.int .i64 s') (.slice Aw zs'.length cw) (.int .i64 u') ∧ IV wx lo hi Aw zs' ∧ Below w14.heap.size w14 wx ∧ w14.heap.size ≤ g ∧ w14.heap.size ≤ lo ∧ lo ≤ hi ∧ hi ≤ wx.heap.size ∧ (g < lo ∨ hi ≤ g))
      case first =>
        have HSK : Hid (∀ V, Below w14.heap.size w14 V → Args w.heap.size (w.heap.size + 1) c (.int .i64 s) (.slice A n cap) (.int .i64 u) V) := fun V hV => ⟨KC.out.below hV (by omega), K.out.below hV (by omega)⟩
        have HH : Hid (Below w14.heap.size w14 w14.drew) := (Below.refl _ _).drew
        have HS := Lib.hid (HSK.out _ HH.out)
        refine wp_region_held_drew (S := Args w.heap.size (w.heap.size + 1) c (.int .i64 s) (.slice A n cap) (.int .i64 u)) (by kernel_rfl) HS.out (fun _ => ?_)
        obtain ⟨v0, hv0⟩ : ∃ W', w14.drew = W' := ⟨_, rfl⟩
        have zz0 : w14.heap.size ≤ v0.heap.size := by rw [← hv0]; exact Nat.le_refl _
        rw [hv0] at HH HS ⊢
        clear hv0
        refine wpAnyH_take (i := 0) (v := .agg #[.int .i64 (c 0), .int .i64 (c 1), .int .i64 (c 2), .int .i64 (c 3), .int .i64 (c 4), .int .i64 (c 5), .int .i64 (c 6), .int .i64 (c 7), .int .i64 (c 8), .int .i64 (c 9), .int .i64 (c 10), .int .i64 (c 11), .int .i64 (c 12), .int .i64 (c 13)]) rfl (by kernel_rfl) (by kernel_rfl) (by kernel_rfl) (fun _ _ _ h => h) (.inl ⟨rfl, fun V hS => ?y0⟩) HS.out ?_
        case y0 =>
          obtain ⟨hk, _⟩ := hS
          have q0 : V.cell? ⟨w.heap.size, 0, none⟩ = some (.int .i64 (c 0)) := cell_of_row _ _ 0 _ _ (0, 0) hk
          have q1 : V.cell? ⟨w.heap.size, 1, none⟩ = some (.int .i64 (c 1)) := cell_of_row _ _ 1 _ _ (0, 0) hk
          have q2 : V.cell? ⟨w.heap.size, 2, none⟩ = some (.int .i64 (c 2)) := cell_of_row _ _ 2 _ _ (0, 0) hk
          have q3 : V.cell? ⟨w.heap.size, 3, none⟩ = some (.int .i64 (c 3)) := cell_of_row _ _ 3 _ _ (0, 0) hk
          have q4 : V.cell? ⟨w.heap.size, 4, none⟩ = some (.int .i64 (c 4)) := cell_of_row _ _ 4 _ _ (0, 0) hk
          have q5 : V.cell? ⟨w.heap.size, 5, none⟩ = some (.int .i64 (c 5)) := cell_of_row _ _ 5 _ _ (0, 0) hk
          have q6 : V.cell? ⟨w.heap.size, 6, none⟩ = some (.int .i64 (c 6)) := cell_of_row _ _ 6 _ _ (0, 0) hk
          have q7 : V.cell? ⟨w.heap.size, 7, none⟩ = some (.int .i64 (c 7)) := cell_of_row _ _ 7 _ _ (0, 0) hk
          have q8 : V.cell? ⟨w.heap.size, 8, none⟩ = some (.int .i64 (c 8)) := cell_of_row _ _ 8 _ _ (0, 0) hk
          have q9 : V.cell? ⟨w.heap.size, 9, none⟩ = some (.int .i64 (c 9)) := cell_of_row _ _ 9 _ _ (0, 0) hk
          have q10 : V.cell? ⟨w.heap.size, 10, none⟩ = some (.int .i64 (c 10)) := cell_of_row _ _ 10 _ _ (0, 0) hk
          have q11 : V.cell? ⟨w.heap.size, 11, none⟩ = some (.int .i64 (c 11)) := cell_of_row _ _ 11 _ _ (0, 0) hk
          have q12 : V.cell? ⟨w.heap.size, 12, none⟩ = some (.int .i64 (c 12)) := cell_of_row _ _ 12 _ _ (0, 0) hk
          have q13 : V.cell? ⟨w.heap.size, 13, none⟩ = some (.int .i64 (c 13)) := cell_of_row _ _ 13 _ _ (0, 0) hk
          clear hk
          go_simp
        go_simp
        refine wpAnyH_take (i := 2) (v := .agg #[.int .i64 s, .slice A n cap, .int .i64 u]) rfl (by kernel_rfl) (by kernel_rfl) (by kernel_rfl) (fun _ _ _ h => h) (.inl ⟨rfl, fun V hS => ?y0⟩) HS.out ?_
        case y0 =>
          obtain ⟨_, hk⟩ := hS
          obtain ⟨q0, q1, q2⟩ := hk.cells
          clear hk
          go_simp
        go_simp
        refine wpAnyH_take (i := 4) (v := .int .i64 now) rfl (by kernel_rfl) (by kernel_rfl) (by kernel_rfl) (fun _ _ _ h => h) (.inl ⟨rfl, fun V hS => ?y0⟩) HS.out ?_
        case y0 =>
          clear hS
          go_simp
        go_simp
        refine wpAnyH_ready (rs := [1, 9]) (by kernel_rfl) (by simp) (AllReadyH.cons rfl (fun J hJ => ?_) (AllReadyH.cons rfl (fun J hJ => ?_) AllReadyH.nil))
        · skip
          go_simp
          refine (toConfig_any c _).mono ?_
          rintro e v1 ⟨rfl, bb1⟩
          have zz1 : v0.heap.size ≤ v1.heap.size := bb1.size
          replace HH := Lib.hid (bel_trans HH.out bb1)
          replace HS := Lib.hid (HSK.out _ HH.out)
          clear bb1
          refine hJ.out _ _ HS.out (fun _ => ?_)
          clear hJ J
          go_simp
          refine wpAnyH_ready (rs := [3, 9]) (by kernel_rfl) (by simp) (AllReadyH.cons rfl (fun J hJ => ?_) (AllReadyH.cons rfl (fun J hJ => ?_) AllReadyH.nil))
          · skip
            go_simp
            refine (HTB.out _ (bel_trans B.out HH.out)).mono ?_
            rintro e v2 ⟨A0, c0, rfl, vv2, bb2⟩
            have zz2 : v1.heap.size ≤ v2.heap.size := bb2.size
            replace HH := Lib.hid (bel_trans HH.out bb2)
            replace HS := Lib.hid (HSK.out _ HH.out)
            clear bb2
            have V0 := Lib.hid vv2
            clear vv2
            refine hJ.out _ _ HS.out (fun _ => ?_)
            clear hJ J
            go_simp
            refine wpAnyH_ready (rs := [5, 9]) (by kernel_rfl) (by simp) (AllReadyH.cons rfl (fun J hJ => ?_) (AllReadyH.cons rfl (fun J hJ => ?_) AllReadyH.nil))
            · skip
              go_simp
              refine (HIM.out A0 c0 _ V0.out.ints).mono ?_
              rintro e v3 ⟨Aw, cw, rfl, vv3, bb3⟩
              have zz3 : v2.heap.size ≤ v3.heap.size := bb3.size
              replace V0 := Lib.hid (V0.out.below bb3 (by omega))
              replace HH := Lib.hid (bel_trans HH.out bb3)
              replace HS := Lib.hid (HSK.out _ HH.out)
              clear bb3
              have VR := Lib.hid vv3
              clear vv3
              refine hJ.out _ _ HS.out (fun _ => ?_)
              clear hJ J
              go_simp
              refine wpAnyH_take (i := 6) (v := .tuple #[.agg #[.int .i64 s', .slice Aw zs'.length cw, .int .i64 u'], .bool bb]) rfl (by kernel_rfl) (by kernel_rfl) (by kernel_rfl) (fun _ _ _ h => h) (.inl ⟨rfl, fun V hS => ?y0⟩) HS.out ?_
              case y0 =>
                clear hS
                go_simp
              go_simp
              refine wpAnyH_take (i := 7) (v := .agg #[.int .i64 s', .slice Aw zs'.length cw, .int .i64 u']) rfl (by kernel_rfl) (by kernel_rfl) (by kernel_rfl) (fun _ _ _ h => h) (.inl ⟨rfl, fun V hS => ?y0⟩) HS.out ?_
              case y0 =>
                clear hS
                go_simp
              go_simp
              refine wpAnyH_take (i := 8) (v := .bool bb) rfl (by kernel_rfl) (by kernel_rfl) (by kernel_rfl) (fun _ _ _ h => h) (.inl ⟨rfl, fun V hS => ?y0⟩) HS.out ?_
              case y0 =>
                clear hS
                go_simp
              go_simp
              refine wpAnyH_ready (rs := [9]) (by kernel_rfl) (by simp) (AllReadyH.cons rfl (fun J hJ => ?_) AllReadyH.nil)
              go_simp
              obtain ⟨v4, hv4⟩ : ∃ W', v3.alloc (.cells #[.int .i64 0, .slice none 0 0, .int .i64 0] 31) = W' := ⟨_, rfl⟩
              have bb4 : Below v3.heap.size v3 v4 := by rw [← hv4]; exact bel_alloc _ _
              have G : Hid (PB v4 v3.heap.size (.int .i64 0) (.slice none 0 0) (.int .i64 0)) := by rw [← hv4]; exact heap_alloc_new v3 _
              have zz4 : v3.heap.size < v4.heap.size := G.out.lt
              rw [hv4]
              clear hv4
              replace V0 := Lib.hid (V0.out.below bb4 (by omega))
              replace VR := Lib.hid (VR.out.below bb4 (by omega))
              replace HH := Lib.hid (bel_trans HH.out bb4)
              replace HS := Lib.hid (HSK.out _ HH.out)
              clear bb4
              refine hJ.out _ _ HS.out (fun _ => ?_)
              clear hJ J
              go_simp
              refine wpAnyH_ready (rs := [10]) (by kernel_rfl) (by simp) (AllReadyH.cons rfl (fun J hJ => ?_) AllReadyH.nil)
              obtain ⟨q0, q1, q2, q3⟩ := G.out.cells
              go_simp
              clear q0 q1 q2 q3
              obtain ⟨v5, hv5⟩ : ∃ W', ((v4.setCell ⟨v3.heap.size, 0, none⟩ (.int .i64 s')).setCell ⟨v3.heap.size, 1, none⟩ (.slice Aw zs'.length cw)).setCell ⟨v3.heap.size, 2, none⟩ (.int .i64 u') = W' := ⟨_, rfl⟩
              have GF : Hid (PB v5 v3.heap.size (.int .i64 s') (.slice Aw zs'.length cw) (.int .i64 u')) := by rw [← hv5]; exact G.out.fill _ _ _
              have zz5 : v4.heap.size = v5.heap.size := by rw [← hv5]; simp [World.setCell]
              replace VR : Hid (IV v5 v2.heap.size v3.heap.size Aw zs') := by rw [← hv5]; exact iv_set (iv_set (iv_set VR.out (by show v3.heap.size < v2.heap.size ∨ v3.heap.size ≤ v3.heap.size; omega) _) (by show v3.heap.size < v2.heap.size ∨ v3.heap.size ≤ v3.heap.size; omega) _) (by show v3.heap.size < v2.heap.size ∨ v3.heap.size ≤ v3.heap.size; omega) _
              replace HH : Hid (Below w14.heap.size w14 v5) := by rw [← hv5]; exact ((HH.out.setCell (by show w14.heap.size ≤ v3.heap.size; omega) _).setCell (by show w14.heap.size ≤ v3.heap.size; omega) _).setCell (by show w14.heap.size ≤ v3.heap.size; omega) _
              replace HS := Lib.hid (HSK.out _ HH.out)
              rw [hv5]
              clear hv5
              refine hJ.out _ _ HS.out (fun _ => ?_)
              clear hJ J
              go_simp
              refine wpAnyH_take (i := 11) (v := .bool bb) rfl (by kernel_rfl) (by kernel_rfl) (by kernel_rfl) (fun _ _ _ h => h) (.inl ⟨rfl, fun V hS => ?y0⟩) HS.out ?_
              case y0 =>
                clear hS
                go_simp
              go_simp
              refine wpAnyH_done (by kernel_rfl) ?_ _
              go_wp2
              go_meet
              exact ⟨v3.heap.size, v2.heap.size, v3.heap.size, Aw, cw, rfl, rfl, GF.out, VR.out, HH.out, by omega, by omega, by omega, by omega, by omega⟩
            · skip
              go_simp
              obtain ⟨v3, hv3⟩ : ∃ W', v2.alloc (.cells #[.int .i64 0, .slice none 0 0, .int .i64 0] 31) = W' := ⟨_, rfl⟩
              have bb3 : Below v2.heap.size v2 v3 := by rw [← hv3]; exact bel_alloc _ _
              have G : Hid (PB v3 v2.heap.size (.int .i64 0) (.slice none 0 0) (.int .i64 0)) := by rw [← hv3]; exact heap_alloc_new v2 _
              have zz3 : v2.heap.size < v3.heap.size := G.out.lt
              rw [hv3]
              clear hv3
              replace V0 := Lib.hid (V0.out.below bb3 (by omega))
              replace HH := Lib.hid (bel_trans HH.out bb3)
              replace HS := Lib.hid (HSK.out _ HH.out)
              clear bb3
              refine hJ.out _ _ HS.out (fun _ => ?_)
              clear hJ J
              go_simp
              refine wpAnyH_ready (rs := [5]) (by kernel_rfl) (by simp) (AllReadyH.cons rfl (fun J hJ => ?_) AllReadyH.nil)
              go_simp
              refine (HIM.out A0 c0 _ V0.out.ints).mono ?_
              rintro e v4 ⟨Aw, cw, rfl, vv4, bb4⟩
              have zz4 : v3.heap.size ≤ v4.heap.size := bb4.size
              replace V0 := Lib.hid (V0.out.below bb4 (by omega))
              replace G := Lib.hid (G.out.below bb4 (by omega))
              replace HH := Lib.hid (bel_trans HH.out bb4)
              replace HS := Lib.hid (HSK.out _ HH.out)
              clear bb4
              have VR := Lib.hid vv4
              clear vv4
              refine hJ.out _ _ HS.out (fun _ => ?_)
              clear hJ J
              go_simp
              refine wpAnyH_take (i := 6) (v := .tuple #[.agg #[.int .i64 s', .slice Aw zs'.length cw, .int .i64 u'], .bool bb]) rfl (by kernel_rfl) (by kernel_rfl) (by kernel_rfl) (fun _ _ _ h => h) (.inl ⟨rfl, fun V hS => ?y0⟩) HS.out ?_
              case y0 =>
                clear hS
                go_simp
              go_simp
              refine wpAnyH_take (i := 7) (v := .agg #[.int .i64 s', .slice Aw zs'.length cw, .int .i64 u']) rfl (by kernel_rfl) (by kernel_rfl) (by kernel_rfl) (fun _ _ _ h => h) (.inl ⟨rfl, fun V hS => ?y0⟩) HS.out ?_
              case y0 =>
                clear hS
                go_simp
              go_simp
              refine wpAnyH_take (i := 8) (v := .bool bb) rfl (by kernel_rfl) (by kernel_rfl) (by kernel_rfl) (fun _ _ _ h => h) (.inl ⟨rfl, fun V hS => ?y0⟩) HS.out ?_
              case y0 =>
                clear hS
                go_simp
              go_simp
              refine wpAnyH_ready (rs := [10]) (by kernel_rfl) (by simp) (AllReadyH.cons rfl (fun J hJ => ?_) AllReadyH.nil)
              obtain ⟨q0, q1, q2, q3⟩ := G.out.cells
              go_simp
              clear q0 q1 q2 q3
              obtain ⟨v5, hv5⟩ : ∃ W', ((v4.setCell ⟨v2.heap.size, 0, none⟩ (.int .i64 s')).setCell ⟨v2.heap.size, 1, none⟩ (.slice Aw zs'.length cw)).setCell ⟨v2.heap.size, 2, none⟩ (.int .i64 u') = W' := ⟨_, rfl⟩
              have GF : Hid (PB v5 v2.heap.size (.int .i64 s') (.slice Aw zs'.length cw) (.int .i64 u')) := by rw [← hv5]; exact G.out.fill _ _ _
              have zz5 : v4.heap.size = v5.heap.size := by rw [← hv5]; simp [World.setCell]
              replace VR : Hid (IV v5 v3.heap.size v4.heap.size Aw zs') := by rw [← hv5]; exact iv_set (iv_set (iv_set VR.out (by show v2.heap.size < v3.heap.size ∨ v4.heap.size ≤ v2.heap.size; omega) _) (by show v2.heap.size < v3.heap.size ∨ v4.heap.size ≤ v2.heap.size; omega) _) (by show v2.heap.size < v3.heap.size ∨ v4.heap.size ≤ v2.heap.size; omega) _
              replace HH : Hid (Below w14.heap.size w14 v5) := by rw [← hv5]; exact ((HH.out.setCell (by show w14.heap.size ≤ v2.heap.size; omega) _).setCell (by show w14.heap.size ≤ v2.heap.size; omega) _).setCell (by show w14.heap.size ≤ v2.heap.size; omega) _
              replace HS := Lib.hid (HSK.out _ HH.out)
              rw [hv5]
              clear hv5
              refine hJ.out _ _ HS.out (fun _ => ?_)
              clear hJ J
              go_simp
              refine wpAnyH_take (i := 11) (v := .bool bb) rfl (by kernel_rfl) (by kernel_rfl) (by kernel_rfl) (fun _ _ _ h => h) (.inl ⟨rfl, fun V hS => ?y0⟩) HS.out ?_
              case y0 =>
                clear hS
                go_simp
              go_simp
              refine wpAnyH_done (by kernel_rfl) ?_ _
              go_wp2
              go_meet
              exact ⟨v2.heap.size, v3.heap.size, v4.heap.size, Aw, cw, rfl, rfl, GF.out, VR.out, HH.out, by omega, by omega, by omega, by omega, by omega⟩
          · skip
            go_simp
            obtain ⟨v2, hv2⟩ : ∃ W', v1.alloc (.cells #[.int .i64 0, .slice none 0 0, .int .i64 0] 31) = W' := ⟨_, rfl⟩
            have bb2 : Below v1.heap.size v1 v2 := by rw [← hv2]; exact bel_alloc _ _
            have G : Hid (PB v2 v1.heap.size (.int .i64 0) (.slice none 0 0) (.int .i64 0)) := by rw [← hv2]; exact heap_alloc_new v1 _
            have zz2 : v1.heap.size < v2.heap.size := G.out.lt
            rw [hv2]
            clear hv2
            replace HH := Lib.hid (bel_trans HH.out bb2)
            replace HS := Lib.hid (HSK.out _ HH.out)
            clear bb2
            refine hJ.out _ _ HS.out (fun _ => ?_)
            clear hJ J
            go_simp
            refine wpAnyH_ready (rs := [3]) (by kernel_rfl) (by simp) (AllReadyH.cons rfl (fun J hJ => ?_) AllReadyH.nil)
            go_simp
            refine (HTB.out _ (bel_trans B.out HH.out)).mono ?_
            rintro e v3 ⟨A0, c0, rfl, vv3, bb3⟩
            have zz3 : v2.heap.size ≤ v3.heap.size := bb3.size
            replace G := Lib.hid (G.out.below bb3 (by omega))
            replace HH := Lib.hid (bel_trans HH.out bb3)
            replace HS := Lib.hid (HSK.out _ HH.out)
            clear bb3
            have V0 := Lib.hid vv3
            clear vv3
            refine hJ.out _ _ HS.out (fun _ => ?_)
            clear hJ J
            go_simp
            refine wpAnyH_ready (rs := [5]) (by kernel_rfl) (by simp) (AllReadyH.cons rfl (fun J hJ => ?_) AllReadyH.nil)
            go_simp
            refine (HIM.out A0 c0 _ V0.out.ints).mono ?_
            rintro e v4 ⟨Aw, cw, rfl, vv4, bb4⟩
            have zz4 : v3.heap.size ≤ v4.heap.size := bb4.size
            replace V0 := Lib.hid (V0.out.below bb4 (by omega))
            replace G := Lib.hid (G.out.below bb4 (by omega))
            replace HH := Lib.hid (bel_trans HH.out bb4)
            replace HS := Lib.hid (HSK.out _ HH.out)
            clear bb4
            have VR := Lib.hid vv4
            clear vv4
            refine hJ.out _ _ HS.out (fun _ => ?_)
            clear hJ J
            go_simp
            refine wpAnyH_take (i := 6) (v := .tuple #[.agg #[.int .i64 s', .slice Aw zs'.length cw, .int .i64 u'], .bool bb]) rfl (by kernel_rfl) (by kernel_rfl) (by kernel_rfl) (fun _ _ _ h => h) (.inl ⟨rfl, fun V hS => ?y0⟩) HS.out ?_
            case y0 =>
              clear hS
              go_simp
            go_simp
            refine wpAnyH_take (i := 7) (v := .agg #[.int .i64 s', .slice Aw zs'.length cw, .int .i64 u']) rfl (by kernel_rfl) (by kernel_rfl) (by kernel_rfl) (fun _ _ _ h => h) (.inl ⟨rfl, fun V hS => ?y0⟩) HS.out ?_
            case y0 =>
              clear hS
              go_simp
            go_simp
            refine wpAnyH_take (i := 8) (v := .bool bb) rfl (by kernel_rfl) (by kernel_rfl) (by kernel_rfl) (fun _ _ _ h => h) (.inl ⟨rfl, fun V hS => ?y0⟩) HS.out ?_
            case y0 =>
              clear hS
              go_simp
            go_simp
            refine wpAnyH_ready (rs := [10]) (by kernel_rfl) (by simp) (AllReadyH.cons rfl (fun J hJ => ?_) AllReadyH.nil)
            obtain ⟨q0, q1, q2, q3⟩ := G.out.cells
            go_simp
            clear q0 q1 q2 q3
            obtain ⟨v5, hv5⟩ : ∃ W', ((v4.setCell ⟨v1.heap.size, 0, none⟩ (.int .i64 s')).setCell ⟨v1.heap.size, 1, none⟩ (.slice Aw zs'.length cw)).setCell ⟨v1.heap.size, 2, none⟩ (.int .i64 u') = W' := ⟨_, rfl⟩
            have GF : Hid (PB v5 v1.heap.size (.int .i64 s') (.slice Aw zs'.length cw) (.int .i64 u')) := by rw [← hv5]; exact G.out.fill _ _ _
            have zz5 : v4.heap.size = v5.heap.size := by rw [← hv5]; simp [World.setCell]
            replace VR : Hid (IV v5 v3.heap.size v4.heap.size Aw zs') := by rw [← hv5]; exact iv_set (iv_set (iv_set VR.out (by show v1.heap.size < v3.heap.size ∨ v4.heap.size ≤ v1.heap.size; omega) _) (by show v1.heap.size < v3.heap.size ∨ v4.heap.size ≤ v1.heap.size; omega) _) (by show v1.heap.size < v3.heap.size ∨ v4.heap.size ≤ v1.heap.size; omega) _
            replace HH : Hid (Below w14.heap.size w14 v5) := by rw [← hv5]; exact ((HH.out.setCell (by show w14.heap.size ≤ v1.heap.size; omega) _).setCell (by show w14.heap.size ≤ v1.heap.size; omega) _).setCell (by show w14.heap.size ≤ v1.heap.size; omega) _
            replace HS := Lib.hid (HSK.out _ HH.out)
            rw [hv5]
            clear hv5
            refine hJ.out _ _ HS.out (fun _ => ?_)
            clear hJ J
            go_simp
            refine wpAnyH_take (i := 11) (v := .bool bb) rfl (by kernel_rfl) (by kernel_rfl) (by kernel_rfl) (fun _ _ _ h => h) (.inl ⟨rfl, fun V hS => ?y0⟩) HS.out ?_
            case y0 =>
              clear hS
              go_simp
            go_simp
            refine wpAnyH_done (by kernel_rfl) ?_ _
            go_wp2
            go_meet
            exact ⟨v1.heap.size, v3.heap.size, v4.heap.size, Aw, cw, rfl, rfl, GF.out, VR.out, HH.out, by omega, by omega, by omega, by omega, by omega⟩
        · skip
          go_simp
          obtain ⟨v1, hv1⟩ : ∃ W', v0.alloc (.cells #[.int .i64 0, .slice none 0 0, .int .i64 0] 31) = W' := ⟨_, rfl⟩
          have bb1 : Below v0.heap.size v0 v1 := by rw [← hv1]; exact bel_alloc _ _
          have G : Hid (PB v1 v0.heap.size (.int .i64 0) (.slice none 0 0) (.int .i64 0)) := by rw [← hv1]; exact heap_alloc_new v0 _
          have zz1 : v0.heap.size < v1.heap.size := G.out.lt
          rw [hv1]
          clear hv1
          replace HH := Lib.hid (bel_trans HH.out bb1)
          replace HS := Lib.hid (HSK.out _ HH.out)
          clear bb1
          refine hJ.out _ _ HS.out (fun _ => ?_)
          clear hJ J
          go_simp
          refine wpAnyH_ready (rs := [1]) (by kernel_rfl) (by simp) (AllReadyH.cons rfl (fun J hJ => ?_) AllReadyH.nil)
          go_simp
          refine (toConfig_any c _).mono ?_
          rintro e v2 ⟨rfl, bb2⟩
          have zz2 : v1.heap.size ≤ v2.heap.size := bb2.size
          replace G := Lib.hid (G.out.below bb2 (by omega))
          replace HH := Lib.hid (bel_trans HH.out bb2)
          replace HS := Lib.hid (HSK.out _ HH.out)
          clear bb2
          refine hJ.out _ _ HS.out (fun _ => ?_)
          clear hJ J
          go_simp
          refine wpAnyH_ready (rs := [3]) (by kernel_rfl) (by simp) (AllReadyH.cons rfl (fun J hJ => ?_) AllReadyH.nil)
          go_simp
          refine (HTB.out _ (bel_trans B.out HH.out)).mono ?_
          rintro e v3 ⟨A0, c0, rfl, vv3, bb3⟩
          have zz3 : v2.heap.size ≤ v3.heap.size := bb3.size
          replace G := Lib.hid (G.out.below bb3 (by omega))
          replace HH := Lib.hid (bel_trans HH.out bb3)
          replace HS := Lib.hid (HSK.out _ HH.out)
          clear bb3
          have V0 := Lib.hid vv3
          clear vv3
          refine hJ.out _ _ HS.out (fun _ => ?_)
          clear hJ J
          go_simp
          refine wpAnyH_ready (rs := [5]) (by kernel_rfl) (by simp) (AllReadyH.cons rfl (fun J hJ => ?_) AllReadyH.nil)
          go_simp
          refine (HIM.out A0 c0 _ V0.out.ints).mono ?_
          rintro e v4 ⟨Aw, cw, rfl, vv4, bb4⟩
          have zz4 : v3.heap.size ≤ v4.heap.size := bb4.size
          replace V0 := Lib.hid (V0.out.below bb4 (by omega))
          replace G := Lib.hid (G.out.below bb4 (by omega))
          replace HH := Lib.hid (bel_trans HH.out bb4)
          replace HS := Lib.hid (HSK.out _ HH.out)
          clear bb4
          have VR := Lib.hid vv4
          clear vv4
          refine hJ.out _ _ HS.out (fun _ => ?_)
          clear hJ J
          go_simp
          refine wpAnyH_take (i := 6) (v := .tuple #[.agg #[.int .i64 s', .slice Aw zs'.length cw, .int .i64 u'], .bool bb]) rfl (by kernel_rfl) (by kernel_rfl) (by kernel_rfl) (fun _ _ _ h => h) (.inl ⟨rfl, fun V hS => ?y0⟩) HS.out ?_
          case y0 =>
            clear hS
            go_simp
          go_simp
          refine wpAnyH_take (i := 7) (v := .agg #[.int .i64 s', .slice Aw zs'.length cw, .int .i64 u']) rfl (by kernel_rfl) (by kernel_rfl) (by kernel_rfl) (fun _ _ _ h => h) (.inl ⟨rfl, fun V hS => ?y0⟩) HS.out ?_
          case y0 =>
            clear hS
            go_simp
          go_simp
          refine wpAnyH_take (i := 8) (v := .bool bb) rfl (by kernel_rfl) (by kernel_rfl) (by kernel_rfl) (fun _ _ _ h => h) (.inl ⟨rfl, fun V hS => ?y0⟩) HS.out ?_
          case y0 =>
            clear hS
            go_simp
          go_simp
          refine wpAnyH_ready (rs := [10]) (by kernel_rfl) (by simp) (AllReadyH.cons rfl (fun J hJ => ?_) AllReadyH.nil)
          obtain ⟨q0, q1, q2, q3⟩ := G.out.cells
          go_simp
          clear q0 q1 q2 q3
          obtain ⟨v5, hv5⟩ : ∃ W', ((v4.setCell ⟨v0.heap.size, 0, none⟩ (.int .i64 s')).setCell ⟨v0.heap.size, 1, none⟩ (.slice Aw zs'.length cw)).setCell ⟨v0.heap.size, 2, none⟩ (.int .i64 u') = W' := ⟨_, rfl⟩
          have GF : Hid (PB v5 v0.heap.size (.int .i64 s') (.slice Aw zs'.length cw) (.int .i64 u')) := by rw [← hv5]; exact G.out.fill _ _ _
          have zz5 : v4.heap.size = v5.heap.size := by rw [← hv5]; simp [World.setCell]
          replace VR : Hid (IV v5 v3.heap.size v4.heap.size Aw zs') := by rw [← hv5]; exact iv_set (iv_set (iv_set VR.out (by show v0.heap.size < v3.heap.size ∨ v4.heap.size ≤ v0.heap.size; omega) _) (by show v0.heap.size < v3.heap.size ∨ v4.heap.size ≤ v0.heap.size; omega) _) (by show v0.heap.size < v3.heap.size ∨ v4.heap.size ≤ v0.heap.size; omega) _
          replace HH : Hid (Below w14.heap.size w14 v5) := by rw [← hv5]; exact ((HH.out.setCell (by show w14.heap.size ≤ v0.heap.size; omega) _).setCell (by show w14.heap.size ≤ v0.heap.size; omega) _).setCell (by show w14.heap.size ≤ v0.heap.size; omega) _
          replace HS := Lib.hid (HSK.out _ HH.out)
          rw [hv5]
          clear hv5
          refine hJ.out _ _ HS.out (fun _ => ?_)
          clear hJ J
          go_simp
          refine wpAnyH_take (i := 11) (v := .bool bb) rfl (by kernel_rfl) (by kernel_rfl) (by kernel_rfl) (fun _ _ _ h => h) (.inl ⟨rfl, fun V hS => ?y0⟩) HS.out ?_
          case y0 =>
            clear hS
            go_simp
          go_simp
          refine wpAnyH_done (by kernel_rfl) ?_ _
          go_wp2
          go_meet
          exact ⟨v0.heap.size, v3.heap.size, v4.heap.size, Aw, cw, rfl, rfl, GF.out, VR.out, HH.out, by omega, by omega, by omega, by omega, by omega⟩
      case rest =>
        obtain ⟨w15, hwc⟩ : ∃ W', wc = W' := ⟨_, rfl⟩
        rw [hwc] at hcut ⊢
        clear hwc
        obtain ⟨gh, loh, hih, Ah, ch, rfl, rfl, ph, vh, bh, x1h, x2h, x3h, x4h, x5h⟩ := hcut
        have z15 : w14.heap.size ≤ w15.heap.size := bh.size
        replace B := Lib.hid (bel_trans B.out bh)
        replace KC := Lib.hid (KC.out.below bh (by omega))
        replace K := Lib.hid (K.out.below bh (by omega))
        replace PW := Lib.hid (PW.out.below bh (by omega))
        replace VW := Lib.hid (VW.out.below bh (by omega))
        replace PX := Lib.hid (PX.out.below bh (by omega))
        replace PG := Lib.hid (PG.out.below bh (by omega))
        replace VM := Lib.hid (VM.out.below bh (by omega))
        have PH := Lib.hid ph
        have VH := Lib.hid vh
        clear ph vh bh
        have yh := PH.out.lt
        obtain ⟨q00, q01, q02, q03⟩ := PH.out.cells
        have q04 := PH.out.lt
        obtain ⟨q10, q11, q12, q13⟩ := PW.out.cells
        have q14 := PW.out.lt
        go_wp2_with fail
        clear q00 q01 q02 q04 q03 q10 q11 q12 q14 q13
        refine (eqBreaker_same Ah Aw _ ch cw zs' s' u' _ rfl hfew VH.out.ints VW.out.ints).mono ?_
        rintro e w16 ⟨rfl, b16⟩
        have z16 : w15.heap.size ≤ w16.heap.size := b16.size
        replace B := Lib.hid (bel_trans B.out b16)
        replace KC := Lib.hid (KC.out.below b16 (by omega))
        replace K := Lib.hid (K.out.below b16 (by omega))
        replace PW := Lib.hid (PW.out.below b16 (by omega))
        replace VW := Lib.hid (VW.out.below b16 (by omega))
        replace PX := Lib.hid (PX.out.below b16 (by omega))
        replace PG := Lib.hid (PG.out.below b16 (by omega))
        replace VM := Lib.hid (VM.out.below b16 (by omega))
        replace PH := Lib.hid (PH.out.below b16 (by omega))
        replace VH := Lib.hid (VH.out.below b16 (by omega))
        clear b16
        obtain ⟨q00, q01, q02, q03⟩ := PG.out.cells
        have q04 := PG.out.lt
        go_wp2_with fail
        clear q00 q01 q02 q04 q03
        refine (heldBreaker_any Ag _ cg _ _ 1 s' u' _ hfew (by omega) (by omega) VM.out (by omega)).mono ?_
        rintro e w17 ⟨rfl, b17⟩
        have z17 : w16.heap.size ≤ w17.heap.size := b17.size
        replace B := Lib.hid (bel_trans B.out b17)
        replace KC := Lib.hid (KC.out.below b17 (by omega))
        replace K := Lib.hid (K.out.below b17 (by omega))
        replace PW := Lib.hid (PW.out.below b17 (by omega))
        replace VW := Lib.hid (VW.out.below b17 (by omega))
        replace PX := Lib.hid (PX.out.below b17 (by omega))
        replace PG := Lib.hid (PG.out.below b17 (by omega))
        replace VM := Lib.hid (VM.out.below b17 (by omega))
        replace PH := Lib.hid (PH.out.below b17 (by omega))
        replace VH := Lib.hid (VH.out.below b17 (by omega))
        clear b17
        go_wp2
        go_ret
        exact ⟨rfl, B.out⟩

end Go.Proofs.Ytmmoelijpemlfaa.Bk

