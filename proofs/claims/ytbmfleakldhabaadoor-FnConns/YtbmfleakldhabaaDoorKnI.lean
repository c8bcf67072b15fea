/- The reference's PlayConn. -/
import Derived.Test.YtbmfleakldhabaaDoorKnH
import Derived.Deep.DeepCutAuto
namespace Go.Proofs.YtbmfleakldhabaaDoor.Kn
open Go.RowKit Go.Deep Base Tick Rw

theorem ZB.kb {b : Nat} {w : World} (h : ZB b w) : KB b (fun _ => 0) false w := h

set_option maxRecDepth 100000 in
set_option maxHeartbeats 4000000 in
theorem specPlay_any (id : Int) (A : Option Addr) (n cap : Nat) (zss : List (List Int)) (w : World) (hn : zss.length = n) (hm : n ≤ 1048576) (hi0 : ∀ i, i < n → (zss.getD i []).length ≤ 1048576) (h : IntsS w A zss) :
    Calls Tryd.prog 9 #[.int .i64 id, .slice A n cap] w (PlEnd id zss w) := by
  have Hn := Lib.hid hn
  have HI := Lib.hid h
  have Hi := Lib.hid hi0
  have HGo : Hid (goP id zss = (newB id 0 && decide (n ≤ 300))) := by show _ = _; rw [← hn]; rfl
  have HN := Lib.hid (fun W => specNewConn_any id 0 W)
  unfold NewEnd at HN
  have HP0 : Hid (plS id zss 0 = (newN id 0, false)) := rfl
  clear hn h hi0
  generalize newN id 0 = k0 at HN HP0
  generalize newB id 0 = nb at HN HGo
  have HZ : Hid (ZB w.heap.size (w.alloc (.cells #[.int .i64 0, .int .i64 0, .int .i64 0, .int .i64 0, .int .i64 0, .bool false] 28))) := heap_alloc_new w _
  have B := Lib.hid (bel_alloc w (.cells #[.int .i64 0, .int .i64 0, .int .i64 0, .int .i64 0, .int .i64 0, .bool false] 28))
  go_enter Tryd.func9, Tryd.ntmps9
  go_wp2_with fail
  refine (HN.out _).mono ?_
  rintro r w1 ⟨rfl, b1⟩
  replace HZ := Lib.hid (HZ.out.below b1)
  replace B := Lib.hid (bel_trans B.out b1)
  have HK := Lib.hid (KB.new k0 false w1)
  have zg : w.heap.size < w1.heap.size := by have := b1.size; simp at this; omega
  clear b1 HN
  cases nb
  · have Hg : Hid (goP id zss = false) := by show _ = _; rw [HGo.out]; rfl
    obtain ⟨z0, z1, z2, z3, z4, z5, zf⟩ := HZ.out.cells
    obtain ⟨f0, f1, f2, f3, f4, f5⟩ := stored6 HZ.out (.int .i64 0) (.int .i64 0) (.int .i64 0) (.int .i64 0) (.int .i64 0) (.bool false) (.cells #[.int .i64 (k0 0), .int .i64 (k0 1), .int .i64 (k0 2), .int .i64 (k0 3), .int .i64 (k0 4), .bool false] 28)
    go_wp2
    refine bodyPost_ret (v := .tuple #[.agg #[.int .i64 0, .int .i64 0, .int .i64 0, .int .i64 0, .int .i64 0, .bool false], .slice none 0 0]) (by simp [results, go_sem, f0, f1, f2, f3, f4, f5]) rfl (plEnd_no Hg.out (B.out.trans ?_))
    refine Below.alloc ?_ (by simp [World.setCell]; omega) _
    iterate 6 refine Below.setCell ?_ (by show w.heap.size ≤ w.heap.size; exact Nat.le_refl _) _
    exact Below.refl _ _
  by_cases hl : 300 < n
  · have Hg : Hid (goP id zss = false) := by show _ = _; rw [HGo.out, decide_eq_false (by omega)]; rfl
    have hl2 : (300 : Int) < (n : Int) := by omega
    clear hl HK
    obtain ⟨z0, z1, z2, z3, z4, z5, zf⟩ := HZ.out.cells
    obtain ⟨f0, f1, f2, f3, f4, f5⟩ := stored6 HZ.out (.int .i64 0) (.int .i64 0) (.int .i64 0) (.int .i64 0) (.int .i64 0) (.bool false) (.cells #[.int .i64 (k0 0), .int .i64 (k0 1), .int .i64 (k0 2), .int .i64 (k0 3), .int .i64 (k0 4), .bool false] 28)
    go_wp2
    refine bodyPost_ret (v := .tuple #[.agg #[.int .i64 0, .int .i64 0, .int .i64 0, .int .i64 0, .int .i64 0, .bool false], .slice none 0 0]) (by simp [results, go_sem, f0, f1, f2, f3, f4, f5]) rfl (plEnd_no Hg.out (B.out.trans ?_))
    refine Below.alloc ?_ (by simp [World.setCell]; omega) _
    iterate 6 refine Below.setCell ?_ (by show w.heap.size ≤ w.heap.size; exact Nat.le_refl _) _
    exact Below.refl _ _
  have Hg : Hid (goP id zss = true) := by show _ = _; rw [HGo.out, decide_eq_true (by omega)]; rfl
  have hl3 : ¬ (300 : Int) < (n : Int) := by omega
  have hn3 : n ≤ 300 := by omega
  clear hl HGo
  obtain ⟨g, hg⟩ : ∃ g, w1.heap.size = g := ⟨_, rfl⟩
  have HC0 : Hid (Pc w ((w1.alloc (.cells #[.int .i64 (k0 0), .int .i64 (k0 1), .int .i64 (k0 2), .int .i64 (k0 3), .int .i64 (k0 4), .bool false] 28)).alloc (.cells #[] 3)) g (.slice (some ⟨g + 1, 0, none⟩) 0 0) (plS id zss 0).1 (plS id zss 0).2 (plT id zss 0)) := by
    show Pc _ _ _ _ _ _ _
    rw [HP0.out]
    subst hg
    have ho := World.ownsRow_lit (base := w1.heap.size + 1) (e := 3) (size := 1) (w1.alloc (.cells #[.int .i64 (k0 0), .int .i64 (k0 1), .int .i64 (k0 2), .int .i64 (k0 3), .int .i64 (k0 4), .bool false] 28)) #[] 0 (by simp) (by simp) (by simp)
    simp only [World.size_alloc] at ho
    exact ⟨ho, HK.out.below (bel_alloc _ _), (HZ.out.below (bel_alloc _ _)).below (bel_alloc _ _), bel_trans (bel_trans B.out (bel_alloc _ _)) (bel_alloc _ _), by omega⟩
  obtain ⟨i0, hi0, hz0, hz1, hz2⟩ := info_parts infoInt
  have Hi0 := Lib.hid hi0
  have Hz0 := Lib.hid hz0
  have Hz1 := Lib.hid hz1
  have Hz2 := Lib.hid hz2
  clear hi0 hz0 hz1 hz2 HK HZ B HP0
  have hg2 : w.heap.size < g := by omega
  have Hgs := Lib.hid hg
  clear hg
  go_wp2_with fail
  rw [Hgs.out]
  clear Hgs zg
  go_loopw [8, 9] (fun x i wr => ∃ (v : Value) (j : Nat), v = x ∧ j ≤ n ∧ i = .int .i64 j ∧ Pc w wr g v (plS id zss j).1 (plS id zss j).2 (plT id zss j)) (fun _ i _ => n - (intOf i).toNat)
  case atStart => exact ⟨_, 0, rfl, Nat.zero_le _, rfl, HC0.out⟩
  case round =>
    obtain ⟨v, j, hv, hj, rfl, hst⟩ := hrel
    subst hv
    have Hst := Lib.hid hst
    have zz : w.heap.size ≤ wr.heap.size := hst.old.size
    clear hst HC0
    by_cases hlt : j < n
    · obtain ⟨b, off, Ai, ci, rfl, hb, h1, h2⟩ := ev_at HI.out (j := j) (by have := Hn.out; omega)
      have h1r : wr.cell? ⟨b, off + j, none⟩ = some (.slice Ai (zss.getD j []).length ci) := (Hst.out.old.cell (p := ⟨b, off + j, none⟩) hb).trans h1
      have hol := Hi.out j hlt
      have HG : Hid (∀ v5 w5, Pc w w5 g v5 (plC (plS id zss j) (zss.getD j [])).1 (plC (plS id zss j) (zss.getD j [])).2 (plT id zss j ++ [b2n (plB (plS id zss j) (zss.getD j []))]) → Pc w w5 g v5 (plS id zss (j + 1)).1 (plS id zss (j + 1)).2 (plT id zss (j + 1))) := fun v5 w5 hp => by rw [plT_succ]; exact hp
      have hil := plT_len id zss j
      generalize plT id zss j = ids at Hst HG hil
      have Hil := Lib.hid hil
      clear hil h1
      obtain ⟨⟨k, t⟩, hs⟩ : ∃ s, plS id zss j = s := ⟨_, rfl⟩
      rw [hs] at Hst HG
      dsimp only at Hst
      clear hs
      obtain ⟨op, hop⟩ : ∃ op, zss.getD j [] = op := ⟨_, rfl⟩
      rw [hop] at h1r h2 hol HG
      have H2 := Lib.hid h2
      clear hop h2
      have hk0 : (0 : Int) ≤ (j : Int) := by omega
      have hk1 : (j : Int) < (n : Int) := by omega
      obtain ⟨A', cap', rfl⟩ := owns_form Hst.out.own
      by_cases h3 : op.length = 3
      · obtain ⟨x, y, z, rfl⟩ := op3 h3
        obtain ⟨e, o, rfl, he, htri⟩ := tri_of H2.out
        have hC : plC (k, t) [x, y, z] = (stR k t x y z, stT k t x y z) := rfl
        have hB : plB (k, t) [x, y, z] = canS k t x y z := rfl
        rw [hC, hB] at HG
        have HST := Lib.hid (fun W => specStep_any k t x y z W)
        unfold StEnd at HST
        generalize stR k t x y z = q at HST HG
        generalize stT k t x y z = qt at HST HG
        generalize canS k t x y z = qb at HST HG
        clear hC hB h3 hol
        simp only [List.length_cons, List.length_nil, Nat.zero_add, Nat.reduceAdd] at h1r
        have HTr : Hid (Tri e o x y z wr) := htri.of_block (Hst.out.old.block e he)
        have her : e < wr.heap.size := by omega
        have H1 := Lib.hid h1r
        clear htri H2
        go_wp2_with fail
        clear h1r
        go_cut [11, 12] (fun pp bb wx => ∃ gg, pp = .pointer (some ⟨gg, 0, none⟩) ∧ bb = .bool qb ∧ KB gg q qt wx ∧ Below wr.heap.size wr wx ∧ wr.heap.size ≤ gg)
        case first =>
          have HS : Hid (Below wr.heap.size wr wr.drew) := (Below.refl _ _).drew
          refine wp_region_held_drew (S := Below wr.heap.size wr) (by kernel_rfl) HS.out (fun _ => ?_)
          obtain ⟨v0, hv0⟩ : ∃ W', wr.drew = W' := ⟨_, rfl⟩
          have zz0 : wr.heap.size ≤ v0.heap.size := by rw [← hv0]; exact Nat.le_refl _
          rw [hv0] at HS ⊢
          clear hv0
          refine wpAnyH_take (i := 0) (v := (.agg #[.int .i64 (k 0), .int .i64 (k 1), .int .i64 (k 2), .int .i64 (k 3), .int .i64 (k 4), .bool t])) rfl (by kernel_rfl) (by kernel_rfl) (by kernel_rfl) (fun _ _ _ h => h) (.inl ⟨rfl, fun V hS => ?y0⟩) HS.out ?_
          case y0 =>
            obtain ⟨y0, y1, y2, y3, y4, y5⟩ := Hst.out.box.kc.below hS
            clear hS
            go_simp
          go_simp
          refine wpAnyH_take (i := 1) (v := (.slice (some ⟨b, off, none⟩) n cap)) rfl (by kernel_rfl) (by kernel_rfl) (by kernel_rfl) (fun _ _ _ h => h) (.inl ⟨rfl, fun V hS => ?y0⟩) HS.out ?_
          case y0 =>
            clear hS
            go_simp
          go_simp
          refine wpAnyH_take (i := 2) (v := (.int .i64 j)) rfl (by kernel_rfl) (by kernel_rfl) (by kernel_rfl) (fun _ _ _ h => h) (.inl ⟨rfl, fun V hS => ?y0⟩) HS.out ?_
          case y0 =>
            clear hS
            go_simp
          go_simp
          refine wpAnyH_take (i := 3) (v := (.pointer (some ⟨b, off + j, none⟩))) rfl (by kernel_rfl) (by kernel_rfl) (by kernel_rfl) (fun _ _ _ h => h) (.inl ⟨rfl, fun V hS => ?y0⟩) HS.out ?_
          case y0 =>
            clear hS
            go_simp
          go_simp
          refine wpAnyH_take (i := 4) (v := .slice (some ⟨e, o, none⟩) 3 ci) rfl (by kernel_rfl) (by kernel_rfl) (by kernel_rfl) (fun _ _ _ h => h) (.inl ⟨rfl, fun V hS => ?y0⟩) HS.out ?_
          case y0 =>
            have y0 := nkeep H1.out hS
            clear hS
            go_simp
          go_simp
          refine wpAnyH_take (i := 5) (v := (.pointer (some ⟨e, o, none⟩))) rfl (by kernel_rfl) (by kernel_rfl) (by kernel_rfl) (fun _ _ _ h => h) (.inl ⟨rfl, fun V hS => ?y0⟩) HS.out ?_
          case y0 =>
            clear hS
            go_simp
          go_simp
          refine wpAnyH_take (i := 6) (v := (.int .i64 x)) rfl (by kernel_rfl) (by kernel_rfl) (by kernel_rfl) (fun _ _ _ h => h) (.inl ⟨rfl, fun V hS => ?y0⟩) HS.out ?_
          case y0 =>
            obtain ⟨y0, y1, y2⟩ := HTr.out.of_block (hS.block e her)
            clear hS
            go_simp
          go_simp
          refine wpAnyH_take (i := 7) (v := (.slice (some ⟨b, off, none⟩) n cap)) rfl (by kernel_rfl) (by kernel_rfl) (by kernel_rfl) (fun _ _ _ h => h) (.inl ⟨rfl, fun V hS => ?y0⟩) HS.out ?_
          case y0 =>
            clear hS
            go_simp
          go_simp
          refine wpAnyH_take (i := 8) (v := (.int .i64 j)) rfl (by kernel_rfl) (by kernel_rfl) (by kernel_rfl) (fun _ _ _ h => h) (.inl ⟨rfl, fun V hS => ?y0⟩) HS.out ?_
          case y0 =>
            clear hS
            go_simp
          go_simp
          refine wpAnyH_take (i := 9) (v := (.pointer (some ⟨b, off + j, none⟩))) rfl (by kernel_rfl) (by kernel_rfl) (by kernel_rfl) (fun _ _ _ h => h) (.inl ⟨rfl, fun V hS => ?y0⟩) HS.out ?_
          case y0 =>
            clear hS
            go_simp
          go_simp
          refine wpAnyH_take (i := 10) (v := .slice (some ⟨e, o, none⟩) 3 ci) rfl (by kernel_rfl) (by kernel_rfl) (by kernel_rfl) (fun _ _ _ h => h) (.inl ⟨rfl, fun V hS => ?y0⟩) HS.out ?_
          case y0 =>
            have y0 := nkeep H1.out hS
            clear hS
            go_simp
          go_simp
          refine wpAnyH_take (i := 11) (v := (.pointer (some ⟨e, o + 1, none⟩))) rfl (by kernel_rfl) (by kernel_rfl) (by kernel_rfl) (fun _ _ _ h => h) (.inl ⟨rfl, fun V hS => ?y0⟩) HS.out ?_
          case y0 =>
            clear hS
            go_simp
          go_simp
          refine wpAnyH_take (i := 12) (v := (.int .i64 y)) rfl (by kernel_rfl) (by kernel_rfl) (by kernel_rfl) (fun _ _ _ h => h) (.inl ⟨rfl, fun V hS => ?y0⟩) HS.out ?_
          case y0 =>
            obtain ⟨y0, y1, y2⟩ := HTr.out.of_block (hS.block e her)
            clear hS
            go_simp
          go_simp
          refine wpAnyH_take (i := 13) (v := (.slice (some ⟨b, off, none⟩) n cap)) rfl (by kernel_rfl) (by kernel_rfl) (by kernel_rfl) (fun _ _ _ h => h) (.inl ⟨rfl, fun V hS => ?y0⟩) HS.out ?_
          case y0 =>
            clear hS
            go_simp
          go_simp
          refine wpAnyH_take (i := 14) (v := (.int .i64 j)) rfl (by kernel_rfl) (by kernel_rfl) (by kernel_rfl) (fun _ _ _ h => h) (.inl ⟨rfl, fun V hS => ?y0⟩) HS.out ?_
          case y0 =>
            clear hS
            go_simp
          go_simp
          refine wpAnyH_take (i := 15) (v := (.pointer (some ⟨b, off + j, none⟩))) rfl (by kernel_rfl) (by kernel_rfl) (by kernel_rfl) (fun _ _ _ h => h) (.inl ⟨rfl, fun V hS => ?y0⟩) HS.out ?_
          case y0 =>
            clear hS
            go_simp
          go_simp
          refine wpAnyH_take (i := 16) (v := .slice (some ⟨e, o, none⟩) 3 ci) rfl (by kernel_rfl) (by kernel_rfl) (by kernel_rfl) (fun _ _ _ h => h) (.inl ⟨rfl, fun V hS => ?y0⟩) HS.out ?_
          case y0 =>
            have y0 := nkeep H1.out hS
            clear hS
            go_simp
          go_simp
          refine wpAnyH_take (i := 17) (v := (.pointer (some ⟨e, o + 2, none⟩))) rfl (by kernel_rfl) (by kernel_rfl) (by kernel_rfl) (fun _ _ _ h => h) (.inl ⟨rfl, fun V hS => ?y0⟩) HS.out ?_
          case y0 =>
            clear hS
            go_simp
          go_simp
          refine wpAnyH_take (i := 18) (v := (.int .i64 z)) rfl (by kernel_rfl) (by kernel_rfl) (by kernel_rfl) (fun _ _ _ h => h) (.inl ⟨rfl, fun V hS => ?y0⟩) HS.out ?_
          case y0 =>
            obtain ⟨y0, y1, y2⟩ := HTr.out.of_block (hS.block e her)
            clear hS
            go_simp
          go_simp
          refine wpAnyH_ready (rs := [19, 23]) (by kernel_rfl) (by simp) (AllReadyH.cons rfl (fun J hJ => ?_) (AllReadyH.cons rfl (fun J hJ => ?_) AllReadyH.nil))
          · go_simp
            refine (HST.out _).mono ?_
            rintro r v1 ⟨rfl, b1⟩
            have zz1 : v0.heap.size ≤ v1.heap.size := b1.size
            replace HS := Lib.hid (HS.out.trans (b1.mono zz0))
            clear b1
            refine hJ.out _ _ HS.out (fun _ => ?_)
            clear hJ J
            go_simp
            refine wpAnyH_take (i := 20) (v := (.tuple #[.agg #[.int .i64 (q 0), .int .i64 (q 1), .int .i64 (q 2), .int .i64 (q 3), .int .i64 (q 4), .bool qt], .bool qb])) rfl (by kernel_rfl) (by kernel_rfl) (by kernel_rfl) (fun _ _ _ h => h) (.inl ⟨rfl, fun V hS => ?y0⟩) HS.out ?_
            case y0 =>
              clear hS
              go_simp
            go_simp
            refine wpAnyH_take (i := 21) (v := (.agg #[.int .i64 (q 0), .int .i64 (q 1), .int .i64 (q 2), .int .i64 (q 3), .int .i64 (q 4), .bool qt])) rfl (by kernel_rfl) (by kernel_rfl) (by kernel_rfl) (fun _ _ _ h => h) (.inl ⟨rfl, fun V hS => ?y0⟩) HS.out ?_
            case y0 =>
              clear hS
              go_simp
            go_simp
            refine wpAnyH_take (i := 22) (v := (.bool qb)) rfl (by kernel_rfl) (by kernel_rfl) (by kernel_rfl) (fun _ _ _ h => h) (.inl ⟨rfl, fun V hS => ?y0⟩) HS.out ?_
            case y0 =>
              clear hS
              go_simp
            go_simp
            refine wpAnyH_ready (rs := [23]) (by kernel_rfl) (by simp) (AllReadyH.cons rfl (fun J hJ => ?_) AllReadyH.nil)
            go_simp
            have GG : Hid (ZB (v1).heap.size ((v1).alloc (.cells #[.int .i64 0, .int .i64 0, .int .i64 0, .int .i64 0, .int .i64 0, .bool false] 28))) := heap_alloc_new _ _
            have bm := bel_alloc v1 (.cells #[.int .i64 0, .int .i64 0, .int .i64 0, .int .i64 0, .int .i64 0, .bool false] 28)
            obtain ⟨v2, hv2⟩ : ∃ W', (v1).alloc (.cells #[.int .i64 0, .int .i64 0, .int .i64 0, .int .i64 0, .int .i64 0, .bool false] 28) = W' := ⟨_, rfl⟩
            rw [hv2] at GG bm ⊢
            have zz2 : (v1).heap.size < v2.heap.size := GG.out.lt
            replace HS := Lib.hid (HS.out.trans (bm.mono (by omega)))
            clear hv2 bm
            refine hJ.out _ _ HS.out (fun _ => ?_)
            clear hJ J
            go_simp
            refine wpAnyH_ready (rs := [24]) (by kernel_rfl) (by simp) (AllReadyH.cons rfl (fun J hJ => ?_) AllReadyH.nil)
            obtain ⟨z0, z1, z2, z3, z4, z5, zf⟩ := GG.out.cells
            go_simp
            clear z0 z1 z2 z3 z4 z5 zf
            obtain ⟨v9, hv9⟩ : ∃ W', (((((((v2).setCell ⟨(v1).heap.size, 0, none⟩ (.int .i64 (q 0))).setCell ⟨(v1).heap.size, 1, none⟩ (.int .i64 (q 1))).setCell ⟨(v1).heap.size, 2, none⟩ (.int .i64 (q 2))).setCell ⟨(v1).heap.size, 3, none⟩ (.int .i64 (q 3))).setCell ⟨(v1).heap.size, 4, none⟩ (.int .i64 (q 4))).setCell ⟨(v1).heap.size, 5, none⟩ (.bool qt)) = W' := ⟨_, rfl⟩
            have hst9 := (ZB.kb GG.out).store (q := q) (s := qt)
            rw [hv9] at hst9 ⊢
            have zl : (v1).heap.size < (v2).heap.size := GG.out.lt
            have KF := Lib.hid hst9.1
            replace HS := Lib.hid (HS.out.trans (hst9.2.below (B := wr.heap.size) (by omega) (by omega)))
            clear hv9 hst9
            refine hJ.out _ _ HS.out (fun _ => ?_)
            clear hJ J
            go_simp
            refine wpAnyH_take (i := 25) (v := (.bool qb)) rfl (by kernel_rfl) (by kernel_rfl) (by kernel_rfl) (fun _ _ _ h => h) (.inl ⟨rfl, fun V hS => ?y0⟩) HS.out ?_
            case y0 =>
              clear hS
              go_simp
            go_simp
            refine wpAnyH_done (by kernel_rfl) ?_ _
            go_wp2
            go_meet
            exact ⟨(v1).heap.size, rfl, rfl, KF.out, HS.out, by omega⟩
          · go_simp
            have GG : Hid (ZB (v0).heap.size ((v0).alloc (.cells #[.int .i64 0, .int .i64 0, .int .i64 0, .int .i64 0, .int .i64 0, .bool false] 28))) := heap_alloc_new _ _
            have bm := bel_alloc v0 (.cells #[.int .i64 0, .int .i64 0, .int .i64 0, .int .i64 0, .int .i64 0, .bool false] 28)
            obtain ⟨v2, hv2⟩ : ∃ W', (v0).alloc (.cells #[.int .i64 0, .int .i64 0, .int .i64 0, .int .i64 0, .int .i64 0, .bool false] 28) = W' := ⟨_, rfl⟩
            rw [hv2] at GG bm ⊢
            have zz2 : (v0).heap.size < v2.heap.size := GG.out.lt
            replace HS := Lib.hid (HS.out.trans (bm.mono (by omega)))
            clear hv2 bm
            refine hJ.out _ _ HS.out (fun _ => ?_)
            clear hJ J
            go_simp
            refine wpAnyH_ready (rs := [19]) (by kernel_rfl) (by simp) (AllReadyH.cons rfl (fun J hJ => ?_) AllReadyH.nil)
            go_simp
            refine (HST.out _).mono ?_
            rintro r v3 ⟨rfl, b1⟩
            replace GG := Lib.hid (GG.out.below b1)
            replace HS := Lib.hid (HS.out.trans (b1.mono (by omega)))
            clear b1
            refine hJ.out _ _ HS.out (fun _ => ?_)
            clear hJ J
            go_simp
            refine wpAnyH_take (i := 20) (v := (.tuple #[.agg #[.int .i64 (q 0), .int .i64 (q 1), .int .i64 (q 2), .int .i64 (q 3), .int .i64 (q 4), .bool qt], .bool qb])) rfl (by kernel_rfl) (by kernel_rfl) (by kernel_rfl) (fun _ _ _ h => h) (.inl ⟨rfl, fun V hS => ?y0⟩) HS.out ?_
            case y0 =>
              clear hS
              go_simp
            go_simp
            refine wpAnyH_take (i := 21) (v := (.agg #[.int .i64 (q 0), .int .i64 (q 1), .int .i64 (q 2), .int .i64 (q 3), .int .i64 (q 4), .bool qt])) rfl (by kernel_rfl) (by kernel_rfl) (by kernel_rfl) (fun _ _ _ h => h) (.inl ⟨rfl, fun V hS => ?y0⟩) HS.out ?_
            case y0 =>
              clear hS
              go_simp
            go_simp
            refine wpAnyH_take (i := 22) (v := (.bool qb)) rfl (by kernel_rfl) (by kernel_rfl) (by kernel_rfl) (fun _ _ _ h => h) (.inl ⟨rfl, fun V hS => ?y0⟩) HS.out ?_
            case y0 =>
              clear hS
              go_simp
            go_simp
            refine wpAnyH_ready (rs := [24]) (by kernel_rfl) (by simp) (AllReadyH.cons rfl (fun J hJ => ?_) AllReadyH.nil)
            obtain ⟨z0, z1, z2, z3, z4, z5, zf⟩ := GG.out.cells
            go_simp
            clear z0 z1 z2 z3 z4 z5 zf
            obtain ⟨v9, hv9⟩ : ∃ W', (((((((v3).setCell ⟨(v0).heap.size, 0, none⟩ (.int .i64 (q 0))).setCell ⟨(v0).heap.size, 1, none⟩ (.int .i64 (q 1))).setCell ⟨(v0).heap.size, 2, none⟩ (.int .i64 (q 2))).setCell ⟨(v0).heap.size, 3, none⟩ (.int .i64 (q 3))).setCell ⟨(v0).heap.size, 4, none⟩ (.int .i64 (q 4))).setCell ⟨(v0).heap.size, 5, none⟩ (.bool qt)) = W' := ⟨_, rfl⟩
            have hst9 := (ZB.kb GG.out).store (q := q) (s := qt)
            rw [hv9] at hst9 ⊢
            have zl : (v0).heap.size < (v3).heap.size := GG.out.lt
            have KF := Lib.hid hst9.1
            replace HS := Lib.hid (HS.out.trans (hst9.2.below (B := wr.heap.size) (by omega) (by omega)))
            clear hv9 hst9
            refine hJ.out _ _ HS.out (fun _ => ?_)
            clear hJ J
            go_simp
            refine wpAnyH_take (i := 25) (v := (.bool qb)) rfl (by kernel_rfl) (by kernel_rfl) (by kernel_rfl) (fun _ _ _ h => h) (.inl ⟨rfl, fun V hS => ?y0⟩) HS.out ?_
            case y0 =>
              clear hS
              go_simp
            go_simp
            refine wpAnyH_done (by kernel_rfl) ?_ _
            go_wp2
            go_meet
            exact ⟨(v0).heap.size, rfl, rfl, KF.out, HS.out, by omega⟩
        case rest =>
          obtain ⟨gg, rfl, rfl, pg, bc, zgg⟩ := hcut
          have HPk := Lib.hid (Hst.out.keep bc)
          have zc : wr.heap.size ≤ wc.heap.size := bc.size
          have hst9 := HPk.out.box.store (q := q) (s := qt)
          obtain ⟨v9, hv9⟩ : ∃ W', (((((wc.setCell ⟨g, 0, none⟩ (.int .i64 (q 0))).setCell ⟨g, 1, none⟩ (.int .i64 (q 1))).setCell ⟨g, 2, none⟩ (.int .i64 (q 2))).setCell ⟨g, 3, none⟩ (.int .i64 (q 3))).setCell ⟨g, 4, none⟩ (.int .i64 (q 4))).setCell ⟨g, 5, none⟩ (.bool qt) = W' := ⟨_, rfl⟩
          rw [hv9] at hst9
          have HP := Lib.hid (HPk.out.turn hst9.2 hst9.1)
          have HV9 := Lib.hid hv9
          have zv : Hid (v9.heap.size = wc.heap.size) := by show _ = _; rw [← hv9]; simp [World.setCell]
          have zg9 : g < wc.heap.size := HPk.out.box.lt
          clear hv9 hst9
          obtain ⟨c0, c1, c2, c3, c4, c5⟩ := pg.kc
          obtain ⟨d0, d1, d2, d3, d4, d5⟩ := HPk.out.box.kc
          have df := HPk.out.box.frozen
          have hown := HP.out.own
          rw [Hil.out] at hown
          have Hown := Lib.hid hown
          clear hown pg bc
          rw [Hil.out]
          cases qb
          · skip
            go_wp2_with (at_builtin; rw [HV9.out]; refine wpList_append_own _ rfl _ _ 29 rfl (g + 1) 3 i0 (.int .i64 0) 1 8 Tryd.underlying29 Hi0.out Hz0.out Hz1.out Hz2.out rfl (by decide) _ j (ids.map (Value.int .i64)) rfl (Hown.out.alloc _) ⟨wc.heap.size, 0, none⟩ 1 1 [.int .i64 0] rfl rfl ?c1h ?c2h ?c3h ?c4h ?c5h ?_)
            case c1h => exact new_one_at zv.out _ _
            case c2h => simp [Value.oneCell']
            case c3h => unfold maxLen; omega
            case c4h => omega
            case c5h => have := zv.out; simp; omega
            intro v5 w5 hown5 hgr5 _
            have hp5 := HP.out.push (o := .cells #[.int .i64 0] 3) (x := 0) (by rw [Hil.out]; exact hown5) (by rw [Hil.out]; exact hgr5)
            have HQ := Lib.hid (HG.out v5 w5 hp5)
            clear hp5 hown5 hgr5
            go_wp2
            go_roundw
            case rel => exact ⟨_, j + 1, rfl, by omega, by go_num, HQ.out⟩
            case measure => simp [intOf]; omega
          · skip
            go_wp2_with (at_builtin; rw [HV9.out]; refine wpList_append_own _ rfl _ _ 29 rfl (g + 1) 3 i0 (.int .i64 0) 1 8 Tryd.underlying29 Hi0.out Hz0.out Hz1.out Hz2.out rfl (by decide) _ j (ids.map (Value.int .i64)) rfl (Hown.out.alloc _) ⟨wc.heap.size, 0, none⟩ 1 1 [.int .i64 1] rfl rfl ?c1h ?c2h ?c3h ?c4h ?c5h ?_)
            case c1h => exact new_one_at zv.out _ _
            case c2h => simp [Value.oneCell']
            case c3h => unfold maxLen; omega
            case c4h => omega
            case c5h => have := zv.out; simp; omega
            intro v5 w5 hown5 hgr5 _
            have hp5 := HP.out.push (o := .cells #[.int .i64 1] 3) (x := 1) (by rw [Hil.out]; exact hown5) (by rw [Hil.out]; exact hgr5)
            have HQ := Lib.hid (HG.out v5 w5 hp5)
            clear hp5 hown5 hgr5
            go_wp2
            go_roundw
            case rel => exact ⟨_, j + 1, rfl, by omega, by go_num, HQ.out⟩
            case measure => simp [intOf]; omega
      · have hC : plC (k, t) op = (k, t) := if_neg h3
        have hB : plB (k, t) op = false := if_neg h3
        rw [hC, hB] at HG
        obtain ⟨ol, hol'⟩ : ∃ ol, op.length = ol := ⟨_, rfl⟩
        rw [hol'] at h3 hol h1r
        have h3' : ((ol : Int) == 3) = false := by simp; omega
        clear hol' hC hB
        have HP := Hst
        obtain ⟨wc, rfl⟩ : ∃ wc, wc = wr := ⟨_, rfl⟩
        have zv : Hid (wc.heap.size = wc.heap.size) := rfl
        have zg9 : g < wc.heap.size := HP.out.box.lt
        have hown := HP.out.own
        rw [Hil.out] at hown
        have Hown := Lib.hid hown
        clear hown Hst
        rw [Hil.out]
        go_wp2_with (at_builtin; refine wpList_append_own _ rfl _ _ 29 rfl (g + 1) 3 i0 (.int .i64 0) 1 8 Tryd.underlying29 Hi0.out Hz0.out Hz1.out Hz2.out rfl (by decide) _ j (ids.map (Value.int .i64)) rfl (Hown.out.alloc _) ⟨wc.heap.size, 0, none⟩ 1 1 [.int .i64 0] rfl rfl (new_one_at zv.out _ _) ?e2h ?e3h ?e4h ?e5h ?_)
        case e2h => simp [Value.oneCell']
        case e3h => unfold maxLen; omega
        case e4h => omega
        case e5h => have := zv.out; simp; omega
        intro v5 w5 hown5 hgr5 _
        have hp5 := HP.out.push (o := .cells #[.int .i64 0] 3) (x := 0) (by rw [Hil.out]; exact hown5) (by rw [Hil.out]; exact hgr5)
        have HQ := Lib.hid (HG.out v5 w5 hp5)
        clear hp5 hown5 hgr5
        go_wp2
        go_roundw
        case rel => exact ⟨_, j + 1, rfl, by omega, by go_num, HQ.out⟩
        case measure => simp [intOf]; omega
    · obtain rfl : j = n := by omega
      obtain ⟨⟨k, t⟩, hs⟩ : ∃ s, plS id zss j = s := ⟨_, rfl⟩
      obtain ⟨ids, hi⟩ : ∃ ids, plT id zss j = ids := ⟨_, rfl⟩
      rw [hs, hi] at Hst
      dsimp only at Hst
      have Hs := Lib.hid hs
      have Hd := Lib.hid hi
      have hil : ids.length = j := by rw [← hi, plT_len]
      have Hil := Lib.hid hil
      clear hs hi hil
      obtain ⟨A', cap', rfl⟩ := owns_form Hst.out.own
      have HV := Lib.hid (iv_owns Hst.out.own)
      rw [Hil.out]
      obtain ⟨c0, c1, c2, c3, c4, c5⟩ := Hst.out.box.kc
      obtain ⟨z0, z1, z2, z3, z4, z5, zf⟩ := Hst.out.res.cells
      have zn : ¬ g = w.heap.size := by omega
      go_wp2
      refine bodyPost_ret (v := .tuple #[.agg #[.int .i64 (k 0), .int .i64 (k 1), .int .i64 (k 2), .int .i64 (k 3), .int .i64 (k 4), .bool t], .slice A' j cap']) (by simp [results, go_sem, z0, z1, z2, z3, z4, z5]) rfl (plEnd_yes Hg.out (by rw [Hn.out]; exact Hs.out) (by rw [Hn.out]; exact Hd.out) Hil.out ?iv ?bel)
      case bel =>
        refine Hst.out.old.trans ?_
        iterate 6 refine Below.setCell ?_ (by show w.heap.size ≤ w.heap.size; exact Nat.le_refl _) _
        exact Below.refl _ _
      case iv =>
        refine (HV.out.of_block fun g' h1 _ => ?_).wide (by omega) (by simp [World.setCell])
        iterate 6 refine (Below.heap_setCell _ _ _ _ (by show g' ≠ w.heap.size; omega)).trans ?_
        rfl
end Go.Proofs.YtbmfleakldhabaaDoor.Kn
