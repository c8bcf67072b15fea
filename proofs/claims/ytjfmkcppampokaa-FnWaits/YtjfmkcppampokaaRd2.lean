/- Redials, the program's. -/
import Derived.Test.YtjfmkcppampokaaRd1
import Derived.Deep.AppendLies
namespace Go.Proofs.Ytjfmkcppampokaa.Wt
open Go.RowKit Go.Deep Base Flt Cf Tick Rw

/-- The box of a configuration. -/
def Box (b : Nat) (c : Nat → Int) (V : World) : Prop := V.heap[b]? = some (.cells #[.int .i64 (c 0), .int .i64 (c 1), .int .i64 (c 2), .int .i64 (c 3), .int .i64 (c 4), .int .i64 (c 5), .int .i64 (c 6), .int .i64 (c 7), .int .i64 (c 8), .int .i64 (c 9), .int .i64 (c 10), .int .i64 (c 11), .int .i64 (c 12), .int .i64 (c 13)] 25 (0, 0))

set_option maxRecDepth 100000 in
set_option maxHeartbeats 4000000 in
theorem implRed_any (c : Nat → Int) (A : Option Addr) (n cap : Nat) (ds : List Int) (w : World) (hn : ds.length = n) (hm : n ≤ 1048576) (h : Ints w A ds) :
    Calls Try.prog 13 #[.agg #[.int .i64 (c 0), .int .i64 (c 1), .int .i64 (c 2), .int .i64 (c 3), .int .i64 (c 4), .int .i64 (c 5), .int .i64 (c 6), .int .i64 (c 7), .int .i64 (c 8), .int .i64 (c 9), .int .i64 (c 10), .int .i64 (c 11), .int .i64 (c 12), .int .i64 (c 13)], .slice A n cap] w (NewI w (red c ds)) := by
  have Hn := Lib.hid hn
  have HS := Lib.hid h
  clear h hn
  go_enter Try.func13, Try.ntmps13
  go_wp2_with fail
  obtain ⟨W0, hW0⟩ : ∃ W0, w.alloc (.cells #[.int .i64 (c 0), .int .i64 (c 1), .int .i64 (c 2), .int .i64 (c 3), .int .i64 (c 4), .int .i64 (c 5), .int .i64 (c 6), .int .i64 (c 7), .int .i64 (c 8), .int .i64 (c 9), .int .i64 (c 10), .int .i64 (c 11), .int .i64 (c 12), .int .i64 (c 13)] 25) = W0 := ⟨_, rfl⟩
  have B : Hid (Below w.heap.size w W0) := by rw [← hW0]; exact bel_alloc _ _
  have z0 : w.heap.size < W0.heap.size := by rw [← hW0]; simp
  have K : Hid (W0.heap[w.heap.size]? = some (.cells #[.int .i64 (c 0), .int .i64 (c 1), .int .i64 (c 2), .int .i64 (c 3), .int .i64 (c 4), .int .i64 (c 5), .int .i64 (c 6), .int .i64 (c 7), .int .i64 (c 8), .int .i64 (c 9), .int .i64 (c 10), .int .i64 (c 11), .int .i64 (c 12), .int .i64 (c 13)] 25 (0, 0))) := by rw [← hW0]; exact heap_alloc_new w _
  rw [hW0]
  clear hW0
  refine (implConfigOk_any c _).mono ?_
  rintro e w1 ⟨rfl, b1⟩
  replace B := Lib.hid (bel_trans B.out b1)
  replace K := Lib.hid ((b1.block _ z0).trans K.out)
  have z1 : w.heap.size < w1.heap.size := Nat.lt_of_lt_of_le z0 b1.size
  clear b1 z0
  cases hok : okC c
  · have Hr := Lib.hid (red_bad (ds := ds) hok)
    clear hok
    go_wp2
    go_ret
    exact ⟨none, 0, by rw [Hr.out]; rfl, by rw [Hr.out]; exact IV.nil _ _ _ _, B.out⟩
  by_cases hl : 300 < n
  · have Hr := Lib.hid (red_long (c := c) (ds := ds) (by rw [Hn.out]; exact hl))
    clear hok
    go_wp2
    go_ret
    exact ⟨none, 0, by rw [Hr.out]; rfl, by rw [Hr.out]; exact IV.nil _ _ _ _, B.out⟩
  have Hr := Lib.hid (red_yes (ds := ds) hok (by rw [Hn.out]; omega))
  have Hok := Lib.hid hok
  clear hok
  have L1 := Lib.hid (ListSt.one (W := w1) 0)
  go_wp2
  go_loopw [5, 19] (fun v i wr => ∃ (u : Value) (k : Nat), u = v ∧ k ≤ n ∧ i = .int .i64 k ∧ ListSt w1.heap.size w1 wr u (redL c ds k)) (fun _ i _ => n - (intOf i).toNat)
  case atStart => exact ⟨_, 0, rfl, Nat.zero_le _, rfl, L1.out⟩
  case round =>
    obtain ⟨u, k, rfl, hk, rfl, hst⟩ := hrel
    have Hst := Lib.hid hst
    have HB := Lib.hid (bel_trans B.out hst.old)
    have HK := Lib.hid ((hst.old.block _ z1).trans K.out)
    have zr : w.heap.size < wr.heap.size := Nat.lt_of_lt_of_le z1 hst.old.size
    have z1r : w1.heap.size ≤ wr.heap.size := hst.old.size
    clear hst L1
    by_cases hlt : k < n
    · obtain ⟨g, off, rfl, hc⟩ := HS.out.below HB.out (by have := Hn.out; omega)
      have hck := hc k (by have := Hn.out; omega)
      clear hc
      have HJ := fun V => implJit_any c ((k : Int) + 1) (ds.getD k 0) (by omega) V
      have Ht : Hid (redT c ds (k + 1) = addT (redT c ds k) (jw c ((k : Int) + 1) (ds.getD k 0))) := rfl
      generalize ds.getD k 0 = z at hck HJ Ht
      generalize jw c ((k : Int) + 1) z = j at HJ Ht
      obtain ⟨A', cap', rfl⟩ := owns_form Hst.out.own
      obtain ⟨g', rfl, hg1, hg2, hri⟩ := iv_owns Hst.out.own (by rw [redL_len]; omega)
      have hek := (hri k (by rw [redL_len]; omega)).1
      rw [redL_at] at hek
      clear hri
      rw [redL_len] at Hst ⊢
      generalize hT : redT c ds k = t at Ht hek
      have hT' := Lib.hid hT
      clear hT
      have HA := fun V => implAddTick_any t j V
      rw [← Ht.out] at HA
      clear Ht
      generalize hT : redT c ds (k + 1) = t1 at HA
      have hT1 := Lib.hid hT
      clear hT
      have hw1 : IntKind.i64.wrap ((k : Int) + 1) = (k : Int) + 1 := IntWalk.i64_in _ (by omega)
      have hk0 : (0 : Int) ≤ (k : Int) := by omega
      have hk1 : (k : Int) < (k : Int) + 1 := by omega
      have hk2 : ¬ (k : Int) + 1 ≤ (k : Int) := by omega
      have x0 : wr.cell? ⟨w.heap.size, 0, none⟩ = some (.int .i64 (c 0)) := cell_of_row _ _ 0 _ _ (0, 0) HK.out
      have x1 : wr.cell? ⟨w.heap.size, 1, none⟩ = some (.int .i64 (c 1)) := cell_of_row _ _ 1 _ _ (0, 0) HK.out
      have x2 : wr.cell? ⟨w.heap.size, 2, none⟩ = some (.int .i64 (c 2)) := cell_of_row _ _ 2 _ _ (0, 0) HK.out
      have x3 : wr.cell? ⟨w.heap.size, 3, none⟩ = some (.int .i64 (c 3)) := cell_of_row _ _ 3 _ _ (0, 0) HK.out
      have x4 : wr.cell? ⟨w.heap.size, 4, none⟩ = some (.int .i64 (c 4)) := cell_of_row _ _ 4 _ _ (0, 0) HK.out
      have x5 : wr.cell? ⟨w.heap.size, 5, none⟩ = some (.int .i64 (c 5)) := cell_of_row _ _ 5 _ _ (0, 0) HK.out
      have x6 : wr.cell? ⟨w.heap.size, 6, none⟩ = some (.int .i64 (c 6)) := cell_of_row _ _ 6 _ _ (0, 0) HK.out
      have x7 : wr.cell? ⟨w.heap.size, 7, none⟩ = some (.int .i64 (c 7)) := cell_of_row _ _ 7 _ _ (0, 0) HK.out
      have x8 : wr.cell? ⟨w.heap.size, 8, none⟩ = some (.int .i64 (c 8)) := cell_of_row _ _ 8 _ _ (0, 0) HK.out
      have x9 : wr.cell? ⟨w.heap.size, 9, none⟩ = some (.int .i64 (c 9)) := cell_of_row _ _ 9 _ _ (0, 0) HK.out
      have x10 : wr.cell? ⟨w.heap.size, 10, none⟩ = some (.int .i64 (c 10)) := cell_of_row _ _ 10 _ _ (0, 0) HK.out
      have x11 : wr.cell? ⟨w.heap.size, 11, none⟩ = some (.int .i64 (c 11)) := cell_of_row _ _ 11 _ _ (0, 0) HK.out
      have x12 : wr.cell? ⟨w.heap.size, 12, none⟩ = some (.int .i64 (c 12)) := cell_of_row _ _ 12 _ _ (0, 0) HK.out
      have x13 : wr.cell? ⟨w.heap.size, 13, none⟩ = some (.int .i64 (c 13)) := cell_of_row _ _ 13 _ _ (0, 0) HK.out
      obtain ⟨i0, hi0, hz0, hz1, hz2⟩ := info_parts infoInt
      have Hi0 := Lib.hid hi0
      have Hz0 := Lib.hid hz0
      have Hz1 := Lib.hid hz1
      have Hz2 := Lib.hid hz2
      clear hi0 hz0 hz1 hz2
      go_wp2_with fail
      have HX : Hid (Box w.heap.size c wr.drew) := HK.out
      refine wp_region_held_drew (S := Box w.heap.size c) (by kernel_rfl) HX.out (fun _ => ?_)
      refine wpAnyH_take (i := 0) (v := (.slice (some ⟨g', 0, none⟩) (k + 1) cap')) rfl (by kernel_rfl) (by kernel_rfl) (by kernel_rfl) (fun _ _ _ h => h) (.inl ⟨rfl, fun V hS => ?y0⟩) HX.out ?_
      case y0 => go_simp
      go_simp
      refine wpAnyH_take (i := 1) (v := (.slice (some ⟨g', 0, none⟩) (k + 1) cap')) rfl (by kernel_rfl) (by kernel_rfl) (by kernel_rfl) (fun _ _ _ h => h) (.inl ⟨rfl, fun V hS => ?y0⟩) HX.out ?_
      case y0 => go_simp
      go_simp
      refine wpAnyH_take (i := 2) (v := (.int .i64 k)) rfl (by kernel_rfl) (by kernel_rfl) (by kernel_rfl) (fun _ _ _ h => h) (.inl ⟨rfl, fun V hS => ?y0⟩) HX.out ?_
      case y0 => go_simp
      go_simp
      refine wpAnyH_take (i := 3) (v := (.pointer (some ⟨g', k, none⟩))) rfl (by kernel_rfl) (by kernel_rfl) (by kernel_rfl) (fun _ _ _ h => h) (.inl ⟨rfl, fun V hS => ?y0⟩) HX.out ?_
      case y0 => go_simp
      go_simp
      refine wpAnyH_take (i := 5) (v := .agg #[.int .i64 (c 0), .int .i64 (c 1), .int .i64 (c 2), .int .i64 (c 3), .int .i64 (c 4), .int .i64 (c 5), .int .i64 (c 6), .int .i64 (c 7), .int .i64 (c 8), .int .i64 (c 9), .int .i64 (c 10), .int .i64 (c 11), .int .i64 (c 12), .int .i64 (c 13)]) rfl (by kernel_rfl) (by kernel_rfl) (by kernel_rfl) (fun _ _ _ h => h) (.inl ⟨rfl, fun V hS => ?y5⟩) HX.out ?_
      case y5 =>
        have s0 : V.cell? ⟨w.heap.size, 0, none⟩ = some (.int .i64 (c 0)) := cell_of_row _ _ 0 _ _ (0, 0) hS
        have s1 : V.cell? ⟨w.heap.size, 1, none⟩ = some (.int .i64 (c 1)) := cell_of_row _ _ 1 _ _ (0, 0) hS
        have s2 : V.cell? ⟨w.heap.size, 2, none⟩ = some (.int .i64 (c 2)) := cell_of_row _ _ 2 _ _ (0, 0) hS
        have s3 : V.cell? ⟨w.heap.size, 3, none⟩ = some (.int .i64 (c 3)) := cell_of_row _ _ 3 _ _ (0, 0) hS
        have s4 : V.cell? ⟨w.heap.size, 4, none⟩ = some (.int .i64 (c 4)) := cell_of_row _ _ 4 _ _ (0, 0) hS
        have s5 : V.cell? ⟨w.heap.size, 5, none⟩ = some (.int .i64 (c 5)) := cell_of_row _ _ 5 _ _ (0, 0) hS
        have s6 : V.cell? ⟨w.heap.size, 6, none⟩ = some (.int .i64 (c 6)) := cell_of_row _ _ 6 _ _ (0, 0) hS
        have s7 : V.cell? ⟨w.heap.size, 7, none⟩ = some (.int .i64 (c 7)) := cell_of_row _ _ 7 _ _ (0, 0) hS
        have s8 : V.cell? ⟨w.heap.size, 8, none⟩ = some (.int .i64 (c 8)) := cell_of_row _ _ 8 _ _ (0, 0) hS
        have s9 : V.cell? ⟨w.heap.size, 9, none⟩ = some (.int .i64 (c 9)) := cell_of_row _ _ 9 _ _ (0, 0) hS
        have s10 : V.cell? ⟨w.heap.size, 10, none⟩ = some (.int .i64 (c 10)) := cell_of_row _ _ 10 _ _ (0, 0) hS
        have s11 : V.cell? ⟨w.heap.size, 11, none⟩ = some (.int .i64 (c 11)) := cell_of_row _ _ 11 _ _ (0, 0) hS
        have s12 : V.cell? ⟨w.heap.size, 12, none⟩ = some (.int .i64 (c 12)) := cell_of_row _ _ 12 _ _ (0, 0) hS
        have s13 : V.cell? ⟨w.heap.size, 13, none⟩ = some (.int .i64 (c 13)) := cell_of_row _ _ 13 _ _ (0, 0) hS
        clear hS
        go_simp
      go_simp
      refine wpAnyH_take (i := 6) (v := (.int .i64 k)) rfl (by kernel_rfl) (by kernel_rfl) (by kernel_rfl) (fun _ _ _ h => h) (.inl ⟨rfl, fun V hS => ?y0⟩) HX.out ?_
      case y0 => go_simp
      go_simp
      refine wpAnyH_take (i := 7) (v := (.int .i64 (k + 1))) rfl (by kernel_rfl) (by kernel_rfl) (by kernel_rfl) (fun _ _ _ h => h) (.inl ⟨rfl, fun V hS => ?y0⟩) HX.out ?_
      case y0 => go_simp
      go_simp
      refine wpAnyH_take (i := 8) (v := (.int .i64 z)) rfl (by kernel_rfl) (by kernel_rfl) (by kernel_rfl) (fun _ _ _ h => h) (.inl ⟨rfl, fun V hS => ?y0⟩) HX.out ?_
      case y0 => go_simp
      go_simp
      refine wpAnyH_ready (rs := [4, 9]) (by kernel_rfl) (by simp) (AllReadyH.cons rfl (fun J hJ => ?_) (AllReadyH.cons rfl (fun J hJ => ?_) AllReadyH.nil))
      · have hek2 : wr.drew.cell? ⟨g', k, none⟩ = some (.int .i64 t) := hek
        go_simp
        refine hJ.out _ _ HX.out (fun _ => ?_)
        clear hJ J
        go_simp
        refine wpAnyH_ready (rs := [9]) (by kernel_rfl) (by simp) (AllReadyH.cons rfl (fun J hJ => ?_) AllReadyH.nil)
        go_simp
        refine (HJ _).mono ?_
        rintro e w2 ⟨rfl, b2⟩
        have H2 := Lib.hid (bel_of_drew b2)
        have X2 : Hid (Box w.heap.size c w2) := (H2.out.block _ zr).trans HX.out
        clear b2 hek2
        refine hJ.out _ _ X2.out (fun _ => ?_)
        clear hJ J
        go_simp
        refine wpAnyH_ready (rs := [10]) (by kernel_rfl) (by simp) (AllReadyH.cons rfl (fun J hJ => ?_) AllReadyH.nil)
        go_simp
        refine (HA _).mono ?_
        rintro e w3 ⟨rfl, b3⟩
        have H3 := Lib.hid (bel_trans H2.out b3)
        have X3 : Hid (Box w.heap.size c w3) := (H3.out.block _ zr).trans HX.out
        clear b3
        refine hJ.out _ _ X3.out (fun _ => ?_)
        clear hJ J
        go_simp
        refine wpAnyH_ready (rs := [11]) (by kernel_rfl) (by simp) (AllReadyH.cons rfl (fun J hJ => ?_) AllReadyH.nil)
        go_simp
        have z3 : wr.heap.size ≤ w3.heap.size := H3.out.size
        have HL := Lib.hid (Hst.out.keep z1r H3.out)
        have X4 : Hid (Box w.heap.size c (w3.alloc (.cells #[.int .i64 t1] 3))) := ((bel_alloc w3 _).block _ (by omega)).trans X3.out
        refine hJ.out _ _ X4.out (fun _ => ?_)
        clear hJ J
        go_simp
        refine wpAnyH_ready (rs := [12]) (by kernel_rfl) (by simp) (AllReadyH.cons rfl (fun J hJ => ?_) AllReadyH.nil)
        refine step_append_lies _ (by rfl) _ _ _ (by rfl) w1.heap.size 3 i0 _ 1 8 Try.underlying26 Hi0.out Hz0.out Hz1.out Hz2.out rfl (by omega) (.slice (some ⟨g', 0, none⟩) (k + 1) cap') (k + 1) ((redL c ds k).map (Value.int .i64)) (by rfl) ?c0h ⟨w3.heap.size, 0, none⟩ 1 1 [.int .i64 t1] (by rfl) (by rfl) (new_one_at (w := w3) rfl _ _) (by simp [Value.oneCell']) (by omega) (by unfold maxLen; omega) (by omega) (by simp; omega) (w3.heap.size + 1) (by simp) ?_
        case c0h => have := HL.out.own.alloc (.cells #[.int .i64 t1] 3); rwa [redL_len] at this
        intro gg cap9 w5 hown hgr hlie _
        have hst1 := HL.out.step rfl (by rw [redL_len]; exact hown) hgr
        have HQ : Hid (ListSt w1.heap.size w1 w5 (.slice (some ⟨gg, 0, none⟩) (k + 1 + 1) cap9) (redL c ds (k + 1))) := by
          show ListSt _ _ _ _ _
          rw [redL_succ, hT1.out]; exact hst1
        have X5 : Hid (Box w.heap.size c w5) := (HQ.out.old.block _ z1).trans K.out
        clear hst1 hown hgr hlie
        refine hJ.out _ _ X5.out (fun _ => ?_)
        clear hJ J
        go_simp
        refine wpAnyH_ready (rs := [13]) (by kernel_rfl) (by simp) (AllReadyH.cons rfl (fun J hJ => ?_) AllReadyH.nil)
        go_simp
        refine hJ.out _ _ X5.out (fun _ => ?_)
        clear hJ J
        refine wpAnyH_done (by kernel_rfl) ?_ _
        clear x0 x1 x2 x3 x4 x5 x6 x7 x8 x9 x10 x11 x12 x13 hck hek hw1
        go_wp2
        go_roundw
        case rel => exact ⟨_, k + 1, rfl, by omega, by go_num, HQ.out⟩
        case measure => simp [intOf]; omega
      · go_simp
        refine (HJ _).mono ?_
        rintro e w2 ⟨rfl, b2⟩
        have H2 := Lib.hid (bel_of_drew b2)
        have X2 : Hid (Box w.heap.size c w2) := (H2.out.block _ zr).trans HX.out
        have hek2 : w2.cell? ⟨g', k, none⟩ = some (.int .i64 t) := bkeep hek H2.out
        clear b2
        refine hJ.out _ _ X2.out (fun _ => ?_)
        clear hJ J
        go_simp
        refine wpAnyH_ready (rs := [4]) (by kernel_rfl) (by simp) (AllReadyH.cons rfl (fun J hJ => ?_) AllReadyH.nil)
        go_simp
        refine hJ.out _ _ X2.out (fun _ => ?_)
        clear hJ J hek2
        go_simp
        refine wpAnyH_ready (rs := [10]) (by kernel_rfl) (by simp) (AllReadyH.cons rfl (fun J hJ => ?_) AllReadyH.nil)
        go_simp
        refine (HA _).mono ?_
        rintro e w3 ⟨rfl, b3⟩
        have H3 := Lib.hid (bel_trans H2.out b3)
        have X3 : Hid (Box w.heap.size c w3) := (H3.out.block _ zr).trans HX.out
        clear b3
        refine hJ.out _ _ X3.out (fun _ => ?_)
        clear hJ J
        go_simp
        refine wpAnyH_ready (rs := [11]) (by kernel_rfl) (by simp) (AllReadyH.cons rfl (fun J hJ => ?_) AllReadyH.nil)
        go_simp
        have z3 : wr.heap.size ≤ w3.heap.size := H3.out.size
        have HL := Lib.hid (Hst.out.keep z1r H3.out)
        have X4 : Hid (Box w.heap.size c (w3.alloc (.cells #[.int .i64 t1] 3))) := ((bel_alloc w3 _).block _ (by omega)).trans X3.out
        refine hJ.out _ _ X4.out (fun _ => ?_)
        clear hJ J
        go_simp
        refine wpAnyH_ready (rs := [12]) (by kernel_rfl) (by simp) (AllReadyH.cons rfl (fun J hJ => ?_) AllReadyH.nil)
        refine step_append_lies _ (by rfl) _ _ _ (by rfl) w1.heap.size 3 i0 _ 1 8 Try.underlying26 Hi0.out Hz0.out Hz1.out Hz2.out rfl (by omega) (.slice (some ⟨g', 0, none⟩) (k + 1) cap') (k + 1) ((redL c ds k).map (Value.int .i64)) (by rfl) ?c0h ⟨w3.heap.size, 0, none⟩ 1 1 [.int .i64 t1] (by rfl) (by rfl) (new_one_at (w := w3) rfl _ _) (by simp [Value.oneCell']) (by omega) (by unfold maxLen; omega) (by omega) (by simp; omega) (w3.heap.size + 1) (by simp) ?_
        case c0h => have := HL.out.own.alloc (.cells #[.int .i64 t1] 3); rwa [redL_len] at this
        intro gg cap9 w5 hown hgr hlie _
        have hst1 := HL.out.step rfl (by rw [redL_len]; exact hown) hgr
        have HQ : Hid (ListSt w1.heap.size w1 w5 (.slice (some ⟨gg, 0, none⟩) (k + 1 + 1) cap9) (redL c ds (k + 1))) := by
          show ListSt _ _ _ _ _
          rw [redL_succ, hT1.out]; exact hst1
        have X5 : Hid (Box w.heap.size c w5) := (HQ.out.old.block _ z1).trans K.out
        clear hst1 hown hgr hlie
        refine hJ.out _ _ X5.out (fun _ => ?_)
        clear hJ J
        go_simp
        refine wpAnyH_ready (rs := [13]) (by kernel_rfl) (by simp) (AllReadyH.cons rfl (fun J hJ => ?_) AllReadyH.nil)
        go_simp
        refine hJ.out _ _ X5.out (fun _ => ?_)
        clear hJ J
        refine wpAnyH_done (by kernel_rfl) ?_ _
        clear x0 x1 x2 x3 x4 x5 x6 x7 x8 x9 x10 x11 x12 x13 hck hek hw1
        go_wp2
        go_roundw
        case rel => exact ⟨_, k + 1, rfl, by omega, by go_num, HQ.out⟩
        case measure => simp [intOf]; omega
    · obtain rfl : k = n := by omega
      obtain ⟨A', cap', rfl⟩ := owns_form Hst.out.own
      go_wp2
      go_ret
      refine ⟨A', cap', by rw [Hr.out, Hn.out]; rfl, ?_, HB.out⟩
      rw [Hr.out, Hn.out]
      exact (iv_owns Hst.out.own).wide (by omega) (Nat.le_refl _)
end Go.Proofs.Ytjfmkcppampokaa.Wt
