/- The law on heaps walked: for every code that is drawn from, it returns true. -/
import Derived.Test.YtnmhdbfemobhkaaHl1
namespace Go.Proofs.Ytnmhdbfemobhkaa.Hp
open Go.RowKit Go.Deep Base Draw

/-- A boxed heap and two integers of a row. -/
def Pr (x : Nat) (v0 v1 : Value) (b o1 b' o2 : Nat) (i j : Int) (V : World) : Prop := Blk2 V x v0 v1 ∧ V.cell? ⟨b, o1, none⟩ = some (.int .i64 i) ∧ V.cell? ⟨b', o2, none⟩ = some (.int .i64 j)
theorem Pr.below {x b o1 b' o2 : Nat} {v0 v1 : Value} {i j : Int} {V W : World} (h : Pr x v0 v1 b o1 b' o2 i j V) (hb : Below V.heap.size V W) : Pr x v0 v1 b o1 b' o2 i j W := ⟨h.1.below hb, bkeep h.2.1 hb, bkeep h.2.2 hb⟩

set_option maxRecDepth 100000 in
set_option maxHeartbeats 4000000 in
theorem lawHeaps (A : Option Addr) (n cap : Nat) (zs : List Int) (w : World) (hn : zs.length = n) (hm : n ≤ maxLen) (hb : Bytes w w.heap.size A zs) :
    Calls Try.prog 3 #[.slice A n cap] w fun e w' => e = .returned (.bool true) ∧ Below w.heap.size w w' := by
  have HB := Lib.hid hb
  have HN := Lib.hid hn
  have HM := Lib.hid hm
  clear hb hn hm
  by_cases hbig : 1048576 < n
  · have hd : decide (1048576 < n) = true := decide_eq_true hbig
    have Hc := Lib.hid (big_any A n cap w HM.out)
    rw [hd] at Hc
    clear hd
    go_enter Try.func3, Try.ntmps3
    go_wp2_with fail
    refine Hc.out.mono ?_
    rintro e w' ⟨rfl, rfl⟩
    go_wp2
    go_ret
    exact ⟨rfl, Below.refl _ _⟩
  have hd : decide (1048576 < n) = false := decide_eq_false hbig
  have Hc := Lib.hid (big_any A n cap w HM.out)
  rw [hd] at Hc
  clear hd
  have Hs : Hid (n ≤ 1048576) := by show n ≤ 1048576; omega
  clear hbig
  go_enter Try.func3, Try.ntmps3
  go_wp2_with fail
  refine Hc.out.mono ?_
  rintro e w' ⟨rfl, rfl⟩
  clear Hc
  go_wp2_with fail
  refine (drawPlay_any A n cap zs w HN.out Hs.out HB.out).mono ?_
  rintro e w1 ⟨g, c, zss, B, C, rfl, hl1, hl2, rs, b1⟩
  obtain ⟨m, hzm⟩ : ∃ m, zss.length = m := ⟨_, rfl⟩
  rw [hzm] at hl1 hl2
  rw [hzm]
  have Hzm := Lib.hid hzm
  have Hl2 := Lib.hid hl2
  have RS1 := Lib.hid rs
  have B1 := Lib.hid b1
  clear rs b1 hl2 hzm
  have Hi1 : Hid (∀ i, i < m → (zss.getD i []).length ≤ 1048576) := fun i hi => Nat.le_trans (Hl2.out i hi) (by omega)
  clear Hl2
  have HS : Hid (∀ W, RS W w1.heap.size g B C zss → w1.heap.size ≤ W.heap.size → Calls Try.prog 14 #[.slice (some ⟨g, 0, none⟩) m c] W (PlayCut W (plyA zss).1 (plyA zss).2.1 (plyA zss).2.2)) := fun W h1 h2 => (specPlay_rows g m c _ B C zss W Hzm.out (by omega) Hi1.out h1 h2).mono fun _ _ h => h.cut
  have HG : Hid (∀ W, RS W w1.heap.size g B C zss → w1.heap.size ≤ W.heap.size → Calls Try.prog 15 #[.slice (some ⟨g, 0, none⟩) m c] W (PlayCut W (plyA zss).1 (plyA zss).2.1 (plyA zss).2.2)) := fun W h1 h2 => (implPlay_rows g m c _ B C zss W Hzm.out (by omega) Hi1.out h1 h2).mono fun _ _ h => h.cut
  have V := Lib.hid (plyA_val zss)
  have hf1 := (plyA_few zss).1
  have hf2 := (plyA_few zss).2
  generalize (plyA zss).1 = ds at HS HG hf1 V
  generalize (plyA zss).2.1 = q at HS HG V
  generalize (plyA zss).2.2 = told at HS HG hf2
  obtain ⟨n', hn'⟩ : ∃ n', ds.length = n' := ⟨_, rfl⟩
  obtain ⟨k', hk'⟩ : ∃ k', told.length = k' := ⟨_, rfl⟩
  rw [hn'] at hf1
  rw [hk'] at hf2
  have Hn' := Lib.hid hn'
  have Hk' := Lib.hid hk'
  clear hn' hk' Hi1 Hzm
  go_wp2_with fail
  refine (HS.out w1 RS1.out (Nat.le_refl _)).mono ?_
  rintro e w2 ⟨A1, c1, A2, c2, _, _, l2, h2, rfl, _, _, _, _, _, _, i2, b2⟩
  rw [Hn'.out, Hk'.out]
  have I2 : Hid (Ints w2 A2 told) := fun hp => by
    obtain ⟨g0, e, _, _, r⟩ := i2 hp
    rw [e]
    exact r.ints hp
  obtain ⟨W2, hW2⟩ : ∃ W2, w2.alloc (.cells #[.slice A1 n' c1, .int .i64 q] 28) = W2 := ⟨_, rfl⟩
  have b2' : Below w1.heap.size w1 W2 := by rw [← hW2]; exact b2.alloc b2.size _
  have I2' : Hid (Ints W2 A2 told) := by rw [← hW2]; exact I2.out.below (bel_alloc _ _)
  have X2 : Hid (Blk2 W2 w2.heap.size (.slice A1 n' c1) (.int .i64 q)) := by rw [← hW2]; exact heap_alloc_new w2 _
  have B2 := Lib.hid (B1.out.trans (b2'.mono B1.out.size))
  have RS2 := Lib.hid (RS1.out.below b2' (Nat.le_refl _))
  have hz2 := b2'.size
  have hx2 : w2.heap.size < W2.heap.size := X2.out.lt
  clear i2 b2 b2' I2 HS RS1
  go_wp2_with fail
  clear hW2
  generalize w2.heap.size = x2 at X2 hx2 ⊢
  refine (HG.out W2 RS2.out hz2).mono ?_
  rintro e w3 ⟨A3, c3, A4, c4, l3, h3, _, _, rfl, _, hh3, _, _, _, d3, i4, b3⟩
  rw [Hn'.out, Hk'.out]
  have I4 : Hid (Ints w3 A4 told) := fun hp => by
    obtain ⟨g0, e, _, _, r⟩ := i4 hp
    rw [e]
    exact r.ints hp
  obtain ⟨W3, hW3⟩ : ∃ W3, w3.alloc (.cells #[.slice A3 n' c3, .int .i64 q] 28) = W3 := ⟨_, rfl⟩
  have b3' : Below W2.heap.size W2 W3 := by rw [← hW3]; exact b3.alloc b3.size _
  have I3 := Lib.hid (I2'.out.below b3')
  have I4' : Hid (Ints W3 A4 told) := by rw [← hW3]; exact I4.out.below (bel_alloc _ _)
  have X3 : Hid (Blk2 W3 w3.heap.size (.slice A3 n' c3) (.int .i64 q)) := by rw [← hW3]; exact heap_alloc_new w3 _
  have Y3 := Lib.hid (X2.out.below b3')
  have D3 : Hid (DV W3 l3 h3 A3 ds) := by rw [← hW3]; exact DV.below d3 (bel_alloc _ _) hh3
  have B3 := Lib.hid (B2.out.trans (b3'.mono B2.out.size))
  have hx3 : w3.heap.size < W3.heap.size := X3.out.lt
  have hh3' : h3 ≤ W3.heap.size := by omega
  have hy3 : x2 < W3.heap.size := Y3.out.lt
  clear i4 d3 b3 b3' HG RS2 I2' B2 hz2 X2 hx2 I4 hh3
  go_wp2_with fail
  clear hW3
  generalize w3.heap.size = x3 at X3 hx3 ⊢
  refine (same_any A4 A2 k' c4 c2 told W3 Hk'.out (by omega) I4'.out I3.out).mono ?_
  rintro e w4 ⟨rfl, b4⟩
  have D4 := Lib.hid (D3.out.below b4 hh3')
  have B4 := Lib.hid (B3.out.trans (b4.mono B3.out.size))
  have X4 := Lib.hid (X3.out.below b4)
  obtain ⟨y0, y1, _⟩ := (Y3.out.below b4).cells
  obtain ⟨t0, t1, _⟩ := X4.out.cells
  have hh4 : h3 ≤ w4.heap.size := Nat.le_trans hh3' b4.size
  clear b4 D3 B3 I3 I4' hh3' B1 X3 Y3
  by_cases h300 : 300 < m
  · have h300' : (300 : Int) < (m : Int) := by omega
    go_wp2
    go_ret
    exact ⟨rfl, B4.out⟩
  have h300' : ¬ (300 : Int) < (m : Int) := by omega
  go_wp2_with fail
  refine (implSorted_any A3 n' c3 l3 h3 ds q w4 Hn'.out (by omega) D4.out hh4).mono ?_
  rintro e w5 ⟨A5, c5, rfl, i5, b5⟩
  rw [srt_len V.out, Hn'.out]
  have I5 : Hid (Ints w5 A5 (srtL ds q)) := fun hp => by
    obtain ⟨g0, e, _, _, r⟩ := i5 hp
    rw [e]
    exact r.ints hp
  have D5 := Lib.hid (D4.out.below b5 hh4)
  have B5 := Lib.hid (B4.out.trans (b5.mono B4.out.size))
  have hh5 : h3 ≤ w5.heap.size := Nat.le_trans hh4 b5.size
  have X5 := Lib.hid (X4.out.below b5)
  clear i5 b5 D4 B4 hh4 X4 t0 t1 y0 y1
  obtain ⟨t0, t1, _⟩ := X5.out.cells
  go_wp2_with fail
  have HO := specHeapOk_any A3 n' c3 l3 h3 ds q w5 Hn'.out (by omega) D5.out hh5
  rw [okH_true V.out] at HO
  refine HO.mono ?_
  rintro e w6 ⟨rfl, b6⟩
  clear HO
  have D6 := Lib.hid (D5.out.below b6 hh5)
  have I6 := Lib.hid (I5.out.below b6)
  have B6 := Lib.hid (B5.out.trans (b6.mono B5.out.size))
  have hh6 : h3 ≤ w6.heap.size := Nat.le_trans hh5 b6.size
  have X6 := Lib.hid (X5.out.below b6)
  clear b6 D5 B5 hh5 I5 X5 t0 t1
  obtain ⟨t0, t1, _⟩ := X6.out.cells
  go_wp2_with fail
  go_loopw [9] (fun i wr => ∃ k : Nat, 1 ≤ k ∧ i = .int .i64 k ∧ Below w6.heap.size w6 wr) (fun i _ => n' - (intOf i).toNat)
  case atStart => exact ⟨1, Nat.le_refl _, rfl, Below.refl _ _⟩
  case round =>
    obtain ⟨k, hk, rfl, hr⟩ := hrel
    by_cases hlt : k < n'
    · obtain ⟨j, rfl⟩ : ∃ j, k = j + 1 := ⟨k - 1, by omega⟩
      have hlen : (srtL ds q).length = n' := (srt_len V.out).trans Hn'.out
      obtain ⟨b, off, rfl, hc⟩ := (I6.out.below hr) (by omega)
      have hc1 := hc j (by omega)
      have hc2 := hc (j + 1) (by omega)
      clear hc hlen
      have hle := srt_up (i := j) (j := j + 1) V.out (by omega) (by have := Hn'.out; omega)
      have hd1 := srt_due (i := j) V.out (by have := Hn'.out; omega)
      have hd2 := srt_due (i := j + 1) V.out (by have := Hn'.out; omega)
      generalize (srtL ds q).getD j 0 = i1 at hc1 hd1
      generalize (srtL ds q).getD (j + 1) 0 = i2 at hc2 hd2
      have HP1 : Hid (Pr x3 (.slice A3 n' c3) (.int .i64 q) b (off + j) b (off + (j + 1)) i1 i2 wr.drew) := ⟨X6.out.below hr.drew, hc1, hc2⟩
      have Hd : Hid (∀ W, Below w6.heap.size w6 W → ∀ i, Calls Try.prog 19 #[.agg #[.slice A3 n' c3, .int .i64 q], .int .i64 i] W fun e w' => e = .returned (.int .i64 (dueA ds q i)) ∧ Below W.heap.size W w') := fun W h i => implDueOf_any A3 n' c3 l3 h3 ds q i W Hn'.out (by omega) (D6.out.below h hh6) (by have := h.size; omega)
      have Hle : Hid (dueA ds q i1 ≤ dueA ds q i2) := by
        show dueA ds q i1 ≤ dueA ds q i2
        rw [hd1, hd2]; exact hle
      have Hr := Lib.hid hr
      clear hc1 hc2 hle hd1 hd2 hr t0 t1
      have hj1 : (0 : Int) ≤ (j : Int) := by omega
      have hj2 : (j : Int) < (n' : Int) := by omega
      have hj3 : (j : Int) + 1 < (n' : Int) := by omega
      have hwj : IntKind.i64.wrap (j : Int) = (j : Int) := IntWalk.i64_in _ (by omega)
      have hj4 : ((j : Int) + 1).toNat = j + 1 := by omega
      have hj5 : (0 : Int) ≤ (j : Int) + 1 := by omega
      go_wp2_with fail
      refine wp_region_held_drew (S := Pr x3 (.slice A3 n' c3) (.int .i64 q) b (off + j) b (off + (j + 1)) i1 i2) (by kernel_rfl) HP1.out (fun _ => ?_)
      refine wpAnyH_take (i := 0) (v := (.agg #[.slice A3 n' c3, .int .i64 q])) rfl (by kernel_rfl) (by kernel_rfl) (by kernel_rfl) (fun _ _ _ h => h) (.inl ⟨rfl, fun V hS => ?y0⟩) (HP1).out ?_
      case y0 =>
        obtain ⟨s0, s1, s2⟩ := hS.1.cells
        obtain ⟨_, s3, s4⟩ := hS
        go_simp
      go_simp
      refine wpAnyH_take (i := 1) (v := (.slice (some ⟨b, off, none⟩) n' c5)) rfl (by kernel_rfl) (by kernel_rfl) (by kernel_rfl) (fun _ _ _ h => h) (.inl ⟨rfl, fun V hS => ?y0⟩) (HP1).out ?_
      case y0 =>
        obtain ⟨s0, s1, s2⟩ := hS.1.cells
        obtain ⟨_, s3, s4⟩ := hS
        go_simp
      go_simp
      refine wpAnyH_take (i := 2) (v := (.int .i64 (j + 1))) rfl (by kernel_rfl) (by kernel_rfl) (by kernel_rfl) (fun _ _ _ h => h) (.inl ⟨rfl, fun V hS => ?y0⟩) (HP1).out ?_
      case y0 =>
        obtain ⟨s0, s1, s2⟩ := hS.1.cells
        obtain ⟨_, s3, s4⟩ := hS
        go_simp
      go_simp
      refine wpAnyH_take (i := 3) (v := (.int .i64 j)) rfl (by kernel_rfl) (by kernel_rfl) (by kernel_rfl) (fun _ _ _ h => h) (.inl ⟨rfl, fun V hS => ?y0⟩) (HP1).out ?_
      case y0 =>
        obtain ⟨s0, s1, s2⟩ := hS.1.cells
        obtain ⟨_, s3, s4⟩ := hS
        go_simp
      go_simp
      refine wpAnyH_take (i := 4) (v := (.pointer (some ⟨b, off + j, none⟩))) rfl (by kernel_rfl) (by kernel_rfl) (by kernel_rfl) (fun _ _ _ h => h) (.inl ⟨rfl, fun V hS => ?y0⟩) (HP1).out ?_
      case y0 =>
        obtain ⟨s0, s1, s2⟩ := hS.1.cells
        obtain ⟨_, s3, s4⟩ := hS
        go_simp
      go_simp
      refine wpAnyH_take (i := 5) (v := (.int .i64 i1)) rfl (by kernel_rfl) (by kernel_rfl) (by kernel_rfl) (fun _ _ _ h => h) (.inl ⟨rfl, fun V hS => ?y0⟩) (HP1).out ?_
      case y0 =>
        obtain ⟨s0, s1, s2⟩ := hS.1.cells
        obtain ⟨_, s3, s4⟩ := hS
        go_simp
      go_simp
      refine wpAnyH_take (i := 7) (v := (.agg #[.slice A3 n' c3, .int .i64 q])) rfl (by kernel_rfl) (by kernel_rfl) (by kernel_rfl) (fun _ _ _ h => h) (.inl ⟨rfl, fun V hS => ?y0⟩) (HP1).out ?_
      case y0 =>
        obtain ⟨s0, s1, s2⟩ := hS.1.cells
        obtain ⟨_, s3, s4⟩ := hS
        go_simp
      go_simp
      refine wpAnyH_take (i := 8) (v := (.slice (some ⟨b, off, none⟩) n' c5)) rfl (by kernel_rfl) (by kernel_rfl) (by kernel_rfl) (fun _ _ _ h => h) (.inl ⟨rfl, fun V hS => ?y0⟩) (HP1).out ?_
      case y0 =>
        obtain ⟨s0, s1, s2⟩ := hS.1.cells
        obtain ⟨_, s3, s4⟩ := hS
        go_simp
      go_simp
      refine wpAnyH_take (i := 9) (v := (.int .i64 (j + 1))) rfl (by kernel_rfl) (by kernel_rfl) (by kernel_rfl) (fun _ _ _ h => h) (.inl ⟨rfl, fun V hS => ?y0⟩) (HP1).out ?_
      case y0 =>
        obtain ⟨s0, s1, s2⟩ := hS.1.cells
        obtain ⟨_, s3, s4⟩ := hS
        go_simp
      go_simp
      refine wpAnyH_take (i := 10) (v := (.pointer (some ⟨b, off + (j + 1), none⟩))) rfl (by kernel_rfl) (by kernel_rfl) (by kernel_rfl) (fun _ _ _ h => h) (.inl ⟨rfl, fun V hS => ?y0⟩) (HP1).out ?_
      case y0 =>
        obtain ⟨s0, s1, s2⟩ := hS.1.cells
        obtain ⟨_, s3, s4⟩ := hS
        go_simp
      go_simp
      refine wpAnyH_take (i := 11) (v := (.int .i64 i2)) rfl (by kernel_rfl) (by kernel_rfl) (by kernel_rfl) (fun _ _ _ h => h) (.inl ⟨rfl, fun V hS => ?y0⟩) (HP1).out ?_
      case y0 =>
        obtain ⟨s0, s1, s2⟩ := hS.1.cells
        obtain ⟨_, s3, s4⟩ := hS
        go_simp
      go_simp
      refine wpAnyH_ready (rs := [6]) (by kernel_rfl) (by simp) (AllReadyH.cons rfl (fun J hJ => ?_) AllReadyH.nil)
      go_simp
      refine (Hd.out wr.drew Hr.out.drew i1).mono ?_
      rintro e w7 ⟨rfl, b7⟩
      have HP2 := Lib.hid (HP1.out.below b7)
      have B7 : Hid (Below w6.heap.size w6 w7) := Hr.out.drew.trans (b7.mono Hr.out.drew.size)
      clear b7
      refine hJ.out _ _ HP2.out (fun _ => ?_)
      clear hJ J
      go_simp
      refine wpAnyH_ready (rs := [12]) (by kernel_rfl) (by simp) (AllReadyH.cons rfl (fun J hJ => ?_) AllReadyH.nil)
      go_simp
      refine (Hd.out w7 B7.out i2).mono ?_
      rintro e w8 ⟨rfl, b8⟩
      have HP3 := Lib.hid (HP2.out.below b8)
      have B8 : Hid (Below w6.heap.size w6 w8) := B7.out.trans (b8.mono B7.out.size)
      clear b8
      refine hJ.out _ _ HP3.out (fun _ => ?_)
      clear hJ J
      go_simp
      have hle : ¬ dueA ds q i2 < dueA ds q i1 := by have := Hle.out; omega
      refine wpAnyH_take (i := 13) (v := (.bool false)) rfl (by kernel_rfl) (by kernel_rfl) (by kernel_rfl) (fun _ _ _ h => h) (.inl ⟨rfl, fun V hS => ?y0⟩) (HP3).out ?_
      case y0 =>
        obtain ⟨s0, s1, s2⟩ := hS.1.cells
        obtain ⟨_, s3, s4⟩ := hS
        go_simp
      go_simp
      refine wpAnyH_done (by kernel_rfl) ?_ _
      go_wp2
      go_roundw
      case rel => exact ⟨j + 1 + 1, by omega, by go_num, B8.out⟩
      case measure => simp [intOf]; omega
    have hk1 : ¬ (k : Int) < (n' : Int) := by omega
    go_wp2_with fail
    have Bw : Below w.heap.size w wr := B6.out.trans (hr.mono B6.out.size)
    refine (at_any A n cap zs wr w.heap.size HN.out Hs.out (HB.out.keep fun b o hlt => Bw.cell (by exact hlt))).mono ?_
    rintro e wx ⟨⟨now, rfl, hn0, hn1⟩, rfl⟩
    obtain ⟨wo, rfl⟩ : ∃ wo, wo = wr := ⟨_, rfl⟩
    have Xr := Lib.hid (X6.out.below hr)
    have Dr0 := Lib.hid (D6.out.below hr hh6)
    have Ir := Lib.hid (I6.out.below hr)
    have hhr : h3 ≤ wo.heap.size := Nat.le_trans hh6 hr.size
    have Br := Lib.hid Bw
    clear hr Bw X6 D6 I6 hh6 B6 t0 t1
    obtain ⟨t0, t1, _⟩ := Xr.out.cells
    go_wp2_with fail
    refine (implPop_any A3 n' c3 l3 h3 ds q now wo Hn'.out (by omega) Dr0.out hhr).mono ?_
    rintro e w7 ⟨A6, c6, A7, c7, mid, rfl, hmd1, hmd2, d6, i7, b7⟩
    have hsum := pop_sum (now := now) V.out
    have Hval := Lib.hid (popD_val (now := now) V.out)
    have Hsame : Hid (∀ i, i < (popL ds q now).length → (popL ds q now).getD i 0 = (srtL ds q).getD i 0) := fun i hi => pop_same V.out (by omega) hi
    have Hiff : Hid (∀ i, i < ds.length → (i < (popL ds q now).length ↔ dAt ds i ≤ now)) := fun i hi => pop_iff V.out (by omega) hi
    generalize popD ds q now = ds' at d6 hsum Hval ⊢
    generalize popL ds q now = due at i7 hsum Hsame Hiff ⊢
    obtain ⟨r', hr'⟩ : ∃ r', ds'.length = r' := ⟨_, rfl⟩
    obtain ⟨d', hd'⟩ : ∃ d', due.length = d' := ⟨_, rfl⟩
    rw [hr', hd', Hn'.out] at hsum
    rw [hr', hd']
    have Hr' := Lib.hid hr'
    have Hd' := Lib.hid hd'
    obtain ⟨W7, hW7⟩ : ∃ W7, w7.alloc (.cells #[.slice A6 r' c6, .int .i64 q] 28) = W7 := ⟨_, rfl⟩
    have b7' : Below wo.heap.size wo W7 := by rw [← hW7]; exact b7.alloc b7.size _
    have X7 : Hid (Blk2 W7 w7.heap.size (.slice A6 r' c6) (.int .i64 q)) := by rw [← hW7]; exact heap_alloc_new w7 _
    have D7 : Hid (DV W7 wo.heap.size mid A6 ds') := by rw [← hW7]; exact DV.below d6 (bel_alloc _ _) hmd2
    have I7 : Hid (Ints W7 A7 due) := by
      rw [← hW7]
      refine Ints.below (w := w7) (fun hp => ?_) (bel_alloc _ _)
      obtain ⟨g0, e, _, _, r⟩ := i7 hp
      rw [e]
      exact r.ints hp
    have hx7 : w7.heap.size < W7.heap.size := X7.out.lt
    have Y7 := Lib.hid (Xr.out.below b7')
    have E7 := Lib.hid (Dr0.out.below b7' hhr)
    have J7 := Lib.hid (Ir.out.below b7')
    have B7 := Lib.hid (Br.out.trans (b7'.mono Br.out.size))
    have hh7 : h3 ≤ W7.heap.size := Nat.le_trans hhr b7'.size
    have hmd : mid ≤ W7.heap.size := by omega
    clear d6 i7 b7 b7' hr' hd' Xr Dr0 Ir hhr Br t0 t1 hmd2
    obtain ⟨t0, t1, _⟩ := Y7.out.cells
    obtain ⟨y0, y1, _⟩ := X7.out.cells
    have hsum' : ((r' : Int) + (d' : Int) == (n' : Int)) = true := by simp; omega
    go_wp2_with fail
    clear hW7
    generalize w7.heap.size = x7 at X7 hx7 y0 y1 ⊢
    have HO := specHeapOk_any A6 r' c6 wo.heap.size mid ds' q W7 Hr'.out (by omega) D7.out hmd
    rw [okH_true Hval.out] at HO
    refine HO.mono ?_
    rintro e w8 ⟨rfl, b8⟩
    clear HO
    have Y8 := Lib.hid (Y7.out.below b8)
    have E8 := Lib.hid (E7.out.below b8 hh7)
    have J8 := Lib.hid (J7.out.below b8)
    have I8 := Lib.hid (I7.out.below b8)
    have B8 := Lib.hid (B7.out.trans (b8.mono B7.out.size))
    have hh8 : h3 ≤ w8.heap.size := Nat.le_trans hh7 b8.size
    clear b8 Y7 E7 J7 I7 B7 hh7 X7 D7 hx7 hmd t0 t1 y0 y1
    have hlen : (srtL ds q).length = n' := (srt_len V.out).trans Hn'.out
    have Hlen := Lib.hid hlen
    clear hlen
    have Hd : Hid (∀ W, Below w8.heap.size w8 W → ∀ i, Calls Try.prog 19 #[.agg #[.slice A3 n' c3, .int .i64 q], .int .i64 i] W fun e w' => e = .returned (.int .i64 (dueA ds q i)) ∧ Below W.heap.size W w') := fun W h i => implDueOf_any A3 n' c3 l3 h3 ds q i W Hn'.out (by omega) (E8.out.below h hh8) (by have := h.size; omega)
    go_wp2_with fail
    go_loopw [13] (fun i wr => ∃ k : Nat, k ≤ n' ∧ i = .int .i64 k ∧ Below w8.heap.size w8 wr) (fun i _ => n' - (intOf i).toNat)
    case atStart => exact ⟨0, Nat.zero_le _, rfl, Below.refl _ _⟩
    case round =>
      obtain ⟨k, hk, rfl, hr⟩ := hrel
      by_cases hlt : k < n'
      · obtain ⟨b, off, rfl, hc⟩ := (J8.out.below hr) (by have := Hlen.out; omega)
        have hc1 := hc k (by have := Hlen.out; omega)
        clear hc
        have hd1 := srt_due (i := k) V.out (by have := Hn'.out; omega)
        have hiff := Hiff.out k (by have := Hn'.out; omega)
        rw [← hd1, Hd'.out] at hiff
        have hk0 : (0 : Int) ≤ (k : Int) := by omega
        have hk1 : (k : Int) < (n' : Int) := by omega
        by_cases hkd : k < d'
        · obtain ⟨bd, offd, rfl, hcd⟩ := (I8.out.below hr) (by have := Hd'.out; omega)
          have hc2 := hcd k (by have := Hd'.out; omega)
          rw [Hsame.out k (by have := Hd'.out; omega)] at hc2
          clear hcd
          generalize (srtL ds q).getD k 0 = i1 at hc1 hc2 hd1 hiff
          have HP1 : Hid (Pr x3 (.slice A3 n' c3) (.int .i64 q) b (off + k) bd (offd + k) i1 i1 wr.drew) := ⟨Y8.out.below hr.drew, hc1, hc2⟩
          have Hle : Hid (dueA ds q i1 ≤ now) := hiff.1 hkd
          have Hr := Lib.hid hr
          clear hc1 hc2 hd1 hiff hr
          have hkd' : (k : Int) < (d' : Int) := by omega
          go_wp2_with fail
          refine wp_region_held_drew (S := Pr x3 (.slice A3 n' c3) (.int .i64 q) b (off + k) bd (offd + k) i1 i1) (by kernel_rfl) HP1.out (fun _ => ?_)
          refine wpAnyH_take (i := 0) (v := (.int .i64 k)) rfl (by kernel_rfl) (by kernel_rfl) (by kernel_rfl) (fun _ _ _ h => h) (.inl ⟨rfl, fun V hS => ?y0⟩) (HP1).out ?_
          case y0 =>
            obtain ⟨s0, s1, s2⟩ := hS.1.cells
            obtain ⟨_, s3, s4⟩ := hS
            go_simp
          go_simp
          refine wpAnyH_take (i := 1) (v := (.slice (some ⟨bd, offd, none⟩) d' c7)) rfl (by kernel_rfl) (by kernel_rfl) (by kernel_rfl) (fun _ _ _ h => h) (.inl ⟨rfl, fun V hS => ?y0⟩) (HP1).out ?_
          case y0 =>
            obtain ⟨s0, s1, s2⟩ := hS.1.cells
            obtain ⟨_, s3, s4⟩ := hS
            go_simp
          go_simp
          refine wpAnyH_take (i := 2) (v := (.int .i64 d')) rfl (by kernel_rfl) (by kernel_rfl) (by kernel_rfl) (fun _ _ _ h => h) (.inl ⟨rfl, fun V hS => ?y0⟩) (HP1).out ?_
          case y0 =>
            obtain ⟨s0, s1, s2⟩ := hS.1.cells
            obtain ⟨_, s3, s4⟩ := hS
            go_simp
          go_simp
          refine wpAnyH_take (i := 3) (v := (.bool true)) rfl (by kernel_rfl) (by kernel_rfl) (by kernel_rfl) (fun _ _ _ h => h) (.inl ⟨rfl, fun V hS => ?y0⟩) (HP1).out ?_
          case y0 =>
            obtain ⟨s0, s1, s2⟩ := hS.1.cells
            obtain ⟨_, s3, s4⟩ := hS
            go_simp
          go_simp
          refine wpAnyH_take (i := 4) (v := (.bool true)) rfl (by kernel_rfl) (by kernel_rfl) (by kernel_rfl) (fun _ _ _ h => h) (.inl ⟨rfl, fun V hS => ?y0⟩) (HP1).out ?_
          case y0 =>
            obtain ⟨s0, s1, s2⟩ := hS.1.cells
            obtain ⟨_, s3, s4⟩ := hS
            go_simp
          go_simp
          refine wpAnyH_take (i := 5) (v := (.slice (some ⟨bd, offd, none⟩) d' c7)) rfl (by kernel_rfl) (by kernel_rfl) (by kernel_rfl) (fun _ _ _ h => h) (.inl ⟨rfl, fun V hS => ?y0⟩) (HP1).out ?_
          case y0 =>
            obtain ⟨s0, s1, s2⟩ := hS.1.cells
            obtain ⟨_, s3, s4⟩ := hS
            go_simp
          go_simp
          refine wpAnyH_take (i := 6) (v := (.int .i64 k)) rfl (by kernel_rfl) (by kernel_rfl) (by kernel_rfl) (fun _ _ _ h => h) (.inl ⟨rfl, fun V hS => ?y0⟩) (HP1).out ?_
          case y0 =>
            obtain ⟨s0, s1, s2⟩ := hS.1.cells
            obtain ⟨_, s3, s4⟩ := hS
            go_simp
          go_simp
          refine wpAnyH_take (i := 7) (v := (.pointer (some ⟨bd, offd + k, none⟩))) rfl (by kernel_rfl) (by kernel_rfl) (by kernel_rfl) (fun _ _ _ h => h) (.inl ⟨rfl, fun V hS => ?y0⟩) (HP1).out ?_
          case y0 =>
            obtain ⟨s0, s1, s2⟩ := hS.1.cells
            obtain ⟨_, s3, s4⟩ := hS
            go_simp
          go_simp
          refine wpAnyH_take (i := 8) (v := (.int .i64 i1)) rfl (by kernel_rfl) (by kernel_rfl) (by kernel_rfl) (fun _ _ _ h => h) (.inl ⟨rfl, fun V hS => ?y0⟩) (HP1).out ?_
          case y0 =>
            obtain ⟨s0, s1, s2⟩ := hS.1.cells
            obtain ⟨_, s3, s4⟩ := hS
            go_simp
          go_simp
          refine wpAnyH_take (i := 9) (v := (.slice (some ⟨b, off, none⟩) n' c5)) rfl (by kernel_rfl) (by kernel_rfl) (by kernel_rfl) (fun _ _ _ h => h) (.inl ⟨rfl, fun V hS => ?y0⟩) (HP1).out ?_
          case y0 =>
            obtain ⟨s0, s1, s2⟩ := hS.1.cells
            obtain ⟨_, s3, s4⟩ := hS
            go_simp
          go_simp
          refine wpAnyH_take (i := 10) (v := (.int .i64 k)) rfl (by kernel_rfl) (by kernel_rfl) (by kernel_rfl) (fun _ _ _ h => h) (.inl ⟨rfl, fun V hS => ?y0⟩) (HP1).out ?_
          case y0 =>
            obtain ⟨s0, s1, s2⟩ := hS.1.cells
            obtain ⟨_, s3, s4⟩ := hS
            go_simp
          go_simp
          refine wpAnyH_take (i := 11) (v := (.pointer (some ⟨b, off + k, none⟩))) rfl (by kernel_rfl) (by kernel_rfl) (by kernel_rfl) (fun _ _ _ h => h) (.inl ⟨rfl, fun V hS => ?y0⟩) (HP1).out ?_
          case y0 =>
            obtain ⟨s0, s1, s2⟩ := hS.1.cells
            obtain ⟨_, s3, s4⟩ := hS
            go_simp
          go_simp
          refine wpAnyH_take (i := 12) (v := (.int .i64 i1)) rfl (by kernel_rfl) (by kernel_rfl) (by kernel_rfl) (fun _ _ _ h => h) (.inl ⟨rfl, fun V hS => ?y0⟩) (HP1).out ?_
          case y0 =>
            obtain ⟨s0, s1, s2⟩ := hS.1.cells
            obtain ⟨_, s3, s4⟩ := hS
            go_simp
          go_simp
          refine wpAnyH_take (i := 13) (v := (.bool false)) rfl (by kernel_rfl) (by kernel_rfl) (by kernel_rfl) (fun _ _ _ h => h) (.inl ⟨rfl, fun V hS => ?y0⟩) (HP1).out ?_
          case y0 =>
            obtain ⟨s0, s1, s2⟩ := hS.1.cells
            obtain ⟨_, s3, s4⟩ := hS
            go_simp
          go_simp
          refine wpAnyH_take (i := 14) (v := (.bool false)) rfl (by kernel_rfl) (by kernel_rfl) (by kernel_rfl) (fun _ _ _ h => h) (.inl ⟨rfl, fun V hS => ?y0⟩) (HP1).out ?_
          case y0 =>
            obtain ⟨s0, s1, s2⟩ := hS.1.cells
            obtain ⟨_, s3, s4⟩ := hS
            go_simp
          go_simp
          refine wpAnyH_take (i := 15) (v := (.bool false)) rfl (by kernel_rfl) (by kernel_rfl) (by kernel_rfl) (fun _ _ _ h => h) (.inl ⟨rfl, fun V hS => ?y0⟩) (HP1).out ?_
          case y0 =>
            obtain ⟨s0, s1, s2⟩ := hS.1.cells
            obtain ⟨_, s3, s4⟩ := hS
            go_simp
          go_simp
          refine wpAnyH_take (i := 16) (v := (.int .i64 k)) rfl (by kernel_rfl) (by kernel_rfl) (by kernel_rfl) (fun _ _ _ h => h) (.inl ⟨rfl, fun V hS => ?y0⟩) (HP1).out ?_
          case y0 =>
            obtain ⟨s0, s1, s2⟩ := hS.1.cells
            obtain ⟨_, s3, s4⟩ := hS
            go_simp
          go_simp
          refine wpAnyH_take (i := 17) (v := (.slice (some ⟨bd, offd, none⟩) d' c7)) rfl (by kernel_rfl) (by kernel_rfl) (by kernel_rfl) (fun _ _ _ h => h) (.inl ⟨rfl, fun V hS => ?y0⟩) (HP1).out ?_
          case y0 =>
            obtain ⟨s0, s1, s2⟩ := hS.1.cells
            obtain ⟨_, s3, s4⟩ := hS
            go_simp
          go_simp
          refine wpAnyH_take (i := 18) (v := (.int .i64 d')) rfl (by kernel_rfl) (by kernel_rfl) (by kernel_rfl) (fun _ _ _ h => h) (.inl ⟨rfl, fun V hS => ?y0⟩) (HP1).out ?_
          case y0 =>
            obtain ⟨s0, s1, s2⟩ := hS.1.cells
            obtain ⟨_, s3, s4⟩ := hS
            go_simp
          go_simp
          refine wpAnyH_take (i := 19) (v := (.bool true)) rfl (by kernel_rfl) (by kernel_rfl) (by kernel_rfl) (fun _ _ _ h => h) (.inl ⟨rfl, fun V hS => ?y0⟩) (HP1).out ?_
          case y0 =>
            obtain ⟨s0, s1, s2⟩ := hS.1.cells
            obtain ⟨_, s3, s4⟩ := hS
            go_simp
          go_simp
          refine wpAnyH_take (i := 20) (v := (.agg #[.slice A3 n' c3, .int .i64 q])) rfl (by kernel_rfl) (by kernel_rfl) (by kernel_rfl) (fun _ _ _ h => h) (.inl ⟨rfl, fun V hS => ?y0⟩) (HP1).out ?_
          case y0 =>
            obtain ⟨s0, s1, s2⟩ := hS.1.cells
            obtain ⟨_, s3, s4⟩ := hS
            go_simp
          go_simp
          refine wpAnyH_take (i := 21) (v := (.slice (some ⟨b, off, none⟩) n' c5)) rfl (by kernel_rfl) (by kernel_rfl) (by kernel_rfl) (fun _ _ _ h => h) (.inl ⟨rfl, fun V hS => ?y0⟩) (HP1).out ?_
          case y0 =>
            obtain ⟨s0, s1, s2⟩ := hS.1.cells
            obtain ⟨_, s3, s4⟩ := hS
            go_simp
          go_simp
          refine wpAnyH_take (i := 22) (v := (.int .i64 k)) rfl (by kernel_rfl) (by kernel_rfl) (by kernel_rfl) (fun _ _ _ h => h) (.inl ⟨rfl, fun V hS => ?y0⟩) (HP1).out ?_
          case y0 =>
            obtain ⟨s0, s1, s2⟩ := hS.1.cells
            obtain ⟨_, s3, s4⟩ := hS
            go_simp
          go_simp
          refine wpAnyH_take (i := 23) (v := (.pointer (some ⟨b, off + k, none⟩))) rfl (by kernel_rfl) (by kernel_rfl) (by kernel_rfl) (fun _ _ _ h => h) (.inl ⟨rfl, fun V hS => ?y0⟩) (HP1).out ?_
          case y0 =>
            obtain ⟨s0, s1, s2⟩ := hS.1.cells
            obtain ⟨_, s3, s4⟩ := hS
            go_simp
          go_simp
          refine wpAnyH_take (i := 24) (v := (.int .i64 i1)) rfl (by kernel_rfl) (by kernel_rfl) (by kernel_rfl) (fun _ _ _ h => h) (.inl ⟨rfl, fun V hS => ?y0⟩) (HP1).out ?_
          case y0 =>
            obtain ⟨s0, s1, s2⟩ := hS.1.cells
            obtain ⟨_, s3, s4⟩ := hS
            go_simp
          go_simp
          refine wpAnyH_take (i := 26) (v := (.int .i64 now)) rfl (by kernel_rfl) (by kernel_rfl) (by kernel_rfl) (fun _ _ _ h => h) (.inl ⟨rfl, fun V hS => ?y0⟩) (HP1).out ?_
          case y0 =>
            obtain ⟨s0, s1, s2⟩ := hS.1.cells
            obtain ⟨_, s3, s4⟩ := hS
            go_simp
          go_simp
          refine wpAnyH_ready (rs := [25]) (by kernel_rfl) (by simp) (AllReadyH.cons rfl (fun J hJ => ?_) AllReadyH.nil)
          go_simp
          refine (Hd.out wr.drew Hr.out.drew i1).mono ?_
          rintro e w9 ⟨rfl, b9⟩
          have HP2 := Lib.hid (HP1.out.below b9)
          have B9 : Hid (Below w8.heap.size w8 w9) := Hr.out.drew.trans (b9.mono Hr.out.drew.size)
          clear b9
          refine hJ.out _ _ HP2.out (fun _ => ?_)
          clear hJ J
          go_simp
          have hle := Hle.out
          refine wpAnyH_take (i := 27) (v := (.bool true)) rfl (by kernel_rfl) (by kernel_rfl) (by kernel_rfl) (fun _ _ _ h => h) (.inl ⟨rfl, fun V hS => ?y0⟩) (HP2).out ?_
          case y0 =>
            obtain ⟨s0, s1, s2⟩ := hS.1.cells
            obtain ⟨_, s3, s4⟩ := hS
            go_simp
          go_simp
          refine wpAnyH_take (i := 28) (v := (.bool false)) rfl (by kernel_rfl) (by kernel_rfl) (by kernel_rfl) (fun _ _ _ h => h) (.inl ⟨rfl, fun V hS => ?y0⟩) (HP2).out ?_
          case y0 =>
            obtain ⟨s0, s1, s2⟩ := hS.1.cells
            obtain ⟨_, s3, s4⟩ := hS
            go_simp
          go_simp
          refine wpAnyH_take (i := 29) (v := (.bool false)) rfl (by kernel_rfl) (by kernel_rfl) (by kernel_rfl) (fun _ _ _ h => h) (.inl ⟨rfl, fun V hS => ?y0⟩) (HP2).out ?_
          case y0 =>
            obtain ⟨s0, s1, s2⟩ := hS.1.cells
            obtain ⟨_, s3, s4⟩ := hS
            go_simp
          go_simp
          refine wpAnyH_done (by kernel_rfl) ?_ _
          go_wp2
          go_roundw
          case rel => exact ⟨k + 1, by omega, by go_num, B9.out⟩
          case measure => simp [intOf]; omega
        · generalize (srtL ds q).getD k 0 = i1 at hc1 hd1 hiff
          have HP1 : Hid (Pr x3 (.slice A3 n' c3) (.int .i64 q) b (off + k) b (off + k) i1 i1 wr.drew) := ⟨Y8.out.below hr.drew, hc1, hc1⟩
          have Hle : Hid (¬ dueA ds q i1 ≤ now) := fun h => hkd (hiff.2 h)
          have Hr := Lib.hid hr
          clear hc1 hd1 hiff hr
          have hkd' : ¬ (k : Int) < (d' : Int) := by omega
          go_wp2_with fail
          refine wp_region_held_drew (S := Pr x3 (.slice A3 n' c3) (.int .i64 q) b (off + k) b (off + k) i1 i1) (by kernel_rfl) HP1.out (fun _ => ?_)
          refine wpAnyH_take (i := 0) (v := (.int .i64 k)) rfl (by kernel_rfl) (by kernel_rfl) (by kernel_rfl) (fun _ _ _ h => h) (.inl ⟨rfl, fun V hS => ?y0⟩) (HP1).out ?_
          case y0 =>
            obtain ⟨s0, s1, s2⟩ := hS.1.cells
            obtain ⟨_, s3, s4⟩ := hS
            go_simp
          go_simp
          refine wpAnyH_take (i := 1) (v := (.slice A7 d' c7)) rfl (by kernel_rfl) (by kernel_rfl) (by kernel_rfl) (fun _ _ _ h => h) (.inl ⟨rfl, fun V hS => ?y0⟩) (HP1).out ?_
          case y0 =>
            obtain ⟨s0, s1, s2⟩ := hS.1.cells
            obtain ⟨_, s3, s4⟩ := hS
            go_simp
          go_simp
          refine wpAnyH_take (i := 2) (v := (.int .i64 d')) rfl (by kernel_rfl) (by kernel_rfl) (by kernel_rfl) (fun _ _ _ h => h) (.inl ⟨rfl, fun V hS => ?y0⟩) (HP1).out ?_
          case y0 =>
            obtain ⟨s0, s1, s2⟩ := hS.1.cells
            obtain ⟨_, s3, s4⟩ := hS
            go_simp
          go_simp
          refine wpAnyH_take (i := 3) (v := (.bool false)) rfl (by kernel_rfl) (by kernel_rfl) (by kernel_rfl) (fun _ _ _ h => h) (.inl ⟨rfl, fun V hS => ?y0⟩) (HP1).out ?_
          case y0 =>
            obtain ⟨s0, s1, s2⟩ := hS.1.cells
            obtain ⟨_, s3, s4⟩ := hS
            go_simp
          go_simp
          refine wpAnyH_take (i := 4) (v := (.bool false)) rfl (by kernel_rfl) (by kernel_rfl) (by kernel_rfl) (fun _ _ _ h => h) (.inl ⟨rfl, fun V hS => ?y0⟩) (HP1).out ?_
          case y0 =>
            obtain ⟨s0, s1, s2⟩ := hS.1.cells
            obtain ⟨_, s3, s4⟩ := hS
            go_simp
          go_simp
          refine wpAnyH_take (i := 5) (v := undef) rfl (by kernel_rfl) (by kernel_rfl) (by kernel_rfl) (fun _ _ _ h => h) (.inr ⟨rfl, rfl⟩) (HP1).out ?_
          go_simp
          refine wpAnyH_take (i := 6) (v := undef) rfl (by kernel_rfl) (by kernel_rfl) (by kernel_rfl) (fun _ _ _ h => h) (.inr ⟨rfl, rfl⟩) (HP1).out ?_
          go_simp
          refine wpAnyH_take (i := 7) (v := undef) rfl (by kernel_rfl) (by kernel_rfl) (by kernel_rfl) (fun _ _ _ h => h) (.inr ⟨rfl, rfl⟩) (HP1).out ?_
          go_simp
          refine wpAnyH_take (i := 8) (v := undef) rfl (by kernel_rfl) (by kernel_rfl) (by kernel_rfl) (fun _ _ _ h => h) (.inr ⟨rfl, rfl⟩) (HP1).out ?_
          go_simp
          refine wpAnyH_take (i := 9) (v := undef) rfl (by kernel_rfl) (by kernel_rfl) (by kernel_rfl) (fun _ _ _ h => h) (.inr ⟨rfl, rfl⟩) (HP1).out ?_
          go_simp
          refine wpAnyH_take (i := 10) (v := undef) rfl (by kernel_rfl) (by kernel_rfl) (by kernel_rfl) (fun _ _ _ h => h) (.inr ⟨rfl, rfl⟩) (HP1).out ?_
          go_simp
          refine wpAnyH_take (i := 11) (v := undef) rfl (by kernel_rfl) (by kernel_rfl) (by kernel_rfl) (fun _ _ _ h => h) (.inr ⟨rfl, rfl⟩) (HP1).out ?_
          go_simp
          refine wpAnyH_take (i := 12) (v := undef) rfl (by kernel_rfl) (by kernel_rfl) (by kernel_rfl) (fun _ _ _ h => h) (.inr ⟨rfl, rfl⟩) (HP1).out ?_
          go_simp
          refine wpAnyH_take (i := 13) (v := undef) rfl (by kernel_rfl) (by kernel_rfl) (by kernel_rfl) (fun _ _ _ h => h) (.inr ⟨rfl, rfl⟩) (HP1).out ?_
          go_simp
          refine wpAnyH_take (i := 14) (v := (.bool false)) rfl (by kernel_rfl) (by kernel_rfl) (by kernel_rfl) (fun _ _ _ h => h) (.inl ⟨rfl, fun V hS => ?y0⟩) (HP1).out ?_
          case y0 =>
            obtain ⟨s0, s1, s2⟩ := hS.1.cells
            obtain ⟨_, s3, s4⟩ := hS
            go_simp
          go_simp
          refine wpAnyH_take (i := 15) (v := (.bool false)) rfl (by kernel_rfl) (by kernel_rfl) (by kernel_rfl) (fun _ _ _ h => h) (.inl ⟨rfl, fun V hS => ?y0⟩) (HP1).out ?_
          case y0 =>
            obtain ⟨s0, s1, s2⟩ := hS.1.cells
            obtain ⟨_, s3, s4⟩ := hS
            go_simp
          go_simp
          refine wpAnyH_take (i := 16) (v := (.int .i64 k)) rfl (by kernel_rfl) (by kernel_rfl) (by kernel_rfl) (fun _ _ _ h => h) (.inl ⟨rfl, fun V hS => ?y0⟩) (HP1).out ?_
          case y0 =>
            obtain ⟨s0, s1, s2⟩ := hS.1.cells
            obtain ⟨_, s3, s4⟩ := hS
            go_simp
          go_simp
          refine wpAnyH_take (i := 17) (v := (.slice A7 d' c7)) rfl (by kernel_rfl) (by kernel_rfl) (by kernel_rfl) (fun _ _ _ h => h) (.inl ⟨rfl, fun V hS => ?y0⟩) (HP1).out ?_
          case y0 =>
            obtain ⟨s0, s1, s2⟩ := hS.1.cells
            obtain ⟨_, s3, s4⟩ := hS
            go_simp
          go_simp
          refine wpAnyH_take (i := 18) (v := (.int .i64 d')) rfl (by kernel_rfl) (by kernel_rfl) (by kernel_rfl) (fun _ _ _ h => h) (.inl ⟨rfl, fun V hS => ?y0⟩) (HP1).out ?_
          case y0 =>
            obtain ⟨s0, s1, s2⟩ := hS.1.cells
            obtain ⟨_, s3, s4⟩ := hS
            go_simp
          go_simp
          refine wpAnyH_take (i := 19) (v := (.bool false)) rfl (by kernel_rfl) (by kernel_rfl) (by kernel_rfl) (fun _ _ _ h => h) (.inl ⟨rfl, fun V hS => ?y0⟩) (HP1).out ?_
          case y0 =>
            obtain ⟨s0, s1, s2⟩ := hS.1.cells
            obtain ⟨_, s3, s4⟩ := hS
            go_simp
          go_simp
          refine wpAnyH_take (i := 20) (v := (.agg #[.slice A3 n' c3, .int .i64 q])) rfl (by kernel_rfl) (by kernel_rfl) (by kernel_rfl) (fun _ _ _ h => h) (.inl ⟨rfl, fun V hS => ?y0⟩) (HP1).out ?_
          case y0 =>
            obtain ⟨s0, s1, s2⟩ := hS.1.cells
            obtain ⟨_, s3, s4⟩ := hS
            go_simp
          go_simp
          refine wpAnyH_take (i := 21) (v := (.slice (some ⟨b, off, none⟩) n' c5)) rfl (by kernel_rfl) (by kernel_rfl) (by kernel_rfl) (fun _ _ _ h => h) (.inl ⟨rfl, fun V hS => ?y0⟩) (HP1).out ?_
          case y0 =>
            obtain ⟨s0, s1, s2⟩ := hS.1.cells
            obtain ⟨_, s3, s4⟩ := hS
            go_simp
          go_simp
          refine wpAnyH_take (i := 22) (v := (.int .i64 k)) rfl (by kernel_rfl) (by kernel_rfl) (by kernel_rfl) (fun _ _ _ h => h) (.inl ⟨rfl, fun V hS => ?y0⟩) (HP1).out ?_
          case y0 =>
            obtain ⟨s0, s1, s2⟩ := hS.1.cells
            obtain ⟨_, s3, s4⟩ := hS
            go_simp
          go_simp
          refine wpAnyH_take (i := 23) (v := (.pointer (some ⟨b, off + k, none⟩))) rfl (by kernel_rfl) (by kernel_rfl) (by kernel_rfl) (fun _ _ _ h => h) (.inl ⟨rfl, fun V hS => ?y0⟩) (HP1).out ?_
          case y0 =>
            obtain ⟨s0, s1, s2⟩ := hS.1.cells
            obtain ⟨_, s3, s4⟩ := hS
            go_simp
          go_simp
          refine wpAnyH_take (i := 24) (v := (.int .i64 i1)) rfl (by kernel_rfl) (by kernel_rfl) (by kernel_rfl) (fun _ _ _ h => h) (.inl ⟨rfl, fun V hS => ?y0⟩) (HP1).out ?_
          case y0 =>
            obtain ⟨s0, s1, s2⟩ := hS.1.cells
            obtain ⟨_, s3, s4⟩ := hS
            go_simp
          go_simp
          refine wpAnyH_take (i := 26) (v := (.int .i64 now)) rfl (by kernel_rfl) (by kernel_rfl) (by kernel_rfl) (fun _ _ _ h => h) (.inl ⟨rfl, fun V hS => ?y0⟩) (HP1).out ?_
          case y0 =>
            obtain ⟨s0, s1, s2⟩ := hS.1.cells
            obtain ⟨_, s3, s4⟩ := hS
            go_simp
          go_simp
          refine wpAnyH_ready (rs := [25]) (by kernel_rfl) (by simp) (AllReadyH.cons rfl (fun J hJ => ?_) AllReadyH.nil)
          go_simp
          refine (Hd.out wr.drew Hr.out.drew i1).mono ?_
          rintro e w9 ⟨rfl, b9⟩
          have HP2 := Lib.hid (HP1.out.below b9)
          have B9 : Hid (Below w8.heap.size w8 w9) := Hr.out.drew.trans (b9.mono Hr.out.drew.size)
          clear b9
          refine hJ.out _ _ HP2.out (fun _ => ?_)
          clear hJ J
          go_simp
          have hle := Hle.out
          refine wpAnyH_take (i := 27) (v := (.bool false)) rfl (by kernel_rfl) (by kernel_rfl) (by kernel_rfl) (fun _ _ _ h => h) (.inl ⟨rfl, fun V hS => ?y0⟩) (HP2).out ?_
          case y0 =>
            obtain ⟨s0, s1, s2⟩ := hS.1.cells
            obtain ⟨_, s3, s4⟩ := hS
            go_simp
          go_simp
          refine wpAnyH_take (i := 28) (v := (.bool false)) rfl (by kernel_rfl) (by kernel_rfl) (by kernel_rfl) (fun _ _ _ h => h) (.inl ⟨rfl, fun V hS => ?y0⟩) (HP2).out ?_
          case y0 =>
            obtain ⟨s0, s1, s2⟩ := hS.1.cells
            obtain ⟨_, s3, s4⟩ := hS
            go_simp
          go_simp
          refine wpAnyH_take (i := 29) (v := (.bool false)) rfl (by kernel_rfl) (by kernel_rfl) (by kernel_rfl) (fun _ _ _ h => h) (.inl ⟨rfl, fun V hS => ?y0⟩) (HP2).out ?_
          case y0 =>
            obtain ⟨s0, s1, s2⟩ := hS.1.cells
            obtain ⟨_, s3, s4⟩ := hS
            go_simp
          go_simp
          refine wpAnyH_done (by kernel_rfl) ?_ _
          go_wp2
          go_roundw
          case rel => exact ⟨k + 1, by omega, by go_num, B9.out⟩
          case measure => simp [intOf]; omega
      have hk1 : ¬ (k : Int) < (n' : Int) := by omega
      obtain ⟨wq, rfl⟩ : ∃ wq, wq = wr := ⟨_, rfl⟩
      obtain ⟨t0, t1, _⟩ := (Y8.out.below hr).cells
      have HX := Lib.hid (implNext_any A3 n' c3 l3 h3 ds q wq Hn'.out (by omega) (E8.out.below hr hh8) (Nat.le_trans hh8 hr.size))
      have Jq := Lib.hid (J8.out.below hr)
      have Bq := Lib.hid (B8.out.trans (hr.mono B8.out.size))
      clear hr
      go_wp2_with fail
      refine HX.out.mono ?_
      rintro e w9 ⟨rfl, b9⟩
      have hok : nextOk ds q = decide (0 < n') := by unfold nextOk; rw [okH_true V.out, Hn'.out, Bool.true_and]
      by_cases h0 : 0 < n'
      · rw [decide_eq_true h0] at hok
        have hni : (nextD ds q).id = (srtL ds q).getD 0 0 := by unfold nextD; rw [if_pos hok]; exact next_first V.out (by have := Hn'.out; omega)
        obtain ⟨b, off, rfl, hc⟩ := (Jq.out.below b9) (by have := Hlen.out; omega)
        have hc1 := hc 0 (by have := Hlen.out; omega)
        clear hc
        rw [Nat.add_zero] at hc1
        rw [hok, hni]
        generalize (srtL ds q).getD 0 0 = ni at hc1 hni ⊢
        generalize (nextD ds q).at = na
        generalize (nextD ds q).seq = ns
        have HE : Hid ((fun V : World => V.cell? ⟨w9.heap.size, 2, none⟩ = some (.int .i64 ni) ∧ V.cell? ⟨b, off, none⟩ = some (.int .i64 ni)) (w9.alloc (.cells #[.int .i64 na, .int .i64 ns, .int .i64 ni] 39)).drew) :=
          ⟨(cell_of_row _ _ 2 _ _ (0, 0) (heap_alloc_new w9 _)).trans rfl, bkeep hc1 (bel_alloc _ _).drew⟩
        have BE : Hid (Below w.heap.size w (w9.alloc (.cells #[.int .i64 na, .int .i64 ns, .int .i64 ni] 39)).drew) := ((Bq.out.trans (b9.mono Bq.out.size)).trans ((bel_alloc _ _).mono (Bq.out.trans (b9.mono Bq.out.size)).size)).drew
        clear hc1 hni hok b9 t0 t1
        have h0' : (0 : Int) < (n' : Int) := by omega
        go_wp2_with fail
        refine wp_region_held_drew (S := fun V : World => V.cell? ⟨w9.heap.size, 2, none⟩ = some (.int .i64 ni) ∧ V.cell? ⟨b, off, none⟩ = some (.int .i64 ni)) (by kernel_rfl) HE.out (fun _ => ?_)
        refine wpAnyH_take (i := 0) (v := (.bool true)) rfl (by kernel_rfl) (by kernel_rfl) (by kernel_rfl) (fun _ _ _ h => h) (.inl ⟨rfl, fun V hS => ?y0⟩) (HE.out) ?_
        case y0 =>
          obtain ⟨s3, s4⟩ := hS
          go_simp
        go_simp
        refine wpAnyH_take (i := 1) (v := (.slice (some ⟨b, off, none⟩) n' c5)) rfl (by kernel_rfl) (by kernel_rfl) (by kernel_rfl) (fun _ _ _ h => h) (.inl ⟨rfl, fun V hS => ?y0⟩) (HE.out) ?_
        case y0 =>
          obtain ⟨s3, s4⟩ := hS
          go_simp
        go_simp
        refine wpAnyH_take (i := 2) (v := (.int .i64 n')) rfl (by kernel_rfl) (by kernel_rfl) (by kernel_rfl) (fun _ _ _ h => h) (.inl ⟨rfl, fun V hS => ?y0⟩) (HE.out) ?_
        case y0 =>
          obtain ⟨s3, s4⟩ := hS
          go_simp
        go_simp
        refine wpAnyH_take (i := 3) (v := (.bool true)) rfl (by kernel_rfl) (by kernel_rfl) (by kernel_rfl) (fun _ _ _ h => h) (.inl ⟨rfl, fun V hS => ?y0⟩) (HE.out) ?_
        case y0 =>
          obtain ⟨s3, s4⟩ := hS
          go_simp
        go_simp
        refine wpAnyH_take (i := 4) (v := (.bool true)) rfl (by kernel_rfl) (by kernel_rfl) (by kernel_rfl) (fun _ _ _ h => h) (.inl ⟨rfl, fun V hS => ?y0⟩) (HE.out) ?_
        case y0 =>
          obtain ⟨s3, s4⟩ := hS
          go_simp
        go_simp
        refine wpAnyH_take (i := 5) (v := (.bool true)) rfl (by kernel_rfl) (by kernel_rfl) (by kernel_rfl) (fun _ _ _ h => h) (.inl ⟨rfl, fun V hS => ?y0⟩) (HE.out) ?_
        case y0 =>
          obtain ⟨s3, s4⟩ := hS
          go_simp
        go_simp
        refine wpAnyH_take (i := 6) (v := (.bool true)) rfl (by kernel_rfl) (by kernel_rfl) (by kernel_rfl) (fun _ _ _ h => h) (.inl ⟨rfl, fun V hS => ?y0⟩) (HE.out) ?_
        case y0 =>
          obtain ⟨s3, s4⟩ := hS
          go_simp
        go_simp
        refine wpAnyH_take (i := 7) (v := (.bool false)) rfl (by kernel_rfl) (by kernel_rfl) (by kernel_rfl) (fun _ _ _ h => h) (.inl ⟨rfl, fun V hS => ?y0⟩) (HE.out) ?_
        case y0 =>
          obtain ⟨s3, s4⟩ := hS
          go_simp
        go_simp
        refine wpAnyH_take (i := 8) (v := (.bool false)) rfl (by kernel_rfl) (by kernel_rfl) (by kernel_rfl) (fun _ _ _ h => h) (.inl ⟨rfl, fun V hS => ?y0⟩) (HE.out) ?_
        case y0 =>
          obtain ⟨s3, s4⟩ := hS
          go_simp
        go_simp
        refine wpAnyH_take (i := 9) (v := (.pointer (some ⟨w9.heap.size, 2, none⟩))) rfl (by kernel_rfl) (by kernel_rfl) (by kernel_rfl) (fun _ _ _ h => h) (.inl ⟨rfl, fun V hS => ?y0⟩) (HE.out) ?_
        case y0 =>
          obtain ⟨s3, s4⟩ := hS
          go_simp
        go_simp
        refine wpAnyH_take (i := 10) (v := (.int .i64 ni)) rfl (by kernel_rfl) (by kernel_rfl) (by kernel_rfl) (fun _ _ _ h => h) (.inl ⟨rfl, fun V hS => ?y0⟩) (HE.out) ?_
        case y0 =>
          obtain ⟨s3, s4⟩ := hS
          go_simp
        go_simp
        refine wpAnyH_take (i := 11) (v := (.slice (some ⟨b, off, none⟩) n' c5)) rfl (by kernel_rfl) (by kernel_rfl) (by kernel_rfl) (fun _ _ _ h => h) (.inl ⟨rfl, fun V hS => ?y0⟩) (HE.out) ?_
        case y0 =>
          obtain ⟨s3, s4⟩ := hS
          go_simp
        go_simp
        refine wpAnyH_take (i := 12) (v := (.pointer (some ⟨b, off, none⟩))) rfl (by kernel_rfl) (by kernel_rfl) (by kernel_rfl) (fun _ _ _ h => h) (.inl ⟨rfl, fun V hS => ?y0⟩) (HE.out) ?_
        case y0 =>
          obtain ⟨s3, s4⟩ := hS
          go_simp
        go_simp
        refine wpAnyH_take (i := 13) (v := (.int .i64 ni)) rfl (by kernel_rfl) (by kernel_rfl) (by kernel_rfl) (fun _ _ _ h => h) (.inl ⟨rfl, fun V hS => ?y0⟩) (HE.out) ?_
        case y0 =>
          obtain ⟨s3, s4⟩ := hS
          go_simp
        go_simp
        refine wpAnyH_take (i := 14) (v := (.bool true)) rfl (by kernel_rfl) (by kernel_rfl) (by kernel_rfl) (fun _ _ _ h => h) (.inl ⟨rfl, fun V hS => ?y0⟩) (HE.out) ?_
        case y0 =>
          obtain ⟨s3, s4⟩ := hS
          go_simp
        go_simp
        refine wpAnyH_take (i := 15) (v := (.bool true)) rfl (by kernel_rfl) (by kernel_rfl) (by kernel_rfl) (fun _ _ _ h => h) (.inl ⟨rfl, fun V hS => ?y0⟩) (HE.out) ?_
        case y0 =>
          obtain ⟨s3, s4⟩ := hS
          go_simp
        go_simp
        refine wpAnyH_take (i := 16) (v := (.bool true)) rfl (by kernel_rfl) (by kernel_rfl) (by kernel_rfl) (fun _ _ _ h => h) (.inl ⟨rfl, fun V hS => ?y0⟩) (HE.out) ?_
        case y0 =>
          obtain ⟨s3, s4⟩ := hS
          go_simp
        go_simp
        refine wpAnyH_ready (rs := [17]) (by kernel_rfl) (by simp) (AllReadyH.cons rfl (fun J hJ => ?_) AllReadyH.nil)
        go_simp
        refine hJ.out _ _ HE.out (fun _ => ?_)
        clear hJ J
        refine wpAnyH_done (by kernel_rfl) ?_ _
        go_wp2
        go_ret
        exact ⟨rfl, BE.out⟩
      · obtain rfl : n' = 0 := by omega
        have hok' : nextOk ds q = false := hok
        rw [hok']
        generalize (nextD ds q).id = ni
        generalize (nextD ds q).at = na
        generalize (nextD ds q).seq = ns
        have HE : Hid ((fun V : World => V.cell? ⟨w9.heap.size, 2, none⟩ = some (.int .i64 ni) ∧ V.cell? ⟨w9.heap.size, 1, none⟩ = some (.int .i64 ns)) (w9.alloc (.cells #[.int .i64 na, .int .i64 ns, .int .i64 ni] 39)).drew) :=
          ⟨(cell_of_row _ _ 2 _ _ (0, 0) (heap_alloc_new w9 _)).trans rfl, (cell_of_row _ _ 1 _ _ (0, 0) (heap_alloc_new w9 _)).trans rfl⟩
        have BE : Hid (Below w.heap.size w (w9.alloc (.cells #[.int .i64 na, .int .i64 ns, .int .i64 ni] 39)).drew) := ((Bq.out.trans (b9.mono Bq.out.size)).trans ((bel_alloc _ _).mono (Bq.out.trans (b9.mono Bq.out.size)).size)).drew
        clear hok hok' b9 t0 t1
        go_wp2_with fail
        refine wp_region_held_drew (S := fun V : World => V.cell? ⟨w9.heap.size, 2, none⟩ = some (.int .i64 ni) ∧ V.cell? ⟨w9.heap.size, 1, none⟩ = some (.int .i64 ns)) (by kernel_rfl) HE.out (fun _ => ?_)
        refine wpAnyH_take (i := 0) (v := (.bool false)) rfl (by kernel_rfl) (by kernel_rfl) (by kernel_rfl) (fun _ _ _ h => h) (.inl ⟨rfl, fun V hS => ?y0⟩) (HE.out) ?_
        case y0 =>
          obtain ⟨s3, s4⟩ := hS
          go_simp
        go_simp
        refine wpAnyH_take (i := 1) (v := (.slice A5 0 c5)) rfl (by kernel_rfl) (by kernel_rfl) (by kernel_rfl) (fun _ _ _ h => h) (.inl ⟨rfl, fun V hS => ?y0⟩) (HE.out) ?_
        case y0 =>
          obtain ⟨s3, s4⟩ := hS
          go_simp
        go_simp
        refine wpAnyH_take (i := 2) (v := (.int .i64 0)) rfl (by kernel_rfl) (by kernel_rfl) (by kernel_rfl) (fun _ _ _ h => h) (.inl ⟨rfl, fun V hS => ?y0⟩) (HE.out) ?_
        case y0 =>
          obtain ⟨s3, s4⟩ := hS
          go_simp
        go_simp
        refine wpAnyH_take (i := 3) (v := (.bool false)) rfl (by kernel_rfl) (by kernel_rfl) (by kernel_rfl) (fun _ _ _ h => h) (.inl ⟨rfl, fun V hS => ?y0⟩) (HE.out) ?_
        case y0 =>
          obtain ⟨s3, s4⟩ := hS
          go_simp
        go_simp
        refine wpAnyH_take (i := 4) (v := (.bool true)) rfl (by kernel_rfl) (by kernel_rfl) (by kernel_rfl) (fun _ _ _ h => h) (.inl ⟨rfl, fun V hS => ?y0⟩) (HE.out) ?_
        case y0 =>
          obtain ⟨s3, s4⟩ := hS
          go_simp
        go_simp
        refine wpAnyH_take (i := 5) (v := (.bool true)) rfl (by kernel_rfl) (by kernel_rfl) (by kernel_rfl) (fun _ _ _ h => h) (.inl ⟨rfl, fun V hS => ?y0⟩) (HE.out) ?_
        case y0 =>
          obtain ⟨s3, s4⟩ := hS
          go_simp
        go_simp
        refine wpAnyH_take (i := 6) (v := (.bool false)) rfl (by kernel_rfl) (by kernel_rfl) (by kernel_rfl) (fun _ _ _ h => h) (.inl ⟨rfl, fun V hS => ?y0⟩) (HE.out) ?_
        case y0 =>
          obtain ⟨s3, s4⟩ := hS
          go_simp
        go_simp
        refine wpAnyH_take (i := 7) (v := (.bool true)) rfl (by kernel_rfl) (by kernel_rfl) (by kernel_rfl) (fun _ _ _ h => h) (.inl ⟨rfl, fun V hS => ?y0⟩) (HE.out) ?_
        case y0 =>
          obtain ⟨s3, s4⟩ := hS
          go_simp
        go_simp
        refine wpAnyH_take (i := 8) (v := (.bool true)) rfl (by kernel_rfl) (by kernel_rfl) (by kernel_rfl) (fun _ _ _ h => h) (.inl ⟨rfl, fun V hS => ?y0⟩) (HE.out) ?_
        case y0 =>
          obtain ⟨s3, s4⟩ := hS
          go_simp
        go_simp
        refine wpAnyH_take (i := 9) (v := undef) rfl (by kernel_rfl) (by kernel_rfl) (by kernel_rfl) (fun _ _ _ h => h) (.inr ⟨rfl, rfl⟩) (HE).out ?_
        go_simp
        refine wpAnyH_take (i := 10) (v := undef) rfl (by kernel_rfl) (by kernel_rfl) (by kernel_rfl) (fun _ _ _ h => h) (.inr ⟨rfl, rfl⟩) (HE).out ?_
        go_simp
        refine wpAnyH_take (i := 11) (v := undef) rfl (by kernel_rfl) (by kernel_rfl) (by kernel_rfl) (fun _ _ _ h => h) (.inr ⟨rfl, rfl⟩) (HE).out ?_
        go_simp
        refine wpAnyH_take (i := 12) (v := undef) rfl (by kernel_rfl) (by kernel_rfl) (by kernel_rfl) (fun _ _ _ h => h) (.inr ⟨rfl, rfl⟩) (HE).out ?_
        go_simp
        refine wpAnyH_take (i := 13) (v := undef) rfl (by kernel_rfl) (by kernel_rfl) (by kernel_rfl) (fun _ _ _ h => h) (.inr ⟨rfl, rfl⟩) (HE).out ?_
        go_simp
        refine wpAnyH_take (i := 14) (v := undef) rfl (by kernel_rfl) (by kernel_rfl) (by kernel_rfl) (fun _ _ _ h => h) (.inr ⟨rfl, rfl⟩) (HE).out ?_
        go_simp
        refine wpAnyH_take (i := 15) (v := (.bool true)) rfl (by kernel_rfl) (by kernel_rfl) (by kernel_rfl) (fun _ _ _ h => h) (.inl ⟨rfl, fun V hS => ?y0⟩) (HE.out) ?_
        case y0 =>
          obtain ⟨s3, s4⟩ := hS
          go_simp
        go_simp
        refine wpAnyH_take (i := 16) (v := (.bool true)) rfl (by kernel_rfl) (by kernel_rfl) (by kernel_rfl) (fun _ _ _ h => h) (.inl ⟨rfl, fun V hS => ?y0⟩) (HE.out) ?_
        case y0 =>
          obtain ⟨s3, s4⟩ := hS
          go_simp
        go_simp
        refine wpAnyH_ready (rs := [17]) (by kernel_rfl) (by simp) (AllReadyH.cons rfl (fun J hJ => ?_) AllReadyH.nil)
        go_simp
        refine hJ.out _ _ HE.out (fun _ => ?_)
        clear hJ J
        refine wpAnyH_done (by kernel_rfl) ?_ _
        go_wp2
        go_ret
        exact ⟨rfl, BE.out⟩
end Go.Proofs.Ytnmhdbfemobhkaa.Hp
