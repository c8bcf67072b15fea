/- The program's ParseConfig. -/
import Derived.Test.YtahfmgjchjjlmaaGreatDoorRc2
import Derived.Test.YtahfmgjchjjlmaaGreatDoorAs1
namespace Go.Proofs.YtahfmgjchjjlmaaGreatDoor.Fm
open Go.RowKit Go.Deep Base Cf Ct Num Parts

/-- What the walk of ParseConfig wants of the package-level variables. -/
structure Vs (w : World) : Prop where
  long : Evp w "loop.example/g00722/impl.errConfigLong"
  inv : Evp w "loop.example/g00722/impl.errConfigInvalid"
  tab : Tab w
  errs : Errs w
  et : As.Et w

theorem Vs.below {w w' : World} (h : Vs w) (hb : Below w.heap.size w w') : Vs w' :=
  ⟨h.long.below gLong hb, h.inv.below gInv hb, h.tab.below hb, h.errs.below hb, h.et.below hb⟩

theorem readConfig_any (s : ByteArray) (w : World) (hs : s.size ≤ 1048576) (hv : Vs w) : Calls Tryz.prog 19 #[.string s] w (RcEnd s.data.toList w) := by
  by_cases h : 1000 < s.size
  · refine (readConfig_long s w hs h hv.long).mono ?_
    rintro e w' ⟨p, rfl, hb⟩
    refine ⟨hb, .inl ⟨p, .inl ⟨?_, rfl, rfl⟩, rfl⟩⟩
    rw [Array.length_toList]
    exact h
  · exact readConfig_lines s w (by omega) hv.inv hv.tab hv.errs

def PcEnd (l : List UInt8) (w : World) (e : Ending) (w' : World) : Prop := ∃ v code, e = .returned (.tuple #[.agg #[.int .i64 (v 0), .int .i64 (v 1), .int .i64 (v 2), .int .i64 (v 3), .int .i64 (v 4), .int .i64 (v 5), .int .i64 (v 6), .int .i64 (v 7), .int .i64 (v 8), .int .i64 (v 9), .int .i64 (v 10), .int .i64 (v 11), .int .i64 (v 12), .int .i64 (v 13)], .int .i64 code]) ∧ Ans dflt l v code ∧ Below w.heap.size w w'

set_option maxRecDepth 100000 in
set_option maxHeartbeats 4000000 in
theorem implParse_any (s : ByteArray) (w : World) (hs : s.size ≤ 1048576) (hv : Vs w) : Calls Tryz.prog 8 #[.string s] w (PcEnd s.data.toList w) := by
  have HV := Lib.hid hv
  clear hv
  go_enter Tryz.func8, Tryz.ntmps8
  go_wp2_with fail
  have hK := heap_alloc_new w (.cells #[.int .i64 (zero14 0), .int .i64 (zero14 1), .int .i64 (zero14 2), .int .i64 (zero14 3), .int .i64 (zero14 4), .int .i64 (zero14 5), .int .i64 (zero14 6), .int .i64 (zero14 7), .int .i64 (zero14 8), .int .i64 (zero14 9), .int .i64 (zero14 10), .int .i64 (zero14 11), .int .i64 (zero14 12), .int .i64 (zero14 13)] 25)
  have hB := bel_alloc w (.cells #[.int .i64 (zero14 0), .int .i64 (zero14 1), .int .i64 (zero14 2), .int .i64 (zero14 3), .int .i64 (zero14 4), .int .i64 (zero14 5), .int .i64 (zero14 6), .int .i64 (zero14 7), .int .i64 (zero14 8), .int .i64 (zero14 9), .int .i64 (zero14 10), .int .i64 (zero14 11), .int .i64 (zero14 12), .int .i64 (zero14 13)] 25)
  refine (readConfig_any s _ hs (HV.out.below hB)).mono ?_
  rintro e w1 ⟨b1, hend⟩
  have z1 : w.heap.size < w1.heap.size := Nat.lt_of_lt_of_le (by simp) b1.size
  have K := Lib.hid ((b1.block w.heap.size (by simp)).trans hK)
  have B := Lib.hid (bel_trans hB b1)
  clear b1 hK hB
  obtain ⟨rb, hrb⟩ : ∃ rb, w.heap.size = rb := ⟨_, rfl⟩
  have HR := Lib.hid hrb
  rw [hrb] at K z1 ⊢
  clear hrb
  rcases hend with ⟨p, hans, rfl⟩ | ⟨k, hk, hans, rfl⟩ | ⟨c, hans, rfl⟩
  · have HA := Lib.hid hans
    clear hans
    go_wp2_with fail
    obtain ⟨W, hW⟩ : ∃ W, (w1.alloc (.cells #[.int .i64 (zero14 0), .int .i64 (zero14 1), .int .i64 (zero14 2), .int .i64 (zero14 3), .int .i64 (zero14 4), .int .i64 (zero14 5), .int .i64 (zero14 6), .int .i64 (zero14 7), .int .i64 (zero14 8), .int .i64 (zero14 9), .int .i64 (zero14 10), .int .i64 (zero14 11), .int .i64 (zero14 12), .int .i64 (zero14 13)] 25)).alloc (.cells #[.int .i64 0] 49) = W := ⟨_, rfl⟩
    obtain ⟨fb, hfb⟩ : ∃ fb, w1.heap.size + 1 = fb := ⟨_, rfl⟩
    have B2 : Hid (Below w.heap.size w W) := by rw [← hW]; exact bel_trans (bel_trans B.out (bel_alloc _ _)) (bel_alloc _ _)
    have K2 : Hid (W.heap[rb]? = some (.cells #[.int .i64 (zero14 0), .int .i64 (zero14 1), .int .i64 (zero14 2), .int .i64 (zero14 3), .int .i64 (zero14 4), .int .i64 (zero14 5), .int .i64 (zero14 6), .int .i64 (zero14 7), .int .i64 (zero14 8), .int .i64 (zero14 9), .int .i64 (zero14 10), .int .i64 (zero14 11), .int .i64 (zero14 12), .int .i64 (zero14 13)] 25 (0, 0))) := by
      rw [← hW]
      exact ((bel_alloc _ _).block rb (by simp; omega)).trans (((bel_alloc w1 _).block rb z1).trans K.out)
    have F2 : W.heap[fb]? = some (.cells #[.int .i64 0] 49 (0, 0)) := by
      rw [← hW, ← hfb]
      have h := heap_alloc_new (w1.alloc (.cells #[.int .i64 (zero14 0), .int .i64 (zero14 1), .int .i64 (zero14 2), .int .i64 (zero14 3), .int .i64 (zero14 4), .int .i64 (zero14 5), .int .i64 (zero14 6), .int .i64 (zero14 7), .int .i64 (zero14 8), .int .i64 (zero14 9), .int .i64 (zero14 10), .int .i64 (zero14 11), .int .i64 (zero14 12), .int .i64 (zero14 13)] 25)) (.cells #[.int .i64 0] 49)
      rw [World.size_alloc] at h
      exact h
    have hrf : rb < fb := by omega
    rw [hW, hfb]
    clear hW hfb K B z1
    clear F2
    refine (As.as_miss p fb W (HV.out.below B2.out).et).mono ?_
    rintro e w9 ⟨rfl, b9⟩
    have K9 := Lib.hid ((b9.block rb (Cv.row_lt K2.out)).trans K2.out)
    have B9 := Lib.hid (bel_trans B2.out b9)
    clear b9 K2 B2
    have y0 : w9.cell? ⟨rb, 0, none⟩ = some (.int .i64 (zero14 0)) := cell_of_row _ _ 0 _ _ (0, 0) K9.out
    have y1 : w9.cell? ⟨rb, 1, none⟩ = some (.int .i64 (zero14 1)) := cell_of_row _ _ 1 _ _ (0, 0) K9.out
    have y2 : w9.cell? ⟨rb, 2, none⟩ = some (.int .i64 (zero14 2)) := cell_of_row _ _ 2 _ _ (0, 0) K9.out
    have y3 : w9.cell? ⟨rb, 3, none⟩ = some (.int .i64 (zero14 3)) := cell_of_row _ _ 3 _ _ (0, 0) K9.out
    have y4 : w9.cell? ⟨rb, 4, none⟩ = some (.int .i64 (zero14 4)) := cell_of_row _ _ 4 _ _ (0, 0) K9.out
    have y5 : w9.cell? ⟨rb, 5, none⟩ = some (.int .i64 (zero14 5)) := cell_of_row _ _ 5 _ _ (0, 0) K9.out
    have y6 : w9.cell? ⟨rb, 6, none⟩ = some (.int .i64 (zero14 6)) := cell_of_row _ _ 6 _ _ (0, 0) K9.out
    have y7 : w9.cell? ⟨rb, 7, none⟩ = some (.int .i64 (zero14 7)) := cell_of_row _ _ 7 _ _ (0, 0) K9.out
    have y8 : w9.cell? ⟨rb, 8, none⟩ = some (.int .i64 (zero14 8)) := cell_of_row _ _ 8 _ _ (0, 0) K9.out
    have y9 : w9.cell? ⟨rb, 9, none⟩ = some (.int .i64 (zero14 9)) := cell_of_row _ _ 9 _ _ (0, 0) K9.out
    have y10 : w9.cell? ⟨rb, 10, none⟩ = some (.int .i64 (zero14 10)) := cell_of_row _ _ 10 _ _ (0, 0) K9.out
    have y11 : w9.cell? ⟨rb, 11, none⟩ = some (.int .i64 (zero14 11)) := cell_of_row _ _ 11 _ _ (0, 0) K9.out
    have y12 : w9.cell? ⟨rb, 12, none⟩ = some (.int .i64 (zero14 12)) := cell_of_row _ _ 12 _ _ (0, 0) K9.out
    have y13 : w9.cell? ⟨rb, 13, none⟩ = some (.int .i64 (zero14 13)) := cell_of_row _ _ 13 _ _ (0, 0) K9.out
    have yf : ∀ j, w9.frozen? ⟨rb, j, none⟩ = false := fun j => frozen_of_row _ _ j _ _ K9.out
    go_wp2
    refine bodyPost_ret (v := .tuple #[.agg #[.int .i64 (zero14 0), .int .i64 (zero14 1), .int .i64 (zero14 2), .int .i64 (zero14 3), .int .i64 (zero14 4), .int .i64 (zero14 5), .int .i64 (zero14 6), .int .i64 (zero14 7), .int .i64 (zero14 8), .int .i64 (zero14 9), .int .i64 (zero14 10), .int .i64 (zero14 11), .int .i64 (zero14 12), .int .i64 (zero14 13)], .int .i64 (-1)]) (by simp [results, Tryz.results8, go_sem, zero14, y0, y1, y2, y3, y4, y5, y6, y7, y8, y9, y10, y11, y12, y13]) rfl ⟨zero14, -1, rfl, HA.out, ?_⟩
    exact st14_below B9.out (by have := HR.out; omega) zero14 rfl
  · have HA := Lib.hid hans
    clear hans
    go_wp2_with fail
    obtain ⟨W, hW⟩ : ∃ W, (w1.alloc (.cells #[.int .i64 (zero14 0), .int .i64 (zero14 1), .int .i64 (zero14 2), .int .i64 (zero14 3), .int .i64 (zero14 4), .int .i64 (zero14 5), .int .i64 (zero14 6), .int .i64 (zero14 7), .int .i64 (zero14 8), .int .i64 (zero14 9), .int .i64 (zero14 10), .int .i64 (zero14 11), .int .i64 (zero14 12), .int .i64 (zero14 13)] 25)).alloc (.cells #[.int .i64 0] 49) = W := ⟨_, rfl⟩
    obtain ⟨fb, hfb⟩ : ∃ fb, w1.heap.size + 1 = fb := ⟨_, rfl⟩
    have B2 : Hid (Below w.heap.size w W) := by rw [← hW]; exact bel_trans (bel_trans B.out (bel_alloc _ _)) (bel_alloc _ _)
    have K2 : Hid (W.heap[rb]? = some (.cells #[.int .i64 (zero14 0), .int .i64 (zero14 1), .int .i64 (zero14 2), .int .i64 (zero14 3), .int .i64 (zero14 4), .int .i64 (zero14 5), .int .i64 (zero14 6), .int .i64 (zero14 7), .int .i64 (zero14 8), .int .i64 (zero14 9), .int .i64 (zero14 10), .int .i64 (zero14 11), .int .i64 (zero14 12), .int .i64 (zero14 13)] 25 (0, 0))) := by
      rw [← hW]
      exact ((bel_alloc _ _).block rb (by simp; omega)).trans (((bel_alloc w1 _).block rb z1).trans K.out)
    have F2 : W.heap[fb]? = some (.cells #[.int .i64 0] 49 (0, 0)) := by
      rw [← hW, ← hfb]
      have h := heap_alloc_new (w1.alloc (.cells #[.int .i64 (zero14 0), .int .i64 (zero14 1), .int .i64 (zero14 2), .int .i64 (zero14 3), .int .i64 (zero14 4), .int .i64 (zero14 5), .int .i64 (zero14 6), .int .i64 (zero14 7), .int .i64 (zero14 8), .int .i64 (zero14 9), .int .i64 (zero14 10), .int .i64 (zero14 11), .int .i64 (zero14 12), .int .i64 (zero14 13)] 25)) (.cells #[.int .i64 0] 49)
      rw [World.size_alloc] at h
      exact h
    have hrf : rb < fb := by omega
    rw [hW, hfb]
    clear hW hfb K B z1
    have c2 : W.cell? ⟨fb, 0, none⟩ = some (.int .i64 0) := cell_of_row _ _ 0 _ _ (0, 0) F2
    have f2 : W.frozen? ⟨fb, 0, none⟩ = false := frozen_of_row _ _ 0 _ _ F2
    clear F2
    refine (As.as_hit _ fb (.int .i64 0) W (HV.out.below B2.out).et c2 f2).mono ?_
    rintro e w9 ⟨rfl, hc9, hz9, ho9, ht9, hp9, hk9⟩
    have K9 := Lib.hid ((hk9 rb (Cv.row_lt K2.out) (by omega)).trans K2.out)
    have B9 : Hid (Below w.heap.size w w9) := ⟨ho9.trans B2.out.os, ht9.trans B2.out.tape, hp9.trans B2.out.output, Nat.le_trans B2.out.size hz9, fun j hj => (hk9 j (Nat.lt_of_lt_of_le hj B2.out.size) (by have := HR.out; omega)).trans (B2.out.block j hj)⟩
    have HN : Hid (fb ≠ rb) := by exact (by omega : fb ≠ rb)
    have HC9 := Lib.hid hc9
    clear ho9 ht9 hp9 hk9 hz9 hc9 c2 f2 K2 B2
    have hkb : IntKind.i64.wrap ((k : Int) + 1) = (k : Int) + 1 := IntWalk.i64_in _ (by omega)
    go_wp2_with fail
    have HS0 : Hid (w9.drew.cell? ⟨fb, 0, none⟩ = some (.int .i64 ((k : Int) + 1))) := HC9.out
    refine wp_region_held_drew (S := fun V => V.cell? ⟨fb, 0, none⟩ = some (.int .i64 ((k : Int) + 1))) (by kernel_rfl) HS0.out (fun _ => ?_)
    refine wpAnyH_take (i := 0) (v := (.agg #[.int .i64 0, .int .i64 0, .int .i64 0, .int .i64 0, .int .i64 0, .int .i64 0, .int .i64 0, .int .i64 0, .int .i64 0, .int .i64 0, .int .i64 0, .int .i64 0, .int .i64 0, .int .i64 0])) rfl (by kernel_rfl) (by kernel_rfl) (by kernel_rfl) (fun _ _ _ h => h) (.inl ⟨rfl, fun V hS => ?y0⟩) (HS0).out ?_
    case y0 => go_simp
    go_simp
    refine wpAnyH_take (i := 1) (v := (.int .i64 ((k : Int) + 1))) rfl (by kernel_rfl) (by kernel_rfl) (by kernel_rfl) (fun _ _ _ h => h) (.inl ⟨rfl, fun V hS => ?y0⟩) (HS0).out ?_
    case y0 => go_simp
    go_simp
    have K0 : Hid (w9.drew.heap[rb]? = some (.cells #[.int .i64 (zero14 0), .int .i64 (zero14 1), .int .i64 (zero14 2), .int .i64 (zero14 3), .int .i64 (zero14 4), .int .i64 (zero14 5), .int .i64 (zero14 6), .int .i64 (zero14 7), .int .i64 (zero14 8), .int .i64 (zero14 9), .int .i64 (zero14 10), .int .i64 (zero14 11), .int .i64 (zero14 12), .int .i64 (zero14 13)] 25 (0, 0))) := K9.out
    have B0 : Hid (Below w.heap.size w w9.drew) := B9.out.drew
    obtain ⟨X, hX⟩ : ∃ X, w9.drew = X := ⟨_, rfl⟩
    rw [hX] at K0 B0 HS0 ⊢
    clear hX HC9
    have y0 : X.cell? ⟨rb, 0, none⟩ = some (.int .i64 (zero14 0)) := cell_of_row _ _ 0 _ _ (0, 0) K0.out
    have y1 : X.cell? ⟨rb, 1, none⟩ = some (.int .i64 (zero14 1)) := cell_of_row _ _ 1 _ _ (0, 0) K0.out
    have y2 : X.cell? ⟨rb, 2, none⟩ = some (.int .i64 (zero14 2)) := cell_of_row _ _ 2 _ _ (0, 0) K0.out
    have y3 : X.cell? ⟨rb, 3, none⟩ = some (.int .i64 (zero14 3)) := cell_of_row _ _ 3 _ _ (0, 0) K0.out
    have y4 : X.cell? ⟨rb, 4, none⟩ = some (.int .i64 (zero14 4)) := cell_of_row _ _ 4 _ _ (0, 0) K0.out
    have y5 : X.cell? ⟨rb, 5, none⟩ = some (.int .i64 (zero14 5)) := cell_of_row _ _ 5 _ _ (0, 0) K0.out
    have y6 : X.cell? ⟨rb, 6, none⟩ = some (.int .i64 (zero14 6)) := cell_of_row _ _ 6 _ _ (0, 0) K0.out
    have y7 : X.cell? ⟨rb, 7, none⟩ = some (.int .i64 (zero14 7)) := cell_of_row _ _ 7 _ _ (0, 0) K0.out
    have y8 : X.cell? ⟨rb, 8, none⟩ = some (.int .i64 (zero14 8)) := cell_of_row _ _ 8 _ _ (0, 0) K0.out
    have y9 : X.cell? ⟨rb, 9, none⟩ = some (.int .i64 (zero14 9)) := cell_of_row _ _ 9 _ _ (0, 0) K0.out
    have y10 : X.cell? ⟨rb, 10, none⟩ = some (.int .i64 (zero14 10)) := cell_of_row _ _ 10 _ _ (0, 0) K0.out
    have y11 : X.cell? ⟨rb, 11, none⟩ = some (.int .i64 (zero14 11)) := cell_of_row _ _ 11 _ _ (0, 0) K0.out
    have y12 : X.cell? ⟨rb, 12, none⟩ = some (.int .i64 (zero14 12)) := cell_of_row _ _ 12 _ _ (0, 0) K0.out
    have y13 : X.cell? ⟨rb, 13, none⟩ = some (.int .i64 (zero14 13)) := cell_of_row _ _ 13 _ _ (0, 0) K0.out
    have yf : ∀ j, X.frozen? ⟨rb, j, none⟩ = false := fun j => frozen_of_row _ _ j _ _ K0.out
    refine wpAnyH_ready (rs := [2]) (by kernel_rfl) (by simp) (AllReadyH.cons rfl (fun J hJ => ?_) AllReadyH.nil)
    go_simp
    obtain ⟨V, hV⟩ : ∃ V, ((((((((((((((X.setCell ⟨rb, 0, none⟩ (.int .i64 0)).setCell ⟨rb, 1, none⟩ (.int .i64 0)).setCell ⟨rb, 2, none⟩ (.int .i64 0)).setCell ⟨rb, 3, none⟩ (.int .i64 0)).setCell ⟨rb, 4, none⟩ (.int .i64 0)).setCell ⟨rb, 5, none⟩ (.int .i64 0)).setCell ⟨rb, 6, none⟩ (.int .i64 0)).setCell ⟨rb, 7, none⟩ (.int .i64 0)).setCell ⟨rb, 8, none⟩ (.int .i64 0)).setCell ⟨rb, 9, none⟩ (.int .i64 0)).setCell ⟨rb, 10, none⟩ (.int .i64 0)).setCell ⟨rb, 11, none⟩ (.int .i64 0)).setCell ⟨rb, 12, none⟩ (.int .i64 0)).setCell ⟨rb, 13, none⟩ (.int .i64 0)) = V := ⟨_, rfl⟩
    rw [hV]
    have hV2 : ((((((((((((((X.setCell ⟨rb, 0, none⟩ (.int .i64 (zero14 0))).setCell ⟨rb, 1, none⟩ (.int .i64 (zero14 1))).setCell ⟨rb, 2, none⟩ (.int .i64 (zero14 2))).setCell ⟨rb, 3, none⟩ (.int .i64 (zero14 3))).setCell ⟨rb, 4, none⟩ (.int .i64 (zero14 4))).setCell ⟨rb, 5, none⟩ (.int .i64 (zero14 5))).setCell ⟨rb, 6, none⟩ (.int .i64 (zero14 6))).setCell ⟨rb, 7, none⟩ (.int .i64 (zero14 7))).setCell ⟨rb, 8, none⟩ (.int .i64 (zero14 8))).setCell ⟨rb, 9, none⟩ (.int .i64 (zero14 9))).setCell ⟨rb, 10, none⟩ (.int .i64 (zero14 10))).setCell ⟨rb, 11, none⟩ (.int .i64 (zero14 11))).setCell ⟨rb, 12, none⟩ (.int .i64 (zero14 12))).setCell ⟨rb, 13, none⟩ (.int .i64 (zero14 13))) = V := hV
    have h0 := st14_other (k := fb) HN.out zero14 hV2
    have HS1 : Hid (V.cell? ⟨fb, 0, none⟩ = some (.int .i64 ((k : Int) + 1))) := (World.cell?_of_block (a := ⟨fb, 0, none⟩) h0).trans HS0.out
    have B1 := Lib.hid (st14_below B0.out (by have := HR.out; omega) zero14 hV2)
    have K1 := Lib.hid (st14_row K0.out zero14 hV2)
    clear h0
    clear hV hV2 K0 B0 HS0
    refine hJ.out _ _ HS1.out (fun _ => ?_)
    clear hJ J y0 y1 y2 y3 y4 y5 y6 y7 y8 y9 y10 y11 y12 y13 yf
    go_simp
    refine wpAnyH_take (i := 3) (v := (.int .i64 ((k : Int) + 1))) rfl (by kernel_rfl) (by kernel_rfl) (by kernel_rfl) (fun _ _ _ h => h) (.inl ⟨rfl, fun V hS => ?y0⟩) (HS1).out ?_
    case y0 => go_simp
    go_simp
    refine wpAnyH_done (by kernel_rfl) ?_ _
    have y0 : V.cell? ⟨rb, 0, none⟩ = some (.int .i64 (zero14 0)) := cell_of_row _ _ 0 _ _ (0, 0) K1.out
    have y1 : V.cell? ⟨rb, 1, none⟩ = some (.int .i64 (zero14 1)) := cell_of_row _ _ 1 _ _ (0, 0) K1.out
    have y2 : V.cell? ⟨rb, 2, none⟩ = some (.int .i64 (zero14 2)) := cell_of_row _ _ 2 _ _ (0, 0) K1.out
    have y3 : V.cell? ⟨rb, 3, none⟩ = some (.int .i64 (zero14 3)) := cell_of_row _ _ 3 _ _ (0, 0) K1.out
    have y4 : V.cell? ⟨rb, 4, none⟩ = some (.int .i64 (zero14 4)) := cell_of_row _ _ 4 _ _ (0, 0) K1.out
    have y5 : V.cell? ⟨rb, 5, none⟩ = some (.int .i64 (zero14 5)) := cell_of_row _ _ 5 _ _ (0, 0) K1.out
    have y6 : V.cell? ⟨rb, 6, none⟩ = some (.int .i64 (zero14 6)) := cell_of_row _ _ 6 _ _ (0, 0) K1.out
    have y7 : V.cell? ⟨rb, 7, none⟩ = some (.int .i64 (zero14 7)) := cell_of_row _ _ 7 _ _ (0, 0) K1.out
    have y8 : V.cell? ⟨rb, 8, none⟩ = some (.int .i64 (zero14 8)) := cell_of_row _ _ 8 _ _ (0, 0) K1.out
    have y9 : V.cell? ⟨rb, 9, none⟩ = some (.int .i64 (zero14 9)) := cell_of_row _ _ 9 _ _ (0, 0) K1.out
    have y10 : V.cell? ⟨rb, 10, none⟩ = some (.int .i64 (zero14 10)) := cell_of_row _ _ 10 _ _ (0, 0) K1.out
    have y11 : V.cell? ⟨rb, 11, none⟩ = some (.int .i64 (zero14 11)) := cell_of_row _ _ 11 _ _ (0, 0) K1.out
    have y12 : V.cell? ⟨rb, 12, none⟩ = some (.int .i64 (zero14 12)) := cell_of_row _ _ 12 _ _ (0, 0) K1.out
    have y13 : V.cell? ⟨rb, 13, none⟩ = some (.int .i64 (zero14 13)) := cell_of_row _ _ 13 _ _ (0, 0) K1.out
    go_wp2
    exact bodyPost_ret (v := .tuple #[.agg #[.int .i64 (zero14 0), .int .i64 (zero14 1), .int .i64 (zero14 2), .int .i64 (zero14 3), .int .i64 (zero14 4), .int .i64 (zero14 5), .int .i64 (zero14 6), .int .i64 (zero14 7), .int .i64 (zero14 8), .int .i64 (zero14 9), .int .i64 (zero14 10), .int .i64 (zero14 11), .int .i64 (zero14 12), .int .i64 (zero14 13)], .int .i64 ((k : Int) + 1)]) (by simp [results, Tryz.results8, go_sem, y0, y1, y2, y3, y4, y5, y6, y7, y8, y9, y10, y11, y12, y13]) rfl ⟨zero14, _, rfl, HA.out, B1.out⟩
  · have HA := Lib.hid hans
    clear hans
    have y0 : w1.cell? ⟨rb, 0, none⟩ = some (.int .i64 (zero14 0)) := cell_of_row _ _ 0 _ _ (0, 0) K.out
    have y1 : w1.cell? ⟨rb, 1, none⟩ = some (.int .i64 (zero14 1)) := cell_of_row _ _ 1 _ _ (0, 0) K.out
    have y2 : w1.cell? ⟨rb, 2, none⟩ = some (.int .i64 (zero14 2)) := cell_of_row _ _ 2 _ _ (0, 0) K.out
    have y3 : w1.cell? ⟨rb, 3, none⟩ = some (.int .i64 (zero14 3)) := cell_of_row _ _ 3 _ _ (0, 0) K.out
    have y4 : w1.cell? ⟨rb, 4, none⟩ = some (.int .i64 (zero14 4)) := cell_of_row _ _ 4 _ _ (0, 0) K.out
    have y5 : w1.cell? ⟨rb, 5, none⟩ = some (.int .i64 (zero14 5)) := cell_of_row _ _ 5 _ _ (0, 0) K.out
    have y6 : w1.cell? ⟨rb, 6, none⟩ = some (.int .i64 (zero14 6)) := cell_of_row _ _ 6 _ _ (0, 0) K.out
    have y7 : w1.cell? ⟨rb, 7, none⟩ = some (.int .i64 (zero14 7)) := cell_of_row _ _ 7 _ _ (0, 0) K.out
    have y8 : w1.cell? ⟨rb, 8, none⟩ = some (.int .i64 (zero14 8)) := cell_of_row _ _ 8 _ _ (0, 0) K.out
    have y9 : w1.cell? ⟨rb, 9, none⟩ = some (.int .i64 (zero14 9)) := cell_of_row _ _ 9 _ _ (0, 0) K.out
    have y10 : w1.cell? ⟨rb, 10, none⟩ = some (.int .i64 (zero14 10)) := cell_of_row _ _ 10 _ _ (0, 0) K.out
    have y11 : w1.cell? ⟨rb, 11, none⟩ = some (.int .i64 (zero14 11)) := cell_of_row _ _ 11 _ _ (0, 0) K.out
    have y12 : w1.cell? ⟨rb, 12, none⟩ = some (.int .i64 (zero14 12)) := cell_of_row _ _ 12 _ _ (0, 0) K.out
    have y13 : w1.cell? ⟨rb, 13, none⟩ = some (.int .i64 (zero14 13)) := cell_of_row _ _ 13 _ _ (0, 0) K.out
    have yf : ∀ j, w1.frozen? ⟨rb, j, none⟩ = false := fun j => frozen_of_row _ _ j _ _ K.out
    go_wp2
    clear y0 y1 y2 y3 y4 y5 y6 y7 y8 y9 y10 y11 y12 y13 yf
    obtain ⟨U, hU⟩ : ∃ U, ((((((((((((((w1.setCell ⟨rb, 0, none⟩ (.int .i64 (c 0))).setCell ⟨rb, 1, none⟩ (.int .i64 (c 1))).setCell ⟨rb, 2, none⟩ (.int .i64 (c 2))).setCell ⟨rb, 3, none⟩ (.int .i64 (c 3))).setCell ⟨rb, 4, none⟩ (.int .i64 (c 4))).setCell ⟨rb, 5, none⟩ (.int .i64 (c 5))).setCell ⟨rb, 6, none⟩ (.int .i64 (c 6))).setCell ⟨rb, 7, none⟩ (.int .i64 (c 7))).setCell ⟨rb, 8, none⟩ (.int .i64 (c 8))).setCell ⟨rb, 9, none⟩ (.int .i64 (c 9))).setCell ⟨rb, 10, none⟩ (.int .i64 (c 10))).setCell ⟨rb, 11, none⟩ (.int .i64 (c 11))).setCell ⟨rb, 12, none⟩ (.int .i64 (c 12))).setCell ⟨rb, 13, none⟩ (.int .i64 (c 13))) = U := ⟨_, rfl⟩
    have KU := Lib.hid (st14_row K.out c hU)
    have BU := Lib.hid (st14_below B.out (by have := HR.out; omega) c hU)
    rw [hU]
    clear hU
    have K3 := Lib.hid (((bel_alloc U (.cells #[.int .i64 (c 0), .int .i64 (c 1), .int .i64 (c 2), .int .i64 (c 3), .int .i64 (c 4), .int .i64 (c 5), .int .i64 (c 6), .int .i64 (c 7), .int .i64 (c 8), .int .i64 (c 9), .int .i64 (c 10), .int .i64 (c 11), .int .i64 (c 12), .int .i64 (c 13)] 25)).block rb (Cv.row_lt KU.out)).trans KU.out)
    have B3 := Lib.hid (bel_trans BU.out (bel_alloc U (.cells #[.int .i64 (c 0), .int .i64 (c 1), .int .i64 (c 2), .int .i64 (c 3), .int .i64 (c 4), .int .i64 (c 5), .int .i64 (c 6), .int .i64 (c 7), .int .i64 (c 8), .int .i64 (c 9), .int .i64 (c 10), .int .i64 (c 11), .int .i64 (c 12), .int .i64 (c 13)] 25)))
    obtain ⟨V, hV⟩ : ∃ V, U.alloc (.cells #[.int .i64 (c 0), .int .i64 (c 1), .int .i64 (c 2), .int .i64 (c 3), .int .i64 (c 4), .int .i64 (c 5), .int .i64 (c 6), .int .i64 (c 7), .int .i64 (c 8), .int .i64 (c 9), .int .i64 (c 10), .int .i64 (c 11), .int .i64 (c 12), .int .i64 (c 13)] 25) = V := ⟨_, rfl⟩
    rw [hV] at K3 B3 ⊢
    clear hV KU BU
    have y0 : V.cell? ⟨rb, 0, none⟩ = some (.int .i64 (c 0)) := cell_of_row _ _ 0 _ _ (0, 0) K3.out
    have y1 : V.cell? ⟨rb, 1, none⟩ = some (.int .i64 (c 1)) := cell_of_row _ _ 1 _ _ (0, 0) K3.out
    have y2 : V.cell? ⟨rb, 2, none⟩ = some (.int .i64 (c 2)) := cell_of_row _ _ 2 _ _ (0, 0) K3.out
    have y3 : V.cell? ⟨rb, 3, none⟩ = some (.int .i64 (c 3)) := cell_of_row _ _ 3 _ _ (0, 0) K3.out
    have y4 : V.cell? ⟨rb, 4, none⟩ = some (.int .i64 (c 4)) := cell_of_row _ _ 4 _ _ (0, 0) K3.out
    have y5 : V.cell? ⟨rb, 5, none⟩ = some (.int .i64 (c 5)) := cell_of_row _ _ 5 _ _ (0, 0) K3.out
    have y6 : V.cell? ⟨rb, 6, none⟩ = some (.int .i64 (c 6)) := cell_of_row _ _ 6 _ _ (0, 0) K3.out
    have y7 : V.cell? ⟨rb, 7, none⟩ = some (.int .i64 (c 7)) := cell_of_row _ _ 7 _ _ (0, 0) K3.out
    have y8 : V.cell? ⟨rb, 8, none⟩ = some (.int .i64 (c 8)) := cell_of_row _ _ 8 _ _ (0, 0) K3.out
    have y9 : V.cell? ⟨rb, 9, none⟩ = some (.int .i64 (c 9)) := cell_of_row _ _ 9 _ _ (0, 0) K3.out
    have y10 : V.cell? ⟨rb, 10, none⟩ = some (.int .i64 (c 10)) := cell_of_row _ _ 10 _ _ (0, 0) K3.out
    have y11 : V.cell? ⟨rb, 11, none⟩ = some (.int .i64 (c 11)) := cell_of_row _ _ 11 _ _ (0, 0) K3.out
    have y12 : V.cell? ⟨rb, 12, none⟩ = some (.int .i64 (c 12)) := cell_of_row _ _ 12 _ _ (0, 0) K3.out
    have y13 : V.cell? ⟨rb, 13, none⟩ = some (.int .i64 (c 13)) := cell_of_row _ _ 13 _ _ (0, 0) K3.out
    exact bodyPost_ret (v := .tuple #[.agg #[.int .i64 (c 0), .int .i64 (c 1), .int .i64 (c 2), .int .i64 (c 3), .int .i64 (c 4), .int .i64 (c 5), .int .i64 (c 6), .int .i64 (c 7), .int .i64 (c 8), .int .i64 (c 9), .int .i64 (c 10), .int .i64 (c 11), .int .i64 (c 12), .int .i64 (c 13)], .int .i64 0]) (by simp [results, Tryz.results8, go_sem, y0, y1, y2, y3, y4, y5, y6, y7, y8, y9, y10, y11, y12, y13]) rfl ⟨c, 0, rfl, HA.out, B3.out⟩
end Go.Proofs.YtahfmgjchjjlmaaGreatDoor.Fm
