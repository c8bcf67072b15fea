/- What the reference's RemoveAt answers. -/
import Derived.Test.YtpjelojmkmednaaLqB
import Derived.Test.YtpjelojmkmednaaLqA
namespace Go.Proofs.Ytpjelojmkmednaa.Que
open Go.RowKit Go.Deep Base Rng

theorem Rd.prevv {w : World} {b : Nat} {ss : List Sl} (h : Rd w b ss) {i : Nat} (v : Int) : Rd (w.setCell ⟨b, i * 4 + 1, none⟩ (.int .i64 v)) b (ss.set i (wPrev (sl ss i) v)) := by
  intro j hj
  rw [List.length_set] at hj
  obtain ⟨h0, h1, h2, h3, h4⟩ := h j hj
  have hs : ∀ {o : Nat} {u : Value}, w.cell? ⟨b, o, none⟩ = some u → (w.cell? ⟨b, o, none⟩).isSome = true := fun h => by rw [h]; rfl
  rw [cell_set (hs h0), cell_set (hs h1), cell_set (hs h2), cell_set (hs h3), if_neg (by omega), if_neg (show ¬ j * 4 + 2 = i * 4 + 1 by omega), if_neg (show ¬ j * 4 + 3 = i * 4 + 1 by omega)]
  by_cases e : i = j
  · subst e
    have he : (ss.set i (wPrev (sl ss i) v)).getD i zSl = wPrev (sl ss i) v := by simp [List.getD_eq_getElem?_getD, hj]
    rw [he, if_pos rfl]
    exact ⟨h0, rfl, h2, h3, fun k => by rw [World.frozen?_setCell]; exact h4 k⟩
  · have he : (ss.set i (wPrev (sl ss i) v)).getD j zSl = ss.getD j zSl := by simp [List.getD_eq_getElem?_getD, e]
    rw [he, if_neg (by omega)]
    exact ⟨h0, h1, h2, h3, fun k => by rw [World.frozen?_setCell]; exact h4 k⟩
theorem Blk5.set1 {w : World} {g : Nat} {v0 v1 v2 v3 v4 : Value} (h : Blk5 w g v0 v1 v2 v3 v4) (u : Value) : Blk5 (w.setCell ⟨g, 1, none⟩ u) g v0 u v2 v3 v4 := by
  unfold Blk5 at h ⊢
  simp [World.setCell, Array.getElem?_modify, h]
theorem Blk5.set2 {w : World} {g : Nat} {v0 v1 v2 v3 v4 : Value} (h : Blk5 w g v0 v1 v2 v3 v4) (u : Value) : Blk5 (w.setCell ⟨g, 2, none⟩ u) g v0 v1 u v3 v4 := by
  unfold Blk5 at h ⊢
  simp [World.setCell, Array.getElem?_modify, h]
theorem Blk5.set3 {w : World} {g : Nat} {v0 v1 v2 v3 v4 : Value} (h : Blk5 w g v0 v1 v2 v3 v4) (u : Value) : Blk5 (w.setCell ⟨g, 3, none⟩ u) g v0 v1 v2 u v4 := by
  unfold Blk5 at h ⊢
  simp [World.setCell, Array.getElem?_modify, h]
theorem Blk5.set4 {w : World} {g : Nat} {v0 v1 v2 v3 v4 : Value} (h : Blk5 w g v0 v1 v2 v3 v4) (u : Value) : Blk5 (w.setCell ⟨g, 4, none⟩ u) g v0 v1 v2 v3 u := by
  unfold Blk5 at h ⊢
  simp [World.setCell, Array.getElem?_modify, h]
theorem Blk5.far {w : World} {g : Nat} {v0 v1 v2 v3 v4 : Value} (h : Blk5 w g v0 v1 v2 v3 v4) {p : Addr} (hp : g ≠ p.block) (u : Value) : Blk5 (w.setCell p u) g v0 v1 v2 v3 v4 := h.of_block (Below.heap_setCell w p u g hp)

/-- What the last stores of the reference's RemoveAt leave. -/
theorem rem_end {w X : World} {g1 o k n2 p : Nat} {ss : List Sl} {v0 v1 v2 v3 v4 : Value} {id pv nx r c : Int} (hrd : Rd X g1 ss) (hbo : Blk5 X o v0 v1 v2 v3 v4) (hkb : Blk5 X k (.slice none 0 0) (.int .i64 0) (.int .i64 0) (.int .i64 0) (.int .i64 0))
    (hw : Below w.heap.size w X) (hs : X.heap.size = n2) (h1 : g1 < n2) (h4 : g1 ≠ o) (h5 : k ≠ o) (h6 : k ≠ g1) (h7 : w.heap.size ≤ g1) (h8 : w.heap.size ≤ o) (W : World)
    (hW : (((((((X.setCell ⟨g1, p * 4, none⟩ (.int .i64 0)).setCell ⟨g1, p * 4 + 1, none⟩ (.int .i64 (-1))).setCell ⟨g1, p * 4 + 2, none⟩ (.int .i64 r)).setCell ⟨g1, p * 4 + 3, none⟩ (.bool false)).setCell ⟨o, 3, none⟩ (.int .i64 (p : Int))).setCell ⟨o, 4, none⟩ (.int .i64 (c - 1))).alloc (.cells #[.int .i64 id, .int .i64 pv, .int .i64 nx, .bool true] 91)) = W) :
    Rd W g1 (ss.set p ⟨0, -1, r, false⟩) ∧ Blk5 W o v0 v1 v2 (.int .i64 (p : Int)) (.int .i64 (c - 1)) ∧ Blk5 W k (.slice none 0 0) (.int .i64 0) (.int .i64 0) (.int .i64 0) (.int .i64 0) ∧ SB W n2 (.int .i64 id) (.int .i64 pv) (.int .i64 nx) (.bool true) ∧ Below w.heap.size w W := by
  subst hW
  refine ⟨?_, ?_, ?_, ?_, ?_⟩
  · refine Rd.of_block (w := ((set4 X g1 p ⟨0, -1, r, false⟩).setCell ⟨o, 3, none⟩ (.int .i64 (p : Int))).setCell ⟨o, 4, none⟩ (.int .i64 (c - 1))) ?_ (Below.heap_alloc _ _ _ (by simp [World.setCell]; omega))
    exact ((hrd.slot4 (i := p) ⟨0, -1, r, false⟩).far (p := ⟨o, 3, none⟩) h4 _).far (p := ⟨o, 4, none⟩) h4 _
  · refine Blk5.alloc ?_ _
    refine (Blk5.set3 (v3 := v3) (v4 := v4) ?_ _).set4 _
    iterate 4 refine Blk5.far ?_ (by show o ≠ g1; exact fun e => h4 e.symm) _
    exact hbo
  · refine Blk5.alloc ?_ _
    iterate 2 refine Blk5.far ?_ (by show k ≠ o; exact h5) _
    iterate 4 refine Blk5.far ?_ (by show k ≠ g1; exact h6) _
    exact hkb
  · exact sb_new _ (by simp [World.setCell, hs])
  · refine Below.alloc ?_ (by simp [World.setCell]; exact hw.size) _
    iterate 2 refine Below.setCell ?_ (by show w.heap.size ≤ o; exact h8) _
    iterate 4 refine Below.setCell ?_ (by show w.heap.size ≤ g1; exact h7) _
    exact hw

set_option maxRecDepth 100000 in
set_option maxHeartbeats 6000000 in
theorem specRemove_any (A : Option Addr) (n cap lo hi : Nat) (ss : List Sl) (f l r c p : Int) (w : World) (hn : ss.length = n) (hm : n ≤ 1048576) (h : SlV w lo hi A ss) (hhi : hi ≤ w.heap.size) :
    Calls Try.prog 73 #[.agg #[.slice A n cap, .int .i64 f, .int .i64 l, .int .i64 r, .int .i64 c], .int .i64 p] w (RemEnd w n ss f l r c p) := by
  have Hn := Lib.hid hn
  have HS := Lib.hid h
  have Hhi := Lib.hid hhi
  clear h hn hhi
  go_enter Try.func73, Try.ntmps73
  go_wp2_with fail
  have hB0 : Below w.heap.size w ((w.alloc (.cells #[.slice A n cap, .int .i64 f, .int .i64 l, .int .i64 r, .int .i64 c] 26)).alloc (.cells #[.slice none 0 0, .int .i64 0, .int .i64 0, .int .i64 0, .int .i64 0] 26)) := ((Below.refl _ _).alloc (Nat.le_refl _) _).alloc (by simp) _
  refine (copy_any A n cap lo hi f l r c ss _ Hn.out hm (HS.out.below hB0 Hhi.out) (by have := Hhi.out; simp; omega)).mono ?_
  rintro e w1 ⟨A1, c1, rfl, v1, hb1⟩
  have K1' : Hid (Blk5 w1 w.heap.size (.slice A n cap) (.int .i64 f) (.int .i64 l) (.int .i64 r) (.int .i64 c)) := Blk5.below (Blk5.alloc (heap_alloc_new w _) _) hb1
  have K2' : Hid (Blk5 w1 (w.heap.size + 1) (.slice none 0 0) (.int .i64 0) (.int .i64 0) (.int .i64 0) (.int .i64 0)) := by
    have h := heap_alloc_new (w.alloc (.cells #[.slice A n cap, .int .i64 f, .int .i64 l, .int .i64 r, .int .i64 c] 26)) (.cells #[.slice none 0 0, .int .i64 0, .int .i64 0, .int .i64 0, .int .i64 0] 26)
    simp only [World.size_alloc] at h
    exact Blk5.below h hb1
  have B1' := Lib.hid (bel_trans hB0 hb1)
  have V1' : Hid (SlV w1 (w.heap.size + 1 + 1) w1.heap.size A1 ss) := by have h := v1; simp only [World.size_alloc] at h; exact h
  clear hb1 hB0 v1
  obtain ⟨d0, d1, d2, d3, d4, df⟩ := K1'.out.cells
  have zz : w.heap.size < w1.heap.size := K1'.out.lt
  have zy : w.heap.size + 1 < w1.heap.size := K2'.out.lt
  go_wp2_with fail
  obtain ⟨W1, hW1⟩ : ∃ W1, w1.alloc (.cells #[.slice A1 n c1, .int .i64 f, .int .i64 l, .int .i64 r, .int .i64 c] 26) = W1 := ⟨_, rfl⟩
  have K1 : Hid (Blk5 W1 w.heap.size (.slice A n cap) (.int .i64 f) (.int .i64 l) (.int .i64 r) (.int .i64 c)) := by rw [← hW1]; exact K1'.out.alloc _
  have K2 : Hid (Blk5 W1 (w.heap.size + 1) (.slice none 0 0) (.int .i64 0) (.int .i64 0) (.int .i64 0) (.int .i64 0)) := by rw [← hW1]; exact K2'.out.alloc _
  have K3 : Hid (Blk5 W1 w1.heap.size (.slice A1 n c1) (.int .i64 f) (.int .i64 l) (.int .i64 r) (.int .i64 c)) := by rw [← hW1]; exact heap_alloc_new w1 _
  have B1 : Hid (Below w.heap.size w W1) := by rw [← hW1]; exact bel_trans B1'.out (bel_alloc w1 _)
  have V1 : Hid (SlV W1 (w.heap.size + 1 + 1) w1.heap.size A1 ss) := by rw [← hW1]; exact V1'.out.below (bel_alloc w1 _) (Nat.le_refl _)
  clear K1' K2' B1' V1'
  rw [hW1]
  clear hW1 d0 d1 d2 d3 d4 df zz
  refine (specQueueOk_any A n cap lo hi f l r c ss W1 Hn.out hm (HS.out.below B1.out Hhi.out) (Nat.le_trans Hhi.out B1.out.size)).mono ?_
  rintro e w2 ⟨rfl, b2⟩
  have B2 := Lib.hid b2
  clear b2
  obtain ⟨d0, d1, d2, d3, d4, df⟩ := (K1.out.below B2.out).cells
  cases hok : okQ ss f l r c
  · have hcp : canRem ss f l r c p = false := by unfold canRem; rw [hok]; rfl
    clear hok
    have KB : Hid (Blk5 w2 (w.heap.size + 1) (.slice none 0 0) (.int .i64 0) (.int .i64 0) (.int .i64 0) (.int .i64 0)) := K2.out.below B2.out
    have KO : Hid (Blk5 w2 w1.heap.size (.slice A1 n c1) (.int .i64 f) (.int .i64 l) (.int .i64 r) (.int .i64 c)) := K3.out.below B2.out
    have BA : Hid (Below w.heap.size w w2) := bel_trans B1.out B2.out
    have VA : Hid (SlV w2 (w.heap.size + 1 + 1) w1.heap.size A1 ss) := V1.out.below B2.out (Nat.le_of_lt K3.out.lt)
    have Hno := Lib.hid hcp
    have z9 : w1.heap.size < (w2).heap.size := KO.out.lt
    have z8 : w.heap.size + 1 < (w2).heap.size := KB.out.lt
    obtain ⟨o0, o1, o2, o3, o4, of⟩ := KO.out.cells
    obtain ⟨e0, e1, e2, e3, e4, ef⟩ := KB.out.cells
    go_wp2_with fail
    refine bodyPost_ret (v := .tuple #[.agg #[.slice A1 n c1, .int .i64 f, .int .i64 l, .int .i64 r, .int .i64 c], .int .i64 0]) (by simp [results, Try.results73, go_sem, e0, e1, e2, e3, e4]) rfl (remEnd_no Hno.out ⟨A1, c1, rfl, ?_, ?_⟩)
    · refine SlV.wide (lo := w.heap.size + 1 + 1) (hi := w1.heap.size) ?_ (by omega) (by simp [World.setCell]; omega)
      iterate 5 refine SlV.setCell ?_ (by show w.heap.size + 1 < w.heap.size + 1 + 1; omega) _
      exact VA.out
    · iterate 5 refine Below.setCell ?_ (by show w.heap.size ≤ w.heap.size + 1; omega) _
      exact BA.out
  obtain ⟨us, fs, v⟩ := ok_val hok
  have Hok := Lib.hid hok
  clear hok
  have Hv := Lib.hid v
  have hnn := Hn.out
  rw [v.len] at hnn
  subst hnn
  clear v
  go_wp2_with fail
  refine (Tick.in_any p 0 59 _).mono ?_
  rintro e w' ⟨rfl, rfl⟩
  cases hin : Tick.inB p 0 59
  · have hcp : canRem ss f l r c p = false := by
      have h1 : ¬ (0 ≤ p ∧ p ≤ 59) := by intro h2; unfold Tick.inB at hin; simp [h2] at hin
      unfold canRem
      by_cases h2 : 0 ≤ p
      · rw [show decide (p < 60) = false from by simp; omega]; simp
      · rw [show decide (0 ≤ p) = false from by simp; omega]; simp
    clear hin
    have KB : Hid (Blk5 w2 (w.heap.size + 1) (.slice none 0 0) (.int .i64 0) (.int .i64 0) (.int .i64 0) (.int .i64 0)) := K2.out.below B2.out
    have KO : Hid (Blk5 w2 w1.heap.size (.slice A1 60 c1) (.int .i64 f) (.int .i64 l) (.int .i64 r) (.int .i64 c)) := K3.out.below B2.out
    have BA : Hid (Below w.heap.size w w2) := bel_trans B1.out B2.out
    have VA : Hid (SlV w2 (w.heap.size + 1 + 1) w1.heap.size A1 ss) := V1.out.below B2.out (Nat.le_of_lt K3.out.lt)
    have Hno := Lib.hid hcp
    have z9 : w1.heap.size < (w2).heap.size := KO.out.lt
    have z8 : w.heap.size + 1 < (w2).heap.size := KB.out.lt
    obtain ⟨o0, o1, o2, o3, o4, of⟩ := KO.out.cells
    obtain ⟨e0, e1, e2, e3, e4, ef⟩ := KB.out.cells
    go_wp2_with fail
    refine bodyPost_ret (v := .tuple #[.agg #[.slice A1 60 c1, .int .i64 f, .int .i64 l, .int .i64 r, .int .i64 c], .int .i64 0]) (by simp [results, Try.results73, go_sem, e0, e1, e2, e3, e4]) rfl (remEnd_no Hno.out ⟨A1, c1, rfl, ?_, ?_⟩)
    · refine SlV.wide (lo := w.heap.size + 1 + 1) (hi := w1.heap.size) ?_ (by omega) (by simp [World.setCell]; omega)
      iterate 5 refine SlV.setCell ?_ (by show w.heap.size + 1 < w.heap.size + 1 + 1; omega) _
      exact VA.out
    · iterate 5 refine Below.setCell ?_ (by show w.heap.size ≤ w.heap.size + 1; omega) _
      exact BA.out
  obtain ⟨hp0, hp1⟩ : 0 ≤ p ∧ p ≤ 59 := by unfold Tick.inB at hin; simpa using hin
  clear hin
  obtain ⟨x, rfl⟩ : ∃ x : Nat, p = (x : Int) := ⟨p.toNat, by omega⟩
  have hx : x < 60 := by omega
  have hx0 : (0 : Int) ≤ (x : Int) := by omega
  have hx1 : (x : Int) < 60 := by omega
  clear hp0 hp1
  have BA := Lib.hid (bel_trans B1.out B2.out)
  obtain ⟨g, rfl, hg1, hg2, hrd⟩ := (HS.out.below BA.out Hhi.out) (by rw [Hv.out.len]; omega)
  obtain ⟨t0, t1, t2, t3, _⟩ := hrd x (by rw [Hv.out.len]; exact hx)
  obtain ⟨id, pv, nx, us1, hsx⟩ : ∃ id pv nx us1, sl ss x = ⟨id, pv, nx, us1⟩ := ⟨_, _, _, _, rfl⟩
  have hsx' : ss.getD x zSl = ⟨id, pv, nx, us1⟩ := hsx
  rw [hsx'] at t0 t1 t2 t3
  have Hsx := Lib.hid hsx
  clear hsx hsx' hrd
  cases us1
  · have hcp : canRem ss f l r c (x : Int) = false := by unfold canRem; rw [Int.toNat_natCast, Hsx.out]; simp
    have KB : Hid (Blk5 w2 (w.heap.size + 1) (.slice none 0 0) (.int .i64 0) (.int .i64 0) (.int .i64 0) (.int .i64 0)) := K2.out.below B2.out
    have KO : Hid (Blk5 w2 w1.heap.size (.slice A1 60 c1) (.int .i64 f) (.int .i64 l) (.int .i64 r) (.int .i64 c)) := K3.out.below B2.out
    have BA : Hid (Below w.heap.size w w2) := bel_trans B1.out B2.out
    have VA : Hid (SlV w2 (w.heap.size + 1 + 1) w1.heap.size A1 ss) := V1.out.below B2.out (Nat.le_of_lt K3.out.lt)
    have Hno := Lib.hid hcp
    have z9 : w1.heap.size < (w2).heap.size := KO.out.lt
    have z8 : w.heap.size + 1 < (w2).heap.size := KB.out.lt
    obtain ⟨o0, o1, o2, o3, o4, of⟩ := KO.out.cells
    obtain ⟨e0, e1, e2, e3, e4, ef⟩ := KB.out.cells
    go_wp2_with fail
    refine bodyPost_ret (v := .tuple #[.agg #[.slice A1 60 c1, .int .i64 f, .int .i64 l, .int .i64 r, .int .i64 c], .int .i64 0]) (by simp [results, Try.results73, go_sem, e0, e1, e2, e3, e4]) rfl (remEnd_no Hno.out ⟨A1, c1, rfl, ?_, ?_⟩)
    · refine SlV.wide (lo := w.heap.size + 1 + 1) (hi := w1.heap.size) ?_ (by omega) (by simp [World.setCell]; omega)
      iterate 5 refine SlV.setCell ?_ (by show w.heap.size + 1 < w.heap.size + 1 + 1; omega) _
      exact VA.out
    · iterate 5 refine Below.setCell ?_ (by show w.heap.size ≤ w.heap.size + 1; omega) _
      exact BA.out
  have hcp : canRem ss f l r c (x : Int) = true := by unfold canRem; rw [Int.toNat_natCast, Hsx.out, Hok.out]; simp [hx1]
  have Hcp := Lib.hid hcp
  obtain ⟨l1, l2, hus, hpv, hnx, hne, hc0, hc1⟩ := val_at Hv.out hx (by rw [Hsx.out])
  rw [Hsx.out] at hpv hnx hne
  have Hpv := Lib.hid hpv
  have Hnx := Lib.hid hnx
  have Hne := Lib.hid hne
  have q1 : IntKind.i64.wrap (c - 1) = c - 1 := IntWalk.i64_in _ (by omega)
  obtain ⟨g1, rfl, hk1, hk2, hrd1⟩ := (V1.out.below B2.out (Nat.le_of_lt K3.out.lt)) (by rw [Hv.out.len]; omega)
  have KB := Lib.hid (K2.out.below B2.out)
  have KO := Lib.hid (K3.out.below B2.out)
  have hgw := Hhi.out
  have n1 : g1 ≠ w1.heap.size := by omega
  have n2 : g ≠ w1.heap.size := by omega
  have n3 : g ≠ g1 := by omega
  have n4 : w.heap.size ≠ w1.heap.size := by omega
  have n5 : w.heap.size + 1 ≠ w1.heap.size := by omega
  have n6 : w.heap.size ≠ g1 := by omega
  have n7 : w.heap.size + 1 ≠ g1 := by omega
  have hzz : w1.heap.size < w2.heap.size := KO.out.lt
  have m1 : w2.heap.size ≠ g1 := by omega
  have m2 : w2.heap.size ≠ w1.heap.size := by omega
  have m3 : w.heap.size < w2.heap.size := by omega
  have m4 : w.heap.size + 1 < w2.heap.size := by omega
  have m5 : g1 < w2.heap.size := by omega
  have m6 : g < w2.heap.size := by omega
  obtain ⟨o0, o1, o2, o3, o4, of⟩ := KO.out.cells
  obtain ⟨e0, e1, e2, e3, e4, ef⟩ := KB.out.cells
  have Hrd1 := Lib.hid hrd1
  obtain ⟨u0, u1, u2, u3, uf⟩ := hrd1 x (by rw [Hv.out.len]; exact hx)
  clear hcp hus hpv hnx hne hrd1
  generalize ss.getD x zSl = sx at u0 u1 u2 u3
  rcases Hpv.out with rfl | ⟨y, rfl, hy, hyx⟩
  · rcases Hnx.out with rfl | ⟨z, rfl, hz, hzx⟩
    · clear Hpv Hnx Hne
      go_wp2_with fail
      obtain ⟨W, hW⟩ : ∃ W, ((((((((((w2.setCell ⟨w1.heap.size, 1, none⟩ (.int .i64 (-1))).setCell ⟨w1.heap.size, 2, none⟩ (.int .i64 (-1)))).setCell ⟨g1, x * 4, none⟩ (.int .i64 0)).setCell ⟨g1, x * 4 + 1, none⟩ (.int .i64 (-1))).setCell ⟨g1, x * 4 + 2, none⟩ (.int .i64 r)).setCell ⟨g1, x * 4 + 3, none⟩ (.bool false)).setCell ⟨w1.heap.size, 3, none⟩ (.int .i64 (x : Int))).setCell ⟨w1.heap.size, 4, none⟩ (.int .i64 (c - 1))).alloc (.cells #[.int .i64 id, .int .i64 (-1), .int .i64 (-1), .bool true] 91)) = W := ⟨_, rfl⟩
      obtain ⟨wrd, wbo, wkb, wsb, wbel⟩ := rem_end (w := w) (X := ((w2.setCell ⟨w1.heap.size, 1, none⟩ (.int .i64 (-1))).setCell ⟨w1.heap.size, 2, none⟩ (.int .i64 (-1)))) (ss := setPrev (setNext ss (-1) (-1)) (-1) (-1)) (n2 := w2.heap.size) (v1 := .int .i64 (-1)) (v2 := .int .i64 (-1)) (k := w.heap.size + 1) ((Hrd1.out.far (p := ⟨w1.heap.size, 1, none⟩) n1 _).far (p := ⟨w1.heap.size, 2, none⟩) n1 _) ((KO.out.set1 _).set2 _) ((KB.out.far (p := ⟨w1.heap.size, 1, none⟩) n5 _).far (p := ⟨w1.heap.size, 2, none⟩) n5 _) ((BA.out.setCell (by show w.heap.size ≤ w1.heap.size; omega) _).setCell (by show w.heap.size ≤ w1.heap.size; omega) _) (by simp [World.setCell]) (by omega) n1 n5 n7 (by omega) (by omega) W hW
      rw [hW]
      have WR := Lib.hid wrd
      have WB := Lib.hid wbel
      have hz1 : w1.heap.size < W.heap.size := wbo.lt
      have hz2 : w.heap.size + 1 < W.heap.size := wkb.lt
      clear hW o0 o1 o2 o3 o4 of e0 e1 e2 e3 e4 ef t0 t1 t2 t3 d0 d1 d2 d3 d4 df wrd wbel
      obtain ⟨o0, o1, o2, o3, o4, of⟩ := wbo.cells
      obtain ⟨e0, e1, e2, e3, e4, ef⟩ := wkb.cells
      obtain ⟨s0, s1, s2, s3⟩ := wsb.cells
      clear wbo wkb wsb
      go_region
      go_wp2_with fail
      refine bodyPost_ret (v := .tuple #[.agg #[.slice (some ⟨g1, 0, none⟩) 60 c1, .int .i64 (-1), .int .i64 (-1), .int .i64 (x : Int), .int .i64 (c - 1)], .int .i64 id]) (by simp [results, Try.results73, go_sem, e0, e1, e2, e3, e4]) rfl (remEnd_yes Hcp.out ⟨some ⟨g1, 0, none⟩, c1, by rw [Int.toNat_natCast, Hsx.out, (if_pos rfl), (if_pos rfl)], ?_, ?_⟩)
      · intro _
        refine ⟨g1, rfl, by omega, ?_, ?_⟩
        · simp [World.setCell]; omega
        · refine Rd.of_block (w := W) ?_ ?_
          · have hr := WR.out
            unfold remS
            rw [Int.toNat_natCast, Hsx.out]
            exact hr
          · show (World.setCell (World.setCell (World.setCell (World.setCell (World.setCell W _ _) _ _) _ _) _ _) _ _).heap[g1]? = _
            iterate 5 rw [Below.heap_setCell _ _ _ _ (by show g1 ≠ w.heap.size + 1; omega)]
      · have h9 : Below w.heap.size w (((((W.setCell ⟨w.heap.size + 1, 0, none⟩ (.slice (some ⟨g1, 0, none⟩) 60 c1)).setCell ⟨w.heap.size + 1, 1, none⟩ (.int .i64 (-1))).setCell ⟨w.heap.size + 1, 2, none⟩ (.int .i64 (-1))).setCell ⟨w.heap.size + 1, 3, none⟩ (.int .i64 (x : Int))).setCell ⟨w.heap.size + 1, 4, none⟩ (.int .i64 (c - 1))) := by
          iterate 5 refine Below.setCell ?_ (by show w.heap.size ≤ w.heap.size + 1; omega) _
          exact WB.out
        exact h9.drew
    · have hz0 : (0 : Int) ≤ (z : Int) := by omega
      have hz1 : (z : Int) < 60 := by omega
      have hzn : ((z : Int) == -1) = false := by simp
      have zx10 : z * 4 + 1 ≠ x * 4 := by omega
      have xz10 : x * 4 ≠ z * 4 + 1 := by omega
      have zx12 : z * 4 + 1 ≠ x * 4 + 2 := by omega
      have xz12 : x * 4 + 2 ≠ z * 4 + 1 := by omega
      have zx13 : z * 4 + 1 ≠ x * 4 + 3 := by omega
      have xz13 : x * 4 + 3 ≠ z * 4 + 1 := by omega
      have zxn : z ≠ x := by omega
      have xzn : x ≠ z := by omega
      have zxm : z * 4 ≠ x * 4 := by omega
      have xzm : x * 4 ≠ z * 4 := by omega
      clear Hpv Hnx Hne hzx
      obtain ⟨_, k1, _, _, _⟩ := Hrd1.out z (by rw [Hv.out.len]; exact hz)
      generalize ss.getD z zSl = sz at k1
      go_wp2_with fail
      obtain ⟨W, hW⟩ : ∃ W, ((((((((((w2.setCell ⟨w1.heap.size, 1, none⟩ (.int .i64 (z : Int))).setCell ⟨g1, z * 4 + 1, none⟩ (.int .i64 (-1)))).setCell ⟨g1, x * 4, none⟩ (.int .i64 0)).setCell ⟨g1, x * 4 + 1, none⟩ (.int .i64 (-1))).setCell ⟨g1, x * 4 + 2, none⟩ (.int .i64 r)).setCell ⟨g1, x * 4 + 3, none⟩ (.bool false)).setCell ⟨w1.heap.size, 3, none⟩ (.int .i64 (x : Int))).setCell ⟨w1.heap.size, 4, none⟩ (.int .i64 (c - 1))).alloc (.cells #[.int .i64 id, .int .i64 (-1), .int .i64 (z : Int), .bool true] 91)) = W := ⟨_, rfl⟩
      obtain ⟨wrd, wbo, wkb, wsb, wbel⟩ := rem_end (w := w) (X := ((w2.setCell ⟨w1.heap.size, 1, none⟩ (.int .i64 (z : Int))).setCell ⟨g1, z * 4 + 1, none⟩ (.int .i64 (-1)))) (ss := setPrev (setNext ss (-1) (z : Int)) (z : Int) (-1)) (n2 := w2.heap.size) (v1 := .int .i64 (z : Int)) (v2 := .int .i64 l) (k := w.heap.size + 1) ((Hrd1.out.far (p := ⟨w1.heap.size, 1, none⟩) n1 _).prevv (i := z) _) ((KO.out.set1 _).far (p := ⟨g1, z * 4 + 1, none⟩) (fun e => n1 e.symm) _) ((KB.out.far (p := ⟨w1.heap.size, 1, none⟩) n5 _).far (p := ⟨g1, z * 4 + 1, none⟩) n7 _) ((BA.out.setCell (by show w.heap.size ≤ w1.heap.size; omega) _).setCell (by show w.heap.size ≤ g1; omega) _) (by simp [World.setCell]) (by omega) n1 n5 n7 (by omega) (by omega) W hW
      rw [hW]
      have WR := Lib.hid wrd
      have WB := Lib.hid wbel
      have hz1 : w1.heap.size < W.heap.size := wbo.lt
      have hz2 : w.heap.size + 1 < W.heap.size := wkb.lt
      clear hW o0 o1 o2 o3 o4 of e0 e1 e2 e3 e4 ef t0 t1 t2 t3 d0 d1 d2 d3 d4 df wrd wbel
      obtain ⟨o0, o1, o2, o3, o4, of⟩ := wbo.cells
      obtain ⟨e0, e1, e2, e3, e4, ef⟩ := wkb.cells
      obtain ⟨s0, s1, s2, s3⟩ := wsb.cells
      clear wbo wkb wsb
      go_region
      go_wp2_with fail
      refine bodyPost_ret (v := .tuple #[.agg #[.slice (some ⟨g1, 0, none⟩) 60 c1, .int .i64 (z : Int), .int .i64 l, .int .i64 (x : Int), .int .i64 (c - 1)], .int .i64 id]) (by simp [results, Try.results73, go_sem, e0, e1, e2, e3, e4]) rfl (remEnd_yes Hcp.out ⟨some ⟨g1, 0, none⟩, c1, by rw [Int.toNat_natCast, Hsx.out, (if_pos rfl), (if_neg (show ¬ (z : Int) = -1 by omega))], ?_, ?_⟩)
      · intro _
        refine ⟨g1, rfl, by omega, ?_, ?_⟩
        · simp [World.setCell]; omega
        · refine Rd.of_block (w := W) ?_ ?_
          · have hr := WR.out
            unfold remS
            rw [Int.toNat_natCast, Hsx.out]
            exact hr
          · show (World.setCell (World.setCell (World.setCell (World.setCell (World.setCell W _ _) _ _) _ _) _ _) _ _).heap[g1]? = _
            iterate 5 rw [Below.heap_setCell _ _ _ _ (by show g1 ≠ w.heap.size + 1; omega)]
      · have h9 : Below w.heap.size w (((((W.setCell ⟨w.heap.size + 1, 0, none⟩ (.slice (some ⟨g1, 0, none⟩) 60 c1)).setCell ⟨w.heap.size + 1, 1, none⟩ (.int .i64 (z : Int))).setCell ⟨w.heap.size + 1, 2, none⟩ (.int .i64 l)).setCell ⟨w.heap.size + 1, 3, none⟩ (.int .i64 (x : Int))).setCell ⟨w.heap.size + 1, 4, none⟩ (.int .i64 (c - 1))) := by
          iterate 5 refine Below.setCell ?_ (by show w.heap.size ≤ w.heap.size + 1; omega) _
          exact WB.out
        exact h9.drew
  · have hy0 : (0 : Int) ≤ (y : Int) := by omega
    have hy1 : (y : Int) < 60 := by omega
    have hyn : ((y : Int) == -1) = false := by simp
    rcases Hnx.out with rfl | ⟨z, rfl, hz, hzx⟩
    · have yx20 : y * 4 + 2 ≠ x * 4 := by omega
      have xy20 : x * 4 ≠ y * 4 + 2 := by omega
      have yx21 : y * 4 + 2 ≠ x * 4 + 1 := by omega
      have xy21 : x * 4 + 1 ≠ y * 4 + 2 := by omega
      have yx23 : y * 4 + 2 ≠ x * 4 + 3 := by omega
      have xy23 : x * 4 + 3 ≠ y * 4 + 2 := by omega
      have yxn : y ≠ x := by omega
      have xyn : x ≠ y := by omega
      have yxm : y * 4 ≠ x * 4 := by omega
      have xym : x * 4 ≠ y * 4 := by omega
      clear Hpv Hnx Hne hyx
      obtain ⟨_, _, k2, _, _⟩ := Hrd1.out y (by rw [Hv.out.len]; exact hy)
      generalize ss.getD y zSl = sy at k2
      go_wp2_with fail
      obtain ⟨W, hW⟩ : ∃ W, ((((((((((w2.setCell ⟨g1, y * 4 + 2, none⟩ (.int .i64 (-1))).setCell ⟨w1.heap.size, 2, none⟩ (.int .i64 (y : Int)))).setCell ⟨g1, x * 4, none⟩ (.int .i64 0)).setCell ⟨g1, x * 4 + 1, none⟩ (.int .i64 (-1))).setCell ⟨g1, x * 4 + 2, none⟩ (.int .i64 r)).setCell ⟨g1, x * 4 + 3, none⟩ (.bool false)).setCell ⟨w1.heap.size, 3, none⟩ (.int .i64 (x : Int))).setCell ⟨w1.heap.size, 4, none⟩ (.int .i64 (c - 1))).alloc (.cells #[.int .i64 id, .int .i64 (y : Int), .int .i64 (-1), .bool true] 91)) = W := ⟨_, rfl⟩
      obtain ⟨wrd, wbo, wkb, wsb, wbel⟩ := rem_end (w := w) (X := ((w2.setCell ⟨g1, y * 4 + 2, none⟩ (.int .i64 (-1))).setCell ⟨w1.heap.size, 2, none⟩ (.int .i64 (y : Int)))) (ss := setPrev (setNext ss (y : Int) (-1)) (-1) (y : Int)) (n2 := w2.heap.size) (v1 := .int .i64 f) (v2 := .int .i64 (y : Int)) (k := w.heap.size + 1) ((Hrd1.out.nextv (i := y) _).far (p := ⟨w1.heap.size, 2, none⟩) n1 _) ((KO.out.far (p := ⟨g1, y * 4 + 2, none⟩) (fun e => n1 e.symm) _).set2 _) ((KB.out.far (p := ⟨g1, y * 4 + 2, none⟩) n7 _).far (p := ⟨w1.heap.size, 2, none⟩) n5 _) ((BA.out.setCell (by show w.heap.size ≤ g1; omega) _).setCell (by show w.heap.size ≤ w1.heap.size; omega) _) (by simp [World.setCell]) (by omega) n1 n5 n7 (by omega) (by omega) W hW
      rw [hW]
      have WR := Lib.hid wrd
      have WB := Lib.hid wbel
      have hz1 : w1.heap.size < W.heap.size := wbo.lt
      have hz2 : w.heap.size + 1 < W.heap.size := wkb.lt
      clear hW o0 o1 o2 o3 o4 of e0 e1 e2 e3 e4 ef t0 t1 t2 t3 d0 d1 d2 d3 d4 df wrd wbel
      obtain ⟨o0, o1, o2, o3, o4, of⟩ := wbo.cells
      obtain ⟨e0, e1, e2, e3, e4, ef⟩ := wkb.cells
      obtain ⟨s0, s1, s2, s3⟩ := wsb.cells
      clear wbo wkb wsb
      go_region
      go_wp2_with fail
      refine bodyPost_ret (v := .tuple #[.agg #[.slice (some ⟨g1, 0, none⟩) 60 c1, .int .i64 f, .int .i64 (y : Int), .int .i64 (x : Int), .int .i64 (c - 1)], .int .i64 id]) (by simp [results, Try.results73, go_sem, e0, e1, e2, e3, e4]) rfl (remEnd_yes Hcp.out ⟨some ⟨g1, 0, none⟩, c1, by rw [Int.toNat_natCast, Hsx.out, (if_neg (show ¬ (y : Int) = -1 by omega)), (if_pos rfl)], ?_, ?_⟩)
      · intro _
        refine ⟨g1, rfl, by omega, ?_, ?_⟩
        · simp [World.setCell]; omega
        · refine Rd.of_block (w := W) ?_ ?_
          · have hr := WR.out
            unfold remS
            rw [Int.toNat_natCast, Hsx.out]
            exact hr
          · show (World.setCell (World.setCell (World.setCell (World.setCell (World.setCell W _ _) _ _) _ _) _ _) _ _).heap[g1]? = _
            iterate 5 rw [Below.heap_setCell _ _ _ _ (by show g1 ≠ w.heap.size + 1; omega)]
      · have h9 : Below w.heap.size w (((((W.setCell ⟨w.heap.size + 1, 0, none⟩ (.slice (some ⟨g1, 0, none⟩) 60 c1)).setCell ⟨w.heap.size + 1, 1, none⟩ (.int .i64 f)).setCell ⟨w.heap.size + 1, 2, none⟩ (.int .i64 (y : Int))).setCell ⟨w.heap.size + 1, 3, none⟩ (.int .i64 (x : Int))).setCell ⟨w.heap.size + 1, 4, none⟩ (.int .i64 (c - 1))) := by
          iterate 5 refine Below.setCell ?_ (by show w.heap.size ≤ w.heap.size + 1; omega) _
          exact WB.out
        exact h9.drew
    · have hz0 : (0 : Int) ≤ (z : Int) := by omega
      have hz1 : (z : Int) < 60 := by omega
      have hzn : ((z : Int) == -1) = false := by simp
      have yx20 : y * 4 + 2 ≠ x * 4 := by omega
      have xy20 : x * 4 ≠ y * 4 + 2 := by omega
      have yx21 : y * 4 + 2 ≠ x * 4 + 1 := by omega
      have xy21 : x * 4 + 1 ≠ y * 4 + 2 := by omega
      have yx23 : y * 4 + 2 ≠ x * 4 + 3 := by omega
      have xy23 : x * 4 + 3 ≠ y * 4 + 2 := by omega
      have yxn : y ≠ x := by omega
      have xyn : x ≠ y := by omega
      have yxm : y * 4 ≠ x * 4 := by omega
      have xym : x * 4 ≠ y * 4 := by omega
      have zx10 : z * 4 + 1 ≠ x * 4 := by omega
      have xz10 : x * 4 ≠ z * 4 + 1 := by omega
      have zx12 : z * 4 + 1 ≠ x * 4 + 2 := by omega
      have xz12 : x * 4 + 2 ≠ z * 4 + 1 := by omega
      have zx13 : z * 4 + 1 ≠ x * 4 + 3 := by omega
      have xz13 : x * 4 + 3 ≠ z * 4 + 1 := by omega
      have zxn : z ≠ x := by omega
      have xzn : x ≠ z := by omega
      have zxm : z * 4 ≠ x * 4 := by omega
      have xzm : x * 4 ≠ z * 4 := by omega
      have hyz : y ≠ z := Hne.out y z rfl rfl
      have hzy : z ≠ y := fun e => hyz e.symm
      have yz1 : y * 4 + 2 ≠ z * 4 + 1 := by omega
      have yz2 : z * 4 + 1 ≠ y * 4 + 2 := by omega
      clear Hpv Hnx Hne hyx hzx
      obtain ⟨_, _, k2, _, _⟩ := Hrd1.out y (by rw [Hv.out.len]; exact hy)
      obtain ⟨_, k1, _, _, _⟩ := Hrd1.out z (by rw [Hv.out.len]; exact hz)
      generalize ss.getD y zSl = sy at k2
      generalize ss.getD z zSl = sz at k1
      go_wp2_with fail
      obtain ⟨W, hW⟩ : ∃ W, ((((((((((w2.setCell ⟨g1, y * 4 + 2, none⟩ (.int .i64 (z : Int))).setCell ⟨g1, z * 4 + 1, none⟩ (.int .i64 (y : Int)))).setCell ⟨g1, x * 4, none⟩ (.int .i64 0)).setCell ⟨g1, x * 4 + 1, none⟩ (.int .i64 (-1))).setCell ⟨g1, x * 4 + 2, none⟩ (.int .i64 r)).setCell ⟨g1, x * 4 + 3, none⟩ (.bool false)).setCell ⟨w1.heap.size, 3, none⟩ (.int .i64 (x : Int))).setCell ⟨w1.heap.size, 4, none⟩ (.int .i64 (c - 1))).alloc (.cells #[.int .i64 id, .int .i64 (y : Int), .int .i64 (z : Int), .bool true] 91)) = W := ⟨_, rfl⟩
      obtain ⟨wrd, wbo, wkb, wsb, wbel⟩ := rem_end (w := w) (X := ((w2.setCell ⟨g1, y * 4 + 2, none⟩ (.int .i64 (z : Int))).setCell ⟨g1, z * 4 + 1, none⟩ (.int .i64 (y : Int)))) (ss := setPrev (setNext ss (y : Int) (z : Int)) (z : Int) (y : Int)) (n2 := w2.heap.size) (v1 := .int .i64 f) (v2 := .int .i64 l) (k := w.heap.size + 1) ((Hrd1.out.nextv (i := y) _).prevv (i := z) _) ((KO.out.far (p := ⟨g1, y * 4 + 2, none⟩) (fun e => n1 e.symm) _).far (p := ⟨g1, z * 4 + 1, none⟩) (fun e => n1 e.symm) _) ((KB.out.far (p := ⟨g1, y * 4 + 2, none⟩) n7 _).far (p := ⟨g1, z * 4 + 1, none⟩) n7 _) ((BA.out.setCell (by show w.heap.size ≤ g1; omega) _).setCell (by show w.heap.size ≤ g1; omega) _) (by simp [World.setCell]) (by omega) n1 n5 n7 (by omega) (by omega) W hW
      rw [hW]
      have WR := Lib.hid wrd
      have WB := Lib.hid wbel
      have hz1 : w1.heap.size < W.heap.size := wbo.lt
      have hz2 : w.heap.size + 1 < W.heap.size := wkb.lt
      clear hW o0 o1 o2 o3 o4 of e0 e1 e2 e3 e4 ef t0 t1 t2 t3 d0 d1 d2 d3 d4 df wrd wbel
      obtain ⟨o0, o1, o2, o3, o4, of⟩ := wbo.cells
      obtain ⟨e0, e1, e2, e3, e4, ef⟩ := wkb.cells
      obtain ⟨s0, s1, s2, s3⟩ := wsb.cells
      clear wbo wkb wsb
      go_region
      go_wp2_with fail
      refine bodyPost_ret (v := .tuple #[.agg #[.slice (some ⟨g1, 0, none⟩) 60 c1, .int .i64 f, .int .i64 l, .int .i64 (x : Int), .int .i64 (c - 1)], .int .i64 id]) (by simp [results, Try.results73, go_sem, e0, e1, e2, e3, e4]) rfl (remEnd_yes Hcp.out ⟨some ⟨g1, 0, none⟩, c1, by rw [Int.toNat_natCast, Hsx.out, (if_neg (show ¬ (y : Int) = -1 by omega)), (if_neg (show ¬ (z : Int) = -1 by omega))], ?_, ?_⟩)
      · intro _
        refine ⟨g1, rfl, by omega, ?_, ?_⟩
        · simp [World.setCell]; omega
        · refine Rd.of_block (w := W) ?_ ?_
          · have hr := WR.out
            unfold remS
            rw [Int.toNat_natCast, Hsx.out]
            exact hr
          · show (World.setCell (World.setCell (World.setCell (World.setCell (World.setCell W _ _) _ _) _ _) _ _) _ _).heap[g1]? = _
            iterate 5 rw [Below.heap_setCell _ _ _ _ (by show g1 ≠ w.heap.size + 1; omega)]
      · have h9 : Below w.heap.size w (((((W.setCell ⟨w.heap.size + 1, 0, none⟩ (.slice (some ⟨g1, 0, none⟩) 60 c1)).setCell ⟨w.heap.size + 1, 1, none⟩ (.int .i64 f)).setCell ⟨w.heap.size + 1, 2, none⟩ (.int .i64 l)).setCell ⟨w.heap.size + 1, 3, none⟩ (.int .i64 (x : Int))).setCell ⟨w.heap.size + 1, 4, none⟩ (.int .i64 (c - 1))) := by
          iterate 5 refine Below.setCell ?_ (by show w.heap.size ≤ w.heap.size + 1; omega) _
          exact WB.out
        exact h9.drew
end Go.Proofs.Ytpjelojmkmednaa.Que
