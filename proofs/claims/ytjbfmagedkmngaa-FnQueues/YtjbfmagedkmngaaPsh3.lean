/- What the reference's PushBack answers. -/
import Derived.Test.YtjbfmagedkmngaaPsh2
namespace Go.Proofs.Ytjbfmagedkmngaa.Que
open Go.RowKit Go.Deep Base Rng

theorem Rd.far {w : World} {b : Nat} {ss : List Sl} (h : Rd w b ss) {p : Addr} (hp : b ≠ p.block) (u : Value) : Rd (w.setCell p u) b ss := h.of_block (Below.heap_setCell w p u b hp)
theorem Rd.slot4 {w : World} {b : Nat} {ss : List Sl} (h : Rd w b ss) {i : Nat} (s : Sl) : Rd (set4 w b i s) b (ss.set i s) := by
  have h0 : RdF w b ss.length (fun i => ss.getD i zSl) := h
  intro j hj
  rw [List.length_set] at hj
  have h1 := h0.set i s j hj
  have he : (ss.set i s).getD j zSl = if j = i then s else ss.getD j zSl := by
    simp only [List.getD_eq_getElem?_getD, List.getElem?_set]
    by_cases e : i = j
    · subst e; simp [hj]
    · have e' : ¬ j = i := fun h => e h.symm
      simp [e, e']
  rw [he]
  exact h1
theorem Rd.nextv {w : World} {b : Nat} {ss : List Sl} (h : Rd w b ss) {i : Nat} (v : Int) : Rd (w.setCell ⟨b, i * 4 + 2, none⟩ (.int .i64 v)) b (ss.set i (wNext (sl ss i) v)) := by
  intro j hj
  rw [List.length_set] at hj
  obtain ⟨h0, h1, h2, h3, h4⟩ := h j hj
  have hs : ∀ {o : Nat} {u : Value}, w.cell? ⟨b, o, none⟩ = some u → (w.cell? ⟨b, o, none⟩).isSome = true := fun h => by rw [h]; rfl
  rw [cell_set (hs h0), cell_set (hs h1), cell_set (hs h2), cell_set (hs h3), if_neg (by omega), if_neg (by omega), if_neg (show ¬ j * 4 + 3 = i * 4 + 2 by omega)]
  by_cases e : i = j
  · subst e
    have he : (ss.set i (wNext (sl ss i) v)).getD i zSl = wNext (sl ss i) v := by simp [List.getD_eq_getElem?_getD, hj]
    rw [he, if_pos rfl]
    exact ⟨h0, h1, rfl, h3, fun k => by rw [World.frozen?_setCell]; exact h4 k⟩
  · have he : (ss.set i (wNext (sl ss i) v)).getD j zSl = ss.getD j zSl := by simp [List.getD_eq_getElem?_getD, e]
    rw [he, if_neg (by omega)]
    exact ⟨h0, h1, h2, h3, fun k => by rw [World.frozen?_setCell]; exact h4 k⟩

set_option maxRecDepth 100000 in
set_option maxHeartbeats 2000000 in
theorem specPush_no (A : Option Addr) (n cap lo hi : Nat) (ss : List Sl) (f l r c id : Int) (w : World) (hn : ss.length = n) (hm : n ≤ 1048576) (h : SlV w lo hi A ss) (hhi : hi ≤ w.heap.size) (hcan : canPush ss f l r c id = false) :
    Calls Try.prog 33 #[.agg #[.slice A n cap, .int .i64 f, .int .i64 l, .int .i64 r, .int .i64 c], .int .i64 id] w (PushEnd w n ss f l r c id) := by
  have Hcan := Lib.hid hcan
  have Hn := Lib.hid hn
  have HS := Lib.hid h
  have Hhi := Lib.hid hhi
  clear h hn hhi hcan
  go_enter Try.func33, Try.ntmps33
  go_wp2_with fail
  have hB0 : Below w.heap.size w ((w.alloc (.cells #[.slice A n cap, .int .i64 f, .int .i64 l, .int .i64 r, .int .i64 c] 26)).alloc (.cells #[.slice none 0 0, .int .i64 0, .int .i64 0, .int .i64 0, .int .i64 0] 26)) := ((Below.refl _ _).alloc (Nat.le_refl _) _).alloc (by simp) _
  refine (copy_any A n cap lo hi f l r c ss _ Hn.out hm (HS.out.below hB0 Hhi.out) (by have := Hhi.out; simp; omega)).mono ?_
  rintro e w1 ⟨A1, c1, rfl, v1, hb1⟩
  have K1' : Hid (Blk5 w1 w.heap.size (.slice A n cap) (.int .i64 f) (.int .i64 l) (.int .i64 r) (.int .i64 c)) := Blk5.below (Blk5.alloc (heap_alloc_new w _) _) hb1
  have K2' : Hid (Blk5 w1 (w.heap.size + 1) (.slice none 0 0) (.int .i64 0) (.int .i64 0) (.int .i64 0) (.int .i64 0)) := by
    have h := heap_alloc_new (w.alloc (.cells #[.slice A n cap, .int .i64 f, .int .i64 l, .int .i64 r, .int .i64 c] 26)) (.cells #[.slice none 0 0, .int .i64 0, .int .i64 0, .int .i64 0, .int .i64 0] 26)
    simp only [World.size_alloc] at h
    exact Blk5.below h hb1
  have B1' := Lib.hid (bel_trans hB0 hb1)
  have V1' : Hid (SlV w1 (w.heap.size + 1 + 1) w1.heap.size A1 ss) := by have h := v1; simp only [World.size_alloc] at h; exact h
  clear hb1 hB0 v1
  obtain ⟨d0, d1, d2, d3, d4, df⟩ := K1'.out.cells
  have zz : w.heap.size < w1.heap.size := K1'.out.lt
  go_wp2_with fail
  obtain ⟨W1, hW1⟩ : ∃ W1, w1.alloc (.cells #[.slice A1 n c1, .int .i64 f, .int .i64 l, .int .i64 r, .int .i64 c] 26) = W1 := ⟨_, rfl⟩
  have K1 : Hid (Blk5 W1 w.heap.size (.slice A n cap) (.int .i64 f) (.int .i64 l) (.int .i64 r) (.int .i64 c)) := by rw [← hW1]; exact K1'.out.alloc _
  have K2 : Hid (Blk5 W1 (w.heap.size + 1) (.slice none 0 0) (.int .i64 0) (.int .i64 0) (.int .i64 0) (.int .i64 0)) := by rw [← hW1]; exact K2'.out.alloc _
  have K3 : Hid (Blk5 W1 w1.heap.size (.slice A1 n c1) (.int .i64 f) (.int .i64 l) (.int .i64 r) (.int .i64 c)) := by rw [← hW1]; exact heap_alloc_new w1 _
  have B1 : Hid (Below w.heap.size w W1) := by rw [← hW1]; exact bel_trans B1'.out (bel_alloc w1 _)
  have V1 : Hid (SlV W1 (w.heap.size + 1 + 1) w1.heap.size A1 ss) := by rw [← hW1]; exact V1'.out.below (bel_alloc w1 _) (Nat.le_refl _)
  clear K1' K2' B1' V1'
  rw [hW1]
  clear hW1 d0 d1 d2 d3 d4 df zz
  refine (specQueueOk_any A n cap lo hi f l r c ss W1 Hn.out hm (HS.out.below B1.out Hhi.out) (Nat.le_trans Hhi.out B1.out.size)).mono ?_
  rintro e w2 ⟨rfl, b2⟩
  have B2 := Lib.hid b2
  clear b2
  obtain ⟨d0, d1, d2, d3, d4, df⟩ := (K1.out.below B2.out).cells
  cases hok : okQ ss f l r c
  · have hcp : canPush ss f l r c id = false := by unfold canPush; rw [hok]; rfl
    clear hok
    have KB : Hid (Blk5 w2 (w.heap.size + 1) (.slice none 0 0) (.int .i64 0) (.int .i64 0) (.int .i64 0) (.int .i64 0)) := K2.out.below B2.out
    have KO : Hid (Blk5 w2 w1.heap.size (.slice A1 n c1) (.int .i64 f) (.int .i64 l) (.int .i64 r) (.int .i64 c)) := K3.out.below B2.out
    have BA : Hid (Below w.heap.size w w2) := bel_trans B1.out B2.out
    have VA : Hid (SlV w2 (w.heap.size + 1 + 1) w1.heap.size A1 ss) := V1.out.below B2.out (Nat.le_of_lt K3.out.lt)
    have Hno := Lib.hid hcp
    have z9 : w1.heap.size < (w2).heap.size := KO.out.lt
    have z8 : w.heap.size + 1 < (w2).heap.size := KB.out.lt
    obtain ⟨o0, o1, o2, o3, o4, of⟩ := KO.out.cells
    obtain ⟨e0, e1, e2, e3, e4, ef⟩ := KB.out.cells
    go_wp2_with fail
    refine bodyPost_ret (v := .tuple #[.agg #[.slice A1 n c1, .int .i64 f, .int .i64 l, .int .i64 r, .int .i64 c], .int .i64 (-1)]) (by simp [results, Try.results33, go_sem, e0, e1, e2, e3, e4]) rfl (pushEnd_no Hno.out ⟨A1, c1, rfl, ?_, ?_⟩)
    · refine SlV.wide (lo := w.heap.size + 1 + 1) (hi := w1.heap.size) ?_ (by omega) (by simp [World.setCell]; omega)
      iterate 5 refine SlV.setCell ?_ (by show w.heap.size + 1 < w.heap.size + 1 + 1; omega) _
      exact VA.out
    · iterate 5 refine Below.setCell ?_ (by show w.heap.size ≤ w.heap.size + 1; omega) _
      exact BA.out
  obtain ⟨us, fs, v⟩ := ok_val hok
  have Hok := Lib.hid hok
  clear hok
  have Hv := Lib.hid v
  have hnn := Hn.out
  rw [v.len] at hnn
  subst hnn
  clear v
  by_cases hr : r = -1
  · subst hr
    have hcp : canPush ss f l (-1) c id = false := by unfold canPush; simp
    have KB : Hid (Blk5 w2 (w.heap.size + 1) (.slice none 0 0) (.int .i64 0) (.int .i64 0) (.int .i64 0) (.int .i64 0)) := K2.out.below B2.out
    have KO : Hid (Blk5 w2 w1.heap.size (.slice A1 60 c1) (.int .i64 f) (.int .i64 l) (.int .i64 (-1)) (.int .i64 c)) := K3.out.below B2.out
    have BA : Hid (Below w.heap.size w w2) := bel_trans B1.out B2.out
    have VA : Hid (SlV w2 (w.heap.size + 1 + 1) w1.heap.size A1 ss) := V1.out.below B2.out (Nat.le_of_lt K3.out.lt)
    have Hno := Lib.hid hcp
    have z9 : w1.heap.size < (w2).heap.size := KO.out.lt
    have z8 : w.heap.size + 1 < (w2).heap.size := KB.out.lt
    obtain ⟨o0, o1, o2, o3, o4, of⟩ := KO.out.cells
    obtain ⟨e0, e1, e2, e3, e4, ef⟩ := KB.out.cells
    go_wp2_with fail
    refine bodyPost_ret (v := .tuple #[.agg #[.slice A1 60 c1, .int .i64 f, .int .i64 l, .int .i64 (-1), .int .i64 c], .int .i64 (-1)]) (by simp [results, Try.results33, go_sem, e0, e1, e2, e3, e4]) rfl (pushEnd_no Hno.out ⟨A1, c1, rfl, ?_, ?_⟩)
    · refine SlV.wide (lo := w.heap.size + 1 + 1) (hi := w1.heap.size) ?_ (by omega) (by simp [World.setCell]; omega)
      iterate 5 refine SlV.setCell ?_ (by show w.heap.size + 1 < w.heap.size + 1 + 1; omega) _
      exact VA.out
    · iterate 5 refine Below.setCell ?_ (by show w.heap.size ≤ w.heap.size + 1; omega) _
      exact BA.out
  obtain ⟨x, fs', rfl, rfl⟩ : ∃ (x : Nat) (fs' : List Nat), fs = x :: fs' ∧ r = (x : Int) := by
    have h := Hv.out.fch
    cases fs with
    | nil => exact absurd h hr
    | cons x t => exact ⟨x, t, rfl, h.1⟩
  have hxb : ((x : Int) == -1) = false := by simp
  clear hr
  have hx : x < 60 := Hv.out.lt x (by simp)
  cases hid : idB id
  · have hcp : canPush ss f l (x : Int) c id = false := by unfold canPush; rw [hid]; simp
    have hib : Tick.inB id 1 1000000000 = false := hid
    have Hid1 := Lib.hid hib
    clear hid hib
    go_wp2_with fail
    refine (Tick.in_any id 1 1000000000 _).mono ?_
    rintro e w' ⟨rfl, rfl⟩
    rw [Hid1.out]
    have KB : Hid (Blk5 w2 (w.heap.size + 1) (.slice none 0 0) (.int .i64 0) (.int .i64 0) (.int .i64 0) (.int .i64 0)) := K2.out.below B2.out
    have KO : Hid (Blk5 w2 w1.heap.size (.slice A1 60 c1) (.int .i64 f) (.int .i64 l) (.int .i64 (x : Int)) (.int .i64 c)) := K3.out.below B2.out
    have BA : Hid (Below w.heap.size w w2) := bel_trans B1.out B2.out
    have VA : Hid (SlV w2 (w.heap.size + 1 + 1) w1.heap.size A1 ss) := V1.out.below B2.out (Nat.le_of_lt K3.out.lt)
    have Hno := Lib.hid hcp
    have z9 : w1.heap.size < (w2).heap.size := KO.out.lt
    have z8 : w.heap.size + 1 < (w2).heap.size := KB.out.lt
    obtain ⟨o0, o1, o2, o3, o4, of⟩ := KO.out.cells
    obtain ⟨e0, e1, e2, e3, e4, ef⟩ := KB.out.cells
    go_wp2_with fail
    refine bodyPost_ret (v := .tuple #[.agg #[.slice A1 60 c1, .int .i64 f, .int .i64 l, .int .i64 (x : Int), .int .i64 c], .int .i64 (-1)]) (by simp [results, Try.results33, go_sem, e0, e1, e2, e3, e4]) rfl (pushEnd_no Hno.out ⟨A1, c1, rfl, ?_, ?_⟩)
    · refine SlV.wide (lo := w.heap.size + 1 + 1) (hi := w1.heap.size) ?_ (by omega) (by simp [World.setCell]; omega)
      iterate 5 refine SlV.setCell ?_ (by show w.heap.size + 1 < w.heap.size + 1 + 1; omega) _
      exact VA.out
    · iterate 5 refine Below.setCell ?_ (by show w.heap.size ≤ w.heap.size + 1; omega) _
      exact BA.out
  have hib : Tick.inB id 1 1000000000 = true := hid
  have Hid0 := Lib.hid hid
  have Hid1 := Lib.hid hib
  clear hid hib
  go_wp2_with fail
  refine (Tick.in_any id 1 1000000000 _).mono ?_
  rintro e w' ⟨rfl, rfl⟩
  rw [Hid1.out]
  go_wp2_with fail
  refine (specPlace_any A 60 cap ss f l (x : Int) c id lo hi w2 Hn.out hm (HS.out.below (bel_trans B1.out B2.out) Hhi.out) (Nat.le_trans Hhi.out (bel_trans B1.out B2.out).size)).mono ?_
  rintro e w3 ⟨rfl, b3⟩
  have B3 := Lib.hid (bel_trans B2.out b3)
  have Hpl := Lib.hid (placeA_val id Hv.out)
  clear b3 d0 d1 d2 d3 d4 df
  rw [Hpl.out]
  obtain ⟨d0, d1, d2, d3, d4, df⟩ := (K1.out.below B3.out).cells
  by_cases hp : placeF ss us id = -1
  · have hcp : canPush ss f l (x : Int) c id = true := by
      unfold canPush; rw [Hpl.out, Hok.out, Hid0.out, hxb, hp]; rfl
    have h2 := Hcan.out
    rw [hcp] at h2
    cases h2
  · have hcp : canPush ss f l (x : Int) c id = false := by
      unfold canPush; rw [Hpl.out]
      have : (placeF ss us id == -1) = false := by simpa using hp
      rw [this]; simp
    have hpn : 0 ≤ placeF ss us id := by
      unfold placeF at hp ⊢
      split
      · omega
      · next e => rw [e] at hp; exact absurd rfl hp
    clear hp
    generalize placeF ss us id = pl at hpn ⊢
    have KB : Hid (Blk5 w3 (w.heap.size + 1) (.slice none 0 0) (.int .i64 0) (.int .i64 0) (.int .i64 0) (.int .i64 0)) := K2.out.below B3.out
    have KO : Hid (Blk5 w3 w1.heap.size (.slice A1 60 c1) (.int .i64 f) (.int .i64 l) (.int .i64 (x : Int)) (.int .i64 c)) := K3.out.below B3.out
    have BA : Hid (Below w.heap.size w w3) := bel_trans B1.out B3.out
    have VA : Hid (SlV w3 (w.heap.size + 1 + 1) w1.heap.size A1 ss) := V1.out.below B3.out (Nat.le_of_lt K3.out.lt)
    have Hno := Lib.hid hcp
    have z9 : w1.heap.size < (w3).heap.size := KO.out.lt
    have z8 : w.heap.size + 1 < (w3).heap.size := KB.out.lt
    obtain ⟨o0, o1, o2, o3, o4, of⟩ := KO.out.cells
    obtain ⟨e0, e1, e2, e3, e4, ef⟩ := KB.out.cells
    go_wp2_with fail
    refine bodyPost_ret (v := .tuple #[.agg #[.slice A1 60 c1, .int .i64 f, .int .i64 l, .int .i64 (x : Int), .int .i64 c], .int .i64 (-1)]) (by simp [results, Try.results33, go_sem, e0, e1, e2, e3, e4]) rfl (pushEnd_no Hno.out ⟨A1, c1, rfl, ?_, ?_⟩)
    · refine SlV.wide (lo := w.heap.size + 1 + 1) (hi := w1.heap.size) ?_ (by omega) (by simp [World.setCell]; omega)
      iterate 5 refine SlV.setCell ?_ (by show w.heap.size + 1 < w.heap.size + 1 + 1; omega) _
      exact VA.out
    · iterate 5 refine Below.setCell ?_ (by show w.heap.size ≤ w.heap.size + 1; omega) _
      exact BA.out
end Go.Proofs.Ytjbfmagedkmngaa.Que
