/- What the reference's PushBack answers. The reference's PushBack where it pushes. -/
import Derived.Test.YtpjelojmkmednaaLq9
namespace Go.Proofs.Ytpjelojmkmednaa.Que
open Go.RowKit Go.Deep Base Rng

theorem Rd.far {w : World} {b : Nat} {ss : List Sl} (h : Rd w b ss) {p : Addr} (hp : b ≠ p.block) (u : Value) : Rd (w.setCell p u) b ss := h.of_block (Below.heap_setCell w p u b hp)
theorem Rd.slot4 {w : World} {b : Nat} {ss : List Sl} (h : Rd w b ss) {i : Nat} (s : Sl) : Rd (set4 w b i s) b (ss.set i s) := by
  have h0 : RdF w b ss.length (fun i => ss.getD i zSl) := h
  intro j hj
  rw [List.length_set] at hj
  have h1 := h0.set i s j hj
  have he : (ss.set i s).getD j zSl = if j = i then s else ss.getD j zSl := by
    simp only [List.getD_eq_getElem?_getD, List.getElem?_set]
    by_cases e : i = j
    · subst e; simp [hj]
    · have e' : ¬ j = i := fun h => e h.symm
      simp [e, e']
  rw [he]
  exact h1
theorem Rd.nextv {w : World} {b : Nat} {ss : List Sl} (h : Rd w b ss) {i : Nat} (v : Int) : Rd (w.setCell ⟨b, i * 4 + 2, none⟩ (.int .i64 v)) b (ss.set i (wNext (sl ss i) v)) := by
  intro j hj
  rw [List.length_set] at hj
  obtain ⟨h0, h1, h2, h3, h4⟩ := h j hj
  have hs : ∀ {o : Nat} {u : Value}, w.cell? ⟨b, o, none⟩ = some u → (w.cell? ⟨b, o, none⟩).isSome = true := fun h => by rw [h]; rfl
  rw [cell_set (hs h0), cell_set (hs h1), cell_set (hs h2), cell_set (hs h3), if_neg (by omega), if_neg (by omega), if_neg (show ¬ j * 4 + 3 = i * 4 + 2 by omega)]
  by_cases e : i = j
  · subst e
    have he : (ss.set i (wNext (sl ss i) v)).getD i zSl = wNext (sl ss i) v := by simp [List.getD_eq_getElem?_getD, hj]
    rw [he, if_pos rfl]
    exact ⟨h0, h1, rfl, h3, fun k => by rw [World.frozen?_setCell]; exact h4 k⟩
  · have he : (ss.set i (wNext (sl ss i) v)).getD j zSl = ss.getD j zSl := by simp [List.getD_eq_getElem?_getD, e]
    rw [he, if_neg (by omega)]
    exact ⟨h0, h1, h2, h3, fun k => by rw [World.frozen?_setCell]; exact h4 k⟩

set_option maxRecDepth 100000 in
set_option maxHeartbeats 2000000 in
theorem specPush_no (A : Option Addr) (n cap lo hi : Nat) (ss : List Sl) (f l r c id : Int) (w : World) (hn : ss.length = n) (hm : n ≤ 1048576) (h : SlV w lo hi A ss) (hhi : hi ≤ w.heap.size) (hcan : canPush ss f l r c id = false) :
    Calls Try.prog 71 #[.agg #[.slice A n cap, .int .i64 f, .int .i64 l, .int .i64 r, .int .i64 c], .int .i64 id] w (PushEnd w n ss f l r c id) := by
  have Hcan := Lib.hid hcan
  have Hn := Lib.hid hn
  have HS := Lib.hid h
  have Hhi := Lib.hid hhi
  clear h hn hhi hcan
  go_enter Try.func71, Try.ntmps71
  go_wp2_with fail
  have hB0 : Below w.heap.size w ((w.alloc (.cells #[.slice A n cap, .int .i64 f, .int .i64 l, .int .i64 r, .int .i64 c] 26)).alloc (.cells #[.slice none 0 0, .int .i64 0, .int .i64 0, .int .i64 0, .int .i64 0] 26)) := ((Below.refl _ _).alloc (Nat.le_refl _) _).alloc (by simp) _
  refine (copy_any A n cap lo hi f l r c ss _ Hn.out hm (HS.out.below hB0 Hhi.out) (by have := Hhi.out; simp; omega)).mono ?_
  rintro e w1 ⟨A1, c1, rfl, v1, hb1⟩
  have K1' : Hid (Blk5 w1 w.heap.size (.slice A n cap) (.int .i64 f) (.int .i64 l) (.int .i64 r) (.int .i64 c)) := Blk5.below (Blk5.alloc (heap_alloc_new w _) _) hb1
  have K2' : Hid (Blk5 w1 (w.heap.size + 1) (.slice none 0 0) (.int .i64 0) (.int .i64 0) (.int .i64 0) (.int .i64 0)) := by
    have h := heap_alloc_new (w.alloc (.cells #[.slice A n cap, .int .i64 f, .int .i64 l, .int .i64 r, .int .i64 c] 26)) (.cells #[.slice none 0 0, .int .i64 0, .int .i64 0, .int .i64 0, .int .i64 0] 26)
    simp only [World.size_alloc] at h
    exact Blk5.below h hb1
  have B1' := Lib.hid (bel_trans hB0 hb1)
  have V1' : Hid (SlV w1 (w.heap.size + 1 + 1) w1.heap.size A1 ss) := by have h := v1; simp only [World.size_alloc] at h; exact h
  clear hb1 hB0 v1
  obtain ⟨d0, d1, d2, d3, d4, df⟩ := K1'.out.cells
  have zz : w.heap.size < w1.heap.size := K1'.out.lt
  go_wp2_with fail
  obtain ⟨W1, hW1⟩ : ∃ W1, w1.alloc (.cells #[.slice A1 n c1, .int .i64 f, .int .i64 l, .int .i64 r, .int .i64 c] 26) = W1 := ⟨_, rfl⟩
  have K1 : Hid (Blk5 W1 w.heap.size (.slice A n cap) (.int .i64 f) (.int .i64 l) (.int .i64 r) (.int .i64 c)) := by rw [← hW1]; exact K1'.out.alloc _
  have K2 : Hid (Blk5 W1 (w.heap.size + 1) (.slice none 0 0) (.int .i64 0) (.int .i64 0) (.int .i64 0) (.int .i64 0)) := by rw [← hW1]; exact K2'.out.alloc _
  have K3 : Hid (Blk5 W1 w1.heap.size (.slice A1 n c1) (.int .i64 f) (.int .i64 l) (.int .i64 r) (.int .i64 c)) := by rw [← hW1]; exact heap_alloc_new w1 _
  have B1 : Hid (Below w.heap.size w W1) := by rw [← hW1]; exact bel_trans B1'.out (bel_alloc w1 _)
  have V1 : Hid (SlV W1 (w.heap.size + 1 + 1) w1.heap.size A1 ss) := by rw [← hW1]; exact V1'.out.below (bel_alloc w1 _) (Nat.le_refl _)
  clear K1' K2' B1' V1'
  rw [hW1]
  clear hW1 d0 d1 d2 d3 d4 df zz
  refine (specQueueOk_any A n cap lo hi f l r c ss W1 Hn.out hm (HS.out.below B1.out Hhi.out) (Nat.le_trans Hhi.out B1.out.size)).mono ?_
  rintro e w2 ⟨rfl, b2⟩
  have B2 := Lib.hid b2
  clear b2
  obtain ⟨d0, d1, d2, d3, d4, df⟩ := (K1.out.below B2.out).cells
  cases hok : okQ ss f l r c
  · have hcp : canPush ss f l r c id = false := by unfold canPush; rw [hok]; rfl
    clear hok
    have KB : Hid (Blk5 w2 (w.heap.size + 1) (.slice none 0 0) (.int .i64 0) (.int .i64 0) (.int .i64 0) (.int .i64 0)) := K2.out.below B2.out
    have KO : Hid (Blk5 w2 w1.heap.size (.slice A1 n c1) (.int .i64 f) (.int .i64 l) (.int .i64 r) (.int .i64 c)) := K3.out.below B2.out
    have BA : Hid (Below w.heap.size w w2) := bel_trans B1.out B2.out
    have VA : Hid (SlV w2 (w.heap.size + 1 + 1) w1.heap.size A1 ss) := V1.out.below B2.out (Nat.le_of_lt K3.out.lt)
    have Hno := Lib.hid hcp
    have z9 : w1.heap.size < (w2).heap.size := KO.out.lt
    have z8 : w.heap.size + 1 < (w2).heap.size := KB.out.lt
    obtain ⟨o0, o1, o2, o3, o4, of⟩ := KO.out.cells
    obtain ⟨e0, e1, e2, e3, e4, ef⟩ := KB.out.cells
    go_wp2_with fail
    refine bodyPost_ret (v := .tuple #[.agg #[.slice A1 n c1, .int .i64 f, .int .i64 l, .int .i64 r, .int .i64 c], .int .i64 (-1)]) (by simp [results, Try.results71, go_sem, e0, e1, e2, e3, e4]) rfl (pushEnd_no Hno.out ⟨A1, c1, rfl, ?_, ?_⟩)
    · refine SlV.wide (lo := w.heap.size + 1 + 1) (hi := w1.heap.size) ?_ (by omega) (by simp [World.setCell]; omega)
      iterate 5 refine SlV.setCell ?_ (by show w.heap.size + 1 < w.heap.size + 1 + 1; omega) _
      exact VA.out
    · iterate 5 refine Below.setCell ?_ (by show w.heap.size ≤ w.heap.size + 1; omega) _
      exact BA.out
  obtain ⟨us, fs, v⟩ := ok_val hok
  have Hok := Lib.hid hok
  clear hok
  have Hv := Lib.hid v
  have hnn := Hn.out
  rw [v.len] at hnn
  subst hnn
  clear v
  by_cases hr : r = -1
  · subst hr
    have hcp : canPush ss f l (-1) c id = false := by unfold canPush; simp
    have KB : Hid (Blk5 w2 (w.heap.size + 1) (.slice none 0 0) (.int .i64 0) (.int .i64 0) (.int .i64 0) (.int .i64 0)) := K2.out.below B2.out
    have KO : Hid (Blk5 w2 w1.heap.size (.slice A1 60 c1) (.int .i64 f) (.int .i64 l) (.int .i64 (-1)) (.int .i64 c)) := K3.out.below B2.out
    have BA : Hid (Below w.heap.size w w2) := bel_trans B1.out B2.out
    have VA : Hid (SlV w2 (w.heap.size + 1 + 1) w1.heap.size A1 ss) := V1.out.below B2.out (Nat.le_of_lt K3.out.lt)
    have Hno := Lib.hid hcp
    have z9 : w1.heap.size < (w2).heap.size := KO.out.lt
    have z8 : w.heap.size + 1 < (w2).heap.size := KB.out.lt
    obtain ⟨o0, o1, o2, o3, o4, of⟩ := KO.out.cells
    obtain ⟨e0, e1, e2, e3, e4, ef⟩ := KB.out.cells
    go_wp2_with fail
    refine bodyPost_ret (v := .tuple #[.agg #[.slice A1 60 c1, .int .i64 f, .int .i64 l, .int .i64 (-1), .int .i64 c], .int .i64 (-1)]) (by simp [results, Try.results71, go_sem, e0, e1, e2, e3, e4]) rfl (pushEnd_no Hno.out ⟨A1, c1, rfl, ?_, ?_⟩)
    · refine SlV.wide (lo := w.heap.size + 1 + 1) (hi := w1.heap.size) ?_ (by omega) (by simp [World.setCell]; omega)
      iterate 5 refine SlV.setCell ?_ (by show w.heap.size + 1 < w.heap.size + 1 + 1; omega) _
      exact VA.out
    · iterate 5 refine Below.setCell ?_ (by show w.heap.size ≤ w.heap.size + 1; omega) _
      exact BA.out
  obtain ⟨x, fs', rfl, rfl⟩ : ∃ (x : Nat) (fs' : List Nat), fs = x :: fs' ∧ r = (x : Int) := by
    have h := Hv.out.fch
    cases fs with
    | nil => exact absurd h hr
    | cons x t => exact ⟨x, t, rfl, h.1⟩
  have hxb : ((x : Int) == -1) = false := by simp
  clear hr
  have hx : x < 60 := Hv.out.lt x (by simp)
  cases hid : idB id
  · have hcp : canPush ss f l (x : Int) c id = false := by unfold canPush; rw [hid]; simp
    have hib : Tick.inB id 1 1000000000 = false := hid
    have Hid1 := Lib.hid hib
    clear hid hib
    go_wp2_with fail
    refine (Tick.in_any id 1 1000000000 _).mono ?_
    rintro e w' ⟨rfl, rfl⟩
    rw [Hid1.out]
    have KB : Hid (Blk5 w2 (w.heap.size + 1) (.slice none 0 0) (.int .i64 0) (.int .i64 0) (.int .i64 0) (.int .i64 0)) := K2.out.below B2.out
    have KO : Hid (Blk5 w2 w1.heap.size (.slice A1 60 c1) (.int .i64 f) (.int .i64 l) (.int .i64 (x : Int)) (.int .i64 c)) := K3.out.below B2.out
    have BA : Hid (Below w.heap.size w w2) := bel_trans B1.out B2.out
    have VA : Hid (SlV w2 (w.heap.size + 1 + 1) w1.heap.size A1 ss) := V1.out.below B2.out (Nat.le_of_lt K3.out.lt)
    have Hno := Lib.hid hcp
    have z9 : w1.heap.size < (w2).heap.size := KO.out.lt
    have z8 : w.heap.size + 1 < (w2).heap.size := KB.out.lt
    obtain ⟨o0, o1, o2, o3, o4, of⟩ := KO.out.cells
    obtain ⟨e0, e1, e2, e3, e4, ef⟩ := KB.out.cells
    go_wp2_with fail
    refine bodyPost_ret (v := .tuple #[.agg #[.slice A1 60 c1, .int .i64 f, .int .i64 l, .int .i64 (x : Int), .int .i64 c], .int .i64 (-1)]) (by simp [results, Try.results71, go_sem, e0, e1, e2, e3, e4]) rfl (pushEnd_no Hno.out ⟨A1, c1, rfl, ?_, ?_⟩)
    · refine SlV.wide (lo := w.heap.size + 1 + 1) (hi := w1.heap.size) ?_ (by omega) (by simp [World.setCell]; omega)
      iterate 5 refine SlV.setCell ?_ (by show w.heap.size + 1 < w.heap.size + 1 + 1; omega) _
      exact VA.out
    · iterate 5 refine Below.setCell ?_ (by show w.heap.size ≤ w.heap.size + 1; omega) _
      exact BA.out
  have hib : Tick.inB id 1 1000000000 = true := hid
  have Hid0 := Lib.hid hid
  have Hid1 := Lib.hid hib
  clear hid hib
  go_wp2_with fail
  refine (Tick.in_any id 1 1000000000 _).mono ?_
  rintro e w' ⟨rfl, rfl⟩
  rw [Hid1.out]
  go_wp2_with fail
  refine (specPlace_any A 60 cap ss f l (x : Int) c id lo hi w2 Hn.out hm (HS.out.below (bel_trans B1.out B2.out) Hhi.out) (Nat.le_trans Hhi.out (bel_trans B1.out B2.out).size)).mono ?_
  rintro e w3 ⟨rfl, b3⟩
  have B3 := Lib.hid (bel_trans B2.out b3)
  have Hpl := Lib.hid (placeA_val id Hv.out)
  clear b3 d0 d1 d2 d3 d4 df
  rw [Hpl.out]
  obtain ⟨d0, d1, d2, d3, d4, df⟩ := (K1.out.below B3.out).cells
  by_cases hp : placeF ss us id = -1
  · have hcp : canPush ss f l (x : Int) c id = true := by
      unfold canPush; rw [Hpl.out, Hok.out, Hid0.out, hxb, hp]; rfl
    have h2 := Hcan.out
    rw [hcp] at h2
    cases h2
  · have hcp : canPush ss f l (x : Int) c id = false := by
      unfold canPush; rw [Hpl.out]
      have : (placeF ss us id == -1) = false := by simpa using hp
      rw [this]; simp
    have hpn : 0 ≤ placeF ss us id := by
      unfold placeF at hp ⊢
      split
      · omega
      · next e => rw [e] at hp; exact absurd rfl hp
    clear hp
    generalize placeF ss us id = pl at hpn ⊢
    have KB : Hid (Blk5 w3 (w.heap.size + 1) (.slice none 0 0) (.int .i64 0) (.int .i64 0) (.int .i64 0) (.int .i64 0)) := K2.out.below B3.out
    have KO : Hid (Blk5 w3 w1.heap.size (.slice A1 60 c1) (.int .i64 f) (.int .i64 l) (.int .i64 (x : Int)) (.int .i64 c)) := K3.out.below B3.out
    have BA : Hid (Below w.heap.size w w3) := bel_trans B1.out B3.out
    have VA : Hid (SlV w3 (w.heap.size + 1 + 1) w1.heap.size A1 ss) := V1.out.below B3.out (Nat.le_of_lt K3.out.lt)
    have Hno := Lib.hid hcp
    have z9 : w1.heap.size < (w3).heap.size := KO.out.lt
    have z8 : w.heap.size + 1 < (w3).heap.size := KB.out.lt
    obtain ⟨o0, o1, o2, o3, o4, of⟩ := KO.out.cells
    obtain ⟨e0, e1, e2, e3, e4, ef⟩ := KB.out.cells
    go_wp2_with fail
    refine bodyPost_ret (v := .tuple #[.agg #[.slice A1 60 c1, .int .i64 f, .int .i64 l, .int .i64 (x : Int), .int .i64 c], .int .i64 (-1)]) (by simp [results, Try.results71, go_sem, e0, e1, e2, e3, e4]) rfl (pushEnd_no Hno.out ⟨A1, c1, rfl, ?_, ?_⟩)
    · refine SlV.wide (lo := w.heap.size + 1 + 1) (hi := w1.heap.size) ?_ (by omega) (by simp [World.setCell]; omega)
      iterate 5 refine SlV.setCell ?_ (by show w.heap.size + 1 < w.heap.size + 1 + 1; omega) _
      exact VA.out
    · iterate 5 refine Below.setCell ?_ (by show w.heap.size ≤ w.heap.size + 1; omega) _
      exact BA.out
end Go.Proofs.Ytpjelojmkmednaa.Que

namespace Go.Proofs.Ytpjelojmkmednaa.Que
open Go.RowKit Go.Deep Base Rng

set_option maxRecDepth 100000 in
set_option maxHeartbeats 6000000 in
theorem specPush_yes (A : Option Addr) (n cap lo hi : Nat) (ss : List Sl) (f l r c id : Int) (w : World) (hn : ss.length = n) (hm : n ≤ 1048576) (h : SlV w lo hi A ss) (hhi : hi ≤ w.heap.size) (hcan : canPush ss f l r c id = true) :
    Calls Try.prog 71 #[.agg #[.slice A n cap, .int .i64 f, .int .i64 l, .int .i64 r, .int .i64 c], .int .i64 id] w (PushEnd w n ss f l r c id) := by
  obtain ⟨us, x, fs', rfl, v, hok, hid, hpl⟩ : ∃ (us : List Nat) (x : Nat) (fs' : List Nat), r = (x : Int) ∧ Val ss f l r c us (x :: fs') ∧ okQ ss f l r c = true ∧ idB id = true ∧ placeA ss f l r c id = -1 := by
    have h0 := hcan
    unfold canPush at h0
    simp only [Bool.and_eq_true, Bool.not_eq_true', beq_eq_false_iff_ne, beq_iff_eq] at h0
    obtain ⟨⟨⟨h1, h2⟩, h3⟩, h4⟩ := h0
    obtain ⟨us, fs, v⟩ := ok_val h1
    cases fs with
    | nil => exact absurd v.fch h2
    | cons x t => exact ⟨us, x, t, v.fch.1, v, h1, h3, h4⟩
  have Hv := Lib.hid v
  have Hok := Lib.hid hok
  have Hid1 : Hid (Tick.inB id 1 1000000000 = true) := hid
  have Hpl := Lib.hid hpl
  have Hcp := Lib.hid hcan
  have hn' := hn
  rw [v.len] at hn'
  subst hn'
  have hx : x < 60 := v.lt x (by simp)
  have hxb : ((x : Int) == -1) = false := by simp
  clear v hok hid hpl hcan
  have Hn := Lib.hid hn
  have HS := Lib.hid h
  have Hhi := Lib.hid hhi
  clear h hn hhi
  go_enter Try.func71, Try.ntmps71
  go_wp2_with fail
  have hB0 : Below w.heap.size w ((w.alloc (.cells #[.slice A 60 cap, .int .i64 f, .int .i64 l, .int .i64 (x : Int), .int .i64 c] 26)).alloc (.cells #[.slice none 0 0, .int .i64 0, .int .i64 0, .int .i64 0, .int .i64 0] 26)) := ((Below.refl _ _).alloc (Nat.le_refl _) _).alloc (by simp) _
  refine (copy_any A 60 cap lo hi f l (x : Int) c ss _ Hn.out hm (HS.out.below hB0 Hhi.out) (by have := Hhi.out; simp; omega)).mono ?_
  rintro e w1 ⟨A1, c1, rfl, v1, hb1⟩
  have K1' : Hid (Blk5 w1 w.heap.size (.slice A 60 cap) (.int .i64 f) (.int .i64 l) (.int .i64 (x : Int)) (.int .i64 c)) := Blk5.below (Blk5.alloc (heap_alloc_new w _) _) hb1
  have K2' : Hid (Blk5 w1 (w.heap.size + 1) (.slice none 0 0) (.int .i64 0) (.int .i64 0) (.int .i64 0) (.int .i64 0)) := by
    have h := heap_alloc_new (w.alloc (.cells #[.slice A 60 cap, .int .i64 f, .int .i64 l, .int .i64 (x : Int), .int .i64 c] 26)) (.cells #[.slice none 0 0, .int .i64 0, .int .i64 0, .int .i64 0, .int .i64 0] 26)
    simp only [World.size_alloc] at h
    exact Blk5.below h hb1
  have B1' := Lib.hid (bel_trans hB0 hb1)
  have V1' : Hid (SlV w1 (w.heap.size + 1 + 1) w1.heap.size A1 ss) := by have h := v1; simp only [World.size_alloc] at h; exact h
  clear hb1 hB0 v1
  obtain ⟨d0, d1, d2, d3, d4, df⟩ := K1'.out.cells
  have zz : w.heap.size < w1.heap.size := K1'.out.lt
  go_wp2_with fail
  obtain ⟨W1, hW1⟩ : ∃ W1, w1.alloc (.cells #[.slice A1 60 c1, .int .i64 f, .int .i64 l, .int .i64 (x : Int), .int .i64 c] 26) = W1 := ⟨_, rfl⟩
  have K1 : Hid (Blk5 W1 w.heap.size (.slice A 60 cap) (.int .i64 f) (.int .i64 l) (.int .i64 (x : Int)) (.int .i64 c)) := by rw [← hW1]; exact K1'.out.alloc _
  have K2 : Hid (Blk5 W1 (w.heap.size + 1) (.slice none 0 0) (.int .i64 0) (.int .i64 0) (.int .i64 0) (.int .i64 0)) := by rw [← hW1]; exact K2'.out.alloc _
  have K3 : Hid (Blk5 W1 w1.heap.size (.slice A1 60 c1) (.int .i64 f) (.int .i64 l) (.int .i64 (x : Int)) (.int .i64 c)) := by rw [← hW1]; exact heap_alloc_new w1 _
  have B1 : Hid (Below w.heap.size w W1) := by rw [← hW1]; exact bel_trans B1'.out (bel_alloc w1 _)
  have V1 : Hid (SlV W1 (w.heap.size + 1 + 1) w1.heap.size A1 ss) := by rw [← hW1]; exact V1'.out.below (bel_alloc w1 _) (Nat.le_refl _)
  clear K1' K2' B1' V1'
  rw [hW1]
  clear hW1 d0 d1 d2 d3 d4 df zz
  refine (specQueueOk_any A 60 cap lo hi f l (x : Int) c ss W1 Hn.out hm (HS.out.below B1.out Hhi.out) (Nat.le_trans Hhi.out B1.out.size)).mono ?_
  rintro e w2 ⟨rfl, b2⟩
  have B2 := Lib.hid b2
  clear b2
  obtain ⟨d0, d1, d2, d3, d4, df⟩ := (K1.out.below B2.out).cells
  rw [Hok.out]
  go_wp2_with fail
  refine (Tick.in_any id 1 1000000000 _).mono ?_
  rintro e w' ⟨rfl, rfl⟩
  rw [Hid1.out]
  go_wp2_with fail
  refine (specPlace_any A 60 cap ss f l (x : Int) c id lo hi w2 Hn.out hm (HS.out.below (bel_trans B1.out B2.out) Hhi.out) (Nat.le_trans Hhi.out (bel_trans B1.out B2.out).size)).mono ?_
  rintro e w3 ⟨rfl, b3⟩
  have B3 := Lib.hid (bel_trans B2.out b3)
  clear b3 d0 d1 d2 d3 d4 df
  rw [Hpl.out]
  obtain ⟨d0, d1, d2, d3, d4, df⟩ := (K1.out.below B3.out).cells
  have Hl : Hid (l = -1 ∨ ∃ y : Nat, l = (y : Int) ∧ y < 60) := by
    have hs := Hv.out.seg
    by_cases he : us = []
    · subst he; exact .inl hs.1
    · obtain ⟨u', y, e1, e2, _⟩ := seg_last hs he
      exact .inr ⟨y, e2, Hv.out.lt y (by rw [e1]; simp)⟩
  have Hc : Hid (0 ≤ c ∧ c ≤ 60) := by
    have h1 := Hv.out.cnt
    have h2 := Hv.out.full
    rw [List.length_append] at h2
    constructor <;> omega
  have q1 : IntKind.i64.wrap (c + 1) = c + 1 := IntWalk.i64_in _ (by have := Hc.out; omega)
  have BA := Lib.hid (bel_trans B1.out B3.out)
  obtain ⟨g, rfl, hg1, hg2, hrd⟩ := (HS.out.below BA.out Hhi.out) (by rw [Hv.out.len]; omega)
  obtain ⟨g1, rfl, hk1, hk2, hrd1⟩ := (V1.out.below B3.out (Nat.le_of_lt K3.out.lt)) (by rw [Hv.out.len]; omega)
  have KB := Lib.hid (K2.out.below B3.out)
  have KO := Lib.hid (K3.out.below B3.out)
  have hgw := Hhi.out
  have n1 : g1 ≠ w1.heap.size := by omega
  have n2 : g ≠ w1.heap.size := by omega
  have n3 : g ≠ g1 := by omega
  have n4 : w.heap.size ≠ w1.heap.size := by omega
  have n5 : w.heap.size + 1 ≠ w1.heap.size := by omega
  have n6 : w.heap.size ≠ g1 := by omega
  have n7 : w.heap.size + 1 ≠ g1 := by omega
  obtain ⟨o0, o1, o2, o3, o4, of⟩ := KO.out.cells
  obtain ⟨e0, e1, e2, e3, e4, ef⟩ := KB.out.cells
  have hx0 : (0 : Int) ≤ (x : Int) := by omega
  have hx1 : (x : Int) < 60 := by omega
  obtain ⟨_, _, c2, _, _⟩ := hrd x (by rw [Hv.out.len]; exact hx)
  obtain ⟨t0, t1, t2, t3, tf⟩ := hrd1 x (by rw [Hv.out.len]; exact hx)
  have Hrd1 := Lib.hid hrd1
  clear hrd hrd1
  obtain ⟨nx, hnx⟩ : ∃ nx, (ss.getD x zSl).next = nx := ⟨_, rfl⟩
  rw [hnx] at c2
  have Hnx : Hid ((sl ss x).next = nx) := hnx
  clear hnx t0 t1 t2 t3
  have hzz : w.heap.size + 1 < w3.heap.size := KB.out.lt
  rcases Hl.out with rfl | ⟨y, rfl, hy⟩
  · clear Hl
    obtain ⟨t0, t1, t2, t3, _⟩ := Hrd1.out x (by rw [Hv.out.len]; exact hx)
    generalize ss.getD x zSl = sx at t0 t1 t2 t3
    go_wp2_with fail
    refine bodyPost_ret (v := .tuple #[.agg #[.slice (some ⟨g1, 0, none⟩) 60 c1, .int .i64 (x : Int), .int .i64 (x : Int), .int .i64 nx, .int .i64 (c + 1)], .int .i64 (x : Int)]) (by simp [results, Try.results71, go_sem, e0, e1, e2, e3, e4]) rfl (pushEnd_yes Hcp.out ⟨some ⟨g1, 0, none⟩, c1, by rw [if_pos rfl, Int.toNat_natCast, Hnx.out], ?_, ?_⟩)
    · intro _
      refine ⟨g1, rfl, by omega, ?_, ?_⟩
      · have := KO.out.lt; simp [World.setCell]; omega
      · iterate 5 refine Rd.far ?_ (by show g1 ≠ w.heap.size + 1; omega) _
        iterate 3 refine Rd.far ?_ (by show g1 ≠ w1.heap.size; omega) _
        have h5 := (Hrd1.out.far (p := ⟨w1.heap.size, 3, none⟩) (by show g1 ≠ w1.heap.size; omega) (.int .i64 nx)).slot4 (i := x) ⟨id, -1, -1, true⟩
        unfold pushS setNext
        rw [if_pos rfl, Int.toNat_natCast]
        exact h5
    · iterate 5 refine Below.setCell ?_ (by show w.heap.size ≤ w.heap.size + 1; omega) _
      iterate 3 refine Below.setCell ?_ (by show w.heap.size ≤ w1.heap.size; omega) _
      iterate 4 refine Below.setCell ?_ (by show w.heap.size ≤ g1; omega) _
      exact BA.out.setCell (by show w.heap.size ≤ w1.heap.size; omega) _
  · have hyx : y ≠ x := fun e => by
      have hs := Hv.out.seg
      have hne : us ≠ [] := fun he => by
        subst he
        have h1 : ((y : Int)) = -1 := hs.1
        omega
      obtain ⟨u', z, e1, e2, _⟩ := seg_last hs hne
      have hz : y = z := by omega
      have hnd := List.nodup_append.1 Hv.out.nd
      exact hnd.2.2 z (by rw [e1]; simp) x (by simp) (by omega)
    have hy0 : (0 : Int) ≤ (y : Int) := by omega
    have hy1 : (y : Int) < 60 := by omega
    have hyn : ((y : Int) == -1) = false := by simp
    have f0 : y * 4 + 2 ≠ x * 4 := by omega
    have f1 : y * 4 + 2 ≠ x * 4 + 1 := by omega
    have f2 : y * 4 ≠ x * 4 := by omega
    have f3 : y * 4 + 2 ≠ x * 4 + 3 := by omega
    have f0' : x * 4 ≠ y * 4 + 2 := by omega
    have f1' : x * 4 + 1 ≠ y * 4 + 2 := by omega
    have f2' : x * 4 ≠ y * 4 := by omega
    have f3' : x * 4 + 3 ≠ y * 4 + 2 := by omega
    have f4 : y ≠ x := hyx
    have f4' : x ≠ y := fun e => hyx e.symm
    clear Hl hyx
    obtain ⟨t0, t1, t2, t3, _⟩ := Hrd1.out x (by rw [Hv.out.len]; exact hx)
    obtain ⟨_, _, u2, _, _⟩ := Hrd1.out y (by rw [Hv.out.len]; exact hy)
    generalize ss.getD x zSl = sx at t0 t1 t2 t3
    generalize ss.getD y zSl = sy at u2
    go_wp2_with fail
    refine bodyPost_ret (v := .tuple #[.agg #[.slice (some ⟨g1, 0, none⟩) 60 c1, .int .i64 f, .int .i64 (x : Int), .int .i64 nx, .int .i64 (c + 1)], .int .i64 (x : Int)]) (by simp [results, Try.results71, go_sem, e0, e1, e2, e3, e4]) rfl (pushEnd_yes Hcp.out ⟨some ⟨g1, 0, none⟩, c1, by rw [if_neg (by omega), Int.toNat_natCast, Hnx.out], ?_, ?_⟩)
    · intro _
      refine ⟨g1, rfl, by omega, ?_, ?_⟩
      · have := KO.out.lt; simp [World.setCell]; omega
      · iterate 5 refine Rd.far ?_ (by show g1 ≠ w.heap.size + 1; omega) _
        iterate 2 refine Rd.far ?_ (by show g1 ≠ w1.heap.size; omega) _
        have h5 := ((Hrd1.out.far (p := ⟨w1.heap.size, 3, none⟩) (by show g1 ≠ w1.heap.size; omega) (.int .i64 nx)).slot4 (i := x) ⟨id, (y : Int), -1, true⟩).nextv (i := y) (x : Int)
        unfold pushS setNext
        rw [if_neg (by omega)]
        simp only [Int.toNat_natCast]
        exact h5
    · iterate 5 refine Below.setCell ?_ (by show w.heap.size ≤ w.heap.size + 1; omega) _
      iterate 2 refine Below.setCell ?_ (by show w.heap.size ≤ w1.heap.size; omega) _
      iterate 5 refine Below.setCell ?_ (by show w.heap.size ≤ g1; omega) _
      exact BA.out.setCell (by show w.heap.size ≤ w1.heap.size; omega) _

theorem specPush_any (A : Option Addr) (n cap lo hi : Nat) (ss : List Sl) (f l r c id : Int) (w : World) (hn : ss.length = n) (hm : n ≤ 1048576) (h : SlV w lo hi A ss) (hhi : hi ≤ w.heap.size) :
    Calls Try.prog 71 #[.agg #[.slice A n cap, .int .i64 f, .int .i64 l, .int .i64 r, .int .i64 c], .int .i64 id] w (PushEnd w n ss f l r c id) := by
  cases hc : canPush ss f l r c id
  · exact specPush_no A n cap lo hi ss f l r c id w hn hm h hhi hc
  · exact specPush_yes A n cap lo hi ss f l r c id w hn hm h hhi hc
end Go.Proofs.Ytpjelojmkmednaa.Que
