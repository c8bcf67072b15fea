/- What the program's PushBack answers. -/
import Derived.Test.YtpjelojmkmednaaLq8
namespace Go.Proofs.Ytpjelojmkmednaa.Que
open Go.RowKit Go.Deep Base Rng

/-- A new queue comes back, and a second result. -/
def NewQ2 (w : World) (n : Nat) (ss : List Sl) (f l r c : Int) (v : Value) (e : Ending) (w' : World) : Prop :=
  ∃ A cap, e = .returned (.tuple #[.agg #[.slice A n cap, .int .i64 f, .int .i64 l, .int .i64 r, .int .i64 c], v]) ∧ SlV w' w.heap.size w'.heap.size A ss ∧ Below w.heap.size w w'

def canPush (ss : List Sl) (f l r c id : Int) : Bool := okQ ss f l r c && !(r == -1) && idB id && (placeA ss f l r c id == -1)

def PushEnd (w : World) (n : Nat) (ss : List Sl) (f l r c id : Int) (e : Ending) (w' : World) : Prop :=
  if canPush ss f l r c id = true then NewQ2 w n (pushS ss l r id) (if l = -1 then r else f) r (sl ss r.toNat).next (c + 1) (.int .i64 r) e w'
  else NewQ2 w n ss f l r c (.int .i64 (-1)) e w'

theorem pushEnd_no {w : World} {n : Nat} {ss : List Sl} {f l r c id : Int} {e : Ending} {w' : World} (h : canPush ss f l r c id = false) (k : NewQ2 w n ss f l r c (.int .i64 (-1)) e w') : PushEnd w n ss f l r c id e w' := by
  unfold PushEnd; rw [if_neg (by rw [h]; simp)]; exact k
theorem pushEnd_yes {w : World} {n : Nat} {ss : List Sl} {f l r c id : Int} {e : Ending} {w' : World} (h : canPush ss f l r c id = true) (k : NewQ2 w n (pushS ss l r id) (if l = -1 then r else f) r (sl ss r.toNat).next (c + 1) (.int .i64 r) e w') : PushEnd w n ss f l r c id e w' := by
  unfold PushEnd; rw [if_pos h]; exact k

set_option maxRecDepth 100000 in
set_option maxHeartbeats 2000000 in
theorem implPush_any (A : Option Addr) (n cap lo hi : Nat) (ss : List Sl) (f l r c id : Int) (w : World) (hn : ss.length = n) (hm : n ≤ 1048576) (h : SlV w lo hi A ss) (hhi : hi ≤ w.heap.size) :
    Calls Try.prog 42 #[.agg #[.slice A n cap, .int .i64 f, .int .i64 l, .int .i64 r, .int .i64 c], .int .i64 id] w (PushEnd w n ss f l r c id) := by
  have Hn := Lib.hid hn
  have HS := Lib.hid h
  have Hhi := Lib.hid hhi
  clear h hn hhi
  go_enter Try.func42, Try.ntmps42
  go_wp2_with fail
  have hB0 : Below w.heap.size w ((w.alloc (.cells #[.slice A n cap, .int .i64 f, .int .i64 l, .int .i64 r, .int .i64 c] 26)).alloc (.cells #[.slice none 0 0, .int .i64 0, .int .i64 0, .int .i64 0, .int .i64 0] 26)) := ((Below.refl _ _).alloc (Nat.le_refl _) _).alloc (by simp) _
  refine (linksOf_any A n cap ss f l r c lo hi _ Hn.out (HS.out.below hB0 Hhi.out) (by have := Hhi.out; simp; omega)).mono ?_
  rintro e w1 ⟨s', f', l', r', c', rfl, heq, hb1⟩
  have K1' : Hid (Blk5 w1 w.heap.size (.slice A n cap) (.int .i64 f) (.int .i64 l) (.int .i64 r) (.int .i64 c)) := Blk5.below (Blk5.alloc (heap_alloc_new w _) _) hb1
  have K2' : Hid (Blk5 w1 (w.heap.size + 1) (.slice none 0 0) (.int .i64 0) (.int .i64 0) (.int .i64 0) (.int .i64 0)) := by
    have h := heap_alloc_new (w.alloc (.cells #[.slice A n cap, .int .i64 f, .int .i64 l, .int .i64 r, .int .i64 c] 26)) (.cells #[.slice none 0 0, .int .i64 0, .int .i64 0, .int .i64 0, .int .i64 0] 26)
    simp only [World.size_alloc] at h
    exact Blk5.below h hb1
  have B1' := Lib.hid (bel_trans hB0 hb1)
  have Heq := Lib.hid heq
  clear hb1 heq hB0
  have hsc := store_links w1 Try.zeroCells94 (lkA s' f' l' r' c') (by rw [zero_links, lkA_size]) s' f' l' r' c' rfl
  have hsz := lkA_size s' f' l' r' c'
  have K1 : Hid (Blk5 (w1.alloc (.cells (lkA s' f' l' r' c') 94)) w.heap.size (.slice A n cap) (.int .i64 f) (.int .i64 l) (.int .i64 r) (.int .i64 c)) := K1'.out.alloc _
  have K2 : Hid (Blk5 (w1.alloc (.cells (lkA s' f' l' r' c') 94)) (w.heap.size + 1) (.slice none 0 0) (.int .i64 0) (.int .i64 0) (.int .i64 0) (.int .i64 0)) := K2'.out.alloc _
  have B1 : Hid (Below w.heap.size w (w1.alloc (.cells (lkA s' f' l' r' c') 94))) := bel_trans B1'.out (bel_alloc w1 _)
  clear K1' K2' B1'
  obtain ⟨d0, d1, d2, d3, d4, df⟩ := K1.out.cells
  cases hok : okQ ss f l r c
  · have hcp : canPush ss f l r c id = false := by unfold canPush; rw [hok]; rfl
    clear hok
    have KA : Hid (Blk5 (w1.alloc (.cells (lkA s' f' l' r' c') 94)) w.heap.size (.slice A n cap) (.int .i64 f) (.int .i64 l) (.int .i64 r) (.int .i64 c)) := K1.out.below (Below.refl _ _)
    have KB : Hid (Blk5 (w1.alloc (.cells (lkA s' f' l' r' c') 94)) (w.heap.size + 1) (.slice none 0 0) (.int .i64 0) (.int .i64 0) (.int .i64 0) (.int .i64 0)) := K2.out.below (Below.refl _ _)
    have BA : Hid (Below w.heap.size w (w1.alloc (.cells (lkA s' f' l' r' c') 94))) := bel_trans B1.out (Below.refl _ _)
    have Hno := Lib.hid hcp
    clear d0 d1 d2 d3 d4 df
    obtain ⟨d0, d1, d2, d3, d4, df⟩ := KA.out.cells
    go_wp2_with fail
    refine (unchanged_any A n cap lo hi ss f l r c (w1.alloc (.cells (lkA s' f' l' r' c') 94)) Hn.out hm (HS.out.below BA.out Hhi.out) (Nat.le_trans Hhi.out BA.out.size)).mono ?_
    rintro e w9 ⟨A9, c9, rfl, v9, b9⟩
    have B9 := Lib.hid (bel_trans BA.out b9)
    have z9 : w.heap.size + 1 < ((w1.alloc (.cells (lkA s' f' l' r' c') 94))).heap.size := KB.out.lt
    have KC := Lib.hid (KB.out.below b9)
    have V9 := Lib.hid v9
    clear b9 v9 d0 d1 d2 d3 d4 df
    obtain ⟨e0, e1, e2, e3, e4, ef⟩ := KC.out.cells
    go_wp2_with fail
    refine bodyPost_ret (v := .tuple #[.agg #[.slice A9 n c9, .int .i64 f, .int .i64 l, .int .i64 r, .int .i64 c], .int .i64 (-1)]) (by simp [results, Try.results42, go_sem, e0, e1, e2, e3, e4]) rfl (pushEnd_no Hno.out ⟨A9, c9, rfl, ?_, ?_⟩)
    · refine SlV.wide (lo := ((w1.alloc (.cells (lkA s' f' l' r' c') 94))).heap.size) (hi := w9.heap.size) ?_ (by omega) (by simp [World.setCell])
      iterate 5 refine SlV.setCell ?_ (by exact z9) _
      exact V9.out
    · iterate 5 refine Below.setCell ?_ (by show w.heap.size ≤ w.heap.size + 1; omega) _
      exact B9.out
  obtain ⟨us, fs, v⟩ := ok_val hok
  have Hok := Lib.hid hok
  clear hok
  obtain ⟨rfl, rfl, rfl, rfl, rfl⟩ := Heq.out v.len
  have Hv := Lib.hid v
  have hnn := Hn.out
  rw [v.len] at hnn
  subst hnn
  clear v Heq
  have hL : Lk (w1.alloc (.cells (lkA s' f' l' r' c') 94)) w1.heap.size s' f' l' r' c' := heap_alloc_new w1 _
  obtain ⟨g0, g1, g2, g3, gf⟩ := hL.nums
  have HL := Lib.hid hL
  clear hL
  by_cases hr : r' = -1
  · subst hr
    have hcp : canPush s' f' l' (-1) c' id = false := by unfold canPush; simp
    have KA : Hid (Blk5 (w1.alloc (.cells (lkA s' f' l' (-1) c') 94)) w.heap.size (.slice A 60 cap) (.int .i64 f') (.int .i64 l') (.int .i64 (-1)) (.int .i64 c')) := K1.out.below (Below.refl _ _)
    have KB : Hid (Blk5 (w1.alloc (.cells (lkA s' f' l' (-1) c') 94)) (w.heap.size + 1) (.slice none 0 0) (.int .i64 0) (.int .i64 0) (.int .i64 0) (.int .i64 0)) := K2.out.below (Below.refl _ _)
    have BA : Hid (Below w.heap.size w (w1.alloc (.cells (lkA s' f' l' (-1) c') 94))) := bel_trans B1.out (Below.refl _ _)
    have Hno := Lib.hid hcp
    clear d0 d1 d2 d3 d4 df
    obtain ⟨d0, d1, d2, d3, d4, df⟩ := KA.out.cells
    go_wp2_with fail
    refine (unchanged_any A 60 cap lo hi s' f' l' (-1) c' (w1.alloc (.cells (lkA s' f' l' (-1) c') 94)) Hn.out hm (HS.out.below BA.out Hhi.out) (Nat.le_trans Hhi.out BA.out.size)).mono ?_
    rintro e w9 ⟨A9, c9, rfl, v9, b9⟩
    have B9 := Lib.hid (bel_trans BA.out b9)
    have z9 : w.heap.size + 1 < ((w1.alloc (.cells (lkA s' f' l' (-1) c') 94))).heap.size := KB.out.lt
    have KC := Lib.hid (KB.out.below b9)
    have V9 := Lib.hid v9
    clear b9 v9 d0 d1 d2 d3 d4 df
    obtain ⟨e0, e1, e2, e3, e4, ef⟩ := KC.out.cells
    go_wp2_with fail
    refine bodyPost_ret (v := .tuple #[.agg #[.slice A9 60 c9, .int .i64 f', .int .i64 l', .int .i64 (-1), .int .i64 c'], .int .i64 (-1)]) (by simp [results, Try.results42, go_sem, e0, e1, e2, e3, e4]) rfl (pushEnd_no Hno.out ⟨A9, c9, rfl, ?_, ?_⟩)
    · refine SlV.wide (lo := ((w1.alloc (.cells (lkA s' f' l' (-1) c') 94))).heap.size) (hi := w9.heap.size) ?_ (by omega) (by simp [World.setCell])
      iterate 5 refine SlV.setCell ?_ (by exact z9) _
      exact V9.out
    · iterate 5 refine Below.setCell ?_ (by show w.heap.size ≤ w.heap.size + 1; omega) _
      exact B9.out
  have hrb : (r' == -1) = false := by simpa using hr
  obtain ⟨x, fs', rfl, rfl⟩ : ∃ (x : Nat) (fs' : List Nat), fs = x :: fs' ∧ r' = (x : Int) := by
    have h := Hv.out.fch
    cases fs with
    | nil => exact absurd h hr
    | cons x t => exact ⟨x, t, rfl, h.1⟩
  clear hr
  have hx : x < 60 := Hv.out.lt x (by simp)
  have hxb : ((x : Int) == -1) = false := hrb
  cases hid : idB id
  · have hcp : canPush s' f' l' (x : Int) c' id = false := by unfold canPush; rw [hid]; simp
    have Hid1 := Lib.hid hid
    clear hid
    go_wp2_with fail
    refine (idOk_any id _).mono ?_
    rintro e w' ⟨rfl, rfl⟩
    rw [Hid1.out]
    have KA : Hid (Blk5 (w1.alloc (.cells (lkA s' f' l' (x : Int) c') 94)) w.heap.size (.slice A 60 cap) (.int .i64 f') (.int .i64 l') (.int .i64 (x : Int)) (.int .i64 c')) := K1.out.below (Below.refl _ _)
    have KB : Hid (Blk5 (w1.alloc (.cells (lkA s' f' l' (x : Int) c') 94)) (w.heap.size + 1) (.slice none 0 0) (.int .i64 0) (.int .i64 0) (.int .i64 0) (.int .i64 0)) := K2.out.below (Below.refl _ _)
    have BA : Hid (Below w.heap.size w (w1.alloc (.cells (lkA s' f' l' (x : Int) c') 94))) := bel_trans B1.out (Below.refl _ _)
    have Hno := Lib.hid hcp
    clear d0 d1 d2 d3 d4 df
    obtain ⟨d0, d1, d2, d3, d4, df⟩ := KA.out.cells
    go_wp2_with fail
    refine (unchanged_any A 60 cap lo hi s' f' l' (x : Int) c' (w1.alloc (.cells (lkA s' f' l' (x : Int) c') 94)) Hn.out hm (HS.out.below BA.out Hhi.out) (Nat.le_trans Hhi.out BA.out.size)).mono ?_
    rintro e w9 ⟨A9, c9, rfl, v9, b9⟩
    have B9 := Lib.hid (bel_trans BA.out b9)
    have z9 : w.heap.size + 1 < ((w1.alloc (.cells (lkA s' f' l' (x : Int) c') 94))).heap.size := KB.out.lt
    have KC := Lib.hid (KB.out.below b9)
    have V9 := Lib.hid v9
    clear b9 v9 d0 d1 d2 d3 d4 df
    obtain ⟨e0, e1, e2, e3, e4, ef⟩ := KC.out.cells
    go_wp2_with fail
    refine bodyPost_ret (v := .tuple #[.agg #[.slice A9 60 c9, .int .i64 f', .int .i64 l', .int .i64 (x : Int), .int .i64 c'], .int .i64 (-1)]) (by simp [results, Try.results42, go_sem, e0, e1, e2, e3, e4]) rfl (pushEnd_no Hno.out ⟨A9, c9, rfl, ?_, ?_⟩)
    · refine SlV.wide (lo := ((w1.alloc (.cells (lkA s' f' l' (x : Int) c') 94))).heap.size) (hi := w9.heap.size) ?_ (by omega) (by simp [World.setCell])
      iterate 5 refine SlV.setCell ?_ (by exact z9) _
      exact V9.out
    · iterate 5 refine Below.setCell ?_ (by show w.heap.size ≤ w.heap.size + 1; omega) _
      exact B9.out
  have Hid1 := Lib.hid hid
  clear hid
  go_wp2_with fail
  refine (idOk_any id _).mono ?_
  rintro e w' ⟨rfl, rfl⟩
  rw [Hid1.out]
  go_wp2_with fail
  have hfull := Hv.out.full
  refine (placeOf_any w1.heap.size id f' l' (x : Int) c' s' us _ HL.out (inr_of Hv.out.len (val_range Hv.out)).1 Hv.out.seg (fun y hy => Hv.out.lt y (by simp [hy])) (by rw [List.length_append] at hfull; omega)).mono ?_
  rintro e w2 ⟨rfl, b2⟩
  clear hfull
  have Hpl := Lib.hid (placeA_val id Hv.out)
  have B2 := Lib.hid b2
  clear b2 g0 g1 g2 g3 gf hsc hsz
  by_cases hp : placeF s' us id = -1
  · have hcp : canPush s' f' l' (x : Int) c' id = true := by
      unfold canPush; rw [Hpl.out, Hok.out, Hid1.out, hxb, hp]; rfl
    have Hcp := Lib.hid hcp
    rw [hp]
    clear hcp hp d0 d1 d2 d3 d4 df
    have Hl : Hid (l' = -1 ∨ ∃ y : Nat, l' = (y : Int) ∧ y < 60) := by
      have hs := Hv.out.seg
      by_cases he : us = []
      · subst he; exact .inl hs.1
      · obtain ⟨u', y, e1, e2, _⟩ := seg_last hs he
        exact .inr ⟨y, e2, Hv.out.lt y (by rw [e1]; simp)⟩
    have Hc : Hid (0 ≤ c' ∧ c' ≤ 60) := by
      have h1 := Hv.out.cnt
      have h2 := Hv.out.full
      rw [List.length_append] at h2
      constructor <;> omega
    have z1 : w.heap.size + 1 < w1.heap.size + 1 := by have := K2.out.lt; simpa using this
    have z1' : w.heap.size + 1 ≠ w1.heap.size := fun e => by
      have h1 := K2.out
      have h2 := HL.out
      rw [e] at h1
      unfold Blk5 at h1
      unfold Lk at h2
      rw [h1] at h2
      injection h2 with h3
      injection h3 with _ h4 _
      exact absurd h4 (by decide)
    go_wp2_with fail
    refine (push_any w1.heap.size x id f' l' c' s' w2 (HL.out.below B2.out) Hv.out.len hx Hl.out Hc.out).mono ?_
    rintro e w3 ⟨rfl, h3, t3⟩
    have H3 := Lib.hid h3
    have K3 : Hid (Blk5 w3 (w.heap.size + 1) (.slice none 0 0) (.int .i64 0) (.int .i64 0) (.int .i64 0) (.int .i64 0)) := (K2.out.below B2.out).of_block (t3.block _ (K2.out.below B2.out).lt (by omega))
    have B3 : Hid (Below w.heap.size w w3) := (bel_trans B1.out B2.out).trans (t3.below (by omega) (bel_trans B1.out B2.out).size)
    have hpl : (pushS s' l' (x : Int) id).length = 60 := by
      unfold pushS
      exact (setNext_facts (by rw [List.length_set]; exact Hv.out.len) Hl.out).1
    have Hpl3 := Lib.hid hpl
    clear h3 t3 hpl
    go_wp2_with fail
    refine (queue_any w1.heap.size _ _ _ _ (pushS s' l' (x : Int) id) w3 Hpl3.out H3.out).mono ?_
    rintro e w4 ⟨A4, c4, rfl, v4, b4⟩
    have K4 := Lib.hid (K3.out.below b4)
    have B4 := Lib.hid (bel_trans B3.out b4)
    have V4 := Lib.hid v4
    have z3 : w.heap.size + 1 < w3.heap.size := K3.out.lt
    clear b4 v4
    obtain ⟨e0, e1, e2, e3, e4, ef⟩ := K4.out.cells
    obtain ⟨ff, hff⟩ : ∃ ff, (if l' = -1 then (x : Int) else f') = ff := ⟨_, rfl⟩
    rw [hff]
    have Hff := Lib.hid hff
    clear hff
    go_wp2_with fail
    refine bodyPost_ret (v := .tuple #[.agg #[.slice A4 60 c4, .int .i64 ff, .int .i64 (x : Int), .int .i64 (sl s' x).next, .int .i64 (c' + 1)], .int .i64 (x : Int)]) (by simp [results, Try.results42, go_sem, e0, e1, e2, e3, e4]) rfl (pushEnd_yes Hcp.out ⟨A4, c4, by rw [Hff.out, Int.toNat_natCast], ?_, ?_⟩)
    · refine SlV.wide (lo := w3.heap.size) (hi := w4.heap.size) ?_ (by omega) (by simp [World.setCell])
      iterate 5 refine SlV.setCell ?_ (by exact z3) _
      exact V4.out
    · iterate 5 refine Below.setCell ?_ (by show w.heap.size ≤ w.heap.size + 1; omega) _
      exact B4.out
  · have hcp : canPush s' f' l' (x : Int) c' id = false := by
      unfold canPush; rw [Hpl.out]
      have : (placeF s' us id == -1) = false := by simpa using hp
      rw [this]; simp
    have hpn : (placeF s' us id != -1) = true := by simpa using hp
    clear hp
    generalize placeF s' us id = pl at hpn ⊢
    have KA : Hid (Blk5 w2 w.heap.size (.slice A 60 cap) (.int .i64 f') (.int .i64 l') (.int .i64 (x : Int)) (.int .i64 c')) := K1.out.below B2.out
    have KB : Hid (Blk5 w2 (w.heap.size + 1) (.slice none 0 0) (.int .i64 0) (.int .i64 0) (.int .i64 0) (.int .i64 0)) := K2.out.below B2.out
    have BA : Hid (Below w.heap.size w w2) := bel_trans B1.out B2.out
    have Hno := Lib.hid hcp
    clear d0 d1 d2 d3 d4 df
    obtain ⟨d0, d1, d2, d3, d4, df⟩ := KA.out.cells
    go_wp2_with fail
    refine (unchanged_any A 60 cap lo hi s' f' l' (x : Int) c' w2 Hn.out hm (HS.out.below BA.out Hhi.out) (Nat.le_trans Hhi.out BA.out.size)).mono ?_
    rintro e w9 ⟨A9, c9, rfl, v9, b9⟩
    have B9 := Lib.hid (bel_trans BA.out b9)
    have z9 : w.heap.size + 1 < (w2).heap.size := KB.out.lt
    have KC := Lib.hid (KB.out.below b9)
    have V9 := Lib.hid v9
    clear b9 v9 d0 d1 d2 d3 d4 df
    obtain ⟨e0, e1, e2, e3, e4, ef⟩ := KC.out.cells
    go_wp2_with fail
    refine bodyPost_ret (v := .tuple #[.agg #[.slice A9 60 c9, .int .i64 f', .int .i64 l', .int .i64 (x : Int), .int .i64 c'], .int .i64 (-1)]) (by simp [results, Try.results42, go_sem, e0, e1, e2, e3, e4]) rfl (pushEnd_no Hno.out ⟨A9, c9, rfl, ?_, ?_⟩)
    · refine SlV.wide (lo := (w2).heap.size) (hi := w9.heap.size) ?_ (by omega) (by simp [World.setCell])
      iterate 5 refine SlV.setCell ?_ (by exact z9) _
      exact V9.out
    · iterate 5 refine Below.setCell ?_ (by show w.heap.size ≤ w.heap.size + 1; omega) _
      exact B9.out
end Go.Proofs.Ytpjelojmkmednaa.Que
