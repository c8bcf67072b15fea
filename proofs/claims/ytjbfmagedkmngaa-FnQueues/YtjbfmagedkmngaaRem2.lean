/- What the program's RemoveAt answers. -/
import Derived.Test.YtjbfmagedkmngaaRem1
import Derived.Test.YtjbfmagedkmngaaPsh2
namespace Go.Proofs.Ytjbfmagedkmngaa.Que
open Go.RowKit Go.Deep Base Rng

theorem val_at {ss : List Sl} {first last free count : Int} {us fs : List Nat} {p : Nat} (v : Val ss first last free count us fs) (hp : p < 60) (hu : (sl ss p).used = true) :
    ∃ l1 l2, us = l1 ++ p :: l2 ∧ ((sl ss p).prev = -1 ∨ ∃ a : Nat, (sl ss p).prev = (a : Int) ∧ a < 60 ∧ a ≠ p) ∧ ((sl ss p).next = -1 ∨ ∃ a : Nat, (sl ss p).next = (a : Int) ∧ a < 60 ∧ a ≠ p)
      ∧ (∀ a b : Nat, (sl ss p).prev = (a : Int) → (sl ss p).next = (b : Int) → a ≠ b) ∧ 0 ≤ count ∧ count ≤ 60 := by
  obtain ⟨l1, l2, rfl⟩ := List.append_of_mem (mem_used v hp hu)
  obtain ⟨len, seg, fch, lt, ids, nd, full, cnt⟩ := v
  obtain ⟨nd1, nd2, nd3⟩ := List.nodup_append.1 nd
  obtain ⟨n1, n2, n3⟩ := List.nodup_append.1 nd1
  obtain ⟨hp2, n2'⟩ := List.nodup_cons.1 n2
  have hp1 : p ∉ l1 := fun hm => n3 p hm p (by simp) rfl
  obtain ⟨m', q', sg1, ⟨e1, e2, e3, sg2⟩⟩ := (seg_append _ _ _ _ _ _ _).1 seg
  subst e1
  have hA : (sl ss p).prev = -1 ∨ ∃ a : Nat, (sl ss p).prev = (a : Int) ∧ a < 60 ∧ a ≠ p ∧ a ∈ l1 := by
    rcases seg_first sg1 with ⟨h, hq, hm⟩ | ⟨x, r, h, _⟩
    · exact .inl (by rw [e2, hm])
    · obtain ⟨l', a, ha, hm, _⟩ := seg_last sg1 (by rw [h]; simp)
      exact .inr ⟨a, by rw [e2, hm], lt a (by rw [ha]; simp), by rintro rfl; exact hp1 (by rw [ha]; simp), by rw [ha]; simp⟩
  have hB : (sl ss p).next = -1 ∨ ∃ b : Nat, (sl ss p).next = (b : Int) ∧ b < 60 ∧ b ≠ p ∧ b ∈ l2 := by
    rcases seg_first sg2 with ⟨h, hq, hm⟩ | ⟨b, r, h, hb⟩
    · exact .inl (by omega)
    · exact .inr ⟨b, hb, lt b (by rw [h]; simp), by rintro rfl; exact hp2 (by rw [h]; simp), by rw [h]; simp⟩
  refine ⟨l1, l2, rfl, hA.imp id (fun ⟨a, h1, h2, h3, _⟩ => ⟨a, h1, h2, h3⟩), hB.imp id (fun ⟨a, h1, h2, h3, _⟩ => ⟨a, h1, h2, h3⟩), fun a b ha hb => ?_, ?_, ?_⟩
  · rcases hA with h | ⟨a', h1, _, _, h4⟩
    · omega
    rcases hB with h | ⟨b', h1', _, _, h4'⟩
    · omega
    intro hab
    exact n3 a' h4 b' (by simp [h4']) (by omega)
  · omega
  · rw [List.length_append] at full; omega

def canRem (ss : List Sl) (f l r c p : Int) : Bool := okQ ss f l r c && decide (0 ≤ p) && decide (p < 60) && (sl ss p.toNat).used

def RemEnd (w : World) (n : Nat) (ss : List Sl) (f l r c p : Int) (e : Ending) (w' : World) : Prop :=
  if canRem ss f l r c p = true then NewQ2 w n (remS ss r p.toNat) (if (sl ss p.toNat).prev = -1 then (sl ss p.toNat).next else f) (if (sl ss p.toNat).next = -1 then (sl ss p.toNat).prev else l) p (c - 1) (.int .i64 (sl ss p.toNat).id) e w'
  else NewQ2 w n ss f l r c (.int .i64 0) e w'

theorem remEnd_no {w : World} {n : Nat} {ss : List Sl} {f l r c p : Int} {e : Ending} {w' : World} (h : canRem ss f l r c p = false) (k : NewQ2 w n ss f l r c (.int .i64 0) e w') : RemEnd w n ss f l r c p e w' := by
  unfold RemEnd; rw [if_neg (by rw [h]; simp)]; exact k
theorem remEnd_yes {w : World} {n : Nat} {ss : List Sl} {f l r c p : Int} {e : Ending} {w' : World} (h : canRem ss f l r c p = true) (k : NewQ2 w n (remS ss r p.toNat) (if (sl ss p.toNat).prev = -1 then (sl ss p.toNat).next else f) (if (sl ss p.toNat).next = -1 then (sl ss p.toNat).prev else l) p (c - 1) (.int .i64 (sl ss p.toNat).id) e w') : RemEnd w n ss f l r c p e w' := by
  unfold RemEnd; rw [if_pos h]; exact k

theorem remS_len (ss : List Sl) (r : Int) (p : Nat) : (remS ss r p).length = ss.length := by
  unfold remS setPrev setNext
  repeat' split
  all_goals simp

set_option maxRecDepth 100000 in
set_option maxHeartbeats 2000000 in
theorem implRemove_any (A : Option Addr) (n cap lo hi : Nat) (ss : List Sl) (f l r c p : Int) (w : World) (hn : ss.length = n) (hm : n ≤ 1048576) (h : SlV w lo hi A ss) (hhi : hi ≤ w.heap.size) :
    Calls Try.prog 19 #[.agg #[.slice A n cap, .int .i64 f, .int .i64 l, .int .i64 r, .int .i64 c], .int .i64 p] w (RemEnd w n ss f l r c p) := by
  have Hn := Lib.hid hn
  have HS := Lib.hid h
  have Hhi := Lib.hid hhi
  clear h hn hhi
  go_enter Try.func19, Try.ntmps19
  go_wp2_with fail
  have hB0 : Below w.heap.size w ((w.alloc (.cells #[.slice A n cap, .int .i64 f, .int .i64 l, .int .i64 r, .int .i64 c] 26)).alloc (.cells #[.slice none 0 0, .int .i64 0, .int .i64 0, .int .i64 0, .int .i64 0] 26)) := ((Below.refl _ _).alloc (Nat.le_refl _) _).alloc (by simp) _
  refine (linksOf_any A n cap ss f l r c lo hi _ Hn.out (HS.out.below hB0 Hhi.out) (by have := Hhi.out; simp; omega)).mono ?_
  rintro e w1 ⟨s', f', l', r', c', rfl, heq, hb1⟩
  have K1' : Hid (Blk5 w1 w.heap.size (.slice A n cap) (.int .i64 f) (.int .i64 l) (.int .i64 r) (.int .i64 c)) := Blk5.below (Blk5.alloc (heap_alloc_new w _) _) hb1
  have K2' : Hid (Blk5 w1 (w.heap.size + 1) (.slice none 0 0) (.int .i64 0) (.int .i64 0) (.int .i64 0) (.int .i64 0)) := by
    have h := heap_alloc_new (w.alloc (.cells #[.slice A n cap, .int .i64 f, .int .i64 l, .int .i64 r, .int .i64 c] 26)) (.cells #[.slice none 0 0, .int .i64 0, .int .i64 0, .int .i64 0, .int .i64 0] 26)
    simp only [World.size_alloc] at h
    exact Blk5.below h hb1
  have B1' := Lib.hid (bel_trans hB0 hb1)
  have Heq := Lib.hid heq
  clear hb1 heq hB0
  have hsc := store_links w1 Try.zeroCells54 (lkA s' f' l' r' c') (by rw [zero_links, lkA_size]) s' f' l' r' c' rfl
  have hsz := lkA_size s' f' l' r' c'
  have K1 : Hid (Blk5 (w1.alloc (.cells (lkA s' f' l' r' c') 54)) w.heap.size (.slice A n cap) (.int .i64 f) (.int .i64 l) (.int .i64 r) (.int .i64 c)) := K1'.out.alloc _
  have K2 : Hid (Blk5 (w1.alloc (.cells (lkA s' f' l' r' c') 54)) (w.heap.size + 1) (.slice none 0 0) (.int .i64 0) (.int .i64 0) (.int .i64 0) (.int .i64 0)) := K2'.out.alloc _
  have B1 : Hid (Below w.heap.size w (w1.alloc (.cells (lkA s' f' l' r' c') 54))) := bel_trans B1'.out (bel_alloc w1 _)
  clear K1' K2' B1'
  obtain ⟨d0, d1, d2, d3, d4, df⟩ := K1.out.cells
  cases hok : okQ ss f l r c
  · have hcp : canRem ss f l r c p = false := by unfold canRem; rw [hok]; rfl
    clear hok
    have KA : Hid (Blk5 (w1.alloc (.cells (lkA s' f' l' r' c') 54)) w.heap.size (.slice A n cap) (.int .i64 f) (.int .i64 l) (.int .i64 r) (.int .i64 c)) := K1.out.below (Below.refl _ _)
    have KB : Hid (Blk5 (w1.alloc (.cells (lkA s' f' l' r' c') 54)) (w.heap.size + 1) (.slice none 0 0) (.int .i64 0) (.int .i64 0) (.int .i64 0) (.int .i64 0)) := K2.out.below (Below.refl _ _)
    have BA : Hid (Below w.heap.size w (w1.alloc (.cells (lkA s' f' l' r' c') 54))) := bel_trans B1.out (Below.refl _ _)
    have Hno := Lib.hid hcp
    clear d0 d1 d2 d3 d4 df
    obtain ⟨d0, d1, d2, d3, d4, df⟩ := KA.out.cells
    go_wp2_with fail
    refine (unchanged_any A n cap lo hi ss f l r c (w1.alloc (.cells (lkA s' f' l' r' c') 54)) Hn.out hm (HS.out.below BA.out Hhi.out) (Nat.le_trans Hhi.out BA.out.size)).mono ?_
    rintro e w9 ⟨A9, c9, rfl, v9, b9⟩
    have B9 := Lib.hid (bel_trans BA.out b9)
    have z9 : w.heap.size + 1 < ((w1.alloc (.cells (lkA s' f' l' r' c') 54))).heap.size := KB.out.lt
    have KC := Lib.hid (KB.out.below b9)
    have V9 := Lib.hid v9
    clear b9 v9 d0 d1 d2 d3 d4 df
    obtain ⟨e0, e1, e2, e3, e4, ef⟩ := KC.out.cells
    go_wp2_with fail
    refine bodyPost_ret (v := .tuple #[.agg #[.slice A9 n c9, .int .i64 f, .int .i64 l, .int .i64 r, .int .i64 c], .int .i64 0]) (by simp [results, Try.results19, go_sem, e0, e1, e2, e3, e4]) rfl (remEnd_no Hno.out ⟨A9, c9, rfl, ?_, ?_⟩)
    · refine SlV.wide (lo := ((w1.alloc (.cells (lkA s' f' l' r' c') 54))).heap.size) (hi := w9.heap.size) ?_ (by omega) (by simp [World.setCell])
      iterate 5 refine SlV.setCell ?_ (by exact z9) _
      exact V9.out
    · iterate 5 refine Below.setCell ?_ (by show w.heap.size ≤ w.heap.size + 1; omega) _
      exact B9.out
  obtain ⟨us, fs, v⟩ := ok_val hok
  have Hok := Lib.hid hok
  clear hok
  obtain ⟨rfl, rfl, rfl, rfl, rfl⟩ := Heq.out v.len
  have Hv := Lib.hid v
  have hnn := Hn.out
  rw [v.len] at hnn
  subst hnn
  clear v Heq
  have hL : Lk (w1.alloc (.cells (lkA s' f' l' r' c') 54)) w1.heap.size s' f' l' r' c' := heap_alloc_new w1 _
  obtain ⟨g0, g1, g2, g3, gf⟩ := hL.nums
  have HL := Lib.hid hL
  clear hL
  by_cases hp0 : p < 0
  · have hcp : canRem s' f' l' r' c' p = false := by
      have : decide (0 ≤ p) = false := by simp; omega
      unfold canRem; rw [this]; simp
    have KA : Hid (Blk5 (w1.alloc (.cells (lkA s' f' l' r' c') 54)) w.heap.size (.slice A 60 cap) (.int .i64 f') (.int .i64 l') (.int .i64 r') (.int .i64 c')) := K1.out.below (Below.refl _ _)
    have KB : Hid (Blk5 (w1.alloc (.cells (lkA s' f' l' r' c') 54)) (w.heap.size + 1) (.slice none 0 0) (.int .i64 0) (.int .i64 0) (.int .i64 0) (.int .i64 0)) := K2.out.below (Below.refl _ _)
    have BA : Hid (Below w.heap.size w (w1.alloc (.cells (lkA s' f' l' r' c') 54))) := bel_trans B1.out (Below.refl _ _)
    have Hno := Lib.hid hcp
    clear d0 d1 d2 d3 d4 df
    obtain ⟨d0, d1, d2, d3, d4, df⟩ := KA.out.cells
    go_wp2_with fail
    refine (unchanged_any A 60 cap lo hi s' f' l' r' c' (w1.alloc (.cells (lkA s' f' l' r' c') 54)) Hn.out hm (HS.out.below BA.out Hhi.out) (Nat.le_trans Hhi.out BA.out.size)).mono ?_
    rintro e w9 ⟨A9, c9, rfl, v9, b9⟩
    have B9 := Lib.hid (bel_trans BA.out b9)
    have z9 : w.heap.size + 1 < ((w1.alloc (.cells (lkA s' f' l' r' c') 54))).heap.size := KB.out.lt
    have KC := Lib.hid (KB.out.below b9)
    have V9 := Lib.hid v9
    clear b9 v9 d0 d1 d2 d3 d4 df
    obtain ⟨e0, e1, e2, e3, e4, ef⟩ := KC.out.cells
    go_wp2_with fail
    refine bodyPost_ret (v := .tuple #[.agg #[.slice A9 60 c9, .int .i64 f', .int .i64 l', .int .i64 r', .int .i64 c'], .int .i64 0]) (by simp [results, Try.results19, go_sem, e0, e1, e2, e3, e4]) rfl (remEnd_no Hno.out ⟨A9, c9, rfl, ?_, ?_⟩)
    · refine SlV.wide (lo := ((w1.alloc (.cells (lkA s' f' l' r' c') 54))).heap.size) (hi := w9.heap.size) ?_ (by omega) (by simp [World.setCell])
      iterate 5 refine SlV.setCell ?_ (by exact z9) _
      exact V9.out
    · iterate 5 refine Below.setCell ?_ (by show w.heap.size ≤ w.heap.size + 1; omega) _
      exact B9.out
  by_cases hp1 : 60 ≤ p
  · have hcp : canRem s' f' l' r' c' p = false := by
      have : decide (p < 60) = false := by simp; omega
      unfold canRem; rw [this]; simp
    have KA : Hid (Blk5 (w1.alloc (.cells (lkA s' f' l' r' c') 54)) w.heap.size (.slice A 60 cap) (.int .i64 f') (.int .i64 l') (.int .i64 r') (.int .i64 c')) := K1.out.below (Below.refl _ _)
    have KB : Hid (Blk5 (w1.alloc (.cells (lkA s' f' l' r' c') 54)) (w.heap.size + 1) (.slice none 0 0) (.int .i64 0) (.int .i64 0) (.int .i64 0) (.int .i64 0)) := K2.out.below (Below.refl _ _)
    have BA : Hid (Below w.heap.size w (w1.alloc (.cells (lkA s' f' l' r' c') 54))) := bel_trans B1.out (Below.refl _ _)
    have Hno := Lib.hid hcp
    clear d0 d1 d2 d3 d4 df
    obtain ⟨d0, d1, d2, d3, d4, df⟩ := KA.out.cells
    go_wp2_with fail
    refine (unchanged_any A 60 cap lo hi s' f' l' r' c' (w1.alloc (.cells (lkA s' f' l' r' c') 54)) Hn.out hm (HS.out.below BA.out Hhi.out) (Nat.le_trans Hhi.out BA.out.size)).mono ?_
    rintro e w9 ⟨A9, c9, rfl, v9, b9⟩
    have B9 := Lib.hid (bel_trans BA.out b9)
    have z9 : w.heap.size + 1 < ((w1.alloc (.cells (lkA s' f' l' r' c') 54))).heap.size := KB.out.lt
    have KC := Lib.hid (KB.out.below b9)
    have V9 := Lib.hid v9
    clear b9 v9 d0 d1 d2 d3 d4 df
    obtain ⟨e0, e1, e2, e3, e4, ef⟩ := KC.out.cells
    go_wp2_with fail
    refine bodyPost_ret (v := .tuple #[.agg #[.slice A9 60 c9, .int .i64 f', .int .i64 l', .int .i64 r', .int .i64 c'], .int .i64 0]) (by simp [results, Try.results19, go_sem, e0, e1, e2, e3, e4]) rfl (remEnd_no Hno.out ⟨A9, c9, rfl, ?_, ?_⟩)
    · refine SlV.wide (lo := ((w1.alloc (.cells (lkA s' f' l' r' c') 54))).heap.size) (hi := w9.heap.size) ?_ (by omega) (by simp [World.setCell])
      iterate 5 refine SlV.setCell ?_ (by exact z9) _
      exact V9.out
    · iterate 5 refine Below.setCell ?_ (by show w.heap.size ≤ w.heap.size + 1; omega) _
      exact B9.out
  obtain ⟨x, rfl⟩ : ∃ x : Nat, p = (x : Int) := ⟨p.toNat, by omega⟩
  have hx : x < 60 := by omega
  have hx0 : (0 : Int) ≤ (x : Int) := by omega
  have hx1 : (x : Int) < 60 := by omega
  have hx2 : ¬ (60 : Int) ≤ (x : Int) := by omega
  obtain ⟨c0, c1, c2, c3⟩ := HL.out.slot hx
  obtain ⟨id, pv, nx, us1, hsx⟩ : ∃ id pv nx us1, sl s' x = ⟨id, pv, nx, us1⟩ := ⟨_, _, _, _, rfl⟩
  rw [hsx] at c0 c1 c2 c3
  have Hsx := Lib.hid hsx
  clear hsx hp0 hp1
  cases us1
  · have hcp : canRem s' f' l' r' c' (x : Int) = false := by unfold canRem; rw [Int.toNat_natCast, Hsx.out]; simp
    have KA : Hid (Blk5 (w1.alloc (.cells (lkA s' f' l' r' c') 54)) w.heap.size (.slice A 60 cap) (.int .i64 f') (.int .i64 l') (.int .i64 r') (.int .i64 c')) := K1.out.below (Below.refl _ _)
    have KB : Hid (Blk5 (w1.alloc (.cells (lkA s' f' l' r' c') 54)) (w.heap.size + 1) (.slice none 0 0) (.int .i64 0) (.int .i64 0) (.int .i64 0) (.int .i64 0)) := K2.out.below (Below.refl _ _)
    have BA : Hid (Below w.heap.size w (w1.alloc (.cells (lkA s' f' l' r' c') 54))) := bel_trans B1.out (Below.refl _ _)
    have Hno := Lib.hid hcp
    clear d0 d1 d2 d3 d4 df
    obtain ⟨d0, d1, d2, d3, d4, df⟩ := KA.out.cells
    go_wp2_with fail
    refine (unchanged_any A 60 cap lo hi s' f' l' r' c' (w1.alloc (.cells (lkA s' f' l' r' c') 54)) Hn.out hm (HS.out.below BA.out Hhi.out) (Nat.le_trans Hhi.out BA.out.size)).mono ?_
    rintro e w9 ⟨A9, c9, rfl, v9, b9⟩
    have B9 := Lib.hid (bel_trans BA.out b9)
    have z9 : w.heap.size + 1 < ((w1.alloc (.cells (lkA s' f' l' r' c') 54))).heap.size := KB.out.lt
    have KC := Lib.hid (KB.out.below b9)
    have V9 := Lib.hid v9
    clear b9 v9 d0 d1 d2 d3 d4 df
    obtain ⟨e0, e1, e2, e3, e4, ef⟩ := KC.out.cells
    go_wp2_with fail
    refine bodyPost_ret (v := .tuple #[.agg #[.slice A9 60 c9, .int .i64 f', .int .i64 l', .int .i64 r', .int .i64 c'], .int .i64 0]) (by simp [results, Try.results19, go_sem, e0, e1, e2, e3, e4]) rfl (remEnd_no Hno.out ⟨A9, c9, rfl, ?_, ?_⟩)
    · refine SlV.wide (lo := ((w1.alloc (.cells (lkA s' f' l' r' c') 54))).heap.size) (hi := w9.heap.size) ?_ (by omega) (by simp [World.setCell])
      iterate 5 refine SlV.setCell ?_ (by exact z9) _
      exact V9.out
    · iterate 5 refine Below.setCell ?_ (by show w.heap.size ≤ w.heap.size + 1; omega) _
      exact B9.out
  have hcp : canRem s' f' l' r' c' (x : Int) = true := by unfold canRem; rw [Int.toNat_natCast, Hsx.out, Hok.out]; simp [hx1]
  have Hcp := Lib.hid hcp
  obtain ⟨l1, l2, hus, hpv, hnx, _, hc0, hc1⟩ := val_at Hv.out hx (by rw [Hsx.out])
  rw [Hsx.out] at hpv hnx
  have Hpv : Hid (pv = -1 ∨ ∃ y : Nat, pv = (y : Int) ∧ y < 60) := hpv.imp (fun h => h) (fun ⟨a, h1, h2, _⟩ => ⟨a, h1, h2⟩)
  have Hnx : Hid (nx = -1 ∨ ∃ y : Nat, nx = (y : Int) ∧ y < 60) := hnx.imp (fun h => h) (fun ⟨a, h1, h2, _⟩ => ⟨a, h1, h2⟩)
  clear hcp hus hpv hnx d0 d1 d2 d3 d4 df
  have z1 : w.heap.size + 1 < w1.heap.size + 1 := by have := K2.out.lt; simpa using this
  have z1' : w.heap.size + 1 ≠ w1.heap.size := fun e => by
    have h1 := K2.out
    have h2 := HL.out
    rw [e] at h1
    unfold Blk5 at h1
    unfold Lk at h2
    rw [h1] at h2
    injection h2 with h3
    injection h3 with _ h4 _
    exact absurd h4 (by decide)
  go_wp2_with fail
  refine (remove_any w1.heap.size x f' l' r' c' id pv nx true s' _ HL.out Hv.out.len hx Hsx.out Hpv.out Hnx.out ⟨hc0, hc1⟩).mono ?_
  rintro e w3 ⟨rfl, h3, t3⟩
  have H3 := Lib.hid h3
  have K3 : Hid (Blk5 w3 (w.heap.size + 1) (.slice none 0 0) (.int .i64 0) (.int .i64 0) (.int .i64 0) (.int .i64 0)) := K2.out.of_block (t3.block _ K2.out.lt (by omega))
  have B3 : Hid (Below w.heap.size w w3) := B1.out.trans (t3.below (by omega) B1.out.size)
  have Hpl3 : Hid ((remS s' r' x).length = 60) := (remS_len _ _ _).trans Hv.out.len
  clear h3 t3 g0 g1 g2 g3 gf hsc hsz c0 c1 c2 c3
  go_wp2_with fail
  refine (queue_any w1.heap.size _ _ _ _ (remS s' r' x) w3 Hpl3.out H3.out).mono ?_
  rintro e w4 ⟨A4, c4, rfl, v4, b4⟩
  have K4 := Lib.hid (K3.out.below b4)
  have B4 := Lib.hid (bel_trans B3.out b4)
  have V4 := Lib.hid v4
  have z3 : w.heap.size + 1 < w3.heap.size := K3.out.lt
  clear b4 v4
  obtain ⟨e0, e1, e2, e3, e4, ef⟩ := K4.out.cells
  obtain ⟨ff, hff⟩ : ∃ ff, (if pv = -1 then nx else f') = ff := ⟨_, rfl⟩
  obtain ⟨ll, hll⟩ : ∃ ll, (if nx = -1 then pv else l') = ll := ⟨_, rfl⟩
  rw [hff, hll]
  have Hff := Lib.hid hff
  have Hll := Lib.hid hll
  clear hff hll
  go_wp2_with fail
  refine bodyPost_ret (v := .tuple #[.agg #[.slice A4 60 c4, .int .i64 ff, .int .i64 ll, .int .i64 (x : Int), .int .i64 (c' - 1)], .int .i64 id]) (by simp [results, Try.results19, go_sem, e0, e1, e2, e3, e4]) rfl (remEnd_yes Hcp.out ⟨A4, c4, by rw [Int.toNat_natCast, Hsx.out, Hff.out, Hll.out], ?_, ?_⟩)
  · refine SlV.wide (lo := w3.heap.size) (hi := w4.heap.size) ?_ (by omega) (by simp [World.setCell])
    iterate 5 refine SlV.setCell ?_ (by exact z3) _
    exact V4.out
  · iterate 5 refine Below.setCell ?_ (by show w.heap.size ≤ w.heap.size + 1; omega) _
    exact B4.out
end Go.Proofs.Ytjbfmagedkmngaa.Que
