/- What MoveBack answers: the program's, then the reference's. -/
import Derived.Test.YtjbfmagedkmngaaPop1
import Derived.Test.YtjbfmagedkmngaaPsh4
namespace Go.Proofs.Ytjbfmagedkmngaa.Que
open Go.RowKit Go.Deep Base Rng

theorem placeF_find {ss : List Sl} {us : List Nat} {id : Int} (h : placeF ss us id ≠ -1) : ∃ x : Nat, placeF ss us id = (x : Int) ∧ x ∈ us ∧ (sl ss x).id = id := by
  unfold placeF at h ⊢
  split
  · next x e =>
    exact ⟨x, rfl, List.mem_of_find?_eq_some e, by simpa using List.find?_some e⟩
  · next e => rw [e] at h; exact absurd rfl h

theorem placeF_none {ss : List Sl} {us : List Nat} {id : Int} (h : id ∉ us.map fun u => (sl ss u).id) : placeF ss us id = -1 := by
  by_cases e : placeF ss us id = -1
  · exact e
  · obtain ⟨x, _, h2, h3⟩ := placeF_find e
    exact absurd (List.mem_map.2 ⟨x, h2, h3⟩) h

/-- What a move does: taken out, then pushed. -/
theorem move_val {ss : List Sl} {f l r c id : Int} {us fs : List Nat} (v : Val ss f l r c us fs) (h : placeF ss us id ≠ -1) :
    ∃ (x : Nat) (pv nx : Int), placeA ss f l r c id = (x : Int) ∧ placeF ss us id = (x : Int) ∧ x < 60 ∧ sl ss x = ⟨id, pv, nx, true⟩ ∧ canRem ss f l r c (x : Int) = true
      ∧ canPush (remS ss r x) (if pv = -1 then nx else f) (if nx = -1 then pv else l) (x : Int) (c - 1) id = true
      ∧ (pv = -1 ∨ ∃ y : Nat, pv = (y : Int) ∧ y < 60) ∧ (nx = -1 ∨ ∃ y : Nat, nx = (y : Int) ∧ y < 60) ∧ 0 ≤ c ∧ c ≤ 60
      ∧ ((if nx = -1 then pv else l) = -1 ∨ ∃ y : Nat, (if nx = -1 then pv else l) = (y : Int) ∧ y < 60) ∧ 0 ≤ c - 1 ∧ ∃ us' fs', Val (remS ss r x) (if pv = -1 then nx else f) (if nx = -1 then pv else l) (x : Int) (c - 1) us' fs' := by
  obtain ⟨x, e, hm, hid⟩ := placeF_find h
  have hx : x < 60 := v.lt x (by simp [hm])
  have hE := seg_used v.seg x hm
  obtain ⟨l1, l2, hus, hpv, hnx, _, hc0, hc1⟩ := val_at v hx hE.1
  obtain ⟨pv, hpv'⟩ : ∃ pv, (sl ss x).prev = pv := ⟨_, rfl⟩
  obtain ⟨nx, hnx'⟩ : ∃ nx, (sl ss x).next = nx := ⟨_, rfl⟩
  have hs : sl ss x = ⟨id, pv, nx, true⟩ := by rw [← hpv', ← hnx', ← hid, ← hE.1]
  subst hus
  obtain ⟨v1, hids⟩ := rem_val v
  rw [hpv', hnx'] at v1
  rw [hpv'] at hpv
  rw [hnx'] at hnx
  have hnd := v.ids
  have hni : id ∉ (l1 ++ l2).map fun u => (sl ss u).id := by
    rw [List.map_append, List.map_cons, List.nodup_append] at hnd
    obtain ⟨h1, h2, h3⟩ := hnd
    rw [List.map_append, List.mem_append]
    rintro (hm1 | hm2)
    · exact h3 _ hm1 _ (List.mem_cons_self) hid.symm
    · exact (List.nodup_cons.1 h2).1 (by rw [hid]; exact hm2)
  have hpl : placeA (remS ss r x) (if pv = -1 then nx else f) (if nx = -1 then pv else l) (x : Int) (c - 1) id = -1 := by
    rw [placeA_val id v1]
    exact placeF_none (by rw [hids]; exact hni)
  refine ⟨x, pv, nx, by rw [placeA_val id v, e], e, hx, hs, ?_, ?_, hpv.imp (fun h => h) (fun ⟨a, h1, h2, _⟩ => ⟨a, h1, h2⟩), hnx.imp (fun h => h) (fun ⟨a, h1, h2, _⟩ => ⟨a, h1, h2⟩), hc0, hc1, ?_, ?_, _, _, v1⟩
  · unfold canRem; rw [Int.toNat_natCast, hs, val_ok v]; simp; omega
  · unfold canPush
    rw [val_ok v1, hpl, idB_true (by rw [← hid]; exact hE.2.1) (by rw [← hid]; exact hE.2.2)]
    simp
  · by_cases he : l1 ++ l2 = []
    · have hs1 := v1.seg
      rw [he] at hs1
      exact .inl hs1.1
    · obtain ⟨u', y, e1, e2, _⟩ := seg_last v1.seg he
      exact .inr ⟨y, e2, v1.lt y (by rw [e1]; simp)⟩
  · have := v1.cnt; omega

def MoveEnd (w : World) (n : Nat) (ss : List Sl) (f l r c id : Int) (e : Ending) (w' : World) : Prop :=
  if placeA ss f l r c id = -1 then NewQ2 w n ss f l r c (.bool false) e w'
  else ∃ (x : Nat) (pv nx : Int), placeA ss f l r c id = (x : Int) ∧ sl ss x = ⟨id, pv, nx, true⟩ ∧ NewQ2 w n (pushS (remS ss r x) (if nx = -1 then pv else l) (x : Int) id) (if (if nx = -1 then pv else l) = -1 then (x : Int) else (if pv = -1 then nx else f)) (x : Int) (sl (remS ss r x) x).next (c - 1 + 1) (.bool true) e w'

theorem moveEnd_no {w : World} {n : Nat} {ss : List Sl} {f l r c id : Int} {e : Ending} {w' : World} (h : placeA ss f l r c id = -1) (k : NewQ2 w n ss f l r c (.bool false) e w') : MoveEnd w n ss f l r c id e w' := by
  unfold MoveEnd; rw [if_pos h]; exact k
theorem moveEnd_yes {w : World} {n : Nat} {ss : List Sl} {f l r c id pv nx : Int} {x : Nat} {e : Ending} {w' : World} (h : placeA ss f l r c id = (x : Int)) (hs : sl ss x = ⟨id, pv, nx, true⟩) (k : NewQ2 w n (pushS (remS ss r x) (if nx = -1 then pv else l) (x : Int) id) (if (if nx = -1 then pv else l) = -1 then (x : Int) else (if pv = -1 then nx else f)) (x : Int) (sl (remS ss r x) x).next (c - 1 + 1) (.bool true) e w') : MoveEnd w n ss f l r c id e w' := by
  unfold MoveEnd; rw [if_neg (by omega)]; exact ⟨x, pv, nx, h, hs, k⟩

theorem moveEnd_new (n : Nat) (ss : List Sl) (f l r c id : Int) (hn : ss.length = n) : ∃ (ss' : List Sl) (f' l' r' c' : Int) (v : Bool), ss'.length = n ∧ ∀ w e w', MoveEnd w n ss f l r c id e w' → NewQ2 w n ss' f' l' r' c' (.bool v) e w' := by
  by_cases h : placeA ss f l r c id = -1
  · exact ⟨ss, f, l, r, c, false, hn, fun w e w' k => by unfold MoveEnd at k; rw [if_pos h] at k; exact k⟩
  · by_cases hx : ∃ (x : Nat) (pv nx : Int), placeA ss f l r c id = (x : Int) ∧ sl ss x = ⟨id, pv, nx, true⟩
    · obtain ⟨x, pv, nx, h1, h2⟩ := hx
      refine ⟨pushS (remS ss r x) (if nx = -1 then pv else l) (x : Int) id, if (if nx = -1 then pv else l) = -1 then (x : Int) else (if pv = -1 then nx else f), (x : Int), (sl (remS ss r x) x).next, c - 1 + 1, true, ?_, fun w e w' k => ?_⟩
      · have hr : (remS ss r x).length = n := (remS_len _ _ _).trans hn
        generalize (if nx = -1 then pv else l) = ll
        unfold pushS setNext
        split <;> simp [hr]
      · unfold MoveEnd at k
        rw [if_neg h] at k
        obtain ⟨x', pv', nx', h1', h2', k⟩ := k
        have hxx : x' = x := by omega
        subst hxx
        rw [h2] at h2'
        injection h2' with _ e1 e2 _
        subst e1 e2
        exact k
    · exact ⟨ss, f, l, r, c, false, hn, fun w e w' k => by
        unfold MoveEnd at k
        rw [if_neg h] at k
        obtain ⟨x', pv', nx', h1', h2', _⟩ := k
        exact absurd ⟨x', pv', nx', h1', h2'⟩ hx⟩

set_option maxRecDepth 100000 in
set_option maxHeartbeats 2000000 in
theorem implMove_any (A : Option Addr) (n cap lo hi : Nat) (ss : List Sl) (f l r c id : Int) (w : World) (hn : ss.length = n) (hm : n ≤ 1048576) (h : SlV w lo hi A ss) (hhi : hi ≤ w.heap.size) :
    Calls Try.prog 25 #[.agg #[.slice A n cap, .int .i64 f, .int .i64 l, .int .i64 r, .int .i64 c], .int .i64 id] w (MoveEnd w n ss f l r c id) := by
  have Hn := Lib.hid hn
  have HS := Lib.hid h
  have Hhi := Lib.hid hhi
  clear h hn hhi
  go_enter Try.func25, Try.ntmps25
  go_wp2_with fail
  have hB0 : Below w.heap.size w ((w.alloc (.cells #[.slice A n cap, .int .i64 f, .int .i64 l, .int .i64 r, .int .i64 c] 26)).alloc (.cells #[.slice none 0 0, .int .i64 0, .int .i64 0, .int .i64 0, .int .i64 0] 26)) := ((Below.refl _ _).alloc (Nat.le_refl _) _).alloc (by simp) _
  refine (linksOf_any A n cap ss f l r c lo hi _ Hn.out (HS.out.below hB0 Hhi.out) (by have := Hhi.out; simp; omega)).mono ?_
  rintro e w1 ⟨s', f', l', r', c', rfl, heq, hb1⟩
  have K1' : Hid (Blk5 w1 w.heap.size (.slice A n cap) (.int .i64 f) (.int .i64 l) (.int .i64 r) (.int .i64 c)) := Blk5.below (Blk5.alloc (heap_alloc_new w _) _) hb1
  have K2' : Hid (Blk5 w1 (w.heap.size + 1) (.slice none 0 0) (.int .i64 0) (.int .i64 0) (.int .i64 0) (.int .i64 0)) := by
    have h := heap_alloc_new (w.alloc (.cells #[.slice A n cap, .int .i64 f, .int .i64 l, .int .i64 r, .int .i64 c] 26)) (.cells #[.slice none 0 0, .int .i64 0, .int .i64 0, .int .i64 0, .int .i64 0] 26)
    simp only [World.size_alloc] at h
    exact Blk5.below h hb1
  have B1' := Lib.hid (bel_trans hB0 hb1)
  have Heq := Lib.hid heq
  clear hb1 heq hB0
  have hsc := store_links w1 Try.zeroCells54 (lkA s' f' l' r' c') (by rw [zero_links, lkA_size]) s' f' l' r' c' rfl
  have hsz := lkA_size s' f' l' r' c'
  have K1 : Hid (Blk5 (w1.alloc (.cells (lkA s' f' l' r' c') 54)) w.heap.size (.slice A n cap) (.int .i64 f) (.int .i64 l) (.int .i64 r) (.int .i64 c)) := K1'.out.alloc _
  have K2 : Hid (Blk5 (w1.alloc (.cells (lkA s' f' l' r' c') 54)) (w.heap.size + 1) (.slice none 0 0) (.int .i64 0) (.int .i64 0) (.int .i64 0) (.int .i64 0)) := K2'.out.alloc _
  have B1 : Hid (Below w.heap.size w (w1.alloc (.cells (lkA s' f' l' r' c') 54))) := bel_trans B1'.out (bel_alloc w1 _)
  clear K1' K2' B1'
  obtain ⟨d0, d1, d2, d3, d4, df⟩ := K1.out.cells
  cases hok : okQ ss f l r c
  · have hcp : placeA ss f l r c id = -1 := placeA_no id hok
    clear hok
    have KA : Hid (Blk5 (w1.alloc (.cells (lkA s' f' l' r' c') 54)) w.heap.size (.slice A n cap) (.int .i64 f) (.int .i64 l) (.int .i64 r) (.int .i64 c)) := K1.out.below (Below.refl _ _)
    have KB : Hid (Blk5 (w1.alloc (.cells (lkA s' f' l' r' c') 54)) (w.heap.size + 1) (.slice none 0 0) (.int .i64 0) (.int .i64 0) (.int .i64 0) (.int .i64 0)) := K2.out.below (Below.refl _ _)
    have BA : Hid (Below w.heap.size w (w1.alloc (.cells (lkA s' f' l' r' c') 54))) := bel_trans B1.out (Below.refl _ _)
    have Hno := Lib.hid hcp
    clear d0 d1 d2 d3 d4 df
    obtain ⟨d0, d1, d2, d3, d4, df⟩ := KA.out.cells
    go_wp2_with fail
    refine (unchanged_any A n cap lo hi ss f l r c (w1.alloc (.cells (lkA s' f' l' r' c') 54)) Hn.out hm (HS.out.below BA.out Hhi.out) (Nat.le_trans Hhi.out BA.out.size)).mono ?_
    rintro e w9 ⟨A9, c9, rfl, v9, b9⟩
    have B9 := Lib.hid (bel_trans BA.out b9)
    have z9 : w.heap.size + 1 < ((w1.alloc (.cells (lkA s' f' l' r' c') 54))).heap.size := KB.out.lt
    have KC := Lib.hid (KB.out.below b9)
    have V9 := Lib.hid v9
    clear b9 v9 d0 d1 d2 d3 d4 df
    obtain ⟨e0, e1, e2, e3, e4, ef⟩ := KC.out.cells
    go_wp2_with fail
    refine bodyPost_ret (v := .tuple #[.agg #[.slice A9 n c9, .int .i64 f, .int .i64 l, .int .i64 r, .int .i64 c], .bool false]) (by simp [results, Try.results25, go_sem, e0, e1, e2, e3, e4]) rfl (moveEnd_no Hno.out ⟨A9, c9, rfl, ?_, ?_⟩)
    · refine SlV.wide (lo := ((w1.alloc (.cells (lkA s' f' l' r' c') 54))).heap.size) (hi := w9.heap.size) ?_ (by omega) (by simp [World.setCell])
      iterate 5 refine SlV.setCell ?_ (by exact z9) _
      exact V9.out
    · iterate 5 refine Below.setCell ?_ (by show w.heap.size ≤ w.heap.size + 1; omega) _
      exact B9.out
  obtain ⟨us, fs, v⟩ := ok_val hok
  have Hok := Lib.hid hok
  clear hok
  obtain ⟨rfl, rfl, rfl, rfl, rfl⟩ := Heq.out v.len
  have Hv := Lib.hid v
  have hnn := Hn.out
  rw [v.len] at hnn
  subst hnn
  clear v Heq
  have hL : Lk (w1.alloc (.cells (lkA s' f' l' r' c') 54)) w1.heap.size s' f' l' r' c' := heap_alloc_new w1 _
  obtain ⟨g0, g1, g2, g3, gf⟩ := hL.nums
  have HL := Lib.hid hL
  clear hL
  have hfull := Hv.out.full
  go_wp2_with fail
  refine (placeOf_any w1.heap.size id f' l' r' c' s' us _ HL.out (inr_of Hv.out.len (val_range Hv.out)).1 Hv.out.seg (fun y hy => Hv.out.lt y (by simp [hy])) (by rw [List.length_append] at hfull; omega)).mono ?_
  rintro e w2 ⟨rfl, b2⟩
  have B2 := Lib.hid b2
  clear b2 g0 g1 g2 g3 gf hsc hsz
  by_cases hp : placeF s' us id = -1
  · have hcp : placeA s' f' l' r' c' id = -1 := by rw [placeA_val id Hv.out]; exact hp
    rw [hp]
    clear hp hfull
    have KA : Hid (Blk5 w2 w.heap.size (.slice A 60 cap) (.int .i64 f') (.int .i64 l') (.int .i64 r') (.int .i64 c')) := K1.out.below B2.out
    have KB : Hid (Blk5 w2 (w.heap.size + 1) (.slice none 0 0) (.int .i64 0) (.int .i64 0) (.int .i64 0) (.int .i64 0)) := K2.out.below B2.out
    have BA : Hid (Below w.heap.size w w2) := bel_trans B1.out B2.out
    have Hno := Lib.hid hcp
    clear d0 d1 d2 d3 d4 df
    obtain ⟨d0, d1, d2, d3, d4, df⟩ := KA.out.cells
    go_wp2_with fail
    refine (unchanged_any A 60 cap lo hi s' f' l' r' c' w2 Hn.out hm (HS.out.below BA.out Hhi.out) (Nat.le_trans Hhi.out BA.out.size)).mono ?_
    rintro e w9 ⟨A9, c9, rfl, v9, b9⟩
    have B9 := Lib.hid (bel_trans BA.out b9)
    have z9 : w.heap.size + 1 < (w2).heap.size := KB.out.lt
    have KC := Lib.hid (KB.out.below b9)
    have V9 := Lib.hid v9
    clear b9 v9 d0 d1 d2 d3 d4 df
    obtain ⟨e0, e1, e2, e3, e4, ef⟩ := KC.out.cells
    go_wp2_with fail
    refine bodyPost_ret (v := .tuple #[.agg #[.slice A9 60 c9, .int .i64 f', .int .i64 l', .int .i64 r', .int .i64 c'], .bool false]) (by simp [results, Try.results25, go_sem, e0, e1, e2, e3, e4]) rfl (moveEnd_no Hno.out ⟨A9, c9, rfl, ?_, ?_⟩)
    · refine SlV.wide (lo := (w2).heap.size) (hi := w9.heap.size) ?_ (by omega) (by simp [World.setCell])
      iterate 5 refine SlV.setCell ?_ (by exact z9) _
      exact V9.out
    · iterate 5 refine Below.setCell ?_ (by show w.heap.size ≤ w.heap.size + 1; omega) _
      exact B9.out
  obtain ⟨x, pv, nx, hpa, hpf, hx, hsx, hcr, hcpu, hpv, hnx, hc0, hc1, hll, hc2, us2, fs2, v2⟩ := move_val Hv.out hp
  have Hpa := Lib.hid hpa
  have Hpf := Lib.hid hpf
  have Hsx := Lib.hid hsx
  have Hpv := Lib.hid hpv
  have Hnx := Lib.hid hnx
  have Hll := Lib.hid hll
  have Hfull := Lib.hid hfull
  have hxb : ((x : Int) == -1) = false := by simp
  rw [hpf]
  clear hp hpa hpf hsx hcr hcpu hpv hnx hll v2 d0 d1 d2 d3 d4 df hfull
  have z1 : w.heap.size + 1 < w1.heap.size + 1 := by have := K2.out.lt; simpa using this
  have z1' : w.heap.size + 1 ≠ w1.heap.size := fun e => by
    have h1 := K2.out
    have h2 := HL.out
    rw [e] at h1
    unfold Blk5 at h1
    unfold Lk at h2
    rw [h1] at h2
    injection h2 with h3
    injection h3 with _ h4 _
    exact absurd h4 (by decide)
  go_wp2_with fail
  refine (placeOf_any w1.heap.size id f' l' r' c' s' us w2 (HL.out.below B2.out) (inr_of Hv.out.len (val_range Hv.out)).1 Hv.out.seg (fun y hy => Hv.out.lt y (by simp [hy])) (by have := Hfull.out; rw [List.length_append] at this; omega)).mono ?_
  rintro e w2' ⟨rfl, b2⟩
  rw [Hpf.out]
  have B2' := Lib.hid (bel_trans B2.out b2)
  clear b2
  go_wp2_with fail
  refine (remove_any w1.heap.size x f' l' r' c' id pv nx true s' w2' (HL.out.below B2'.out) Hv.out.len hx Hsx.out Hpv.out Hnx.out ⟨hc0, hc1⟩).mono ?_
  rintro e w3 ⟨rfl, h3, t3⟩
  have H3 := Lib.hid h3
  have K3 : Hid (Blk5 w3 (w.heap.size + 1) (.slice none 0 0) (.int .i64 0) (.int .i64 0) (.int .i64 0) (.int .i64 0)) := (K2.out.below B2'.out).of_block (t3.block _ (K2.out.below B2'.out).lt (by omega))
  have B3 : Hid (Below w.heap.size w w3) := (bel_trans B1.out B2'.out).trans (t3.below (by omega) (bel_trans B1.out B2'.out).size)
  have Hpl3 : Hid ((remS s' r' x).length = 60) := (remS_len _ _ _).trans Hv.out.len
  clear h3 t3
  obtain ⟨ff, hff⟩ : ∃ ff, (if pv = -1 then nx else f') = ff := ⟨_, rfl⟩
  obtain ⟨ll, hll⟩ : ∃ ll, (if nx = -1 then pv else l') = ll := ⟨_, rfl⟩
  rw [hff, hll] at H3
  rw [hll] at Hll
  have Hff := Lib.hid hff
  have Hlq := Lib.hid hll
  clear hff hll
  go_wp2_with fail
  refine (push_any w1.heap.size x id ff ll (c' - 1) (remS s' r' x) w3 H3.out Hpl3.out hx Hll.out ⟨hc2, by omega⟩).mono ?_
  rintro e w5 ⟨rfl, h5, t5⟩
  have H5 := Lib.hid h5
  have K5 : Hid (Blk5 w5 (w.heap.size + 1) (.slice none 0 0) (.int .i64 0) (.int .i64 0) (.int .i64 0) (.int .i64 0)) := K3.out.of_block (t5.block _ K3.out.lt (by omega))
  have B5 : Hid (Below w.heap.size w w5) := B3.out.trans (t5.below (by omega) B3.out.size)
  have hpl5 : (pushS (remS s' r' x) ll (x : Int) id).length = 60 := by
    have h6 := Hpl3.out
    unfold pushS setNext
    split <;> simp [h6]
  have Hpl5 := Lib.hid hpl5
  clear h5 t5 hpl5
  go_wp2_with fail
  refine (queue_any w1.heap.size _ _ _ _ (pushS (remS s' r' x) ll (x : Int) id) w5 Hpl5.out H5.out).mono ?_
  rintro e w4 ⟨A4, c4, rfl, v4, b4⟩
  have K4 := Lib.hid (K5.out.below b4)
  have B4 := Lib.hid (bel_trans B5.out b4)
  have V4 := Lib.hid v4
  have z3 : w.heap.size + 1 < w5.heap.size := K5.out.lt
  clear b4 v4
  obtain ⟨e0, e1, e2, e3, e4, ef⟩ := K4.out.cells
  obtain ⟨fg, hfg⟩ : ∃ fg, (if ll = -1 then (x : Int) else ff) = fg := ⟨_, rfl⟩
  rw [hfg]
  have Hfg := Lib.hid hfg
  clear hfg
  go_wp2_with fail
  refine bodyPost_ret (v := .tuple #[.agg #[.slice A4 60 c4, .int .i64 fg, .int .i64 (x : Int), .int .i64 (sl (remS s' r' x) x).next, .int .i64 (c' - 1 + 1)], .bool true]) (by simp [results, Try.results25, go_sem, e0, e1, e2, e3, e4]) rfl (moveEnd_yes Hpa.out Hsx.out ?_)
  rw [Hff.out, Hlq.out, Hfg.out]
  refine ⟨A4, c4, rfl, ?_, ?_⟩
  · refine SlV.wide (lo := w5.heap.size) (hi := w4.heap.size) ?_ (by omega) (by simp [World.setCell])
    iterate 5 refine SlV.setCell ?_ (by exact z3) _
    exact V4.out
  · iterate 5 refine Below.setCell ?_ (by show w.heap.size ≤ w.heap.size + 1; omega) _
    exact B4.out

set_option maxRecDepth 100000 in
set_option maxHeartbeats 2000000 in
theorem specMove_any (A : Option Addr) (n cap lo hi : Nat) (ss : List Sl) (f l r c id : Int) (w : World) (hn : ss.length = n) (hm : n ≤ 1048576) (h : SlV w lo hi A ss) (hhi : hi ≤ w.heap.size) :
    Calls Try.prog 42 #[.agg #[.slice A n cap, .int .i64 f, .int .i64 l, .int .i64 r, .int .i64 c], .int .i64 id] w (MoveEnd w n ss f l r c id) := by
  have Hn := Lib.hid hn
  have HS := Lib.hid h
  have Hhi := Lib.hid hhi
  clear h hn hhi
  go_enter Try.func42, Try.ntmps42
  go_wp2_with fail
  have hB0 : Below w.heap.size w ((w.alloc (.cells #[.slice A n cap, .int .i64 f, .int .i64 l, .int .i64 r, .int .i64 c] 26)).alloc (.cells #[.slice none 0 0, .int .i64 0, .int .i64 0, .int .i64 0, .int .i64 0] 26)) := ((Below.refl _ _).alloc (Nat.le_refl _) _).alloc (by simp) _
  have hK0 : Blk5 ((w.alloc (.cells #[.slice A n cap, .int .i64 f, .int .i64 l, .int .i64 r, .int .i64 c] 26)).alloc (.cells #[.slice none 0 0, .int .i64 0, .int .i64 0, .int .i64 0, .int .i64 0] 26)) (w.heap.size + 1) (.slice none 0 0) (.int .i64 0) (.int .i64 0) (.int .i64 0) (.int .i64 0) := by
    have h := heap_alloc_new (w.alloc (.cells #[.slice A n cap, .int .i64 f, .int .i64 l, .int .i64 r, .int .i64 c] 26)) (.cells #[.slice none 0 0, .int .i64 0, .int .i64 0, .int .i64 0, .int .i64 0] 26)
    simp only [World.size_alloc] at h
    exact h
  have hQ0 : Blk5 ((w.alloc (.cells #[.slice A n cap, .int .i64 f, .int .i64 l, .int .i64 r, .int .i64 c] 26)).alloc (.cells #[.slice none 0 0, .int .i64 0, .int .i64 0, .int .i64 0, .int .i64 0] 26)) w.heap.size (.slice A n cap) (.int .i64 f) (.int .i64 l) (.int .i64 r) (.int .i64 c) := Blk5.alloc (heap_alloc_new w _) _
  refine (specPlace_any A n cap ss f l r c id lo hi _ Hn.out hm (HS.out.below hB0 Hhi.out) (by have := Hhi.out; simp; omega)).mono ?_
  rintro e w2 ⟨rfl, b2⟩
  have B2 := Lib.hid (bel_trans hB0 b2)
  have K2 := Lib.hid (hK0.below b2)
  have Q2 := Lib.hid (hQ0.below b2)
  clear b2 hB0 hK0 hQ0
  obtain ⟨d0, d1, d2, d3, d4, df⟩ := Q2.out.cells
  by_cases hp : placeA ss f l r c id = -1
  · have Hcp := Lib.hid hp
    rw [hp]
    clear hp
    go_wp2_with fail
    refine (copy_any A n cap lo hi f l r c ss w2 Hn.out hm (HS.out.below B2.out Hhi.out) (Nat.le_trans Hhi.out B2.out.size)).mono ?_
    rintro e w1 ⟨A1, c1, rfl, v1, b1⟩
    have K1 : Hid (Blk5 w1 (w.heap.size + 1) (.slice none 0 0) (.int .i64 0) (.int .i64 0) (.int .i64 0) (.int .i64 0)) := Blk5.below K2.out b1
    have B1 := Lib.hid (bel_trans B2.out b1)
    have V1 := Lib.hid v1
    have z0 : w.heap.size + 1 < w2.heap.size := Blk5.lt K2.out
    clear b1 v1 d0 d1 d2 d3 d4 df
    obtain ⟨e0, e1, e2, e3, e4, ef⟩ := K1.out.cells
    go_wp2_with fail
    refine bodyPost_ret (v := .tuple #[.agg #[.slice A1 n c1, .int .i64 f, .int .i64 l, .int .i64 r, .int .i64 c], .bool false]) (by simp [results, Try.results42, go_sem, e0, e1, e2, e3, e4]) rfl (moveEnd_no Hcp.out ⟨A1, c1, rfl, ?_, ?_⟩)
    · refine SlV.wide (lo := w2.heap.size) (hi := w1.heap.size) ?_ (by omega) (by simp [World.setCell])
      iterate 5 refine SlV.setCell ?_ (by exact z0) _
      exact V1.out
    · iterate 5 refine Below.setCell ?_ (by show w.heap.size ≤ w.heap.size + 1; omega) _
      exact B1.out
  have hok : okQ ss f l r c = true := by
    cases h1 : okQ ss f l r c
    · exact absurd (placeA_no id h1) hp
    · rfl
  obtain ⟨us, fs, v⟩ := ok_val hok
  obtain ⟨x, pv, nx, hpa, _, hx, hsx, hcr, hcpu, _, _, _, _, _, _, us2, fs2, v2⟩ := move_val (id := id) v (by rw [← placeA_val id v]; exact hp)
  have Hpa := Lib.hid hpa
  have Hsx := Lib.hid hsx
  have Hcr := Lib.hid hcr
  have Hcpu := Lib.hid hcpu
  have hx0 : ¬ (x : Int) < 0 := by omega
  rw [hpa]
  clear hp hpa hsx hcr hcpu v v2 hok
  go_wp2_with fail
  refine (specRemove_any A n cap lo hi ss f l r c (x : Int) w2 Hn.out hm (HS.out.below B2.out Hhi.out) (Nat.le_trans Hhi.out B2.out.size)).mono ?_
  intro e w3 hend
  unfold RemEnd at hend
  rw [if_pos Hcr.out, Int.toNat_natCast, Hsx.out] at hend
  obtain ⟨A3, c3, rfl, v3, b3⟩ := hend
  obtain ⟨ff, hff⟩ : ∃ ff, (if pv = -1 then nx else f) = ff := ⟨_, rfl⟩
  obtain ⟨ll, hll⟩ : ∃ ll, (if nx = -1 then pv else l) = ll := ⟨_, rfl⟩
  have Hff := Lib.hid hff
  have Hll := Lib.hid hll
  simp only [hff, hll]
  rw [hff, hll] at Hcpu
  have Hl3 : Hid ((remS ss r x).length = n) := (remS_len _ _ _).trans Hn.out
  have b3' := bel_trans b3 (bel_alloc w3 (.cells #[.slice A3 n c3, .int .i64 ff, .int .i64 ll, .int .i64 (x : Int), .int .i64 (c - 1)] 26))
  have B3 := Lib.hid (bel_trans B2.out b3')
  have K3 := Lib.hid (K2.out.below b3')
  have V3 := Lib.hid (v3.below (bel_alloc w3 (.cells #[.slice A3 n c3, .int .i64 ff, .int .i64 ll, .int .i64 (x : Int), .int .i64 (c - 1)] 26)) (Nat.le_refl _))
  have z0 : w.heap.size + 1 < w2.heap.size := K2.out.lt
  have z3 : w2.heap.size ≤ w3.heap.size := b3.size
  clear hff hll b3 b3' v3 d0 d1 d2 d3 d4 df
  go_wp2_with fail
  refine (specPush_any A3 n c3 _ _ (remS ss r x) ff ll (x : Int) (c - 1) id _ Hl3.out hm V3.out (by rw [World.size_alloc]; omega)).mono ?_
  intro e w4 hend
  unfold PushEnd at hend
  rw [if_pos Hcpu.out, Int.toNat_natCast] at hend
  obtain ⟨A4, c4, rfl, v4, b4⟩ := hend
  obtain ⟨fg, hfg⟩ : ∃ fg, (if ll = -1 then (x : Int) else ff) = fg := ⟨_, rfl⟩
  have Hfg := Lib.hid hfg
  simp only [hfg]
  obtain ⟨nn, hnn⟩ : ∃ nn, (sl (remS ss r x) x).next = nn := ⟨_, rfl⟩
  have Hnn := Lib.hid hnn
  simp only [hnn]
  have B4 := Lib.hid (bel_trans B3.out b4)
  have K5 := Lib.hid (K3.out.below b4)
  have V4 := Lib.hid v4
  have z4 : w3.heap.size < w4.heap.size := by have := b4.size; rw [World.size_alloc] at this; omega
  rw [World.size_alloc] at V4
  clear hfg hnn b4 v4
  have hz : w.heap.size + 1 < w4.heap.size := by omega
  obtain ⟨e0, e1, e2, e3, e4, ef⟩ := K5.out.cells
  go_wp2_with fail
  refine bodyPost_ret (v := .tuple #[.agg #[.slice A4 n c4, .int .i64 fg, .int .i64 (x : Int), .int .i64 nn, .int .i64 (c - 1 + 1)], .bool true]) (by simp [results, Try.results42, go_sem, e0, e1, e2, e3, e4, hz]) rfl (moveEnd_yes Hpa.out Hsx.out ?_)
  rw [Hff.out, Hll.out, Hfg.out, Hnn.out]
  refine ⟨A4, c4, rfl, ?_, ?_⟩
  · refine SlV.wide (lo := w3.heap.size + 1) (hi := w4.heap.size) (SlV.below ?_ (bel_alloc _ _) (by simp [World.setCell])) (by omega) (by simp [World.setCell])
    iterate 5 refine SlV.setCell ?_ (by show w.heap.size + 1 < w3.heap.size + 1; omega) _
    exact V4.out
  · refine Below.alloc ?_ (by simp [World.setCell]; omega) _
    iterate 5 refine Below.setCell ?_ (by show w.heap.size ≤ w.heap.size + 1; omega) _
    exact B4.out
end Go.Proofs.Ytjbfmagedkmngaa.Que
