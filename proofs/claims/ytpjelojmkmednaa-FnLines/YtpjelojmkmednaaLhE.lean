/- The program's PopDue. The reference's PopDue. -/
import Derived.Test.YtpjelojmkmednaaLhD
namespace Go.Proofs.Ytpjelojmkmednaa.Hp
open Go.RowKit Go.Deep Base

theorem popD_no {ds : List Du} {q now : Int} (h : okH ds q = false) : popD ds q now = ds ∧ popL ds q now = [] := by unfold popD popL; rw [if_neg (by rw [h]; simp), if_neg (by rw [h]; simp)]; exact ⟨rfl, rfl⟩
theorem popD_yes {ds : List Du} {q now : Int} (h : okH ds q = true) : popD ds q now = popR ds.length ds now ∧ popL ds q now = popI ds.length ds now := by unfold popD popL; rw [if_pos h, if_pos h]; exact ⟨rfl, rfl⟩

/-- What a call leaves that hands back a heap and a list of integers that share no memory. -/
def HeapInts (w : World) (ds' : List Du) (q : Int) (ids : List Int) (e : Ending) (w' : World) : Prop :=
  ∃ A cap A2 c2 mid, e = .returned (.tuple #[.agg #[.slice A ds'.length cap, .int .i64 q], .slice A2 ids.length c2]) ∧ w.heap.size ≤ mid ∧ mid ≤ w'.heap.size ∧ DV w' w.heap.size mid A ds' ∧ IV w' mid w'.heap.size A2 ids ∧ Below w.heap.size w w'

/-- The same; the list has a row of its own. -/
def HeapIntsO (w : World) (ds' : List Du) (q : Int) (ids : List Int) (e : Ending) (w' : World) : Prop :=
  ∃ A cap A2 c2 mid, e = .returned (.tuple #[.agg #[.slice A ds'.length cap, .int .i64 q], .slice A2 ids.length c2]) ∧ w.heap.size ≤ mid ∧ mid ≤ w'.heap.size ∧ DV w' w.heap.size mid A ds' ∧ IV w' mid w'.heap.size A2 ids ∧ Below w.heap.size w w' ∧ w'.ownsRow mid 3 1 (.slice A2 ids.length c2) ids.length (ids.map (Value.int .i64))
theorem HeapIntsO.plain {w : World} {ds' : List Du} {q : Int} {ids : List Int} {e : Ending} {w' : World} (h : HeapIntsO w ds' q ids e w') : HeapInts w ds' q ids e w' := by
  obtain ⟨A, cap, A2, c2, mid, h1, h2, h3, h4, h5, h6, _⟩ := h
  exact ⟨A, cap, A2, c2, mid, h1, h2, h3, h4, h5, h6⟩
theorem owns_other {w w' : World} {base p : Nat} {t : TypeId} {sz n : Nat} {v : Value} {xs : List Value} (h : w.ownsRow base t sz v n xs) (hk : ∀ k, k ≠ p → w'.heap[k]? = w.heap[k]?) (hp : some p ≠ v.ownBlock) : w'.ownsRow base t sz v n xs := by
  refine ⟨h.1, ?_⟩
  rcases h.2 with hn | ⟨r, c, cur, rfl, hb', hg, rest⟩
  · exact .inl hn
  · exact .inr ⟨r, c, cur, rfl, hb', (hk r (fun e => hp (by rw [e]; rfl))).trans hg, rest⟩

set_option maxRecDepth 100000 in
set_option maxHeartbeats 1000000 in
theorem implPop_own (A : Option Addr) (n cap lo hi : Nat) (ds : List Du) (q now : Int) (w : World) (hn : ds.length = n) (hm : n ≤ 1048576) (h : DV w lo hi A ds) (hs : hi ≤ w.heap.size) :
    Calls Try.prog 46 #[.agg #[.slice A n cap, .int .i64 q], .int .i64 now] w (HeapIntsO w (popD ds q now) q (popL ds q now)) := by
  have Hn := Lib.hid hn
  have HI := Lib.hid h
  clear hn h
  go_enter Try.func46, Try.ntmps46
  go_wp2_with fail
  have hB0 : Below w.heap.size w ((w.alloc (.cells #[.slice A n cap, .int .i64 q] 29)).alloc (.cells #[.slice none 0 0, .int .i64 0] 29)) := ((Below.refl _ _).alloc (Nat.le_refl _) _).alloc (by simp) _
  refine (treeOf_sh A n cap lo hi ds q _ Hn.out hm (HI.out.below hB0 hs) (by simp; omega)).mono ?_
  rintro e w1 ⟨A1, c1, rfl, v1, b1, sh1⟩
  have X1 : Hid (Blk2 w1 w.heap.size (.slice A n cap) (.int .i64 q)) := Blk2.below (Blk2.alloc (heap_alloc_new w _) _) b1
  have Y1 : Hid (Blk2 w1 (w.heap.size + 1) (.slice none 0 0) (.int .i64 0)) := by
    have h := heap_alloc_new (w.alloc (.cells #[.slice A n cap, .int .i64 q] 29)) (.cells #[.slice none 0 0, .int .i64 0] 29)
    rw [World.size_alloc] at h
    exact (b1.block _ (by simp)).trans h
  have V1 : Hid (DV w1 (w.heap.size + 1 + 1) w1.heap.size A1 ds) := by have h := v1; simp only [World.size_alloc] at h; exact h
  have S1 : Hid (Sh w1 (w.heap.size + 1 + 1) w1.heap.size A1 n c1) := by have h := sh1; simp only [World.size_alloc] at h; exact h
  have B1 := Lib.hid (bel_trans hB0 b1)
  have z1 : w.heap.size + 1 < w1.heap.size := Y1.out.lt
  have z1' : w.heap.size < w1.heap.size := by omega
  clear b1 v1 hB0 sh1
  cases hok : okH ds q
  · obtain ⟨e1, e2⟩ := popD_no (now := now) hok
    have He1 := Lib.hid e1
    have He2 := Lib.hid e2
    clear hok e1 e2
    obtain ⟨x0, x1, xf⟩ := X1.out.cells
    go_wp2_with fail
    refine (sameHeap_any A n cap lo hi ds q _ Hn.out hm (HI.out.below (bel_trans B1.out (bel_alloc w1 _)) hs) (by have := B1.out.size; simp; omega)).mono ?_
    rintro e w5 ⟨A5, c5, rfl, v5, b5⟩
    have Y5 := Lib.hid ((Y1.out.alloc _).below b5)
    have V5 := Lib.hid v5
    have B5 := Lib.hid (bel_trans (bel_trans B1.out (bel_alloc w1 _)) b5)
    have s5 := b5.size
    rw [World.size_alloc] at s5 V5
    clear b5 v5
    obtain ⟨y0, y1, yf⟩ := Y5.out.cells
    have hyl := Y5.out.lt
    go_wp2
    refine bodyPost_ret (v := .tuple #[.agg #[.slice A5 n c5, .int .i64 q], .slice none 0 0]) (by simp [results, Try.results46, go_sem, y0, y1]) rfl ?_
    rw [He1.out, He2.out]
    refine ⟨A5, c5, none, 0, w5.heap.size, by rw [Hn.out]; rfl, by omega, by simp [World.setCell], ?_, fun h => absurd h (by simp), ?_, World.ownsRow_nil _ _ _ _⟩
    · refine DV.wide (lo := w1.heap.size + 1) (hi := w5.heap.size) ?_ (by omega) (Nat.le_refl _)
      iterate 2 refine DV.setCell ?_ (by show w.heap.size + 1 < w1.heap.size + 1; omega) _
      exact V5.out
    · iterate 2 refine Below.setCell ?_ (by show w.heap.size ≤ w.heap.size + 1; omega) _
      exact B5.out
  obtain ⟨e1, e2⟩ := popD_yes (now := now) hok
  have He1 := Lib.hid e1
  have He2 := Lib.hid e2
  have Hv := Lib.hid (okH_val hok)
  clear hok e1 e2
  go_wp2_with fail
  obtain ⟨W3, hW3⟩ : ∃ W3, w1.alloc (.cells #[.slice A1 n c1, .func (.func 116) #[] #[]] 104) = W3 := ⟨_, rfl⟩
  have T3 : Hid (Tr W3 w1.heap.size A1 n c1) := by rw [← hW3]; exact heap_alloc_new w1 _
  have V3 : Hid (DV W3 (w.heap.size + 1 + 1) w1.heap.size A1 ds) := by rw [← hW3]; exact V1.out.below (bel_alloc w1 _) (Nat.le_refl _)
  have hc1 : n ≤ c1 := by
    rcases S1.out with ⟨_, h0, h1⟩ | ⟨_, _, _, _, _, _, h4, _⟩
    · omega
    · exact h4
  have X3 : Hid (Blk2 W3 w.heap.size (.slice A n cap) (.int .i64 q)) := by rw [← hW3]; exact X1.out.alloc _
  have Y3 : Hid (Blk2 W3 (w.heap.size + 1) (.slice none 0 0) (.int .i64 0)) := by rw [← hW3]; exact Y1.out.alloc _
  have B3 : Hid (Below w.heap.size w W3) := by rw [← hW3]; exact bel_trans B1.out (bel_alloc w1 _)
  have z3 : w1.heap.size < W3.heap.size := by rw [← hW3]; simp
  rw [hW3]
  clear hW3 V1 B1 S1 X1 Y1
  refine (popUntil_any w1.heap.size (w.heap.size + 1 + 1) w1.heap.size c1 A1 ds q now W3 Hv.out (by rw [Hn.out]; exact T3.out) V3.out (by rw [Hn.out]; exact hc1) (by omega) (Nat.le_refl _) (by omega)).mono ?_
  rintro e w4 ⟨A2, c2, rfl, i4, t4, v4, b4, o4⟩
  have I4 := Lib.hid i4
  have T4 := Lib.hid t4
  have V4 := Lib.hid v4
  have B4 := Lib.hid (B3.out.trans (b4.mono (by omega)))
  have X4 := Lib.hid (X3.out.of_block (b4.block _ (by omega)))
  have Y4 := Lib.hid (Y3.out.of_block (b4.block _ (by omega)))
  have z4 : W3.heap.size ≤ w4.heap.size := b4.size
  have O4 := Lib.hid o4
  clear i4 t4 v4 b4 o4
  have Hl1 : Hid ((popD ds q now).length = (popR ds.length ds now).length) := by rw [He1.out]; rfl
  rw [← He1.out] at T4 V4
  rw [← He2.out] at I4 O4 ⊢
  clear He1 He2 Hl1
  obtain ⟨n', hn'⟩ : ∃ n', (popD ds q now).length = n' := ⟨_, rfl⟩
  obtain ⟨k', hk'⟩ : ∃ k', (popL ds q now).length = k' := ⟨_, rfl⟩
  rw [hn'] at T4
  rw [hk']
  have Hn' := Lib.hid hn'
  have Hk' := Lib.hid hk'
  clear hn' hk'
  obtain ⟨t0, t1, _⟩ := T4.out.cells
  obtain ⟨x0, x1, xf⟩ := X4.out.cells
  obtain ⟨y0, y1, yf⟩ := Y4.out.cells
  have hyl := Y4.out.lt
  have htl := T4.out.lt
  go_wp2
  refine bodyPost_ret (v := .tuple #[.agg #[.slice A1 n' c1, .int .i64 q], .slice A2 k' c2]) (by simp [results, Try.results46, go_sem, y0, y1]) rfl ⟨A1, c1, A2, c2, w1.heap.size, by rw [Hn'.out, Hk'.out], by omega, by simp [World.setCell]; omega, ?_, ?_, ?_, ?_⟩
  · refine DV.wide (lo := w.heap.size + 1 + 1) (hi := w1.heap.size) ?_ (by omega) (Nat.le_refl _)
    iterate 2 refine DV.setCell ?_ (by show w.heap.size + 1 < w.heap.size + 1 + 1; omega) _
    exact V4.out
  · refine IV.wide (lo := W3.heap.size) (hi := w4.heap.size) ?_ (by omega) (by simp [World.setCell])
    refine I4.out.of_block fun g h1 h2 => ?_
    rw [heap_setCell_other _ _ _ _ (by show g ≠ w.heap.size + 1; omega), heap_setCell_other _ _ _ _ (by show g ≠ w.heap.size + 1; omega)]
  · iterate 2 refine Below.setCell ?_ (by show w.heap.size ≤ w.heap.size + 1; omega) _
    exact B4.out
  · rw [Hk'.out] at O4 ⊢
    have h1 : ∀ k, k ≠ w.heap.size + 1 → ((w4.setCell ⟨w.heap.size + 1, 0, none⟩ (.slice A1 n' c1)).setCell ⟨w.heap.size + 1, 1, none⟩ (.int .i64 q)).heap[k]? = w4.heap[k]? := fun k hk => by rw [heap_setCell_other _ _ _ _ hk, heap_setCell_other _ _ _ _ hk]
    have h2 := owns_other O4.out h1 (fun e => by have := (O4.out.lt _ e.symm).1; omega)
    refine ⟨h2.1, ?_⟩
    rcases h2.2 with hn | ⟨r, c, cur, e1, hb', hg, rest⟩
    · exact .inl hn
    · exact .inr ⟨r, c, cur, e1, by omega, hg, rest⟩

theorem implPop_any (A : Option Addr) (n cap lo hi : Nat) (ds : List Du) (q now : Int) (w : World) (hn : ds.length = n) (hm : n ≤ 1048576) (h : DV w lo hi A ds) (hs : hi ≤ w.heap.size) :
    Calls Try.prog 46 #[.agg #[.slice A n cap, .int .i64 q], .int .i64 now] w (HeapInts w (popD ds q now) q (popL ds q now)) :=
  (implPop_own A n cap lo hi ds q now w hn hm h hs).mono fun _ _ h => h.plain
end Go.Proofs.Ytpjelojmkmednaa.Hp

namespace Go.Proofs.Ytpjelojmkmednaa.Hp
open Go.RowKit Go.Deep Base

structure SpopSt (w W0 wr : World) (B : Nat) (ds es : List Du) (q now : Int) (v : Value) (pre : List Int) (A : Option Addr) (c : Nat) : Prop where
  box : Blk2 wr B (.slice A es.length c) (.int .i64 q)
  items : DV wr (w.heap.size + 1 + 1) wr.heap.size A es
  form : Sh wr (w.heap.size + 1 + 1) wr.heap.size A es.length c
  val : HV es q
  own : wr.ownsRow (w.heap.size + 1 + 1) 3 1 v pre.length (pre.map (Value.int .i64))
  rest : popR ds.length ds now = popR es.length es now
  ids : popI ds.length ds now = pre ++ popI es.length es now
  few : pre.length + es.length ≤ ds.length
  old : Below (w.heap.size + 1 + 1) W0 wr

/-- What the reference's PopDue leaves. -/
def HeapIntsR (w : World) (ds' : List Du) (q : Int) (ids : List Int) (e : Ending) (w' : World) : Prop :=
  ∃ A cap A2 c2, e = .returned (.tuple #[.agg #[.slice A ds'.length cap, .int .i64 q], .slice A2 ids.length c2]) ∧ DV w' w.heap.size w'.heap.size A ds' ∧ IV w' w.heap.size w'.heap.size A2 ids ∧ Below w.heap.size w w'

theorem owns_below {w w' : World} {base B : Nat} {t : TypeId} {sz n : Nat} {v : Value} {xs : List Value} (h : w.ownsRow base t sz v n xs) (hb : Below B w w') (hB : w.heap.size ≤ B) : w'.ownsRow base t sz v n xs := by
  refine ⟨h.1, ?_⟩
  rcases h.2 with hn | ⟨r, c, cur, rfl, hb', hg, rest⟩
  · exact .inl hn
  · exact .inr ⟨r, c, cur, rfl, hb', (hb.block r (by have := (Array.getElem?_eq_some_iff.1 hg).1; omega)).trans hg, rest⟩

set_option maxRecDepth 100000 in
set_option maxHeartbeats 2000000 in
theorem specPop_any (A : Option Addr) (n cap lo hi : Nat) (ds : List Du) (q now : Int) (w : World) (hn : ds.length = n) (hm : n ≤ 1048576) (h : DV w lo hi A ds) (hs : hi ≤ w.heap.size) :
    Calls Try.prog 75 #[.agg #[.slice A n cap, .int .i64 q], .int .i64 now] w (HeapIntsR w (popD ds q now) q (popL ds q now)) := by
  have Hn := Lib.hid hn
  have HI := Lib.hid h
  clear hn h
  obtain ⟨i0, hi0, hz0, hz1, hz2⟩ := info_parts infoInt
  have Hi0 := Lib.hid hi0
  have Hz0 := Lib.hid hz0
  have Hz1 := Lib.hid hz1
  have Hz2 := Lib.hid hz2
  clear hi0 hz0 hz1 hz2
  go_enter Try.func75, Try.ntmps75
  go_wp2_with fail
  obtain ⟨W0, hW0⟩ : ∃ W0, (w.alloc (.cells #[.slice A n cap, .int .i64 q] 29)).alloc (.cells #[.slice none 0 0, .int .i64 0] 29) = W0 := ⟨_, rfl⟩
  have B0 : Hid (Below w.heap.size w W0) := by rw [← hW0]; exact ((Below.refl _ _).alloc (Nat.le_refl _) _).alloc (by simp) _
  have X0 : Hid (Blk2 W0 w.heap.size (.slice A n cap) (.int .i64 q)) := by rw [← hW0]; exact Blk2.alloc (heap_alloc_new w _) _
  have Y0 : Hid (Blk2 W0 (w.heap.size + 1) (.slice none 0 0) (.int .i64 0)) := by
    have h := heap_alloc_new (w.alloc (.cells #[.slice A n cap, .int .i64 q] 29)) (.cells #[.slice none 0 0, .int .i64 0] 29)
    rw [World.size_alloc, hW0] at h
    exact h
  have z0 : W0.heap.size = w.heap.size + 1 + 1 := by rw [← hW0]; simp
  have Hz0' := Lib.hid z0
  rw [hW0]
  clear hW0 z0
  refine (copy_any A n cap lo hi q ds W0 Hn.out hm (HI.out.below B0.out hs) (by have := B0.out.size; omega)).mono ?_
  rintro e w1 ⟨A1, c1, rfl, v1, b1, sh1⟩
  have B1 := Lib.hid b1
  have V1 : Hid (DV w1 (w.heap.size + 1 + 1) w1.heap.size A1 ds) := by rw [← Hz0'.out]; exact v1
  have S1 : Hid (Sh w1 (w.heap.size + 1 + 1) w1.heap.size A1 n c1) := by rw [← Hz0'.out]; exact sh1
  have z1 : w.heap.size + 1 + 1 ≤ w1.heap.size := by have := b1.size; have := Hz0'.out; omega
  have z1a : w.heap.size < w1.heap.size := by omega
  have z1b : w.heap.size + 1 < w1.heap.size := by omega
  clear b1 v1 sh1
  obtain ⟨x0, x1, xf⟩ := (X0.out.below B1.out).cells
  go_wp2_with fail
  obtain ⟨W3, hW3⟩ : ∃ W3, (w1.alloc (.cells #[.slice A1 n c1, .int .i64 q] 29)).alloc (.cells #[] 3) = W3 := ⟨_, rfl⟩
  have b3 : Below w1.heap.size w1 W3 := by rw [← hW3]; exact ((Below.refl _ _).alloc (Nat.le_refl _) _).alloc (by simp) _
  have T3 : Hid (Blk2 W3 w1.heap.size (.slice A1 n c1) (.int .i64 q)) := by rw [← hW3]; exact Blk2.alloc (heap_alloc_new w1 _) _
  have O3 : Hid (W3.ownsRow (w.heap.size + 1 + 1) 3 1 (.slice (some ⟨w1.heap.size + 1, 0, none⟩) 0 0) 0 []) := by
    have h := World.ownsRow_lit (base := w.heap.size + 1 + 1) (e := 3) (size := 1) (w1.alloc (.cells #[.slice A1 n c1, .int .i64 q] 29)) #[] 0 (by simp; omega) (by simp) (by simp)
    rw [World.size_alloc, hW3] at h
    exact h
  have V3 := Lib.hid (V1.out.below b3 (Nat.le_refl _))
  have S3 := Lib.hid (S1.out.below b3 (Nat.le_refl _))
  have z3 : w1.heap.size + 1 < W3.heap.size := by rw [← hW3]; simp
  have B3 := Lib.hid (bel_trans B1.out b3)
  rw [hW3]
  clear hW3 x0 x1 xf b3 V1 S1 B1
  refine (specHeapOk_any A n cap lo hi ds q W3 Hn.out hm (HI.out.below (bel_trans B0.out B3.out) hs) (by have := B0.out.size; have := B3.out.size; omega)).mono ?_
  rintro e w4 ⟨rfl, b4⟩
  have B4 := Lib.hid (bel_trans B3.out b4)
  have T4 := Lib.hid (T3.out.below b4)
  have V4 := Lib.hid (V3.out.below b4 (by omega))
  have S4 := Lib.hid (S3.out.below b4 (by omega))
  have O4 := Lib.hid (owns_below O3.out b4 (Nat.le_refl _))
  have z4 : W3.heap.size ≤ w4.heap.size := b4.size
  clear b4 B3 T3 V3 S3 O3
  have HY : Hid (∀ W, Below (w.heap.size + 1 + 1) W0 W → Blk2 W (w.heap.size + 1) (.slice none 0 0) (.int .i64 0)) := fun W hW => Y0.out.of_block (hW.block _ (by omega))
  have HFin : Hid (∀ W A5 c5 A6 c6, Below (w.heap.size + 1 + 1) W0 W → DV W (w.heap.size + 1 + 1) W.heap.size A5 (popD ds q now) → IV W (w.heap.size + 1 + 1) W.heap.size A6 (popL ds q now) → HeapIntsR w (popD ds q now) q (popL ds q now) (.returned (.tuple #[.agg #[.slice A5 (popD ds q now).length c5, .int .i64 q], .slice A6 (popL ds q now).length c6])) ((W.setCell ⟨w.heap.size + 1, 0, none⟩ (.slice A5 (popD ds q now).length c5)).setCell ⟨w.heap.size + 1, 1, none⟩ (.int .i64 q))) := fun W A5 c5 A6 c6 hb hv hi' => by
    refine ⟨A5, c5, A6, c6, rfl, ?_, ?_, ?_⟩
    · refine DV.wide (lo := w.heap.size + 1 + 1) (hi := W.heap.size) ?_ (by omega) (by simp [World.setCell])
      iterate 2 refine DV.setCell ?_ (by show w.heap.size + 1 < w.heap.size + 1 + 1; omega) _
      exact hv
    · refine IV.wide (lo := w.heap.size + 1 + 1) (hi := W.heap.size) ?_ (by omega) (by simp [World.setCell])
      refine hi'.of_block fun g h1 h2 => ?_
      rw [heap_setCell_other _ _ _ _ (by show g ≠ w.heap.size + 1; omega), heap_setCell_other _ _ _ _ (by show g ≠ w.heap.size + 1; omega)]
    · iterate 2 refine Below.setCell ?_ (by show w.heap.size ≤ w.heap.size + 1; omega) _
      exact B0.out.trans (hb.mono (by omega))
  cases hok : okH ds q
  · obtain ⟨e1, e2⟩ := popD_no (now := now) hok
    clear hok
    obtain ⟨t0, t1, tf⟩ := T4.out.cells
    obtain ⟨y0, y1, yf⟩ := (HY.out w4 (B4.out.mono (by have := Hz0'.out; omega))).cells
    have hyl := (HY.out w4 (B4.out.mono (by have := Hz0'.out; omega))).lt
    have htl := T4.out.lt
    have HF2 : Hid (HeapIntsR w (popD ds q now) q (popL ds q now) (.returned (.tuple #[.agg #[.slice A1 n c1, .int .i64 q], .slice none 0 0])) ((w4.setCell ⟨w.heap.size + 1, 0, none⟩ (.slice A1 n c1)).setCell ⟨w.heap.size + 1, 1, none⟩ (.int .i64 q))) := by
      have h1 := HFin.out w4 A1 c1 none 0 (B4.out.mono (by have := Hz0'.out; omega)) (by rw [e1]; exact V4.out.wide (Nat.le_refl _) (by omega)) (by rw [e2]; exact IV.nil _ _ _ _)
      rw [e1, e2, Hn.out] at h1
      rw [e1, e2]
      exact h1
    clear HFin e1 e2
    go_wp2
    exact bodyPost_ret (v := .tuple #[.agg #[.slice A1 n c1, .int .i64 q], .slice none 0 0]) (by simp [results, Try.results75, go_sem, y0, y1]) rfl HF2.out
  obtain ⟨e1, e2⟩ := popD_yes (now := now) hok
  have He1 := Lib.hid e1
  have He2 := Lib.hid e2
  have Hv := Lib.hid (okH_val hok)
  have hfew : n ≤ 100 := by have := Hv.out.few; rw [Hn.out] at this; exact this
  clear e1 e2 hok
  have St0 : Hid (SpopSt w W0 w4 w1.heap.size ds ds q now (.slice (some ⟨w1.heap.size + 1, 0, none⟩) 0 0) [] A1 c1) :=
    ⟨by rw [Hn.out]; exact T4.out, V4.out.wide (Nat.le_refl _) (by omega), by rw [Hn.out]; exact S4.out.wide (Nat.le_refl _) (by omega), Hv.out, O4.out, rfl, rfl, by simp, B4.out.mono (by have := Hz0'.out; omega)⟩
  clear B4 T4 V4 S4 O4
  go_wp2_with fail
  go_loopw [7, 8] (fun x _ wr => ∃ (v : Value) (es : List Du) (pre : List Int) (A' : Option Addr) (c' : Nat), v = x ∧ SpopSt w W0 wr w1.heap.size ds es q now v pre A' c') (fun _ _ wr => lenAt wr w1.heap.size)
  case atStart => exact ⟨_, ds, [], A1, c1, rfl, St0.out⟩
  case round =>
    obtain ⟨v, es, pre, A', c', hv, st⟩ := hrel
    subst hv
    have St := Lib.hid st
    clear st St0
    obtain ⟨t0, t1, tf⟩ := St.out.box.cells
    have htl := St.out.box.lt
    have hesl : es.length ≤ n := by have := St.out.few; rw [Hn.out] at this; omega
    cases hdue : dueB es now
    · have Hdue := Lib.hid hdue
      have HY2 := Lib.hid (HY.out wr St.out.old)
      obtain ⟨y0, y1, yf⟩ := HY2.out.cells
      have hyl := HY2.out.lt
      obtain ⟨A6, c6, rfl⟩ := owns_form St.out.own
      have HF2 : Hid (HeapIntsR w (popD ds q now) q (popL ds q now) (.returned (.tuple #[.agg #[.slice A' es.length c', .int .i64 q], .slice A6 pre.length c6])) ((wr.setCell ⟨w.heap.size + 1, 0, none⟩ (.slice A' es.length c')).setCell ⟨w.heap.size + 1, 1, none⟩ (.int .i64 q))) := by
        obtain ⟨h1, h2⟩ := pop_stop (F := es.length) Hdue.out
        have h3 := St.out.rest
        have h4 := St.out.ids
        rw [h1, ← He1.out] at h3
        rw [h2, List.append_nil, ← He2.out] at h4
        have h5 := HFin.out wr A' c' A6 c6 St.out.old (by rw [h3]; exact St.out.items) (by rw [h4]; exact iv_owns St.out.own)
        rw [h3, h4] at h5
        rw [h3, h4]
        exact h5
      clear HFin
      have hne1 : w1.heap.size ≠ w.heap.size + 1 := by omega
      have hstop : es.length = 0 ∨ (0 < es.length ∧ now < (es.getD 0 zDu).at) := by
        by_cases h0 : 0 < es.length
        · right
          unfold dueB at hdue
          rw [decide_eq_true h0] at hdue
          simp at hdue
          exact ⟨h0, by rw [List.getD_eq_getElem?_getD]; exact hdue⟩
        · left; omega
      clear hdue
      rcases hstop with h0 | ⟨h0, h1⟩
      · have hnd : decide (0 < (es.length : Int)) = false := decide_eq_false (by omega)
        have hnn : ¬ (0 : Int) < (es.length : Int) := by omega
        obtain ⟨nl, hnl⟩ : ∃ nl, es.length = nl := ⟨_, rfl⟩
        rw [hnl] at t0 hnd hnn HF2
        clear hnl
        go_wp2
        exact bodyPost_ret (v := .tuple #[.agg #[.slice A' nl c', .int .i64 q], .slice A6 pre.length c6]) (by simp [results, Try.results75, go_sem, y0, y1]) rfl HF2.out
      · obtain ⟨g, rfl, hg1, hg2, hrd⟩ := St.out.items h0
        obtain ⟨k0, k1, k2, _⟩ := hrd 0 h0
        simp only [Nat.zero_mul, Nat.zero_add] at k0 k1 k2
        generalize (es.getD 0 zDu).at = dat at k0 h1
        clear hrd
        have hnd : decide (0 < (es.length : Int)) = true := decide_eq_true (by omega)
        have hnn : (0 : Int) < (es.length : Int) := by omega
        have h1n : ¬ dat ≤ now := by omega
        obtain ⟨nl, hnl⟩ : ∃ nl, es.length = nl := ⟨_, rfl⟩
        rw [hnl] at t0 hnd hnn HF2
        clear hnl
        go_wp2
        exact bodyPost_ret (v := .tuple #[.agg #[.slice (some ⟨g, 0, none⟩) nl c', .int .i64 q], .slice A6 pre.length c6]) (by simp [results, Try.results75, go_sem, y0, y1]) rfl HF2.out
    · have h0 : 0 < es.length := by unfold dueB at hdue; simp only [Bool.and_eq_true, decide_eq_true_eq] at hdue; exact hdue.1
      have hle : (es.getD 0 zDu).at ≤ now := by unfold dueB at hdue; simp only [Bool.and_eq_true, decide_eq_true_eq] at hdue; exact hdue.2
      have Hgo := Lib.hid (pop_go (F := es.length - 1) hdue)
      clear hdue HFin
      obtain ⟨g, rfl, hg1, hg2, hrd⟩ := St.out.items h0
      obtain ⟨k0, k1, k2, _⟩ := hrd 0 h0
      simp only [Nat.zero_mul, Nat.zero_add] at k0 k1 k2
      obtain ⟨did, hdid⟩ : ∃ did, (es.getD 0 zDu).id = did := ⟨_, rfl⟩
      rw [hdid] at k2
      have Hdid := Lib.hid hdid
      generalize (es.getD 0 zDu).at = dat at k0 hle
      clear hrd hdid
      have hnd : decide (0 < (es.length : Int)) = true := decide_eq_true (by omega)
      have hnn : (0 : Int) < (es.length : Int) := by omega
      have hprel : pre.length ≤ 100 := by have := St.out.few; rw [Hn.out] at this; omega
      obtain ⟨nl, hnl⟩ : ∃ nl, es.length = nl := ⟨_, rfl⟩
      rw [hnl] at t0 hnd hnn
      have Hnl := Lib.hid hnl
      clear hnl
      go_wp2_with (at_builtin; refine wpList_append_own _ rfl _ _ 33 rfl (w.heap.size + 1 + 1) 3 i0 _ 1 8 Try.underlying33 Hi0.out Hz0.out Hz1.out Hz2.out rfl (by decide) v pre.length (pre.map (Value.int .i64)) rfl ?c0h ⟨wr.heap.size, 0, none⟩ 1 1 [.int .i64 did] rfl ?c6h ?c1h ?c2h ?c3h ?c4h ?c5h ?_)
      case c0h => exact St.out.own.alloc _
      case c6h => rfl
      case c1h => exact new_one_at (w := wr) rfl _ _
      case c2h => simp [Value.oneCell']
      case c3h => unfold maxLen; omega
      case c4h => omega
      case c5h => simp; omega
      intro v5 w5 hown hgr _
      have hkeep : ∀ k, k < wr.heap.size → some k ≠ v.ownBlock → w5.heap[k]? = wr.heap[k]? := fun k hk hne => (hgr.block k (by simp; omega) hne).trans (Below.heap_alloc _ _ _ hk)
      have z5 : wr.heap.size ≤ w5.heap.size := by have := hgr.size; simp at this; omega
      have T5 : Hid (Blk2 w5 w1.heap.size (.slice (some ⟨g, 0, none⟩) es.length c') (.int .i64 q)) := St.out.box.of_block (hkeep _ htl (own_ne St.out.own St.out.box (by decide)))
      have hgne : some g ≠ v.ownBlock := by
        rcases St.out.form with ⟨h1, _, _⟩ | ⟨g', cur, h1, _, _, h4, _⟩
        · cases h1
        · injection h1 with h1
          injection h1 with h1 _ _
          subst h1
          exact own_ne St.out.own h4 (by decide)
      have V5 : Hid (DV w5 (w.heap.size + 1 + 1) wr.heap.size (some ⟨g, 0, none⟩) es) := fun hp => by
        obtain ⟨g', e', h1, h2, h3⟩ := St.out.items hp
        injection e' with e'
        injection e' with e' _ _
        subst e'
        exact ⟨g, rfl, h1, h2, h3.of_block (hkeep g h2 hgne)⟩
      have B5 : Hid (Below (w.heap.size + 1 + 1) W0 w5) := (St.out.old.alloc (by omega) _).grown hgr (by simp; omega) (fun j e => (St.out.own.lt j e).1)
      have O5 : Hid (w5.ownsRow (w.heap.size + 1 + 1) 3 1 v5 (pre ++ [did]).length ((pre ++ [did]).map (Value.int .i64))) := by
        have h1 := hown
        rw [List.length_append, List.map_append]
        exact h1
      clear hown hgr hkeep t0 t1 tf hgne k0 k1 k2
      obtain ⟨t0, t1, tf⟩ := T5.out.cells
      rw [Hnl.out] at t0
      have htl5 := T5.out.lt
      go_wp2_with fail
      refine (specCancel_any (some ⟨g, 0, none⟩) nl c' _ _ es q did w5 Hnl.out (by have := Hnl.out; omega) V5.out z5).mono ?_
      have hfn : fndD es did = ((0 : Nat) : Int) := by rw [← Hdid.out]; exact fndD_first h0
      have hoke := okH_true St.out.val
      rw [canD_yes hoke hfn, canB_yes hoke hfn]
      clear hfn hoke
      rintro e w6 ⟨A6, c6, rfl, v6, b6, s6⟩
      have V6 := Lib.hid v6
      have S6 := Lib.hid s6
      have T6 := Lib.hid (T5.out.below b6)
      have O6 := Lib.hid (owns_below O5.out b6 (Nat.le_refl _))
      have B6 := Lib.hid (B5.out.trans (b6.mono (by omega)))
      have z6 : w5.heap.size ≤ w6.heap.size := b6.size
      clear v6 s6 b6 t0 t1 tf
      obtain ⟨t0, t1, tf⟩ := T6.out.cells
      have htl6 := T6.out.lt
      have HQ : Hid (SpopSt w W0 ((w6.setCell ⟨w1.heap.size, 0, none⟩ (.slice A6 (remD es 0).length c6)).setCell ⟨w1.heap.size, 1, none⟩ (.int .i64 q)) w1.heap.size ds (remD es 0) q now v5 (pre ++ [did]) A6 c6) := by
        have hk : ∀ k, k ≠ w1.heap.size → ((w6.setCell ⟨w1.heap.size, 0, none⟩ (.slice A6 (remD es 0).length c6)).setCell ⟨w1.heap.size, 1, none⟩ (.int .i64 q)).heap[k]? = w6.heap[k]? := fun k hk => by
          rw [heap_setCell_other _ _ _ _ hk, heap_setCell_other _ _ _ _ hk]
        have hsz : ((w6.setCell ⟨w1.heap.size, 0, none⟩ (.slice A6 (remD es 0).length c6)).setCell ⟨w1.heap.size, 1, none⟩ (.int .i64 q)).heap.size = w6.heap.size := by simp [World.setCell]
        obtain ⟨p1, p2⟩ := Hgo.out
        have e1 : es.length - 1 + 1 = es.length := by omega
        have e2 : es.length - 1 = (remD es 0).length := (remD_len es 0).symm
        rw [e1, e2] at p1 p2
        refine ⟨?_, ?_, ?_, rem0_val St.out.val h0, owns_other O6.out hk (own_ne O6.out T6.out (by decide)), by rw [St.out.rest, p1], ?_, ?_, ?_⟩
        · have h1 := heap_setCell_same w6 w1.heap.size 0 _ _ (.slice A6 (remD es 0).length c6) T6.out
          have h2 := heap_setCell_same _ w1.heap.size 1 _ _ (.int .i64 q) h1
          exact h2
        · rw [hsz]
          refine DV.wide (lo := w5.heap.size) (hi := w6.heap.size) ?_ (by omega) (Nat.le_refl _)
          exact V6.out.of_block fun k h1 h2 => hk k (by omega)
        · rw [hsz]
          refine Sh.wide (lo := w5.heap.size) (hi := w6.heap.size) ?_ (by omega) (Nat.le_refl _)
          exact S6.out.of_block fun k h1 h2 => hk k (by omega)
        · rw [St.out.ids, p2, List.append_assoc, Hdid.out]
          rfl
        · rw [List.length_append, remD_len]
          have := St.out.few
          simp
          omega
        · exact (B6.out.setCell (show w.heap.size + 1 + 1 ≤ w1.heap.size from z1) _).setCell (show w.heap.size + 1 + 1 ≤ w1.heap.size from z1) _
      go_wp2
      go_roundw
      case rel => exact ⟨v5, remD es 0, pre ++ [did], A6, c6, rfl, HQ.out⟩
      case measure =>
        rw [lenAt_of HQ.out.box.cells.1, lenAt_of St.out.box.cells.1, remD_len]
        omega
end Go.Proofs.Ytpjelojmkmednaa.Hp
