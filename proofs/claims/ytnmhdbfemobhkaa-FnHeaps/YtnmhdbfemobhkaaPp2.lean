/- The program's PopDue. -/
import Derived.Test.YtnmhdbfemobhkaaPp1
namespace Go.Proofs.Ytnmhdbfemobhkaa.Hp
open Go.RowKit Go.Deep Base

theorem popD_no {ds : List Du} {q now : Int} (h : okH ds q = false) : popD ds q now = ds ∧ popL ds q now = [] := by unfold popD popL; rw [if_neg (by rw [h]; simp), if_neg (by rw [h]; simp)]; exact ⟨rfl, rfl⟩
theorem popD_yes {ds : List Du} {q now : Int} (h : okH ds q = true) : popD ds q now = popR ds.length ds now ∧ popL ds q now = popI ds.length ds now := by unfold popD popL; rw [if_pos h, if_pos h]; exact ⟨rfl, rfl⟩

/-- What a call leaves that hands back a heap and a list of integers that share no memory. -/
def HeapInts (w : World) (ds' : List Du) (q : Int) (ids : List Int) (e : Ending) (w' : World) : Prop :=
  ∃ A cap A2 c2 mid, e = .returned (.tuple #[.agg #[.slice A ds'.length cap, .int .i64 q], .slice A2 ids.length c2]) ∧ w.heap.size ≤ mid ∧ mid ≤ w'.heap.size ∧ DV w' w.heap.size mid A ds' ∧ IV w' mid w'.heap.size A2 ids ∧ Below w.heap.size w w'

/-- The same; the list has a row of its own. -/
def HeapIntsO (w : World) (ds' : List Du) (q : Int) (ids : List Int) (e : Ending) (w' : World) : Prop :=
  ∃ A cap A2 c2 mid, e = .returned (.tuple #[.agg #[.slice A ds'.length cap, .int .i64 q], .slice A2 ids.length c2]) ∧ w.heap.size ≤ mid ∧ mid ≤ w'.heap.size ∧ DV w' w.heap.size mid A ds' ∧ IV w' mid w'.heap.size A2 ids ∧ Below w.heap.size w w' ∧ w'.ownsRow mid 3 1 (.slice A2 ids.length c2) ids.length (ids.map (Value.int .i64))
theorem HeapIntsO.plain {w : World} {ds' : List Du} {q : Int} {ids : List Int} {e : Ending} {w' : World} (h : HeapIntsO w ds' q ids e w') : HeapInts w ds' q ids e w' := by
  obtain ⟨A, cap, A2, c2, mid, h1, h2, h3, h4, h5, h6, _⟩ := h
  exact ⟨A, cap, A2, c2, mid, h1, h2, h3, h4, h5, h6⟩
theorem owns_other {w w' : World} {base p : Nat} {t : TypeId} {sz n : Nat} {v : Value} {xs : List Value} (h : w.ownsRow base t sz v n xs) (hk : ∀ k, k ≠ p → w'.heap[k]? = w.heap[k]?) (hp : some p ≠ v.ownBlock) : w'.ownsRow base t sz v n xs := by
  refine ⟨h.1, ?_⟩
  rcases h.2 with hn | ⟨r, c, cur, rfl, hb', hg, rest⟩
  · exact .inl hn
  · exact .inr ⟨r, c, cur, rfl, hb', (hk r (fun e => hp (by rw [e]; rfl))).trans hg, rest⟩

set_option maxRecDepth 100000 in
set_option maxHeartbeats 1000000 in
theorem implPop_own (A : Option Addr) (n cap lo hi : Nat) (ds : List Du) (q now : Int) (w : World) (hn : ds.length = n) (hm : n ≤ 1048576) (h : DV w lo hi A ds) (hs : hi ≤ w.heap.size) :
    Calls Try.prog 21 #[.agg #[.slice A n cap, .int .i64 q], .int .i64 now] w (HeapIntsO w (popD ds q now) q (popL ds q now)) := by
  have Hn := Lib.hid hn
  have HI := Lib.hid h
  clear hn h
  go_enter Try.func21, Try.ntmps21
  go_wp2_with fail
  have hB0 : Below w.heap.size w ((w.alloc (.cells #[.slice A n cap, .int .i64 q] 28)).alloc (.cells #[.slice none 0 0, .int .i64 0] 28)) := ((Below.refl _ _).alloc (Nat.le_refl _) _).alloc (by simp) _
  refine (treeOf_sh A n cap lo hi ds q _ Hn.out hm (HI.out.below hB0 hs) (by simp; omega)).mono ?_
  rintro e w1 ⟨A1, c1, rfl, v1, b1, sh1⟩
  have X1 : Hid (Blk2 w1 w.heap.size (.slice A n cap) (.int .i64 q)) := Blk2.below (Blk2.alloc (heap_alloc_new w _) _) b1
  have Y1 : Hid (Blk2 w1 (w.heap.size + 1) (.slice none 0 0) (.int .i64 0)) := by
    have h := heap_alloc_new (w.alloc (.cells #[.slice A n cap, .int .i64 q] 28)) (.cells #[.slice none 0 0, .int .i64 0] 28)
    rw [World.size_alloc] at h
    exact (b1.block _ (by simp)).trans h
  have V1 : Hid (DV w1 (w.heap.size + 1 + 1) w1.heap.size A1 ds) := by have h := v1; simp only [World.size_alloc] at h; exact h
  have S1 : Hid (Sh w1 (w.heap.size + 1 + 1) w1.heap.size A1 n c1) := by have h := sh1; simp only [World.size_alloc] at h; exact h
  have B1 := Lib.hid (bel_trans hB0 b1)
  have z1 : w.heap.size + 1 < w1.heap.size := Y1.out.lt
  have z1' : w.heap.size < w1.heap.size := by omega
  clear b1 v1 hB0 sh1
  cases hok : okH ds q
  · obtain ⟨e1, e2⟩ := popD_no (now := now) hok
    have He1 := Lib.hid e1
    have He2 := Lib.hid e2
    clear hok e1 e2
    obtain ⟨x0, x1, xf⟩ := X1.out.cells
    go_wp2_with fail
    refine (sameHeap_any A n cap lo hi ds q _ Hn.out hm (HI.out.below (bel_trans B1.out (bel_alloc w1 _)) hs) (by have := B1.out.size; simp; omega)).mono ?_
    rintro e w5 ⟨A5, c5, rfl, v5, b5⟩
    have Y5 := Lib.hid ((Y1.out.alloc _).below b5)
    have V5 := Lib.hid v5
    have B5 := Lib.hid (bel_trans (bel_trans B1.out (bel_alloc w1 _)) b5)
    have s5 := b5.size
    rw [World.size_alloc] at s5 V5
    clear b5 v5
    obtain ⟨y0, y1, yf⟩ := Y5.out.cells
    have hyl := Y5.out.lt
    go_wp2
    refine bodyPost_ret (v := .tuple #[.agg #[.slice A5 n c5, .int .i64 q], .slice none 0 0]) (by simp [results, Try.results21, go_sem, y0, y1]) rfl ?_
    rw [He1.out, He2.out]
    refine ⟨A5, c5, none, 0, w5.heap.size, by rw [Hn.out]; rfl, by omega, by simp [World.setCell], ?_, fun h => absurd h (by simp), ?_, World.ownsRow_nil _ _ _ _⟩
    · refine DV.wide (lo := w1.heap.size + 1) (hi := w5.heap.size) ?_ (by omega) (Nat.le_refl _)
      iterate 2 refine DV.setCell ?_ (by show w.heap.size + 1 < w1.heap.size + 1; omega) _
      exact V5.out
    · iterate 2 refine Below.setCell ?_ (by show w.heap.size ≤ w.heap.size + 1; omega) _
      exact B5.out
  obtain ⟨e1, e2⟩ := popD_yes (now := now) hok
  have He1 := Lib.hid e1
  have He2 := Lib.hid e2
  have Hv := Lib.hid (okH_val hok)
  clear hok e1 e2
  go_wp2_with fail
  obtain ⟨W3, hW3⟩ : ∃ W3, w1.alloc (.cells #[.slice A1 n c1, .func (.func 78) #[] #[]] 69) = W3 := ⟨_, rfl⟩
  have T3 : Hid (Tr W3 w1.heap.size A1 n c1) := by rw [← hW3]; exact heap_alloc_new w1 _
  have V3 : Hid (DV W3 (w.heap.size + 1 + 1) w1.heap.size A1 ds) := by rw [← hW3]; exact V1.out.below (bel_alloc w1 _) (Nat.le_refl _)
  have hc1 : n ≤ c1 := by
    rcases S1.out with ⟨_, h0, h1⟩ | ⟨_, _, _, _, _, _, h4, _⟩
    · omega
    · exact h4
  have X3 : Hid (Blk2 W3 w.heap.size (.slice A n cap) (.int .i64 q)) := by rw [← hW3]; exact X1.out.alloc _
  have Y3 : Hid (Blk2 W3 (w.heap.size + 1) (.slice none 0 0) (.int .i64 0)) := by rw [← hW3]; exact Y1.out.alloc _
  have B3 : Hid (Below w.heap.size w W3) := by rw [← hW3]; exact bel_trans B1.out (bel_alloc w1 _)
  have z3 : w1.heap.size < W3.heap.size := by rw [← hW3]; simp
  rw [hW3]
  clear hW3 V1 B1 S1 X1 Y1
  refine (popUntil_any w1.heap.size (w.heap.size + 1 + 1) w1.heap.size c1 A1 ds q now W3 Hv.out (by rw [Hn.out]; exact T3.out) V3.out (by rw [Hn.out]; exact hc1) (by omega) (Nat.le_refl _) (by omega)).mono ?_
  rintro e w4 ⟨A2, c2, rfl, i4, t4, v4, b4, o4⟩
  have I4 := Lib.hid i4
  have T4 := Lib.hid t4
  have V4 := Lib.hid v4
  have B4 := Lib.hid (B3.out.trans (b4.mono (by omega)))
  have X4 := Lib.hid (X3.out.of_block (b4.block _ (by omega)))
  have Y4 := Lib.hid (Y3.out.of_block (b4.block _ (by omega)))
  have z4 : W3.heap.size ≤ w4.heap.size := b4.size
  have O4 := Lib.hid o4
  clear i4 t4 v4 b4 o4
  have Hl1 : Hid ((popD ds q now).length = (popR ds.length ds now).length) := by rw [He1.out]; rfl
  rw [← He1.out] at T4 V4
  rw [← He2.out] at I4 O4 ⊢
  clear He1 He2 Hl1
  obtain ⟨n', hn'⟩ : ∃ n', (popD ds q now).length = n' := ⟨_, rfl⟩
  obtain ⟨k', hk'⟩ : ∃ k', (popL ds q now).length = k' := ⟨_, rfl⟩
  rw [hn'] at T4
  rw [hk']
  have Hn' := Lib.hid hn'
  have Hk' := Lib.hid hk'
  clear hn' hk'
  obtain ⟨t0, t1, _⟩ := T4.out.cells
  obtain ⟨x0, x1, xf⟩ := X4.out.cells
  obtain ⟨y0, y1, yf⟩ := Y4.out.cells
  have hyl := Y4.out.lt
  have htl := T4.out.lt
  go_wp2
  refine bodyPost_ret (v := .tuple #[.agg #[.slice A1 n' c1, .int .i64 q], .slice A2 k' c2]) (by simp [results, Try.results21, go_sem, y0, y1]) rfl ⟨A1, c1, A2, c2, w1.heap.size, by rw [Hn'.out, Hk'.out], by omega, by simp [World.setCell]; omega, ?_, ?_, ?_, ?_⟩
  · refine DV.wide (lo := w.heap.size + 1 + 1) (hi := w1.heap.size) ?_ (by omega) (Nat.le_refl _)
    iterate 2 refine DV.setCell ?_ (by show w.heap.size + 1 < w.heap.size + 1 + 1; omega) _
    exact V4.out
  · refine IV.wide (lo := W3.heap.size) (hi := w4.heap.size) ?_ (by omega) (by simp [World.setCell])
    refine I4.out.of_block fun g h1 h2 => ?_
    rw [heap_setCell_other _ _ _ _ (by show g ≠ w.heap.size + 1; omega), heap_setCell_other _ _ _ _ (by show g ≠ w.heap.size + 1; omega)]
  · iterate 2 refine Below.setCell ?_ (by show w.heap.size ≤ w.heap.size + 1; omega) _
    exact B4.out
  · rw [Hk'.out] at O4 ⊢
    have h1 : ∀ k, k ≠ w.heap.size + 1 → ((w4.setCell ⟨w.heap.size + 1, 0, none⟩ (.slice A1 n' c1)).setCell ⟨w.heap.size + 1, 1, none⟩ (.int .i64 q)).heap[k]? = w4.heap[k]? := fun k hk => by rw [heap_setCell_other _ _ _ _ hk, heap_setCell_other _ _ _ _ hk]
    have h2 := owns_other O4.out h1 (fun e => by have := (O4.out.lt _ e.symm).1; omega)
    refine ⟨h2.1, ?_⟩
    rcases h2.2 with hn | ⟨r, c, cur, e1, hb', hg, rest⟩
    · exact .inl hn
    · exact .inr ⟨r, c, cur, e1, by omega, hg, rest⟩

theorem implPop_any (A : Option Addr) (n cap lo hi : Nat) (ds : List Du) (q now : Int) (w : World) (hn : ds.length = n) (hm : n ≤ 1048576) (h : DV w lo hi A ds) (hs : hi ≤ w.heap.size) :
    Calls Try.prog 21 #[.agg #[.slice A n cap, .int .i64 q], .int .i64 now] w (HeapInts w (popD ds q now) q (popL ds q now)) :=
  (implPop_own A n cap lo hi ds q now w hn hm h hs).mono fun _ _ h => h.plain
end Go.Proofs.Ytnmhdbfemobhkaa.Hp
