/- What impl.NewQueue makes: the model's empty queue. -/
import Derived.Test.YtjbfmagedkmngaaQue8
namespace Go.Proofs.Ytjbfmagedkmngaa.Que
open Go.RowKit Go.Deep Base

theorem lkA_one (ss : List Sl) (f l r c : Int) : (lkA ss f l r c).all (·.oneCell') = true := by
  rw [Array.all_eq_true_iff_forall_mem]
  intro v hv
  obtain ⟨i, hi, rfl⟩ := Array.mem_map.1 hv
  unfold lkF Sl.at
  repeat' split
  all_goals rfl

theorem lkA_set240 (ss : List Sl) (f l r c x : Int) : (lkA ss f l r c).setIfInBounds 240 (.int .i64 x) = lkA ss x l r c := by
  apply Array.ext_getElem?
  intro i
  rw [Array.getElem?_setIfInBounds]
  by_cases e : 240 = i
  · subst e; rw [if_pos rfl, if_pos (by rw [lkA_size]; omega), lkA_at _ _ _ _ _ (by omega)]; rfl
  · rw [if_neg e]
    by_cases hi : i < 244
    · rw [lkA_at _ _ _ _ _ hi, lkA_at _ _ _ _ _ hi]
      unfold lkF
      have e' : ¬ i = 240 := fun h => e h.symm
      simp only [e', if_false]
    · rw [lkA_past _ _ _ _ _ hi, lkA_past _ _ _ _ _ hi]
theorem lkA_set241 (ss : List Sl) (f l r c x : Int) : (lkA ss f l r c).setIfInBounds 241 (.int .i64 x) = lkA ss f x r c := by
  apply Array.ext_getElem?
  intro i
  rw [Array.getElem?_setIfInBounds]
  by_cases e : 241 = i
  · subst e; rw [if_pos rfl, if_pos (by rw [lkA_size]; omega), lkA_at _ _ _ _ _ (by omega)]; rfl
  · rw [if_neg e]
    by_cases hi : i < 244
    · rw [lkA_at _ _ _ _ _ hi, lkA_at _ _ _ _ _ hi]
      unfold lkF
      have e' : ¬ i = 241 := fun h => e h.symm
      simp only [e', if_false]
    · rw [lkA_past _ _ _ _ _ hi, lkA_past _ _ _ _ _ hi]

theorem store_links (w : World) (c c' : Array Value) (hc : c.size = 244) (ss : List Sl) (f l r n : Int) (h : c' = lkA ss f l r n) :
    (storeCells ⟨w.heap.size, 0, none⟩ c'.toList).run Try.prog (w.alloc (.cells c 54)) = .ok () (w.alloc (.cells (lkA ss f l r n) 54)) := by
  subst h
  exact run_storeCells_new w 54 c _ (by rw [info_links, lkA_size]) (by rw [hc, lkA_size]) (lkA_one _ _ _ _ _)

theorem Lk.next {w : World} {b : Nat} {ss : List Sl} {f l r c : Int} (h : Lk w b ss f l r c) {i : Nat} (hi : i < 60) (hn : ss.length = 60) (x : Int) : Lk (w.setCell ⟨b, i * 4 + 2, none⟩ (.int .i64 x)) b (ss.set i (wNext (sl ss i) x)) f l r c := by
  refine h.setF hi (j := 2) (by omega) hn rfl (fun j hj hne => ?_)
  have : j = 0 ∨ j = 1 ∨ j = 3 := by omega
  rcases this with rfl | rfl | rfl <;> rfl
theorem Lk.prev {w : World} {b : Nat} {ss : List Sl} {f l r c : Int} (h : Lk w b ss f l r c) {i : Nat} (hi : i < 60) (hn : ss.length = 60) (x : Int) : Lk (w.setCell ⟨b, i * 4 + 1, none⟩ (.int .i64 x)) b (ss.set i (wPrev (sl ss i) x)) f l r c := by
  refine h.setF hi (j := 1) (by omega) hn rfl (fun j hj hne => ?_)
  have : j = 0 ∨ j = 2 ∨ j = 3 := by omega
  rcases this with rfl | rfl | rfl <;> rfl

/-- The slots behind k rounds. -/
def newTo (k : Nat) : List Sl := (List.range 60).map fun i => if i < k then ⟨0, -1, (i : Int) + 1, false⟩ else zSl
theorem newTo_len (k : Nat) : (newTo k).length = 60 := by simp [newTo]
theorem newTo_at {k i : Nat} (h : i < 60) : sl (newTo k) i = if i < k then ⟨0, -1, (i : Int) + 1, false⟩ else zSl := by simp [newTo, sl, h]
theorem newTo_zero : newTo 0 = List.replicate 60 zSl := by decide +kernel
theorem list_ext {a b : List Sl} (h1 : a.length = 60) (h2 : b.length = 60) (h : ∀ i, i < 60 → sl a i = sl b i) : a = b := by
  apply List.ext_getElem?
  intro i
  by_cases hi : i < 60
  · have := h i hi
    unfold sl at this
    rw [List.getD_eq_getElem?_getD, List.getD_eq_getElem?_getD, List.getElem?_eq_getElem (by omega), List.getElem?_eq_getElem (by omega)] at this
    rw [List.getElem?_eq_getElem (by omega), List.getElem?_eq_getElem (by omega)]
    simpa using this
  · rw [List.getElem?_eq_none (by omega), List.getElem?_eq_none (by omega)]
theorem newTo_step {k : Nat} (h : k < 60) : ((newTo k).set k (wPrev (sl (newTo k) k) (-1))).set k (wNext (sl ((newTo k).set k (wPrev (sl (newTo k) k) (-1))) k) ((k : Int) + 1)) = newTo (k + 1) := by
  have hz : sl (newTo k) k = zSl := by rw [newTo_at h, if_neg (by omega)]
  have hz' : sl ((newTo k).set k (wPrev (sl (newTo k) k) (-1))) k = wPrev zSl (-1) := by rw [sl_set _ _ _ _ (by rw [newTo_len]; omega), if_pos rfl, hz]
  rw [hz', hz]
  refine list_ext (by simp [newTo_len]) (newTo_len _) fun i hi => ?_
  by_cases e : i = k
  · subst e
    rw [sl_set _ _ _ _ (by simp [newTo_len]; omega), if_pos rfl, newTo_at hi, if_pos (by omega)]; rfl
  · rw [sl_set _ _ _ _ (by simp [newTo_len]; omega), if_neg e, sl_set _ _ _ _ (by rw [newTo_len]; omega), if_neg e, newTo_at hi, newTo_at hi]
    by_cases l : i < k
    · rw [if_pos l, if_pos (by omega)]
    · rw [if_neg l, if_neg (by omega)]
theorem newTo_end : (newTo 60).set 59 (wNext (sl (newTo 60) 59) (-1)) = newS := by
  have hz : sl (newTo 60) 59 = ⟨0, -1, 60, false⟩ := by rw [newTo_at (by omega), if_pos (by omega)]; rfl
  rw [hz]
  refine list_ext (by simp [newTo_len]) newS_len fun i hi => ?_
  rw [sl_set _ _ _ _ (by rw [newTo_len]; omega), show sl newS i = newAt i from newS_at hi]
  unfold newAt
  by_cases e : i = 59
  · subst e; rfl
  · rw [if_neg e, newTo_at hi, if_pos hi, if_neg (by omega)]

set_option maxRecDepth 100000 in
set_option maxHeartbeats 1000000 in
theorem implNew_any (w : World) : Calls Try.prog 14 #[] w (NewQ w 60 newS (-1) (-1) 0 0) := by
  have hsc : Sem.run Try.prog (storeCells ⟨w.heap.size + 1, 0, none⟩ ((Try.zeroCells54.toList.set 240 (.int .i64 (-1))).set 241 (.int .i64 (-1)))) ((w.alloc (.cells #[.slice none 0 0, .int .i64 0, .int .i64 0, .int .i64 0, .int .i64 0] 26)).alloc (.cells Try.zeroCells54 54))
      = .ok () ((w.alloc (.cells #[.slice none 0 0, .int .i64 0, .int .i64 0, .int .i64 0, .int .i64 0] 26)).alloc (.cells (lkA (newTo 0) (-1) (-1) 0 0) 54)) := by
    have h := store_links (w.alloc (.cells #[.slice none 0 0, .int .i64 0, .int .i64 0, .int .i64 0, .int .i64 0] 26)) Try.zeroCells54 ((Try.zeroCells54.setIfInBounds 240 (.int .i64 (-1))).setIfInBounds 241 (.int .i64 (-1))) (by rw [zero_links, lkA_size]) (newTo 0) (-1) (-1) 0 0 (by rw [zero_links, lkA_set240, lkA_set241, newTo_zero])
    simpa using h
  go_enter Try.func14, Try.ntmps14
  go_wp2
  clear hsc
  go_loopw [4] (fun i wr => ∃ k : Nat, k ≤ 60 ∧ i = .int .i64 k ∧ Lk wr (w.heap.size + 1) (newTo k) (-1) (-1) 0 0 ∧ Below (w.heap.size + 1) (w.alloc (.cells #[.slice none 0 0, .int .i64 0, .int .i64 0, .int .i64 0, .int .i64 0] 26)) wr) (fun i _ => 60 - (intOf i).toNat)
  case atStart =>
    refine ⟨0, Nat.zero_le _, rfl, ?_, (Below.refl _ _).alloc (by simp) _⟩
    have h := heap_alloc_new (w.alloc (.cells #[.slice none 0 0, .int .i64 0, .int .i64 0, .int .i64 0, .int .i64 0] 26)) (.cells (lkA (newTo 0) (-1) (-1) 0 0) 54)
    simp only [World.size_alloc] at h
    exact h
  case round =>
    obtain ⟨k, hk, rfl, hL, hold⟩ := hrel
    by_cases hlt : k < 60
    · obtain ⟨c0, c1, c2, c3⟩ := hL.slot hlt
      have cf := hL.nums.2.2.2.2
      have h2 := (hL.prev hlt (newTo_len _) (-1)).next hlt (by simp [newTo_len]) ((k : Int) + 1)
      rw [newTo_step hlt] at h2
      have H2 := Lib.hid h2
      have Hold := Lib.hid hold
      clear h2 hL hold
      generalize sl (newTo k) k = s at c0 c1 c2 c3
      go_wp2
      go_roundw
      case rel => exact ⟨k + 1, by omega, by go_num, H2.out, (Hold.out.setCell (by simp) _).setCell (by simp) _⟩
      case measure => simp [intOf]; omega
    · obtain rfl : k = 60 := by omega
      obtain ⟨c0, c1, c2, c3⟩ := hL.slot (i := 59) (by omega)
      have cf := hL.nums.2.2.2.2
      have h1 := hL.next (i := 59) (by omega) (newTo_len _) (-1)
      rw [newTo_end] at h1
      have H1 := Lib.hid h1
      have Hold := Lib.hid hold
      clear h1 hL hold
      generalize sl (newTo 60) 59 = s at c0 c1 c2 c3
      go_wp2_with fail
      refine (queue_any (w.heap.size + 1) (-1) (-1) 0 0 newS _ newS_len H1.out).mono ?_
      rintro e w1 ⟨A', cap', rfl, hv, hb⟩
      have hsz : (wr.setCell ⟨w.heap.size + 1, 238, none⟩ (.int .i64 (-1))).heap.size = wr.heap.size := by simp [World.setCell]
      have hlt1 := H1.out.lt
      rw [hsz] at hv hlt1
      have Hb : Hid (Below (w.heap.size + 1) (w.alloc (.cells #[.slice none 0 0, .int .i64 0, .int .i64 0, .int .i64 0, .int .i64 0] 26)) w1) := (Hold.out.setCell (p := ⟨w.heap.size + 1, 238, none⟩) (by simp) (.int .i64 (-1))).trans (hb.mono (by rw [hsz]; omega))
      have Hv := Lib.hid hv
      clear hv hb hsz
      obtain ⟨z0, z1, z2, z3, z4, zf⟩ := (Blk5.of_block (w := w.alloc (.cells #[.slice none 0 0, .int .i64 0, .int .i64 0, .int .i64 0, .int .i64 0] 26)) (g := w.heap.size) (heap_alloc_new w _) (Hb.out.block w.heap.size (by omega))).cells
      go_wp2
      refine bodyPost_ret (v := .agg #[.slice A' 60 cap', .int .i64 (-1), .int .i64 (-1), .int .i64 0, .int .i64 0]) (by simp [results, Try.results14, go_sem, z0, z1, z2, z3, z4]) rfl ⟨A', cap', rfl, ?_, ?_⟩
      · refine SlV.wide (lo := wr.heap.size) (hi := w1.heap.size) ?_ (by omega) (by simp [World.setCell])
        iterate 5 refine SlV.setCell ?_ (by simp <;> omega) _
        exact Hv.out
      · iterate 5 refine Below.setCell ?_ (by simp <;> omega) _
        exact (bel_alloc w _).trans (Hb.out.mono (by omega))
end Go.Proofs.Ytjbfmagedkmngaa.Que
