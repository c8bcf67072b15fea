/- What remove does to the program's form. -/
import Derived.Test.YtjbfmagedkmngaaPsh1
import Derived.Lib.SliceRun
namespace Go.Proofs.Ytjbfmagedkmngaa.Que
open Go.RowKit Go.Deep Base Rng

theorem zero_slot (w : World) : (zeroValue 51).run Try.prog w = .ok (.agg #[.int .i64 0, .int .i64 0, .int .i64 0, .bool false]) w := by kernel_rfl

/-- clear of one slot. -/
theorem clear_slot (w : World) (b o c ty : Nat) (hc : ∀ j, j < 4 → (w.cell? ⟨b, o + j, none⟩).isSome = true) (hf : ∀ j, j < 4 → w.frozen? ⟨b, o + j, none⟩ = false) :
    (Builtin.clear_ #[24] ty #[.slice (some ⟨b, o, none⟩) 1 c]).run Try.prog w = .ok (.tuple #[]) (w.setCells b o [.int .i64 0, .int .i64 0, .int .i64 0, .bool false]) := by
  have hzc : (Builtin.zeroCells (Value.agg #[.int .i64 0, .int .i64 0, .int .i64 0, .bool false]).cells 1).toList = [.int .i64 0, .int .i64 0, .int .i64 0, .bool false] := by simp [Builtin.zeroCells, Value.cells, List.range, List.range.loop]
  have hst := run_storeCells_cells (P := Try.prog) b o [.int .i64 0, .int .i64 0, .int .i64 0, .bool false] 0 w (by simpa using hc) (by simpa using hf) (by intro v hv; simp at hv; rcases hv with rfl | rfl <;> rfl)
  simp only [Nat.add_zero] at hst
  simp [Builtin.clear_, run_underlying Try.underlying24, hzc, hst]

theorem slot_slice (b p : Nat) (hp : p < 60) (w : World) : (Instr.sliceAt 52 (.pointer (some ⟨b, 0, none⟩)) (some (.int .i64 (p : Int))) (some (.int .i64 ((p : Int) + 1))) none).run Try.prog w = .ok (.slice (some ⟨b, p * 4, none⟩) 1 (60 - p)) w := by
  have h1 : ((p : Int) + 1).toNat = p + 1 := by omega
  have h3 : (p : Int) + 1 ≤ 60 := by omega
  have h4 : (0 : Int) ≤ (p : Int) + 1 := by omega
  have h5 : ¬ 60 = p := by omega
  have h6 : p + 1 - p = 1 := by omega
  simp [Instr.sliceAt, run_underlying Try.underlying52, Instr.sliceBounds, go_sem, h1, h3, h4, h5, h6]

/-- A slot's box. -/
def SB (w : World) (g : Nat) (v0 v1 v2 v3 : Value) : Prop := w.heap[g]? = some (.cells #[v0, v1, v2, v3] 51 (0, 0))
theorem SB.cells {w : World} {g : Nat} {v0 v1 v2 v3 : Value} (h : SB w g v0 v1 v2 v3) :
    w.cell? ⟨g, 0, none⟩ = some v0 ∧ w.cell? ⟨g, 1, none⟩ = some v1 ∧ w.cell? ⟨g, 2, none⟩ = some v2 ∧ w.cell? ⟨g, 3, none⟩ = some v3 := by
  have hc : ∀ o, w.cell? ⟨g, o, none⟩ = #[v0, v1, v2, v3][o]? := fun o => cell_of_row _ _ o _ _ (0, 0) h
  refine ⟨?_, ?_, ?_, ?_⟩ <;> (rw [hc]; rfl)
theorem SB.set {w : World} {g : Nat} {v0 v1 v2 v3 : Value} (h : SB w g v0 v1 v2 v3) {p : Addr} (hp : g ≠ p.block) (u : Value) : SB (w.setCell p u) g v0 v1 v2 v3 := (Below.heap_setCell w p u g hp).trans h
theorem SB.drew {w : World} {g : Nat} {v0 v1 v2 v3 : Value} (h : SB w g v0 v1 v2 v3) : SB w.drew g v0 v1 v2 v3 := h

theorem sb_new (W : World) {n : Nat} (h : W.heap.size = n) {v0 v1 v2 v3 : Value} : SB (W.alloc (.cells #[v0, v1, v2, v3] 51)) n v0 v1 v2 v3 := by
  subst h; exact heap_alloc_new W _

theorem clear_lk {w W : World} {b g p : Nat} {ss : List Sl} {f l r c : Int} {v0 v1 v2 v3 : Value} (hl : Lk W b ss f l r c) (hn : ss.length = 60) (hp : p < 60) (hb : SB W g v0 v1 v2 v3) (hg : g ≠ b) (ht : Turns b (b + 1) w W) :
    ∃ W', (∀ ty k, (Builtin.clear_ #[24] ty #[.slice (some ⟨b, p * 4, none⟩) 1 k]).run Try.prog W = .ok (.tuple #[]) W') ∧ Lk W' b (ss.set p ⟨0, 0, 0, false⟩) f l r c ∧ SB W' g v0 v1 v2 v3 ∧ Turns b (b + 1) w W' := by
  refine ⟨_, fun ty k => clear_slot W b (p * 4) k ty (fun j hj => ?_) (fun j _ => hl.nums.2.2.2.2 _), hl.setSlot hp hn ⟨0, 0, 0, false⟩, ?_, ?_⟩
  · obtain ⟨c0, c1, c2, c3⟩ := hl.slot hp
    have h4 : j = 0 ∨ j = 1 ∨ j = 2 ∨ j = 3 := by omega
    rcases h4 with rfl | rfl | rfl | rfl
    · rw [show p * 4 + 0 = p * 4 from rfl, c0]; rfl
    · rw [c1]; rfl
    · rw [c2]; rfl
    · rw [c3]; rfl
  · exact (((hb.set (p := ⟨b, p * 4, none⟩) hg _).set (p := ⟨b, p * 4 + 1, none⟩) hg _).set (p := ⟨b, p * 4 + 2, none⟩) hg _).set (p := ⟨b, p * 4 + 3, none⟩) hg _
  · exact (((ht.setCell (p := ⟨b, p * 4, none⟩) (Nat.le_refl _) (Nat.lt_succ_self _) _).setCell (p := ⟨b, p * 4 + 1, none⟩) (Nat.le_refl _) (Nat.lt_succ_self _) _).setCell (p := ⟨b, p * 4 + 2, none⟩) (Nat.le_refl _) (Nat.lt_succ_self _) _).setCell (p := ⟨b, p * 4 + 3, none⟩) (Nat.le_refl _) (Nat.lt_succ_self _) _

set_option maxRecDepth 100000 in
set_option maxHeartbeats 1000000 in
theorem remove_any (b p : Nat) (f l r c id pv nx : Int) (us : Bool) (ss : List Sl) (w : World) (h : Lk w b ss f l r c) (hn : ss.length = 60) (hp : p < 60) (hs : sl ss p = ⟨id, pv, nx, us⟩)
    (hpv : pv = -1 ∨ ∃ y : Nat, pv = (y : Int) ∧ y < 60) (hnx : nx = -1 ∨ ∃ y : Nat, nx = (y : Int) ∧ y < 60) (hc : 0 ≤ c ∧ c ≤ 60) :
    Calls Try.prog 49 #[.pointer (some ⟨b, 0, none⟩), .int .i64 (p : Int)] w fun e w' => e = .returned (.int .i64 id) ∧ Lk w' b (remS ss r p) (if pv = -1 then nx else f) (if nx = -1 then pv else l) (p : Int) (c - 1) ∧ Turns b (b + 1) w w' := by
  obtain ⟨n0, n1, n2, n3, nf⟩ := h.nums
  obtain ⟨c0, c1, c2, c3⟩ := h.slot hp
  rw [hs] at c0 c1 c2 c3
  have hb := h.lt
  have hp0 : (0 : Int) ≤ (p : Int) := by omega
  have hp1 : (p : Int) < 60 := by omega
  have HL := Lib.hid (h.alloc (.cells #[.int .i64 id, .int .i64 pv, .int .i64 nx, .bool us] 51))
  have HB : Hid (SB (w.alloc (.cells #[.int .i64 id, .int .i64 pv, .int .i64 nx, .bool us] 51)) w.heap.size (.int .i64 id) (.int .i64 pv) (.int .i64 nx) (.bool us)) := heap_alloc_new w _
  have HT : Hid (Turns b (b + 1) w (w.alloc (.cells #[.int .i64 id, .int .i64 pv, .int .i64 nx, .bool us] 51))) := Turns.of_below (bel_alloc w _)
  have Hn := Lib.hid hn
  have H0 := Lib.hid h
  have Hs := Lib.hid hs
  have Hpv := Lib.hid hpv
  have Hnx := Lib.hid hnx
  have Hc := Lib.hid hc
  have q1 : IntKind.i64.wrap (c - 1) = c - 1 := IntWalk.i64_in _ (by have := Hc.out; omega)
  clear h hn hs hpv hnx hc
  go_enter Try.func49, Try.ntmps49
  rcases Hpv.out with rfl | ⟨y, rfl, hy⟩
  · rcases Hnx.out with rfl | ⟨z, rfl, hz⟩
    · clear Hpv Hnx
      go_wp2_with fail
      obtain ⟨W, hW⟩ : ∃ W, (((w.setCell ⟨b, 240, none⟩ (.int .i64 (-1))).setCell ⟨b, 241, none⟩ (.int .i64 (-1))).alloc (.cells #[.int .i64 id, .int .i64 (-1), .int .i64 (-1), .bool us] 51)) = W := ⟨_, rfl⟩
      have HL2 : Hid (Lk W b (setPrev (setNext ss (-1) (-1)) (-1) (-1)) (-1) (-1) r c) := by rw [← hW]; exact (((H0.out.setFirst (-1)).setLast (-1)).alloc _)
      have HB2 : Hid (SB W w.heap.size (.int .i64 id) (.int .i64 (-1)) (.int .i64 (-1)) (.bool us)) := by rw [← hW]; exact (sb_new _ (by simp [World.setCell]))
      have HT2 : Hid (Turns b (b + 1) w W) := by rw [← hW]; exact ((((Turns.of_below (Below.refl _ _)).setCell (by simp) (by simp) _).setCell (by simp) (by simp) _).trans (Turns.of_below (bel_alloc _ _)))
      rw [hW]
      clear hW n0 n1 n2 n3 nf c0 c1 c2 c3
      rw [slot_slice b p hp W]
      have hlen : (setPrev (setNext ss (-1) (-1)) (-1) (-1)).length = 60 := by
        unfold setPrev setNext
        repeat' split
        all_goals simp [Hn.out]
      obtain ⟨W3, hcl, hL3, hB3, hT3⟩ := clear_lk HL2.out hlen hp HB2.out (show w.heap.size ≠ b by omega) HT2.out
      have HL3 := Lib.hid hL3
      have HB3 := Lib.hid hB3
      have HT3 := Lib.hid hT3
      have hlen3 : ((setPrev (setNext ss (-1) (-1)) (-1) (-1)).set p ⟨0, 0, 0, false⟩).length = 60 := by rw [List.length_set]; exact hlen
      have Hlen := Lib.hid hlen
      have Hlen3 := Lib.hid hlen3
      clear hL3 hB3 hT3 hlen hlen3 HL2 HB2 HT2
      go_wp2_with (simp only [hcl])
      clear hcl
      obtain ⟨n0, n1, n2, n3, nf⟩ := HL3.out.nums
      obtain ⟨c0, c1, c2, c3⟩ := HL3.out.slot hp
      obtain ⟨s0, s1, s2, s3⟩ := HB3.out.cells
      have hgb : w.heap.size ≠ b := by omega
      have HE := Lib.hid ((((HL3.out.prev hp Hlen3.out (-1)).next hp (by rw [List.length_set]; exact Hlen3.out) r).setFree (p : Int)).setCount (c - 1)).drew
      have TE : Hid (Turns b (b + 1) w ((((W3.setCell ⟨b, p * 4 + 1, none⟩ (.int .i64 (-1))).setCell ⟨b, p * 4 + 2, none⟩ (.int .i64 r)).setCell ⟨b, 242, none⟩ (.int .i64 (p : Int))).setCell ⟨b, 243, none⟩ (.int .i64 (c - 1))).drew) := by
        refine tdrew ?_
        iterate 4 refine Turns.setCell ?_ (by simp) (by simp) _
        exact HT3.out
      generalize sl ((setPrev (setNext ss (-1) (-1)) (-1) (-1)).set p ⟨0, 0, 0, false⟩) p = sp at c0 c1 c2 c3
      go_region
      go_wp2_with fail
      go_ret
      refine ⟨rfl, ?_, TE.out⟩
      have he := HE.out
      rw [sl_set _ _ _ _ (by try simp only [List.length_set]
                             rw [Hlen.out]; exact hp), if_pos rfl, List.set_set] at he
      rw [sl_set _ _ _ _ (by try simp only [List.length_set]
                             rw [Hlen.out]; exact hp), if_pos rfl, List.set_set] at he
      unfold remS
      rw [Hs.out]
      first | exact he | (rw [if_neg (by omega)]; exact he) | (rw [if_neg (by omega), if_neg (by omega)]; exact he)
    · have hz0 : (0 : Int) ≤ (z : Int) := by omega
      have hz1 : (z : Int) < 60 := by omega
      have hzn : ((z : Int) == -1) = false := by simp
      clear Hpv Hnx
      go_wp2_with fail
      obtain ⟨W1, hW⟩ : ∃ W, ((w.setCell ⟨b, 240, none⟩ (.int .i64 (z : Int))).alloc (.cells #[.int .i64 id, .int .i64 (-1), .int .i64 (z : Int), .bool us] 51)) = W := ⟨_, rfl⟩
      have HL1 : Hid (Lk W1 b ss (z : Int) l r c) := by rw [← hW]; exact ((H0.out.setFirst (z : Int)).alloc _)
      have HB1 : Hid (SB W1 w.heap.size (.int .i64 id) (.int .i64 (-1)) (.int .i64 (z : Int)) (.bool us)) := by rw [← hW]; exact (sb_new _ (by simp [World.setCell]))
      have HT1 : Hid (Turns b (b + 1) w W1) := by rw [← hW]; exact (((Turns.of_below (Below.refl _ _)).setCell (by simp) (by simp) _).trans (Turns.of_below (bel_alloc _ _)))
      rw [hW]
      clear hW n0 n1 n2 n3 nf c0 c1 c2 c3
      obtain ⟨n0, n1, n2, n3, nf⟩ := (HL1).out.nums
      obtain ⟨c0, c1, c2, c3⟩ := (HL1).out.slot hz
      obtain ⟨s0, s1, s2, s3⟩ := (HB1).out.cells
      go_still_tail 9, (by kernel_rfl)
      change wpList _ _ _ _ _ W1.drew
      go_wp2_with fail
      obtain ⟨W, hW⟩ : ∃ W, ((W1.setCell ⟨b, z * 4 + 1, none⟩ (.int .i64 (-1))).drew) = W := ⟨_, rfl⟩
      have HL2 : Hid (Lk W b (setPrev (setNext ss (-1) (z : Int)) (z : Int) (-1)) (z : Int) l r c) := by rw [← hW]; exact ((HL1.out.prev hz Hn.out (-1)).drew)
      have HB2 : Hid (SB W w.heap.size (.int .i64 id) (.int .i64 (-1)) (.int .i64 (z : Int)) (.bool us)) := by rw [← hW]; exact ((HB1.out.set (by show w.heap.size ≠ b; omega) _).drew)
      have HT2 : Hid (Turns b (b + 1) w W) := by rw [← hW]; exact (tdrew (HT1.out.setCell (by simp) (by simp) _))
      rw [hW]
      clear hW n0 n1 n2 n3 nf c0 c1 c2 c3
      rw [slot_slice b p hp W]
      have hlen : (setPrev (setNext ss (-1) (z : Int)) (z : Int) (-1)).length = 60 := by
        unfold setPrev setNext
        repeat' split
        all_goals simp [Hn.out]
      obtain ⟨W3, hcl, hL3, hB3, hT3⟩ := clear_lk HL2.out hlen hp HB2.out (show w.heap.size ≠ b by omega) HT2.out
      have HL3 := Lib.hid hL3
      have HB3 := Lib.hid hB3
      have HT3 := Lib.hid hT3
      have hlen3 : ((setPrev (setNext ss (-1) (z : Int)) (z : Int) (-1)).set p ⟨0, 0, 0, false⟩).length = 60 := by rw [List.length_set]; exact hlen
      have Hlen := Lib.hid hlen
      have Hlen3 := Lib.hid hlen3
      clear hL3 hB3 hT3 hlen hlen3 HL2 HB2 HT2
      go_wp2_with (simp only [hcl])
      clear hcl
      obtain ⟨n0, n1, n2, n3, nf⟩ := HL3.out.nums
      obtain ⟨c0, c1, c2, c3⟩ := HL3.out.slot hp
      obtain ⟨s0, s1, s2, s3⟩ := HB3.out.cells
      have hgb : w.heap.size ≠ b := by omega
      have HE := Lib.hid ((((HL3.out.prev hp Hlen3.out (-1)).next hp (by rw [List.length_set]; exact Hlen3.out) r).setFree (p : Int)).setCount (c - 1)).drew
      have TE : Hid (Turns b (b + 1) w ((((W3.setCell ⟨b, p * 4 + 1, none⟩ (.int .i64 (-1))).setCell ⟨b, p * 4 + 2, none⟩ (.int .i64 r)).setCell ⟨b, 242, none⟩ (.int .i64 (p : Int))).setCell ⟨b, 243, none⟩ (.int .i64 (c - 1))).drew) := by
        refine tdrew ?_
        iterate 4 refine Turns.setCell ?_ (by simp) (by simp) _
        exact HT3.out
      generalize sl ((setPrev (setNext ss (-1) (z : Int)) (z : Int) (-1)).set p ⟨0, 0, 0, false⟩) p = sp at c0 c1 c2 c3
      go_region
      go_wp2_with fail
      go_ret
      refine ⟨rfl, ?_, TE.out⟩
      have he := HE.out
      rw [sl_set _ _ _ _ (by try simp only [List.length_set]
                             rw [Hlen.out]; exact hp), if_pos rfl, List.set_set] at he
      rw [sl_set _ _ _ _ (by try simp only [List.length_set]
                             rw [Hlen.out]; exact hp), if_pos rfl, List.set_set] at he
      unfold remS
      rw [Hs.out]
      first | exact he | (rw [if_neg (by omega)]; exact he) | (rw [if_neg (by omega), if_neg (by omega)]; exact he)
  · have hy0 : (0 : Int) ≤ (y : Int) := by omega
    have hy1 : (y : Int) < 60 := by omega
    have hyn : ((y : Int) == -1) = false := by simp
    rcases Hnx.out with rfl | ⟨z, rfl, hz⟩
    · clear Hpv Hnx
      go_wp2_with fail
      obtain ⟨W1, hW⟩ : ∃ W, (w.alloc (.cells #[.int .i64 id, .int .i64 (y : Int), .int .i64 (-1), .bool us] 51)) = W := ⟨_, rfl⟩
      have HL1 : Hid (Lk W1 b ss f l r c) := by rw [← hW]; exact (H0.out.alloc _)
      have HB1 : Hid (SB W1 w.heap.size (.int .i64 id) (.int .i64 (y : Int)) (.int .i64 (-1)) (.bool us)) := by rw [← hW]; exact (sb_new _ rfl)
      have HT1 : Hid (Turns b (b + 1) w W1) := by rw [← hW]; exact (Turns.of_below (bel_alloc _ _))
      rw [hW]
      clear hW n0 n1 n2 n3 nf c0 c1 c2 c3
      obtain ⟨n0, n1, n2, n3, nf⟩ := (HL1).out.nums
      obtain ⟨c0, c1, c2, c3⟩ := (HL1).out.slot hy
      obtain ⟨s0, s1, s2, s3⟩ := (HB1).out.cells
      go_still_tail 9, (by kernel_rfl)
      change wpList _ _ _ _ _ W1.drew
      go_wp2_with fail
      obtain ⟨W, hW⟩ : ∃ W, (((W1.setCell ⟨b, y * 4 + 2, none⟩ (.int .i64 (-1))).setCell ⟨b, 241, none⟩ (.int .i64 (y : Int))).drew) = W := ⟨_, rfl⟩
      have HL2 : Hid (Lk W b (setPrev (setNext ss (y : Int) (-1)) (-1) (y : Int)) f (y : Int) r c) := by rw [← hW]; exact (((HL1.out.next hy Hn.out (-1)).setLast (y : Int)).drew)
      have HB2 : Hid (SB W w.heap.size (.int .i64 id) (.int .i64 (y : Int)) (.int .i64 (-1)) (.bool us)) := by rw [← hW]; exact (((HB1.out.set (by show w.heap.size ≠ b; omega) _).set (by show w.heap.size ≠ b; omega) _).drew)
      have HT2 : Hid (Turns b (b + 1) w W) := by rw [← hW]; exact (tdrew ((HT1.out.setCell (by simp) (by simp) _).setCell (by simp) (by simp) _))
      rw [hW]
      clear hW n0 n1 n2 n3 nf c0 c1 c2 c3
      rw [slot_slice b p hp W]
      have hlen : (setPrev (setNext ss (y : Int) (-1)) (-1) (y : Int)).length = 60 := by
        unfold setPrev setNext
        repeat' split
        all_goals simp [Hn.out]
      obtain ⟨W3, hcl, hL3, hB3, hT3⟩ := clear_lk HL2.out hlen hp HB2.out (show w.heap.size ≠ b by omega) HT2.out
      have HL3 := Lib.hid hL3
      have HB3 := Lib.hid hB3
      have HT3 := Lib.hid hT3
      have hlen3 : ((setPrev (setNext ss (y : Int) (-1)) (-1) (y : Int)).set p ⟨0, 0, 0, false⟩).length = 60 := by rw [List.length_set]; exact hlen
      have Hlen := Lib.hid hlen
      have Hlen3 := Lib.hid hlen3
      clear hL3 hB3 hT3 hlen hlen3 HL2 HB2 HT2
      go_wp2_with (simp only [hcl])
      clear hcl
      obtain ⟨n0, n1, n2, n3, nf⟩ := HL3.out.nums
      obtain ⟨c0, c1, c2, c3⟩ := HL3.out.slot hp
      obtain ⟨s0, s1, s2, s3⟩ := HB3.out.cells
      have hgb : w.heap.size ≠ b := by omega
      have HE := Lib.hid ((((HL3.out.prev hp Hlen3.out (-1)).next hp (by rw [List.length_set]; exact Hlen3.out) r).setFree (p : Int)).setCount (c - 1)).drew
      have TE : Hid (Turns b (b + 1) w ((((W3.setCell ⟨b, p * 4 + 1, none⟩ (.int .i64 (-1))).setCell ⟨b, p * 4 + 2, none⟩ (.int .i64 r)).setCell ⟨b, 242, none⟩ (.int .i64 (p : Int))).setCell ⟨b, 243, none⟩ (.int .i64 (c - 1))).drew) := by
        refine tdrew ?_
        iterate 4 refine Turns.setCell ?_ (by simp) (by simp) _
        exact HT3.out
      generalize sl ((setPrev (setNext ss (y : Int) (-1)) (-1) (y : Int)).set p ⟨0, 0, 0, false⟩) p = sp at c0 c1 c2 c3
      go_region
      go_wp2_with fail
      go_ret
      refine ⟨rfl, ?_, TE.out⟩
      have he := HE.out
      rw [sl_set _ _ _ _ (by try simp only [List.length_set]
                             rw [Hlen.out]; exact hp), if_pos rfl, List.set_set] at he
      rw [sl_set _ _ _ _ (by try simp only [List.length_set]
                             rw [Hlen.out]; exact hp), if_pos rfl, List.set_set] at he
      unfold remS
      rw [Hs.out]
      first | exact he | (rw [if_neg (by omega)]; exact he) | (rw [if_neg (by omega), if_neg (by omega)]; exact he)
    · have hz0 : (0 : Int) ≤ (z : Int) := by omega
      have hz1 : (z : Int) < 60 := by omega
      have hzn : ((z : Int) == -1) = false := by simp
      clear Hpv Hnx
      go_wp2_with fail
      obtain ⟨W1, hW⟩ : ∃ W, (w.alloc (.cells #[.int .i64 id, .int .i64 (y : Int), .int .i64 (z : Int), .bool us] 51)) = W := ⟨_, rfl⟩
      have HL1 : Hid (Lk W1 b ss f l r c) := by rw [← hW]; exact (H0.out.alloc _)
      have HB1 : Hid (SB W1 w.heap.size (.int .i64 id) (.int .i64 (y : Int)) (.int .i64 (z : Int)) (.bool us)) := by rw [← hW]; exact (sb_new _ rfl)
      have HT1 : Hid (Turns b (b + 1) w W1) := by rw [← hW]; exact (Turns.of_below (bel_alloc _ _))
      rw [hW]
      clear hW n0 n1 n2 n3 nf c0 c1 c2 c3
      obtain ⟨n0, n1, n2, n3, nf⟩ := (HL1).out.nums
      obtain ⟨c0, c1, c2, c3⟩ := (HL1).out.slot hy
      obtain ⟨s0, s1, s2, s3⟩ := (HB1).out.cells
      go_still_tail 9, (by kernel_rfl)
      change wpList _ _ _ _ _ W1.drew
      go_wp2_with fail
      obtain ⟨W2, hW⟩ : ∃ W, ((W1.setCell ⟨b, y * 4 + 2, none⟩ (.int .i64 (z : Int))).drew) = W := ⟨_, rfl⟩
      have HL2 : Hid (Lk W2 b (ss.set y (wNext (sl ss y) (z : Int))) f l r c) := by rw [← hW]; exact ((HL1.out.next hy Hn.out (z : Int)).drew)
      have HB2 : Hid (SB W2 w.heap.size (.int .i64 id) (.int .i64 (y : Int)) (.int .i64 (z : Int)) (.bool us)) := by rw [← hW]; exact ((HB1.out.set (by show w.heap.size ≠ b; omega) _).drew)
      have HT2 : Hid (Turns b (b + 1) w W2) := by rw [← hW]; exact (tdrew (HT1.out.setCell (by simp) (by simp) _))
      rw [hW]
      clear hW n0 n1 n2 n3 nf c0 c1 c2 c3
      obtain ⟨n0, n1, n2, n3, nf⟩ := (HL2).out.nums
      obtain ⟨c0, c1, c2, c3⟩ := (HL2).out.slot hz
      obtain ⟨s0, s1, s2, s3⟩ := (HB2).out.cells
      go_still_tail 9, (by kernel_rfl)
      change wpList _ _ _ _ _ W2.drew
      go_wp2_with fail
      obtain ⟨W, hW⟩ : ∃ W, ((W2.setCell ⟨b, z * 4 + 1, none⟩ (.int .i64 (y : Int))).drew) = W := ⟨_, rfl⟩
      have HL2 : Hid (Lk W b (setPrev (setNext ss (y : Int) (z : Int)) (z : Int) (y : Int)) f l r c) := by rw [← hW]; exact ((HL2.out.prev hz (by rw [List.length_set]; exact Hn.out) (y : Int)).drew)
      have HB2 : Hid (SB W w.heap.size (.int .i64 id) (.int .i64 (y : Int)) (.int .i64 (z : Int)) (.bool us)) := by rw [← hW]; exact ((HB2.out.set (by show w.heap.size ≠ b; omega) _).drew)
      have HT2 : Hid (Turns b (b + 1) w W) := by rw [← hW]; exact (tdrew (HT2.out.setCell (by simp) (by simp) _))
      rw [hW]
      clear hW n0 n1 n2 n3 nf c0 c1 c2 c3
      rw [slot_slice b p hp W]
      have hlen : (setPrev (setNext ss (y : Int) (z : Int)) (z : Int) (y : Int)).length = 60 := by
        unfold setPrev setNext
        repeat' split
        all_goals simp [Hn.out]
      obtain ⟨W3, hcl, hL3, hB3, hT3⟩ := clear_lk HL2.out hlen hp HB2.out (show w.heap.size ≠ b by omega) HT2.out
      have HL3 := Lib.hid hL3
      have HB3 := Lib.hid hB3
      have HT3 := Lib.hid hT3
      have hlen3 : ((setPrev (setNext ss (y : Int) (z : Int)) (z : Int) (y : Int)).set p ⟨0, 0, 0, false⟩).length = 60 := by rw [List.length_set]; exact hlen
      have Hlen := Lib.hid hlen
      have Hlen3 := Lib.hid hlen3
      clear hL3 hB3 hT3 hlen hlen3 HL2 HB2 HT2
      go_wp2_with (simp only [hcl])
      clear hcl
      obtain ⟨n0, n1, n2, n3, nf⟩ := HL3.out.nums
      obtain ⟨c0, c1, c2, c3⟩ := HL3.out.slot hp
      obtain ⟨s0, s1, s2, s3⟩ := HB3.out.cells
      have hgb : w.heap.size ≠ b := by omega
      have HE := Lib.hid ((((HL3.out.prev hp Hlen3.out (-1)).next hp (by rw [List.length_set]; exact Hlen3.out) r).setFree (p : Int)).setCount (c - 1)).drew
      have TE : Hid (Turns b (b + 1) w ((((W3.setCell ⟨b, p * 4 + 1, none⟩ (.int .i64 (-1))).setCell ⟨b, p * 4 + 2, none⟩ (.int .i64 r)).setCell ⟨b, 242, none⟩ (.int .i64 (p : Int))).setCell ⟨b, 243, none⟩ (.int .i64 (c - 1))).drew) := by
        refine tdrew ?_
        iterate 4 refine Turns.setCell ?_ (by simp) (by simp) _
        exact HT3.out
      generalize sl ((setPrev (setNext ss (y : Int) (z : Int)) (z : Int) (y : Int)).set p ⟨0, 0, 0, false⟩) p = sp at c0 c1 c2 c3
      go_region
      go_wp2_with fail
      go_ret
      refine ⟨rfl, ?_, TE.out⟩
      have he := HE.out
      rw [sl_set _ _ _ _ (by try simp only [List.length_set]
                             rw [Hlen.out]; exact hp), if_pos rfl, List.set_set] at he
      rw [sl_set _ _ _ _ (by try simp only [List.length_set]
                             rw [Hlen.out]; exact hp), if_pos rfl, List.set_set] at he
      unfold remS
      rw [Hs.out]
      first | exact he | (rw [if_neg (by omega)]; exact he) | (rw [if_neg (by omega), if_neg (by omega)]; exact he)
end Go.Proofs.Ytjbfmagedkmngaa.Que
