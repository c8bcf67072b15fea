/- What remove does to the program's form. What the program's RemoveAt answers. -/
import Derived.Test.YtpjelojmkmednaaLq8
import Derived.Lib.SliceRun
import Derived.Test.YtpjelojmkmednaaLq9
namespace Go.Proofs.Ytpjelojmkmednaa.Que
open Go.RowKit Go.Deep Base Rng

theorem zero_slot (w : World) : (zeroValue 91).run Try.prog w = .ok (.agg #[.int .i64 0, .int .i64 0, .int .i64 0, .bool false]) w := by kernel_rfl

/-- clear of one slot. -/
theorem clear_slot (w : World) (b o c ty : Nat) (hc : ∀ j, j < 4 → (w.cell? ⟨b, o + j, none⟩).isSome = true) (hf : ∀ j, j < 4 → w.frozen? ⟨b, o + j, none⟩ = false) :
    (Builtin.clear_ #[24] ty #[.slice (some ⟨b, o, none⟩) 1 c]).run Try.prog w = .ok (.tuple #[]) (w.setCells b o [.int .i64 0, .int .i64 0, .int .i64 0, .bool false]) := by
  have hzc : (Builtin.zeroCells (Value.agg #[.int .i64 0, .int .i64 0, .int .i64 0, .bool false]).cells 1).toList = [.int .i64 0, .int .i64 0, .int .i64 0, .bool false] := by simp [Builtin.zeroCells, Value.cells, List.range, List.range.loop]
  have hst := run_storeCells_cells (P := Try.prog) b o [.int .i64 0, .int .i64 0, .int .i64 0, .bool false] 0 w (by simpa using hc) (by simpa using hf) (by intro v hv; simp at hv; rcases hv with rfl | rfl <;> rfl)
  simp only [Nat.add_zero] at hst
  simp [Builtin.clear_, run_underlying Try.underlying24, hzc, hst]

set_option maxRecDepth 100000 in
theorem slot_slice (b p : Nat) (hp : p < 60) (w : World) : (Instr.sliceAt 92 (.pointer (some ⟨b, 0, none⟩)) (some (.int .i64 (p : Int))) (some (.int .i64 ((p : Int) + 1))) none).run Try.prog w = .ok (.slice (some ⟨b, p * 4, none⟩) 1 (60 - p)) w := by
  have h1 : ((p : Int) + 1).toNat = p + 1 := by omega
  have h3 : (p : Int) + 1 ≤ 60 := by omega
  have h4 : (0 : Int) ≤ (p : Int) + 1 := by omega
  have h5 : ¬ 60 = p := by omega
  have h6 : p + 1 - p = 1 := by omega
  simp [Instr.sliceAt, run_underlying Try.underlying92, Instr.sliceBounds, go_sem, h1, h3, h4, h5, h6]

/-- A slot's box. -/
def SB (w : World) (g : Nat) (v0 v1 v2 v3 : Value) : Prop := w.heap[g]? = some (.cells #[v0, v1, v2, v3] 91 (0, 0))
theorem SB.cells {w : World} {g : Nat} {v0 v1 v2 v3 : Value} (h : SB w g v0 v1 v2 v3) :
    w.cell? ⟨g, 0, none⟩ = some v0 ∧ w.cell? ⟨g, 1, none⟩ = some v1 ∧ w.cell? ⟨g, 2, none⟩ = some v2 ∧ w.cell? ⟨g, 3, none⟩ = some v3 := by
  have hc : ∀ o, w.cell? ⟨g, o, none⟩ = #[v0, v1, v2, v3][o]? := fun o => cell_of_row _ _ o _ _ (0, 0) h
  refine ⟨?_, ?_, ?_, ?_⟩ <;> (rw [hc]; rfl)
theorem SB.set {w : World} {g : Nat} {v0 v1 v2 v3 : Value} (h : SB w g v0 v1 v2 v3) {p : Addr} (hp : g ≠ p.block) (u : Value) : SB (w.setCell p u) g v0 v1 v2 v3 := (Below.heap_setCell w p u g hp).trans h
theorem SB.drew {w : World} {g : Nat} {v0 v1 v2 v3 : Value} (h : SB w g v0 v1 v2 v3) : SB w.drew g v0 v1 v2 v3 := h

theorem sb_new (W : World) {n : Nat} (h : W.heap.size = n) {v0 v1 v2 v3 : Value} : SB (W.alloc (.cells #[v0, v1, v2, v3] 91)) n v0 v1 v2 v3 := by
  subst h; exact heap_alloc_new W _

theorem clear_lk {w W : World} {b g p : Nat} {ss : List Sl} {f l r c : Int} {v0 v1 v2 v3 : Value} (hl : Lk W b ss f l r c) (hn : ss.length = 60) (hp : p < 60) (hb : SB W g v0 v1 v2 v3) (hg : g ≠ b) (ht : Turns b (b + 1) w W) :
    ∃ W', (∀ ty k, (Builtin.clear_ #[24] ty #[.slice (some ⟨b, p * 4, none⟩) 1 k]).run Try.prog W = .ok (.tuple #[]) W') ∧ Lk W' b (ss.set p ⟨0, 0, 0, false⟩) f l r c ∧ SB W' g v0 v1 v2 v3 ∧ Turns b (b + 1) w W' := by
  refine ⟨_, fun ty k => clear_slot W b (p * 4) k ty (fun j hj => ?_) (fun j _ => hl.nums.2.2.2.2 _), hl.setSlot hp hn ⟨0, 0, 0, false⟩, ?_, ?_⟩
  · obtain ⟨c0, c1, c2, c3⟩ := hl.slot hp
    have h4 : j = 0 ∨ j = 1 ∨ j = 2 ∨ j = 3 := by omega
    rcases h4 with rfl | rfl | rfl | rfl
    · rw [show p * 4 + 0 = p * 4 from rfl, c0]; rfl
    · rw [c1]; rfl
    · rw [c2]; rfl
    · rw [c3]; rfl
  · exact (((hb.set (p := ⟨b, p * 4, none⟩) hg _).set (p := ⟨b, p * 4 + 1, none⟩) hg _).set (p := ⟨b, p * 4 + 2, none⟩) hg _).set (p := ⟨b, p * 4 + 3, none⟩) hg _
  · exact (((ht.setCell (p := ⟨b, p * 4, none⟩) (Nat.le_refl _) (Nat.lt_succ_self _) _).setCell (p := ⟨b, p * 4 + 1, none⟩) (Nat.le_refl _) (Nat.lt_succ_self _) _).setCell (p := ⟨b, p * 4 + 2, none⟩) (Nat.le_refl _) (Nat.lt_succ_self _) _).setCell (p := ⟨b, p * 4 + 3, none⟩) (Nat.le_refl _) (Nat.lt_succ_self _) _

set_option maxRecDepth 100000 in
set_option maxHeartbeats 1000000 in
theorem remove_any (b p : Nat) (f l r c id pv nx : Int) (us : Bool) (ss : List Sl) (w : World) (h : Lk w b ss f l r c) (hn : ss.length = 60) (hp : p < 60) (hs : sl ss p = ⟨id, pv, nx, us⟩)
    (hpv : pv = -1 ∨ ∃ y : Nat, pv = (y : Int) ∧ y < 60) (hnx : nx = -1 ∨ ∃ y : Nat, nx = (y : Int) ∧ y < 60) (hc : 0 ≤ c ∧ c ≤ 60) :
    Calls Try.prog 92 #[.pointer (some ⟨b, 0, none⟩), .int .i64 (p : Int)] w fun e w' => e = .returned (.int .i64 id) ∧ Lk w' b (remS ss r p) (if pv = -1 then nx else f) (if nx = -1 then pv else l) (p : Int) (c - 1) ∧ Turns b (b + 1) w w' := by
  obtain ⟨n0, n1, n2, n3, nf⟩ := h.nums
  obtain ⟨c0, c1, c2, c3⟩ := h.slot hp
  rw [hs] at c0 c1 c2 c3
  have hb := h.lt
  have hp0 : (0 : Int) ≤ (p : Int) := by omega
  have hp1 : (p : Int) < 60 := by omega
  have HL := Lib.hid (h.alloc (.cells #[.int .i64 id, .int .i64 pv, .int .i64 nx, .bool us] 91))
  have HB : Hid (SB (w.alloc (.cells #[.int .i64 id, .int .i64 pv, .int .i64 nx, .bool us] 91)) w.heap.size (.int .i64 id) (.int .i64 pv) (.int .i64 nx) (.bool us)) := heap_alloc_new w _
  have HT : Hid (Turns b (b + 1) w (w.alloc (.cells #[.int .i64 id, .int .i64 pv, .int .i64 nx, .bool us] 91))) := Turns.of_below (bel_alloc w _)
  have Hn := Lib.hid hn
  have H0 := Lib.hid h
  have Hs := Lib.hid hs
  have Hpv := Lib.hid hpv
  have Hnx := Lib.hid hnx
  have Hc := Lib.hid hc
  have q1 : IntKind.i64.wrap (c - 1) = c - 1 := IntWalk.i64_in _ (by have := Hc.out; omega)
  clear h hn hs hpv hnx hc
  go_enter Try.func92, Try.ntmps92
  rcases Hpv.out with rfl | ⟨y, rfl, hy⟩
  · rcases Hnx.out with rfl | ⟨z, rfl, hz⟩
    · clear Hpv Hnx
      go_wp2_with fail
      obtain ⟨W, hW⟩ : ∃ W, (((w.setCell ⟨b, 240, none⟩ (.int .i64 (-1))).setCell ⟨b, 241, none⟩ (.int .i64 (-1))).alloc (.cells #[.int .i64 id, .int .i64 (-1), .int .i64 (-1), .bool us] 91)) = W := ⟨_, rfl⟩
      have HL2 : Hid (Lk W b (setPrev (setNext ss (-1) (-1)) (-1) (-1)) (-1) (-1) r c) := by rw [← hW]; exact (((H0.out.setFirst (-1)).setLast (-1)).alloc _)
      have HB2 : Hid (SB W w.heap.size (.int .i64 id) (.int .i64 (-1)) (.int .i64 (-1)) (.bool us)) := by rw [← hW]; exact (sb_new _ (by simp [World.setCell]))
      have HT2 : Hid (Turns b (b + 1) w W) := by rw [← hW]; exact ((((Turns.of_below (Below.refl _ _)).setCell (by simp) (by simp) _).setCell (by simp) (by simp) _).trans (Turns.of_below (bel_alloc _ _)))
      rw [hW]
      clear hW n0 n1 n2 n3 nf c0 c1 c2 c3
      rw [slot_slice b p hp W]
      have hlen : (setPrev (setNext ss (-1) (-1)) (-1) (-1)).length = 60 := by
        unfold setPrev setNext
        repeat' split
        all_goals simp [Hn.out]
      obtain ⟨W3, hcl, hL3, hB3, hT3⟩ := clear_lk HL2.out hlen hp HB2.out (show w.heap.size ≠ b by omega) HT2.out
      have HL3 := Lib.hid hL3
      have HB3 := Lib.hid hB3
      have HT3 := Lib.hid hT3
      have hlen3 : ((setPrev (setNext ss (-1) (-1)) (-1) (-1)).set p ⟨0, 0, 0, false⟩).length = 60 := by rw [List.length_set]; exact hlen
      have Hlen := Lib.hid hlen
      have Hlen3 := Lib.hid hlen3
      clear hL3 hB3 hT3 hlen hlen3 HL2 HB2 HT2
      go_wp2_with (simp only [hcl])
      clear hcl
      obtain ⟨n0, n1, n2, n3, nf⟩ := HL3.out.nums
      obtain ⟨c0, c1, c2, c3⟩ := HL3.out.slot hp
      obtain ⟨s0, s1, s2, s3⟩ := HB3.out.cells
      have hgb : w.heap.size ≠ b := by omega
      have HE := Lib.hid ((((HL3.out.prev hp Hlen3.out (-1)).next hp (by rw [List.length_set]; exact Hlen3.out) r).setFree (p : Int)).setCount (c - 1)).drew
      have TE : Hid (Turns b (b + 1) w ((((W3.setCell ⟨b, p * 4 + 1, none⟩ (.int .i64 (-1))).setCell ⟨b, p * 4 + 2, none⟩ (.int .i64 r)).setCell ⟨b, 242, none⟩ (.int .i64 (p : Int))).setCell ⟨b, 243, none⟩ (.int .i64 (c - 1))).drew) := by
        refine tdrew ?_
        iterate 4 refine Turns.setCell ?_ (by simp) (by simp) _
        exact HT3.out
      generalize sl ((setPrev (setNext ss (-1) (-1)) (-1) (-1)).set p ⟨0, 0, 0, false⟩) p = sp at c0 c1 c2 c3
      go_region
      go_wp2_with fail
      go_ret
      refine ⟨rfl, ?_, TE.out⟩
      have he := HE.out
      rw [sl_set _ _ _ _ (by try simp only [List.length_set]
                             rw [Hlen.out]; exact hp), if_pos rfl, List.set_set] at he
      rw [sl_set _ _ _ _ (by try simp only [List.length_set]
                             rw [Hlen.out]; exact hp), if_pos rfl, List.set_set] at he
      unfold remS
      rw [Hs.out]
      first | exact he | (rw [if_neg (by omega)]; exact he) | (rw [if_neg (by omega), if_neg (by omega)]; exact he)
    · have hz0 : (0 : Int) ≤ (z : Int) := by omega
      have hz1 : (z : Int) < 60 := by omega
      have hzn : ((z : Int) == -1) = false := by simp
      clear Hpv Hnx
      go_wp2_with fail
      obtain ⟨W1, hW⟩ : ∃ W, ((w.setCell ⟨b, 240, none⟩ (.int .i64 (z : Int))).alloc (.cells #[.int .i64 id, .int .i64 (-1), .int .i64 (z : Int), .bool us] 91)) = W := ⟨_, rfl⟩
      have HL1 : Hid (Lk W1 b ss (z : Int) l r c) := by rw [← hW]; exact ((H0.out.setFirst (z : Int)).alloc _)
      have HB1 : Hid (SB W1 w.heap.size (.int .i64 id) (.int .i64 (-1)) (.int .i64 (z : Int)) (.bool us)) := by rw [← hW]; exact (sb_new _ (by simp [World.setCell]))
      have HT1 : Hid (Turns b (b + 1) w W1) := by rw [← hW]; exact (((Turns.of_below (Below.refl _ _)).setCell (by simp) (by simp) _).trans (Turns.of_below (bel_alloc _ _)))
      rw [hW]
      clear hW n0 n1 n2 n3 nf c0 c1 c2 c3
      obtain ⟨n0, n1, n2, n3, nf⟩ := (HL1).out.nums
      obtain ⟨c0, c1, c2, c3⟩ := (HL1).out.slot hz
      obtain ⟨s0, s1, s2, s3⟩ := (HB1).out.cells
      go_still_tail 9, (by kernel_rfl)
      change wpList _ _ _ _ _ W1.drew
      go_wp2_with fail
      obtain ⟨W, hW⟩ : ∃ W, ((W1.setCell ⟨b, z * 4 + 1, none⟩ (.int .i64 (-1))).drew) = W := ⟨_, rfl⟩
      have HL2 : Hid (Lk W b (setPrev (setNext ss (-1) (z : Int)) (z : Int) (-1)) (z : Int) l r c) := by rw [← hW]; exact ((HL1.out.prev hz Hn.out (-1)).drew)
      have HB2 : Hid (SB W w.heap.size (.int .i64 id) (.int .i64 (-1)) (.int .i64 (z : Int)) (.bool us)) := by rw [← hW]; exact ((HB1.out.set (by show w.heap.size ≠ b; omega) _).drew)
      have HT2 : Hid (Turns b (b + 1) w W) := by rw [← hW]; exact (tdrew (HT1.out.setCell (by simp) (by simp) _))
      rw [hW]
      clear hW n0 n1 n2 n3 nf c0 c1 c2 c3
      rw [slot_slice b p hp W]
      have hlen : (setPrev (setNext ss (-1) (z : Int)) (z : Int) (-1)).length = 60 := by
        unfold setPrev setNext
        repeat' split
        all_goals simp [Hn.out]
      obtain ⟨W3, hcl, hL3, hB3, hT3⟩ := clear_lk HL2.out hlen hp HB2.out (show w.heap.size ≠ b by omega) HT2.out
      have HL3 := Lib.hid hL3
      have HB3 := Lib.hid hB3
      have HT3 := Lib.hid hT3
      have hlen3 : ((setPrev (setNext ss (-1) (z : Int)) (z : Int) (-1)).set p ⟨0, 0, 0, false⟩).length = 60 := by rw [List.length_set]; exact hlen
      have Hlen := Lib.hid hlen
      have Hlen3 := Lib.hid hlen3
      clear hL3 hB3 hT3 hlen hlen3 HL2 HB2 HT2
      go_wp2_with (simp only [hcl])
      clear hcl
      obtain ⟨n0, n1, n2, n3, nf⟩ := HL3.out.nums
      obtain ⟨c0, c1, c2, c3⟩ := HL3.out.slot hp
      obtain ⟨s0, s1, s2, s3⟩ := HB3.out.cells
      have hgb : w.heap.size ≠ b := by omega
      have HE := Lib.hid ((((HL3.out.prev hp Hlen3.out (-1)).next hp (by rw [List.length_set]; exact Hlen3.out) r).setFree (p : Int)).setCount (c - 1)).drew
      have TE : Hid (Turns b (b + 1) w ((((W3.setCell ⟨b, p * 4 + 1, none⟩ (.int .i64 (-1))).setCell ⟨b, p * 4 + 2, none⟩ (.int .i64 r)).setCell ⟨b, 242, none⟩ (.int .i64 (p : Int))).setCell ⟨b, 243, none⟩ (.int .i64 (c - 1))).drew) := by
        refine tdrew ?_
        iterate 4 refine Turns.setCell ?_ (by simp) (by simp) _
        exact HT3.out
      generalize sl ((setPrev (setNext ss (-1) (z : Int)) (z : Int) (-1)).set p ⟨0, 0, 0, false⟩) p = sp at c0 c1 c2 c3
      go_region
      go_wp2_with fail
      go_ret
      refine ⟨rfl, ?_, TE.out⟩
      have he := HE.out
      rw [sl_set _ _ _ _ (by try simp only [List.length_set]
                             rw [Hlen.out]; exact hp), if_pos rfl, List.set_set] at he
      rw [sl_set _ _ _ _ (by try simp only [List.length_set]
                             rw [Hlen.out]; exact hp), if_pos rfl, List.set_set] at he
      unfold remS
      rw [Hs.out]
      first | exact he | (rw [if_neg (by omega)]; exact he) | (rw [if_neg (by omega), if_neg (by omega)]; exact he)
  · have hy0 : (0 : Int) ≤ (y : Int) := by omega
    have hy1 : (y : Int) < 60 := by omega
    have hyn : ((y : Int) == -1) = false := by simp
    rcases Hnx.out with rfl | ⟨z, rfl, hz⟩
    · clear Hpv Hnx
      go_wp2_with fail
      obtain ⟨W1, hW⟩ : ∃ W, (w.alloc (.cells #[.int .i64 id, .int .i64 (y : Int), .int .i64 (-1), .bool us] 91)) = W := ⟨_, rfl⟩
      have HL1 : Hid (Lk W1 b ss f l r c) := by rw [← hW]; exact (H0.out.alloc _)
      have HB1 : Hid (SB W1 w.heap.size (.int .i64 id) (.int .i64 (y : Int)) (.int .i64 (-1)) (.bool us)) := by rw [← hW]; exact (sb_new _ rfl)
      have HT1 : Hid (Turns b (b + 1) w W1) := by rw [← hW]; exact (Turns.of_below (bel_alloc _ _))
      rw [hW]
      clear hW n0 n1 n2 n3 nf c0 c1 c2 c3
      obtain ⟨n0, n1, n2, n3, nf⟩ := (HL1).out.nums
      obtain ⟨c0, c1, c2, c3⟩ := (HL1).out.slot hy
      obtain ⟨s0, s1, s2, s3⟩ := (HB1).out.cells
      go_still_tail 9, (by kernel_rfl)
      change wpList _ _ _ _ _ W1.drew
      go_wp2_with fail
      obtain ⟨W, hW⟩ : ∃ W, (((W1.setCell ⟨b, y * 4 + 2, none⟩ (.int .i64 (-1))).setCell ⟨b, 241, none⟩ (.int .i64 (y : Int))).drew) = W := ⟨_, rfl⟩
      have HL2 : Hid (Lk W b (setPrev (setNext ss (y : Int) (-1)) (-1) (y : Int)) f (y : Int) r c) := by rw [← hW]; exact (((HL1.out.next hy Hn.out (-1)).setLast (y : Int)).drew)
      have HB2 : Hid (SB W w.heap.size (.int .i64 id) (.int .i64 (y : Int)) (.int .i64 (-1)) (.bool us)) := by rw [← hW]; exact (((HB1.out.set (by show w.heap.size ≠ b; omega) _).set (by show w.heap.size ≠ b; omega) _).drew)
      have HT2 : Hid (Turns b (b + 1) w W) := by rw [← hW]; exact (tdrew ((HT1.out.setCell (by simp) (by simp) _).setCell (by simp) (by simp) _))
      rw [hW]
      clear hW n0 n1 n2 n3 nf c0 c1 c2 c3
      rw [slot_slice b p hp W]
      have hlen : (setPrev (setNext ss (y : Int) (-1)) (-1) (y : Int)).length = 60 := by
        unfold setPrev setNext
        repeat' split
        all_goals simp [Hn.out]
      obtain ⟨W3, hcl, hL3, hB3, hT3⟩ := clear_lk HL2.out hlen hp HB2.out (show w.heap.size ≠ b by omega) HT2.out
      have HL3 := Lib.hid hL3
      have HB3 := Lib.hid hB3
      have HT3 := Lib.hid hT3
      have hlen3 : ((setPrev (setNext ss (y : Int) (-1)) (-1) (y : Int)).set p ⟨0, 0, 0, false⟩).length = 60 := by rw [List.length_set]; exact hlen
      have Hlen := Lib.hid hlen
      have Hlen3 := Lib.hid hlen3
      clear hL3 hB3 hT3 hlen hlen3 HL2 HB2 HT2
      go_wp2_with (simp only [hcl])
      clear hcl
      obtain ⟨n0, n1, n2, n3, nf⟩ := HL3.out.nums
      obtain ⟨c0, c1, c2, c3⟩ := HL3.out.slot hp
      obtain ⟨s0, s1, s2, s3⟩ := HB3.out.cells
      have hgb : w.heap.size ≠ b := by omega
      have HE := Lib.hid ((((HL3.out.prev hp Hlen3.out (-1)).next hp (by rw [List.length_set]; exact Hlen3.out) r).setFree (p : Int)).setCount (c - 1)).drew
      have TE : Hid (Turns b (b + 1) w ((((W3.setCell ⟨b, p * 4 + 1, none⟩ (.int .i64 (-1))).setCell ⟨b, p * 4 + 2, none⟩ (.int .i64 r)).setCell ⟨b, 242, none⟩ (.int .i64 (p : Int))).setCell ⟨b, 243, none⟩ (.int .i64 (c - 1))).drew) := by
        refine tdrew ?_
        iterate 4 refine Turns.setCell ?_ (by simp) (by simp) _
        exact HT3.out
      generalize sl ((setPrev (setNext ss (y : Int) (-1)) (-1) (y : Int)).set p ⟨0, 0, 0, false⟩) p = sp at c0 c1 c2 c3
      go_region
      go_wp2_with fail
      go_ret
      refine ⟨rfl, ?_, TE.out⟩
      have he := HE.out
      rw [sl_set _ _ _ _ (by try simp only [List.length_set]
                             rw [Hlen.out]; exact hp), if_pos rfl, List.set_set] at he
      rw [sl_set _ _ _ _ (by try simp only [List.length_set]
                             rw [Hlen.out]; exact hp), if_pos rfl, List.set_set] at he
      unfold remS
      rw [Hs.out]
      first | exact he | (rw [if_neg (by omega)]; exact he) | (rw [if_neg (by omega), if_neg (by omega)]; exact he)
    · have hz0 : (0 : Int) ≤ (z : Int) := by omega
      have hz1 : (z : Int) < 60 := by omega
      have hzn : ((z : Int) == -1) = false := by simp
      clear Hpv Hnx
      go_wp2_with fail
      obtain ⟨W1, hW⟩ : ∃ W, (w.alloc (.cells #[.int .i64 id, .int .i64 (y : Int), .int .i64 (z : Int), .bool us] 91)) = W := ⟨_, rfl⟩
      have HL1 : Hid (Lk W1 b ss f l r c) := by rw [← hW]; exact (H0.out.alloc _)
      have HB1 : Hid (SB W1 w.heap.size (.int .i64 id) (.int .i64 (y : Int)) (.int .i64 (z : Int)) (.bool us)) := by rw [← hW]; exact (sb_new _ rfl)
      have HT1 : Hid (Turns b (b + 1) w W1) := by rw [← hW]; exact (Turns.of_below (bel_alloc _ _))
      rw [hW]
      clear hW n0 n1 n2 n3 nf c0 c1 c2 c3
      obtain ⟨n0, n1, n2, n3, nf⟩ := (HL1).out.nums
      obtain ⟨c0, c1, c2, c3⟩ := (HL1).out.slot hy
      obtain ⟨s0, s1, s2, s3⟩ := (HB1).out.cells
      go_still_tail 9, (by kernel_rfl)
      change wpList _ _ _ _ _ W1.drew
      go_wp2_with fail
      obtain ⟨W2, hW⟩ : ∃ W, ((W1.setCell ⟨b, y * 4 + 2, none⟩ (.int .i64 (z : Int))).drew) = W := ⟨_, rfl⟩
      have HL2 : Hid (Lk W2 b (ss.set y (wNext (sl ss y) (z : Int))) f l r c) := by rw [← hW]; exact ((HL1.out.next hy Hn.out (z : Int)).drew)
      have HB2 : Hid (SB W2 w.heap.size (.int .i64 id) (.int .i64 (y : Int)) (.int .i64 (z : Int)) (.bool us)) := by rw [← hW]; exact ((HB1.out.set (by show w.heap.size ≠ b; omega) _).drew)
      have HT2 : Hid (Turns b (b + 1) w W2) := by rw [← hW]; exact (tdrew (HT1.out.setCell (by simp) (by simp) _))
      rw [hW]
      clear hW n0 n1 n2 n3 nf c0 c1 c2 c3
      obtain ⟨n0, n1, n2, n3, nf⟩ := (HL2).out.nums
      obtain ⟨c0, c1, c2, c3⟩ := (HL2).out.slot hz
      obtain ⟨s0, s1, s2, s3⟩ := (HB2).out.cells
      go_still_tail 9, (by kernel_rfl)
      change wpList _ _ _ _ _ W2.drew
      go_wp2_with fail
      obtain ⟨W, hW⟩ : ∃ W, ((W2.setCell ⟨b, z * 4 + 1, none⟩ (.int .i64 (y : Int))).drew) = W := ⟨_, rfl⟩
      have HL2 : Hid (Lk W b (setPrev (setNext ss (y : Int) (z : Int)) (z : Int) (y : Int)) f l r c) := by rw [← hW]; exact ((HL2.out.prev hz (by rw [List.length_set]; exact Hn.out) (y : Int)).drew)
      have HB2 : Hid (SB W w.heap.size (.int .i64 id) (.int .i64 (y : Int)) (.int .i64 (z : Int)) (.bool us)) := by rw [← hW]; exact ((HB2.out.set (by show w.heap.size ≠ b; omega) _).drew)
      have HT2 : Hid (Turns b (b + 1) w W) := by rw [← hW]; exact (tdrew (HT2.out.setCell (by simp) (by simp) _))
      rw [hW]
      clear hW n0 n1 n2 n3 nf c0 c1 c2 c3
      rw [slot_slice b p hp W]
      have hlen : (setPrev (setNext ss (y : Int) (z : Int)) (z : Int) (y : Int)).length = 60 := by
        unfold setPrev setNext
        repeat' split
        all_goals simp [Hn.out]
      obtain ⟨W3, hcl, hL3, hB3, hT3⟩ := clear_lk HL2.out hlen hp HB2.out (show w.heap.size ≠ b by omega) HT2.out
      have HL3 := Lib.hid hL3
      have HB3 := Lib.hid hB3
      have HT3 := Lib.hid hT3
      have hlen3 : ((setPrev (setNext ss (y : Int) (z : Int)) (z : Int) (y : Int)).set p ⟨0, 0, 0, false⟩).length = 60 := by rw [List.length_set]; exact hlen
      have Hlen := Lib.hid hlen
      have Hlen3 := Lib.hid hlen3
      clear hL3 hB3 hT3 hlen hlen3 HL2 HB2 HT2
      go_wp2_with (simp only [hcl])
      clear hcl
      obtain ⟨n0, n1, n2, n3, nf⟩ := HL3.out.nums
      obtain ⟨c0, c1, c2, c3⟩ := HL3.out.slot hp
      obtain ⟨s0, s1, s2, s3⟩ := HB3.out.cells
      have hgb : w.heap.size ≠ b := by omega
      have HE := Lib.hid ((((HL3.out.prev hp Hlen3.out (-1)).next hp (by rw [List.length_set]; exact Hlen3.out) r).setFree (p : Int)).setCount (c - 1)).drew
      have TE : Hid (Turns b (b + 1) w ((((W3.setCell ⟨b, p * 4 + 1, none⟩ (.int .i64 (-1))).setCell ⟨b, p * 4 + 2, none⟩ (.int .i64 r)).setCell ⟨b, 242, none⟩ (.int .i64 (p : Int))).setCell ⟨b, 243, none⟩ (.int .i64 (c - 1))).drew) := by
        refine tdrew ?_
        iterate 4 refine Turns.setCell ?_ (by simp) (by simp) _
        exact HT3.out
      generalize sl ((setPrev (setNext ss (y : Int) (z : Int)) (z : Int) (y : Int)).set p ⟨0, 0, 0, false⟩) p = sp at c0 c1 c2 c3
      go_region
      go_wp2_with fail
      go_ret
      refine ⟨rfl, ?_, TE.out⟩
      have he := HE.out
      rw [sl_set _ _ _ _ (by try simp only [List.length_set]
                             rw [Hlen.out]; exact hp), if_pos rfl, List.set_set] at he
      rw [sl_set _ _ _ _ (by try simp only [List.length_set]
                             rw [Hlen.out]; exact hp), if_pos rfl, List.set_set] at he
      unfold remS
      rw [Hs.out]
      first | exact he | (rw [if_neg (by omega)]; exact he) | (rw [if_neg (by omega), if_neg (by omega)]; exact he)
end Go.Proofs.Ytpjelojmkmednaa.Que

namespace Go.Proofs.Ytpjelojmkmednaa.Que
open Go.RowKit Go.Deep Base Rng

theorem val_at {ss : List Sl} {first last free count : Int} {us fs : List Nat} {p : Nat} (v : Val ss first last free count us fs) (hp : p < 60) (hu : (sl ss p).used = true) :
    ∃ l1 l2, us = l1 ++ p :: l2 ∧ ((sl ss p).prev = -1 ∨ ∃ a : Nat, (sl ss p).prev = (a : Int) ∧ a < 60 ∧ a ≠ p) ∧ ((sl ss p).next = -1 ∨ ∃ a : Nat, (sl ss p).next = (a : Int) ∧ a < 60 ∧ a ≠ p)
      ∧ (∀ a b : Nat, (sl ss p).prev = (a : Int) → (sl ss p).next = (b : Int) → a ≠ b) ∧ 0 ≤ count ∧ count ≤ 60 := by
  obtain ⟨l1, l2, rfl⟩ := List.append_of_mem (mem_used v hp hu)
  obtain ⟨len, seg, fch, lt, ids, nd, full, cnt⟩ := v
  obtain ⟨nd1, nd2, nd3⟩ := List.nodup_append.1 nd
  obtain ⟨n1, n2, n3⟩ := List.nodup_append.1 nd1
  obtain ⟨hp2, n2'⟩ := List.nodup_cons.1 n2
  have hp1 : p ∉ l1 := fun hm => n3 p hm p (by simp) rfl
  obtain ⟨m', q', sg1, ⟨e1, e2, e3, sg2⟩⟩ := (seg_append _ _ _ _ _ _ _).1 seg
  subst e1
  have hA : (sl ss p).prev = -1 ∨ ∃ a : Nat, (sl ss p).prev = (a : Int) ∧ a < 60 ∧ a ≠ p ∧ a ∈ l1 := by
    rcases seg_first sg1 with ⟨h, hq, hm⟩ | ⟨x, r, h, _⟩
    · exact .inl (by rw [e2, hm])
    · obtain ⟨l', a, ha, hm, _⟩ := seg_last sg1 (by rw [h]; simp)
      exact .inr ⟨a, by rw [e2, hm], lt a (by rw [ha]; simp), by rintro rfl; exact hp1 (by rw [ha]; simp), by rw [ha]; simp⟩
  have hB : (sl ss p).next = -1 ∨ ∃ b : Nat, (sl ss p).next = (b : Int) ∧ b < 60 ∧ b ≠ p ∧ b ∈ l2 := by
    rcases seg_first sg2 with ⟨h, hq, hm⟩ | ⟨b, r, h, hb⟩
    · exact .inl (by omega)
    · exact .inr ⟨b, hb, lt b (by rw [h]; simp), by rintro rfl; exact hp2 (by rw [h]; simp), by rw [h]; simp⟩
  refine ⟨l1, l2, rfl, hA.imp id (fun ⟨a, h1, h2, h3, _⟩ => ⟨a, h1, h2, h3⟩), hB.imp id (fun ⟨a, h1, h2, h3, _⟩ => ⟨a, h1, h2, h3⟩), fun a b ha hb => ?_, ?_, ?_⟩
  · rcases hA with h | ⟨a', h1, _, _, h4⟩
    · omega
    rcases hB with h | ⟨b', h1', _, _, h4'⟩
    · omega
    intro hab
    exact n3 a' h4 b' (by simp [h4']) (by omega)
  · omega
  · rw [List.length_append] at full; omega

def canRem (ss : List Sl) (f l r c p : Int) : Bool := okQ ss f l r c && decide (0 ≤ p) && decide (p < 60) && (sl ss p.toNat).used

def RemEnd (w : World) (n : Nat) (ss : List Sl) (f l r c p : Int) (e : Ending) (w' : World) : Prop :=
  if canRem ss f l r c p = true then NewQ2 w n (remS ss r p.toNat) (if (sl ss p.toNat).prev = -1 then (sl ss p.toNat).next else f) (if (sl ss p.toNat).next = -1 then (sl ss p.toNat).prev else l) p (c - 1) (.int .i64 (sl ss p.toNat).id) e w'
  else NewQ2 w n ss f l r c (.int .i64 0) e w'

theorem remEnd_no {w : World} {n : Nat} {ss : List Sl} {f l r c p : Int} {e : Ending} {w' : World} (h : canRem ss f l r c p = false) (k : NewQ2 w n ss f l r c (.int .i64 0) e w') : RemEnd w n ss f l r c p e w' := by
  unfold RemEnd; rw [if_neg (by rw [h]; simp)]; exact k
theorem remEnd_yes {w : World} {n : Nat} {ss : List Sl} {f l r c p : Int} {e : Ending} {w' : World} (h : canRem ss f l r c p = true) (k : NewQ2 w n (remS ss r p.toNat) (if (sl ss p.toNat).prev = -1 then (sl ss p.toNat).next else f) (if (sl ss p.toNat).next = -1 then (sl ss p.toNat).prev else l) p (c - 1) (.int .i64 (sl ss p.toNat).id) e w') : RemEnd w n ss f l r c p e w' := by
  unfold RemEnd; rw [if_pos h]; exact k

theorem remS_len (ss : List Sl) (r : Int) (p : Nat) : (remS ss r p).length = ss.length := by
  unfold remS setPrev setNext
  repeat' split
  all_goals simp

set_option maxRecDepth 100000 in
set_option maxHeartbeats 2000000 in
theorem implRemove_any (A : Option Addr) (n cap lo hi : Nat) (ss : List Sl) (f l r c p : Int) (w : World) (hn : ss.length = n) (hm : n ≤ 1048576) (h : SlV w lo hi A ss) (hhi : hi ≤ w.heap.size) :
    Calls Try.prog 47 #[.agg #[.slice A n cap, .int .i64 f, .int .i64 l, .int .i64 r, .int .i64 c], .int .i64 p] w (RemEnd w n ss f l r c p) := by
  have Hn := Lib.hid hn
  have HS := Lib.hid h
  have Hhi := Lib.hid hhi
  clear h hn hhi
  go_enter Try.func47, Try.ntmps47
  go_wp2_with fail
  have hB0 : Below w.heap.size w ((w.alloc (.cells #[.slice A n cap, .int .i64 f, .int .i64 l, .int .i64 r, .int .i64 c] 26)).alloc (.cells #[.slice none 0 0, .int .i64 0, .int .i64 0, .int .i64 0, .int .i64 0] 26)) := ((Below.refl _ _).alloc (Nat.le_refl _) _).alloc (by simp) _
  refine (linksOf_any A n cap ss f l r c lo hi _ Hn.out (HS.out.below hB0 Hhi.out) (by have := Hhi.out; simp; omega)).mono ?_
  rintro e w1 ⟨s', f', l', r', c', rfl, heq, hb1⟩
  have K1' : Hid (Blk5 w1 w.heap.size (.slice A n cap) (.int .i64 f) (.int .i64 l) (.int .i64 r) (.int .i64 c)) := Blk5.below (Blk5.alloc (heap_alloc_new w _) _) hb1
  have K2' : Hid (Blk5 w1 (w.heap.size + 1) (.slice none 0 0) (.int .i64 0) (.int .i64 0) (.int .i64 0) (.int .i64 0)) := by
    have h := heap_alloc_new (w.alloc (.cells #[.slice A n cap, .int .i64 f, .int .i64 l, .int .i64 r, .int .i64 c] 26)) (.cells #[.slice none 0 0, .int .i64 0, .int .i64 0, .int .i64 0, .int .i64 0] 26)
    simp only [World.size_alloc] at h
    exact Blk5.below h hb1
  have B1' := Lib.hid (bel_trans hB0 hb1)
  have Heq := Lib.hid heq
  clear hb1 heq hB0
  have hsc := store_links w1 Try.zeroCells94 (lkA s' f' l' r' c') (by rw [zero_links, lkA_size]) s' f' l' r' c' rfl
  have hsz := lkA_size s' f' l' r' c'
  have K1 : Hid (Blk5 (w1.alloc (.cells (lkA s' f' l' r' c') 94)) w.heap.size (.slice A n cap) (.int .i64 f) (.int .i64 l) (.int .i64 r) (.int .i64 c)) := K1'.out.alloc _
  have K2 : Hid (Blk5 (w1.alloc (.cells (lkA s' f' l' r' c') 94)) (w.heap.size + 1) (.slice none 0 0) (.int .i64 0) (.int .i64 0) (.int .i64 0) (.int .i64 0)) := K2'.out.alloc _
  have B1 : Hid (Below w.heap.size w (w1.alloc (.cells (lkA s' f' l' r' c') 94))) := bel_trans B1'.out (bel_alloc w1 _)
  clear K1' K2' B1'
  obtain ⟨d0, d1, d2, d3, d4, df⟩ := K1.out.cells
  cases hok : okQ ss f l r c
  · have hcp : canRem ss f l r c p = false := by unfold canRem; rw [hok]; rfl
    clear hok
    have KA : Hid (Blk5 (w1.alloc (.cells (lkA s' f' l' r' c') 94)) w.heap.size (.slice A n cap) (.int .i64 f) (.int .i64 l) (.int .i64 r) (.int .i64 c)) := K1.out.below (Below.refl _ _)
    have KB : Hid (Blk5 (w1.alloc (.cells (lkA s' f' l' r' c') 94)) (w.heap.size + 1) (.slice none 0 0) (.int .i64 0) (.int .i64 0) (.int .i64 0) (.int .i64 0)) := K2.out.below (Below.refl _ _)
    have BA : Hid (Below w.heap.size w (w1.alloc (.cells (lkA s' f' l' r' c') 94))) := bel_trans B1.out (Below.refl _ _)
    have Hno := Lib.hid hcp
    clear d0 d1 d2 d3 d4 df
    obtain ⟨d0, d1, d2, d3, d4, df⟩ := KA.out.cells
    go_wp2_with fail
    refine (unchanged_any A n cap lo hi ss f l r c (w1.alloc (.cells (lkA s' f' l' r' c') 94)) Hn.out hm (HS.out.below BA.out Hhi.out) (Nat.le_trans Hhi.out BA.out.size)).mono ?_
    rintro e w9 ⟨A9, c9, rfl, v9, b9⟩
    have B9 := Lib.hid (bel_trans BA.out b9)
    have z9 : w.heap.size + 1 < ((w1.alloc (.cells (lkA s' f' l' r' c') 94))).heap.size := KB.out.lt
    have KC := Lib.hid (KB.out.below b9)
    have V9 := Lib.hid v9
    clear b9 v9 d0 d1 d2 d3 d4 df
    obtain ⟨e0, e1, e2, e3, e4, ef⟩ := KC.out.cells
    go_wp2_with fail
    refine bodyPost_ret (v := .tuple #[.agg #[.slice A9 n c9, .int .i64 f, .int .i64 l, .int .i64 r, .int .i64 c], .int .i64 0]) (by simp [results, Try.results47, go_sem, e0, e1, e2, e3, e4]) rfl (remEnd_no Hno.out ⟨A9, c9, rfl, ?_, ?_⟩)
    · refine SlV.wide (lo := ((w1.alloc (.cells (lkA s' f' l' r' c') 94))).heap.size) (hi := w9.heap.size) ?_ (by omega) (by simp [World.setCell])
      iterate 5 refine SlV.setCell ?_ (by exact z9) _
      exact V9.out
    · iterate 5 refine Below.setCell ?_ (by show w.heap.size ≤ w.heap.size + 1; omega) _
      exact B9.out
  obtain ⟨us, fs, v⟩ := ok_val hok
  have Hok := Lib.hid hok
  clear hok
  obtain ⟨rfl, rfl, rfl, rfl, rfl⟩ := Heq.out v.len
  have Hv := Lib.hid v
  have hnn := Hn.out
  rw [v.len] at hnn
  subst hnn
  clear v Heq
  have hL : Lk (w1.alloc (.cells (lkA s' f' l' r' c') 94)) w1.heap.size s' f' l' r' c' := heap_alloc_new w1 _
  obtain ⟨g0, g1, g2, g3, gf⟩ := hL.nums
  have HL := Lib.hid hL
  clear hL
  by_cases hp0 : p < 0
  · have hcp : canRem s' f' l' r' c' p = false := by
      have : decide (0 ≤ p) = false := by simp; omega
      unfold canRem; rw [this]; simp
    have KA : Hid (Blk5 (w1.alloc (.cells (lkA s' f' l' r' c') 94)) w.heap.size (.slice A 60 cap) (.int .i64 f') (.int .i64 l') (.int .i64 r') (.int .i64 c')) := K1.out.below (Below.refl _ _)
    have KB : Hid (Blk5 (w1.alloc (.cells (lkA s' f' l' r' c') 94)) (w.heap.size + 1) (.slice none 0 0) (.int .i64 0) (.int .i64 0) (.int .i64 0) (.int .i64 0)) := K2.out.below (Below.refl _ _)
    have BA : Hid (Below w.heap.size w (w1.alloc (.cells (lkA s' f' l' r' c') 94))) := bel_trans B1.out (Below.refl _ _)
    have Hno := Lib.hid hcp
    clear d0 d1 d2 d3 d4 df
    obtain ⟨d0, d1, d2, d3, d4, df⟩ := KA.out.cells
    go_wp2_with fail
    refine (unchanged_any A 60 cap lo hi s' f' l' r' c' (w1.alloc (.cells (lkA s' f' l' r' c') 94)) Hn.out hm (HS.out.below BA.out Hhi.out) (Nat.le_trans Hhi.out BA.out.size)).mono ?_
    rintro e w9 ⟨A9, c9, rfl, v9, b9⟩
    have B9 := Lib.hid (bel_trans BA.out b9)
    have z9 : w.heap.size + 1 < ((w1.alloc (.cells (lkA s' f' l' r' c') 94))).heap.size := KB.out.lt
    have KC := Lib.hid (KB.out.below b9)
    have V9 := Lib.hid v9
    clear b9 v9 d0 d1 d2 d3 d4 df
    obtain ⟨e0, e1, e2, e3, e4, ef⟩ := KC.out.cells
    go_wp2_with fail
    refine bodyPost_ret (v := .tuple #[.agg #[.slice A9 60 c9, .int .i64 f', .int .i64 l', .int .i64 r', .int .i64 c'], .int .i64 0]) (by simp [results, Try.results47, go_sem, e0, e1, e2, e3, e4]) rfl (remEnd_no Hno.out ⟨A9, c9, rfl, ?_, ?_⟩)
    · refine SlV.wide (lo := ((w1.alloc (.cells (lkA s' f' l' r' c') 94))).heap.size) (hi := w9.heap.size) ?_ (by omega) (by simp [World.setCell])
      iterate 5 refine SlV.setCell ?_ (by exact z9) _
      exact V9.out
    · iterate 5 refine Below.setCell ?_ (by show w.heap.size ≤ w.heap.size + 1; omega) _
      exact B9.out
  by_cases hp1 : 60 ≤ p
  · have hcp : canRem s' f' l' r' c' p = false := by
      have : decide (p < 60) = false := by simp; omega
      unfold canRem; rw [this]; simp
    have KA : Hid (Blk5 (w1.alloc (.cells (lkA s' f' l' r' c') 94)) w.heap.size (.slice A 60 cap) (.int .i64 f') (.int .i64 l') (.int .i64 r') (.int .i64 c')) := K1.out.below (Below.refl _ _)
    have KB : Hid (Blk5 (w1.alloc (.cells (lkA s' f' l' r' c') 94)) (w.heap.size + 1) (.slice none 0 0) (.int .i64 0) (.int .i64 0) (.int .i64 0) (.int .i64 0)) := K2.out.below (Below.refl _ _)
    have BA : Hid (Below w.heap.size w (w1.alloc (.cells (lkA s' f' l' r' c') 94))) := bel_trans B1.out (Below.refl _ _)
    have Hno := Lib.hid hcp
    clear d0 d1 d2 d3 d4 df
    obtain ⟨d0, d1, d2, d3, d4, df⟩ := KA.out.cells
    go_wp2_with fail
    refine (unchanged_any A 60 cap lo hi s' f' l' r' c' (w1.alloc (.cells (lkA s' f' l' r' c') 94)) Hn.out hm (HS.out.below BA.out Hhi.out) (Nat.le_trans Hhi.out BA.out.size)).mono ?_
    rintro e w9 ⟨A9, c9, rfl, v9, b9⟩
    have B9 := Lib.hid (bel_trans BA.out b9)
    have z9 : w.heap.size + 1 < ((w1.alloc (.cells (lkA s' f' l' r' c') 94))).heap.size := KB.out.lt
    have KC := Lib.hid (KB.out.below b9)
    have V9 := Lib.hid v9
    clear b9 v9 d0 d1 d2 d3 d4 df
    obtain ⟨e0, e1, e2, e3, e4, ef⟩ := KC.out.cells
    go_wp2_with fail
    refine bodyPost_ret (v := .tuple #[.agg #[.slice A9 60 c9, .int .i64 f', .int .i64 l', .int .i64 r', .int .i64 c'], .int .i64 0]) (by simp [results, Try.results47, go_sem, e0, e1, e2, e3, e4]) rfl (remEnd_no Hno.out ⟨A9, c9, rfl, ?_, ?_⟩)
    · refine SlV.wide (lo := ((w1.alloc (.cells (lkA s' f' l' r' c') 94))).heap.size) (hi := w9.heap.size) ?_ (by omega) (by simp [World.setCell])
      iterate 5 refine SlV.setCell ?_ (by exact z9) _
      exact V9.out
    · iterate 5 refine Below.setCell ?_ (by show w.heap.size ≤ w.heap.size + 1; omega) _
      exact B9.out
  obtain ⟨x, rfl⟩ : ∃ x : Nat, p = (x : Int) := ⟨p.toNat, by omega⟩
  have hx : x < 60 := by omega
  have hx0 : (0 : Int) ≤ (x : Int) := by omega
  have hx1 : (x : Int) < 60 := by omega
  have hx2 : ¬ (60 : Int) ≤ (x : Int) := by omega
  obtain ⟨c0, c1, c2, c3⟩ := HL.out.slot hx
  obtain ⟨id, pv, nx, us1, hsx⟩ : ∃ id pv nx us1, sl s' x = ⟨id, pv, nx, us1⟩ := ⟨_, _, _, _, rfl⟩
  rw [hsx] at c0 c1 c2 c3
  have Hsx := Lib.hid hsx
  clear hsx hp0 hp1
  cases us1
  · have hcp : canRem s' f' l' r' c' (x : Int) = false := by unfold canRem; rw [Int.toNat_natCast, Hsx.out]; simp
    have KA : Hid (Blk5 (w1.alloc (.cells (lkA s' f' l' r' c') 94)) w.heap.size (.slice A 60 cap) (.int .i64 f') (.int .i64 l') (.int .i64 r') (.int .i64 c')) := K1.out.below (Below.refl _ _)
    have KB : Hid (Blk5 (w1.alloc (.cells (lkA s' f' l' r' c') 94)) (w.heap.size + 1) (.slice none 0 0) (.int .i64 0) (.int .i64 0) (.int .i64 0) (.int .i64 0)) := K2.out.below (Below.refl _ _)
    have BA : Hid (Below w.heap.size w (w1.alloc (.cells (lkA s' f' l' r' c') 94))) := bel_trans B1.out (Below.refl _ _)
    have Hno := Lib.hid hcp
    clear d0 d1 d2 d3 d4 df
    obtain ⟨d0, d1, d2, d3, d4, df⟩ := KA.out.cells
    go_wp2_with fail
    refine (unchanged_any A 60 cap lo hi s' f' l' r' c' (w1.alloc (.cells (lkA s' f' l' r' c') 94)) Hn.out hm (HS.out.below BA.out Hhi.out) (Nat.le_trans Hhi.out BA.out.size)).mono ?_
    rintro e w9 ⟨A9, c9, rfl, v9, b9⟩
    have B9 := Lib.hid (bel_trans BA.out b9)
    have z9 : w.heap.size + 1 < ((w1.alloc (.cells (lkA s' f' l' r' c') 94))).heap.size := KB.out.lt
    have KC := Lib.hid (KB.out.below b9)
    have V9 := Lib.hid v9
    clear b9 v9 d0 d1 d2 d3 d4 df
    obtain ⟨e0, e1, e2, e3, e4, ef⟩ := KC.out.cells
    go_wp2_with fail
    refine bodyPost_ret (v := .tuple #[.agg #[.slice A9 60 c9, .int .i64 f', .int .i64 l', .int .i64 r', .int .i64 c'], .int .i64 0]) (by simp [results, Try.results47, go_sem, e0, e1, e2, e3, e4]) rfl (remEnd_no Hno.out ⟨A9, c9, rfl, ?_, ?_⟩)
    · refine SlV.wide (lo := ((w1.alloc (.cells (lkA s' f' l' r' c') 94))).heap.size) (hi := w9.heap.size) ?_ (by omega) (by simp [World.setCell])
      iterate 5 refine SlV.setCell ?_ (by exact z9) _
      exact V9.out
    · iterate 5 refine Below.setCell ?_ (by show w.heap.size ≤ w.heap.size + 1; omega) _
      exact B9.out
  have hcp : canRem s' f' l' r' c' (x : Int) = true := by unfold canRem; rw [Int.toNat_natCast, Hsx.out, Hok.out]; simp [hx1]
  have Hcp := Lib.hid hcp
  obtain ⟨l1, l2, hus, hpv, hnx, _, hc0, hc1⟩ := val_at Hv.out hx (by rw [Hsx.out])
  rw [Hsx.out] at hpv hnx
  have Hpv : Hid (pv = -1 ∨ ∃ y : Nat, pv = (y : Int) ∧ y < 60) := hpv.imp (fun h => h) (fun ⟨a, h1, h2, _⟩ => ⟨a, h1, h2⟩)
  have Hnx : Hid (nx = -1 ∨ ∃ y : Nat, nx = (y : Int) ∧ y < 60) := hnx.imp (fun h => h) (fun ⟨a, h1, h2, _⟩ => ⟨a, h1, h2⟩)
  clear hcp hus hpv hnx d0 d1 d2 d3 d4 df
  have z1 : w.heap.size + 1 < w1.heap.size + 1 := by have := K2.out.lt; simpa using this
  have z1' : w.heap.size + 1 ≠ w1.heap.size := fun e => by
    have h1 := K2.out
    have h2 := HL.out
    rw [e] at h1
    unfold Blk5 at h1
    unfold Lk at h2
    rw [h1] at h2
    injection h2 with h3
    injection h3 with _ h4 _
    exact absurd h4 (by decide)
  go_wp2_with fail
  refine (remove_any w1.heap.size x f' l' r' c' id pv nx true s' _ HL.out Hv.out.len hx Hsx.out Hpv.out Hnx.out ⟨hc0, hc1⟩).mono ?_
  rintro e w3 ⟨rfl, h3, t3⟩
  have H3 := Lib.hid h3
  have K3 : Hid (Blk5 w3 (w.heap.size + 1) (.slice none 0 0) (.int .i64 0) (.int .i64 0) (.int .i64 0) (.int .i64 0)) := K2.out.of_block (t3.block _ K2.out.lt (by omega))
  have B3 : Hid (Below w.heap.size w w3) := B1.out.trans (t3.below (by omega) B1.out.size)
  have Hpl3 : Hid ((remS s' r' x).length = 60) := (remS_len _ _ _).trans Hv.out.len
  clear h3 t3 g0 g1 g2 g3 gf hsc hsz c0 c1 c2 c3
  go_wp2_with fail
  refine (queue_any w1.heap.size _ _ _ _ (remS s' r' x) w3 Hpl3.out H3.out).mono ?_
  rintro e w4 ⟨A4, c4, rfl, v4, b4⟩
  have K4 := Lib.hid (K3.out.below b4)
  have B4 := Lib.hid (bel_trans B3.out b4)
  have V4 := Lib.hid v4
  have z3 : w.heap.size + 1 < w3.heap.size := K3.out.lt
  clear b4 v4
  obtain ⟨e0, e1, e2, e3, e4, ef⟩ := K4.out.cells
  obtain ⟨ff, hff⟩ : ∃ ff, (if pv = -1 then nx else f') = ff := ⟨_, rfl⟩
  obtain ⟨ll, hll⟩ : ∃ ll, (if nx = -1 then pv else l') = ll := ⟨_, rfl⟩
  rw [hff, hll]
  have Hff := Lib.hid hff
  have Hll := Lib.hid hll
  clear hff hll
  go_wp2_with fail
  refine bodyPost_ret (v := .tuple #[.agg #[.slice A4 60 c4, .int .i64 ff, .int .i64 ll, .int .i64 (x : Int), .int .i64 (c' - 1)], .int .i64 id]) (by simp [results, Try.results47, go_sem, e0, e1, e2, e3, e4]) rfl (remEnd_yes Hcp.out ⟨A4, c4, by rw [Int.toNat_natCast, Hsx.out, Hff.out, Hll.out], ?_, ?_⟩)
  · refine SlV.wide (lo := w3.heap.size) (hi := w4.heap.size) ?_ (by omega) (by simp [World.setCell])
    iterate 5 refine SlV.setCell ?_ (by exact z3) _
    exact V4.out
  · iterate 5 refine Below.setCell ?_ (by show w.heap.size ≤ w.heap.size + 1; omega) _
    exact B4.out
end Go.Proofs.Ytpjelojmkmednaa.Que
