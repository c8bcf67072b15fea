/- What remove does to the program's form. What the program's RemoveAt answers. What the reference's RemoveAt answers. Rows of integers that a call has made: compared, marked, held. What the reference's ListQueue answers. What the program's ListQueue answers. The walk of the law of NewQueue. What PopFront answers: the program's, then the reference's. -/
import Derived.Test.YtehdbdolhkflcaaNq3
import Derived.Lib.SliceRun
import Derived.Test.YtehdbdolhkflcaaNq1
namespace Go.Proofs.Ytehdbdolhkflcaa.Que
open Go.RowKit Go.Deep Base Rng

theorem zero_slot (w : World) : (zeroValue 122).run Try.prog w = .ok (.agg #[.int .i64 0, .int .i64 0, .int .i64 0, .bool false]) w := by kernel_rfl

/-- clear of one slot. -/
theorem clear_slot (w : World) (b o c ty : Nat) (hc : ∀ j, j < 4 → (w.cell? ⟨b, o + j, none⟩).isSome = true) (hf : ∀ j, j < 4 → w.frozen? ⟨b, o + j, none⟩ = false) :
    (Builtin.clear_ #[26] ty #[.slice (some ⟨b, o, none⟩) 1 c]).run Try.prog w = .ok (.tuple #[]) (w.setCells b o [.int .i64 0, .int .i64 0, .int .i64 0, .bool false]) := by
  have hzc : (Builtin.zeroCells (Value.agg #[.int .i64 0, .int .i64 0, .int .i64 0, .bool false]).cells 1).toList = [.int .i64 0, .int .i64 0, .int .i64 0, .bool false] := by simp [Builtin.zeroCells, Value.cells, List.range, List.range.loop]
  have hst := run_storeCells_cells (P := Try.prog) b o [.int .i64 0, .int .i64 0, .int .i64 0, .bool false] 0 w (by simpa using hc) (by simpa using hf) (by intro v hv; simp at hv; rcases hv with rfl | rfl <;> rfl)
  simp only [Nat.add_zero] at hst
  simp [Builtin.clear_, run_underlying Try.underlying26, hzc, hst]

set_option maxRecDepth 100000 in
theorem slot_slice (b p : Nat) (hp : p < 60) (w : World) : (Instr.sliceAt 125 (.pointer (some ⟨b, 0, none⟩)) (some (.int .i64 (p : Int))) (some (.int .i64 ((p : Int) + 1))) none).run Try.prog w = .ok (.slice (some ⟨b, p * 4, none⟩) 1 (60 - p)) w := by
  have h1 : ((p : Int) + 1).toNat = p + 1 := by omega
  have h3 : (p : Int) + 1 ≤ 60 := by omega
  have h4 : (0 : Int) ≤ (p : Int) + 1 := by omega
  have h5 : ¬ 60 = p := by omega
  have h6 : p + 1 - p = 1 := by omega
  simp [Instr.sliceAt, run_underlying Try.underlying125, Instr.sliceBounds, go_sem, h1, h3, h4, h5, h6]

/-- A slot's box. -/
def SB (w : World) (g : Nat) (v0 v1 v2 v3 : Value) : Prop := w.heap[g]? = some (.cells #[v0, v1, v2, v3] 122 (0, 0))
theorem SB.cells {w : World} {g : Nat} {v0 v1 v2 v3 : Value} (h : SB w g v0 v1 v2 v3) :
    w.cell? ⟨g, 0, none⟩ = some v0 ∧ w.cell? ⟨g, 1, none⟩ = some v1 ∧ w.cell? ⟨g, 2, none⟩ = some v2 ∧ w.cell? ⟨g, 3, none⟩ = some v3 := by
  have hc : ∀ o, w.cell? ⟨g, o, none⟩ = #[v0, v1, v2, v3][o]? := fun o => cell_of_row _ _ o _ _ (0, 0) h
  refine ⟨?_, ?_, ?_, ?_⟩ <;> (rw [hc]; rfl)
theorem SB.set {w : World} {g : Nat} {v0 v1 v2 v3 : Value} (h : SB w g v0 v1 v2 v3) {p : Addr} (hp : g ≠ p.block) (u : Value) : SB (w.setCell p u) g v0 v1 v2 v3 := (Below.heap_setCell w p u g hp).trans h
theorem SB.drew {w : World} {g : Nat} {v0 v1 v2 v3 : Value} (h : SB w g v0 v1 v2 v3) : SB w.drew g v0 v1 v2 v3 := h

theorem sb_new (W : World) {n : Nat} (h : W.heap.size = n) {v0 v1 v2 v3 : Value} : SB (W.alloc (.cells #[v0, v1, v2, v3] 122)) n v0 v1 v2 v3 := by
  subst h; exact heap_alloc_new W _

theorem clear_lk {w W : World} {b g p : Nat} {ss : List Sl} {f l r c : Int} {v0 v1 v2 v3 : Value} (hl : Lk W b ss f l r c) (hn : ss.length = 60) (hp : p < 60) (hb : SB W g v0 v1 v2 v3) (hg : g ≠ b) (ht : Turns b (b + 1) w W) :
    ∃ W', (∀ ty k, (Builtin.clear_ #[26] ty #[.slice (some ⟨b, p * 4, none⟩) 1 k]).run Try.prog W = .ok (.tuple #[]) W') ∧ Lk W' b (ss.set p ⟨0, 0, 0, false⟩) f l r c ∧ SB W' g v0 v1 v2 v3 ∧ Turns b (b + 1) w W' := by
  refine ⟨_, fun ty k => clear_slot W b (p * 4) k ty (fun j hj => ?_) (fun j _ => hl.nums.2.2.2.2 _), hl.setSlot hp hn ⟨0, 0, 0, false⟩, ?_, ?_⟩
  · obtain ⟨c0, c1, c2, c3⟩ := hl.slot hp
    have h4 : j = 0 ∨ j = 1 ∨ j = 2 ∨ j = 3 := by omega
    rcases h4 with rfl | rfl | rfl | rfl
    · rw [show p * 4 + 0 = p * 4 from rfl, c0]; rfl
    · rw [c1]; rfl
    · rw [c2]; rfl
    · rw [c3]; rfl
  · exact (((hb.set (p := ⟨b, p * 4, none⟩) hg _).set (p := ⟨b, p * 4 + 1, none⟩) hg _).set (p := ⟨b, p * 4 + 2, none⟩) hg _).set (p := ⟨b, p * 4 + 3, none⟩) hg _
  · exact (((ht.setCell (p := ⟨b, p * 4, none⟩) (Nat.le_refl _) (Nat.lt_succ_self _) _).setCell (p := ⟨b, p * 4 + 1, none⟩) (Nat.le_refl _) (Nat.lt_succ_self _) _).setCell (p := ⟨b, p * 4 + 2, none⟩) (Nat.le_refl _) (Nat.lt_succ_self _) _).setCell (p := ⟨b, p * 4 + 3, none⟩) (Nat.le_refl _) (Nat.lt_succ_self _) _


end Go.Proofs.Ytehdbdolhkflcaa.Que

namespace Go.Proofs.Ytehdbdolhkflcaa.Que
open Go.RowKit Go.Deep Base Rng

theorem val_at {ss : List Sl} {first last free count : Int} {us fs : List Nat} {p : Nat} (v : Val ss first last free count us fs) (hp : p < 60) (hu : (sl ss p).used = true) :
    ∃ l1 l2, us = l1 ++ p :: l2 ∧ ((sl ss p).prev = -1 ∨ ∃ a : Nat, (sl ss p).prev = (a : Int) ∧ a < 60 ∧ a ≠ p) ∧ ((sl ss p).next = -1 ∨ ∃ a : Nat, (sl ss p).next = (a : Int) ∧ a < 60 ∧ a ≠ p)
      ∧ (∀ a b : Nat, (sl ss p).prev = (a : Int) → (sl ss p).next = (b : Int) → a ≠ b) ∧ 0 ≤ count ∧ count ≤ 60 := by
  obtain ⟨l1, l2, rfl⟩ := List.append_of_mem (mem_used v hp hu)
  obtain ⟨len, seg, fch, lt, ids, nd, full, cnt⟩ := v
  obtain ⟨nd1, nd2, nd3⟩ := List.nodup_append.1 nd
  obtain ⟨n1, n2, n3⟩ := List.nodup_append.1 nd1
  obtain ⟨hp2, n2'⟩ := List.nodup_cons.1 n2
  have hp1 : p ∉ l1 := fun hm => n3 p hm p (by simp) rfl
  obtain ⟨m', q', sg1, ⟨e1, e2, e3, sg2⟩⟩ := (seg_append _ _ _ _ _ _ _).1 seg
  subst e1
  have hA : (sl ss p).prev = -1 ∨ ∃ a : Nat, (sl ss p).prev = (a : Int) ∧ a < 60 ∧ a ≠ p ∧ a ∈ l1 := by
    rcases seg_first sg1 with ⟨h, hq, hm⟩ | ⟨x, r, h, _⟩
    · exact .inl (by rw [e2, hm])
    · obtain ⟨l', a, ha, hm, _⟩ := seg_last sg1 (by rw [h]; simp)
      exact .inr ⟨a, by rw [e2, hm], lt a (by rw [ha]; simp), by rintro rfl; exact hp1 (by rw [ha]; simp), by rw [ha]; simp⟩
  have hB : (sl ss p).next = -1 ∨ ∃ b : Nat, (sl ss p).next = (b : Int) ∧ b < 60 ∧ b ≠ p ∧ b ∈ l2 := by
    rcases seg_first sg2 with ⟨h, hq, hm⟩ | ⟨b, r, h, hb⟩
    · exact .inl (by omega)
    · exact .inr ⟨b, hb, lt b (by rw [h]; simp), by rintro rfl; exact hp2 (by rw [h]; simp), by rw [h]; simp⟩
  refine ⟨l1, l2, rfl, hA.imp id (fun ⟨a, h1, h2, h3, _⟩ => ⟨a, h1, h2, h3⟩), hB.imp id (fun ⟨a, h1, h2, h3, _⟩ => ⟨a, h1, h2, h3⟩), fun a b ha hb => ?_, ?_, ?_⟩
  · rcases hA with h | ⟨a', h1, _, _, h4⟩
    · omega
    rcases hB with h | ⟨b', h1', _, _, h4'⟩
    · omega
    intro hab
    exact n3 a' h4 b' (by simp [h4']) (by omega)
  · omega
  · rw [List.length_append] at full; omega

def canRem (ss : List Sl) (f l r c p : Int) : Bool := okQ ss f l r c && decide (0 ≤ p) && decide (p < 60) && (sl ss p.toNat).used

def RemEnd (w : World) (n : Nat) (ss : List Sl) (f l r c p : Int) (e : Ending) (w' : World) : Prop :=
  if canRem ss f l r c p = true then NewQ2 w n (remS ss r p.toNat) (if (sl ss p.toNat).prev = -1 then (sl ss p.toNat).next else f) (if (sl ss p.toNat).next = -1 then (sl ss p.toNat).prev else l) p (c - 1) (.int .i64 (sl ss p.toNat).id) e w'
  else NewQ2 w n ss f l r c (.int .i64 0) e w'

theorem remEnd_no {w : World} {n : Nat} {ss : List Sl} {f l r c p : Int} {e : Ending} {w' : World} (h : canRem ss f l r c p = false) (k : NewQ2 w n ss f l r c (.int .i64 0) e w') : RemEnd w n ss f l r c p e w' := by
  unfold RemEnd; rw [if_neg (by rw [h]; simp)]; exact k
theorem remEnd_yes {w : World} {n : Nat} {ss : List Sl} {f l r c p : Int} {e : Ending} {w' : World} (h : canRem ss f l r c p = true) (k : NewQ2 w n (remS ss r p.toNat) (if (sl ss p.toNat).prev = -1 then (sl ss p.toNat).next else f) (if (sl ss p.toNat).next = -1 then (sl ss p.toNat).prev else l) p (c - 1) (.int .i64 (sl ss p.toNat).id) e w') : RemEnd w n ss f l r c p e w' := by
  unfold RemEnd; rw [if_pos h]; exact k

theorem remS_len (ss : List Sl) (r : Int) (p : Nat) : (remS ss r p).length = ss.length := by
  unfold remS setPrev setNext
  repeat' split
  all_goals simp


end Go.Proofs.Ytehdbdolhkflcaa.Que

namespace Go.Proofs.Ytehdbdolhkflcaa.Que
open Go.RowKit Go.Deep Base Rng

theorem Rd.prevv {w : World} {b : Nat} {ss : List Sl} (h : Rd w b ss) {i : Nat} (v : Int) : Rd (w.setCell ⟨b, i * 4 + 1, none⟩ (.int .i64 v)) b (ss.set i (wPrev (sl ss i) v)) := by
  intro j hj
  rw [List.length_set] at hj
  obtain ⟨h0, h1, h2, h3, h4⟩ := h j hj
  have hs : ∀ {o : Nat} {u : Value}, w.cell? ⟨b, o, none⟩ = some u → (w.cell? ⟨b, o, none⟩).isSome = true := fun h => by rw [h]; rfl
  rw [cell_set (hs h0), cell_set (hs h1), cell_set (hs h2), cell_set (hs h3), if_neg (by omega), if_neg (show ¬ j * 4 + 2 = i * 4 + 1 by omega), if_neg (show ¬ j * 4 + 3 = i * 4 + 1 by omega)]
  by_cases e : i = j
  · subst e
    have he : (ss.set i (wPrev (sl ss i) v)).getD i zSl = wPrev (sl ss i) v := by simp [List.getD_eq_getElem?_getD, hj]
    rw [he, if_pos rfl]
    exact ⟨h0, rfl, h2, h3, fun k => by rw [World.frozen?_setCell]; exact h4 k⟩
  · have he : (ss.set i (wPrev (sl ss i) v)).getD j zSl = ss.getD j zSl := by simp [List.getD_eq_getElem?_getD, e]
    rw [he, if_neg (by omega)]
    exact ⟨h0, h1, h2, h3, fun k => by rw [World.frozen?_setCell]; exact h4 k⟩
theorem Blk5.set1 {w : World} {g : Nat} {v0 v1 v2 v3 v4 : Value} (h : Blk5 w g v0 v1 v2 v3 v4) (u : Value) : Blk5 (w.setCell ⟨g, 1, none⟩ u) g v0 u v2 v3 v4 := by
  unfold Blk5 at h ⊢
  simp [World.setCell, Array.getElem?_modify, h]
theorem Blk5.set2 {w : World} {g : Nat} {v0 v1 v2 v3 v4 : Value} (h : Blk5 w g v0 v1 v2 v3 v4) (u : Value) : Blk5 (w.setCell ⟨g, 2, none⟩ u) g v0 v1 u v3 v4 := by
  unfold Blk5 at h ⊢
  simp [World.setCell, Array.getElem?_modify, h]
theorem Blk5.set3 {w : World} {g : Nat} {v0 v1 v2 v3 v4 : Value} (h : Blk5 w g v0 v1 v2 v3 v4) (u : Value) : Blk5 (w.setCell ⟨g, 3, none⟩ u) g v0 v1 v2 u v4 := by
  unfold Blk5 at h ⊢
  simp [World.setCell, Array.getElem?_modify, h]
theorem Blk5.set4 {w : World} {g : Nat} {v0 v1 v2 v3 v4 : Value} (h : Blk5 w g v0 v1 v2 v3 v4) (u : Value) : Blk5 (w.setCell ⟨g, 4, none⟩ u) g v0 v1 v2 v3 u := by
  unfold Blk5 at h ⊢
  simp [World.setCell, Array.getElem?_modify, h]
theorem Blk5.far {w : World} {g : Nat} {v0 v1 v2 v3 v4 : Value} (h : Blk5 w g v0 v1 v2 v3 v4) {p : Addr} (hp : g ≠ p.block) (u : Value) : Blk5 (w.setCell p u) g v0 v1 v2 v3 v4 := h.of_block (Below.heap_setCell w p u g hp)

/-- What the last stores of the reference's RemoveAt leave. -/
theorem rem_end {w X : World} {g1 o k n2 p : Nat} {ss : List Sl} {v0 v1 v2 v3 v4 : Value} {id pv nx r c : Int} (hrd : Rd X g1 ss) (hbo : Blk5 X o v0 v1 v2 v3 v4) (hkb : Blk5 X k (.slice none 0 0) (.int .i64 0) (.int .i64 0) (.int .i64 0) (.int .i64 0))
    (hw : Below w.heap.size w X) (hs : X.heap.size = n2) (h1 : g1 < n2) (h4 : g1 ≠ o) (h5 : k ≠ o) (h6 : k ≠ g1) (h7 : w.heap.size ≤ g1) (h8 : w.heap.size ≤ o) (W : World)
    (hW : (((((((X.setCell ⟨g1, p * 4, none⟩ (.int .i64 0)).setCell ⟨g1, p * 4 + 1, none⟩ (.int .i64 (-1))).setCell ⟨g1, p * 4 + 2, none⟩ (.int .i64 r)).setCell ⟨g1, p * 4 + 3, none⟩ (.bool false)).setCell ⟨o, 3, none⟩ (.int .i64 (p : Int))).setCell ⟨o, 4, none⟩ (.int .i64 (c - 1))).alloc (.cells #[.int .i64 id, .int .i64 pv, .int .i64 nx, .bool true] 122)) = W) :
    Rd W g1 (ss.set p ⟨0, -1, r, false⟩) ∧ Blk5 W o v0 v1 v2 (.int .i64 (p : Int)) (.int .i64 (c - 1)) ∧ Blk5 W k (.slice none 0 0) (.int .i64 0) (.int .i64 0) (.int .i64 0) (.int .i64 0) ∧ SB W n2 (.int .i64 id) (.int .i64 pv) (.int .i64 nx) (.bool true) ∧ Below w.heap.size w W := by
  subst hW
  refine ⟨?_, ?_, ?_, ?_, ?_⟩
  · refine Rd.of_block (w := ((set4 X g1 p ⟨0, -1, r, false⟩).setCell ⟨o, 3, none⟩ (.int .i64 (p : Int))).setCell ⟨o, 4, none⟩ (.int .i64 (c - 1))) ?_ (Below.heap_alloc _ _ _ (by simp [World.setCell]; omega))
    exact ((hrd.slot4 (i := p) ⟨0, -1, r, false⟩).far (p := ⟨o, 3, none⟩) h4 _).far (p := ⟨o, 4, none⟩) h4 _
  · refine Blk5.alloc ?_ _
    refine (Blk5.set3 (v3 := v3) (v4 := v4) ?_ _).set4 _
    iterate 4 refine Blk5.far ?_ (by show o ≠ g1; exact fun e => h4 e.symm) _
    exact hbo
  · refine Blk5.alloc ?_ _
    iterate 2 refine Blk5.far ?_ (by show k ≠ o; exact h5) _
    iterate 4 refine Blk5.far ?_ (by show k ≠ g1; exact h6) _
    exact hkb
  · exact sb_new _ (by simp [World.setCell, hs])
  · refine Below.alloc ?_ (by simp [World.setCell]; exact hw.size) _
    iterate 2 refine Below.setCell ?_ (by show w.heap.size ≤ o; exact h8) _
    iterate 4 refine Below.setCell ?_ (by show w.heap.size ≤ g1; exact h7) _
    exact hw


end Go.Proofs.Ytehdbdolhkflcaa.Que

namespace Go.Proofs.Ytehdbdolhkflcaa.Que
open Go.RowKit Go.Deep Base

def RI (w : World) (g : Nat) (zs : List Int) : Prop := ∀ i, i < zs.length → w.cell? ⟨g, i, none⟩ = some (.int .i64 (zs.getD i 0)) ∧ ∀ j, w.frozen? ⟨g, j, none⟩ = false
def IV (w : World) (lo hi : Nat) (A : Option Addr) (zs : List Int) : Prop := 0 < zs.length → ∃ g, A = some ⟨g, 0, none⟩ ∧ lo ≤ g ∧ g < hi ∧ RI w g zs
/-- A new row of integers comes back. -/
def NewI (w : World) (zs : List Int) (e : Ending) (w' : World) : Prop := ∃ A cap, e = .returned (.slice A zs.length cap) ∧ IV w' w.heap.size w'.heap.size A zs ∧ Below w.heap.size w w'

theorem RI.of_block {w w' : World} {g : Nat} {zs : List Int} (h : RI w g zs) (e : w'.heap[g]? = w.heap[g]?) : RI w' g zs := fun i hi =>
  ⟨(World.cell?_of_block e).trans (h i hi).1, fun j => (World.frozen?_of_block e).trans ((h i hi).2 j)⟩
theorem IV.of_block {w w' : World} {lo hi : Nat} {A : Option Addr} {zs : List Int} (h : IV w lo hi A zs) (e : ∀ g, lo ≤ g → g < hi → w'.heap[g]? = w.heap[g]?) : IV w' lo hi A zs := by
  intro hp
  obtain ⟨g, rfl, h1, h2, h3⟩ := h hp
  exact ⟨g, rfl, h1, h2, h3.of_block (e g h1 h2)⟩
theorem IV.wide {w : World} {lo hi lo' hi' : Nat} {A : Option Addr} {zs : List Int} (h : IV w lo hi A zs) (h1 : lo' ≤ lo) (h2 : hi ≤ hi') : IV w lo' hi' A zs := by
  intro hp
  obtain ⟨g, rfl, h1', h2', h3⟩ := h hp
  exact ⟨g, rfl, by omega, by omega, h3⟩
theorem IV.below {w w' : World} {lo hi B : Nat} {A : Option Addr} {zs : List Int} (h : IV w lo hi A zs) (hb : Below B w w') (hB : hi ≤ B) : IV w' lo hi A zs :=
  h.of_block fun g _ h2 => hb.block g (by omega)
theorem IV.turns {w w' : World} {lo hi l h : Nat} {A : Option Addr} {zs : List Int} (s : IV w lo hi A zs) (t : Turns l h w w') (hd : hi ≤ l ∨ h ≤ lo) (hs : hi ≤ w.heap.size) : IV w' lo hi A zs :=
  s.of_block fun g _ h2 => t.block g (by omega) (by omega)
theorem IV.ints {w : World} {lo hi : Nat} {A : Option Addr} {zs : List Int} (h : IV w lo hi A zs) : Ints w A zs := by
  intro hp
  obtain ⟨g, rfl, _, _, h3⟩ := h hp
  exact ⟨g, 0, rfl, fun i hi => by rw [Nat.zero_add]; exact (h3 i hi).1⟩
theorem IV.nil (w : World) (lo hi : Nat) (A : Option Addr) : IV w lo hi A [] := fun h => absurd h (by simp)
theorem iv_owns {w : World} {base n cap : Nat} {e : TypeId} {A : Option Addr} {zs : List Int} (h : w.ownsRow base e 1 (.slice A n cap) n (zs.map (Value.int .i64))) : IV w base w.heap.size A zs := by
  intro hp
  have hl := h.1
  simp at hl
  rcases h.2 with ⟨hv, hn⟩ | ⟨g, cap', cur, hv, hb, hg, hfr⟩
  · omega
  · injection hv with hA _ _
    subst hA
    have hc : w.ownsRow base e 1 (.slice (some ⟨g, 0, none⟩) n cap) n (zs.map (Value.int .i64)) := h
    refine ⟨g, rfl, hb, (h.lt g rfl).2, fun i hi => ⟨?_, fun j => ?_⟩⟩
    · rw [hc.cellAt i (by omega)]
      simp [hi]
    · simp [World.frozen?, hg]

set_option maxRecDepth 100000 in
set_option maxHeartbeats 400000 in
theorem eqInts_same (A1 A2 : Option Addr) (n c1 c2 : Nat) (zs : List Int) (w : World) (hn : zs.length = n) (hm : n ≤ 1048576) (h1 : Ints w A1 zs) (h2 : Ints w A2 zs) :
    Calls Try.prog 69 #[.slice A1 n c1, .slice A2 n c2] w fun e w' => e = .returned (.bool true) ∧ Below w.heap.size w w' := by
  have Hn := Lib.hid hn
  clear hn
  have H1 := Lib.hid h1
  have H2 := Lib.hid h2
  clear h1 h2
  go_enter Try.func69, Try.ntmps69
  go_wp2
  go_loopw [5] (fun i wr => ∃ k : Nat, k ≤ n ∧ i = .int .i64 k ∧ Below w.heap.size w wr) (fun i _ => n - (intOf i).toNat)
  case atStart => exact ⟨0, Nat.zero_le _, rfl, Below.refl _ _⟩
  case round =>
    obtain ⟨k, hk, rfl, hr⟩ := hrel
    by_cases hlt : k < n
    · obtain ⟨b, off, rfl, hc⟩ := H1.out.below hr (by have := Hn.out; omega)
      have hc1 := hc k (by have := Hn.out; omega)
      clear hc
      obtain ⟨b', off', rfl, hc⟩ := H2.out.below hr (by have := Hn.out; omega)
      have hc2 := hc k (by have := Hn.out; omega)
      clear hc
      generalize zs.getD k 0 = z at hc1 hc2
      go_wp2
      go_region
      all_goals
        go_wp2
        go_roundw
        case rel => exact ⟨k + 1, by omega, by go_num, by repeat (first | exact hr | apply Below.drew)⟩
        case measure => simp [intOf]; omega
    · go_wp2
      go_ret
      exact ⟨rfl, hr⟩

def mkI (k : Int) (n : Nat) : List Int := (List.range n).map fun (i : Nat) => k + (i : Int)
theorem mkI_len (k : Int) (n : Nat) : (mkI k n).length = n := by simp [mkI]
theorem mkI_at (k : Int) (n i : Nat) (h : i < n) : (mkI k n).getD i 0 = k + (i : Int) := by simp [mkI, h]

def MarkIt (w wr : World) (lo hi : Nat) (A : Option Addr) (n : Nat) (k : Int) (zs : List Int) (i : Nat) : Prop :=
  (0 < n → ∃ g, A = some ⟨g, 0, none⟩ ∧ lo ≤ g ∧ g < hi ∧ ∀ j, j < n → wr.cell? ⟨g, j, none⟩ = some (.int .i64 (if j < i then k + (j : Int) else zs.getD j 0)) ∧ ∀ o, wr.frozen? ⟨g, o, none⟩ = false) ∧ Turns lo hi w wr

theorem MarkIt.step {w wr : World} {lo hi g n i : Nat} {k : Int} {zs : List Int} (h : MarkIt w wr lo hi (some ⟨g, 0, none⟩) n k zs i) (hn : 0 < n) : MarkIt w (wr.setCell ⟨g, i, none⟩ (.int .i64 (k + (i : Int)))) lo hi (some ⟨g, 0, none⟩) n k zs (i + 1) := by
  obtain ⟨g', e, h1, h2, h3⟩ := h.1 hn
  cases e
  refine ⟨fun _ => ⟨g, rfl, h1, h2, fun j hj => ⟨?_, fun o => by rw [World.frozen?_setCell]; exact (h3 j hj).2 o⟩⟩, h.2.setCell h1 h2 _⟩
  rw [cell_set (by rw [(h3 j hj).1]; rfl)]
  by_cases e : j = i
  · subst e; simp
  · rw [if_neg e, (h3 j hj).1]
    by_cases l : j < i
    · rw [if_pos l, if_pos (by omega)]
    · rw [if_neg l, if_neg (by omega)]

set_option maxRecDepth 100000 in
set_option maxHeartbeats 800000 in
theorem markInts_any (A : Option Addr) (n cap lo hi : Nat) (k : Int) (zs : List Int) (w : World) (hn : zs.length = n) (hm : n ≤ 1048576) (hk0 : 0 ≤ k) (hk1 : k ≤ 1099511627776) (h : IV w lo hi A zs) :
    Calls Try.prog 72 #[.slice A n cap, .int .i64 k] w fun e w' => e = .returned (.int .i64 (k + n)) ∧ IV w' lo hi A (mkI k n) ∧ Turns lo hi w w' := by
  have Hn := Lib.hid hn
  clear hn
  have HS : Hid (MarkIt w w lo hi A n k zs 0) := ⟨fun hp => by
    obtain ⟨g, e, h1, h2, h3⟩ := h (by have := Hn.out; omega)
    exact ⟨g, e, h1, h2, fun i hi => by simpa using h3 i (by have := Hn.out; omega)⟩, Turns.of_below (Below.refl _ _)⟩
  clear h
  go_enter Try.func72, Try.ntmps72
  go_wp2
  go_loopw [1, 5] (fun t i wr => ∃ j : Nat, j ≤ n ∧ i = .int .i64 j ∧ t = .int .i64 (k + j) ∧ MarkIt w wr lo hi A n k zs j) (fun _ i _ => n - (intOf i).toNat)
  case atStart => exact ⟨0, Nat.zero_le _, rfl, by simp, HS.out⟩
  case round =>
    obtain ⟨j, hj, rfl, rfl, hr⟩ := hrel
    clear HS
    by_cases hlt : j < n
    · obtain ⟨g, rfl, h1, h2, h3⟩ := hr.1 (by omega)
      obtain ⟨c0, c4⟩ := h3 j hlt
      simp only [Nat.lt_irrefl, if_false] at c0
      generalize zs.getD j 0 = s at c0
      have Hr := Lib.hid (hr.step (by omega))
      clear hr h3
      go_wp2
      go_roundw
      case rel => exact ⟨j + 1, by omega, by go_num, by go_num, Hr.out⟩
      case measure => simp [intOf]; omega
    · have Hr := Lib.hid hr
      clear hr
      obtain rfl : j = n := by omega
      go_wp2
      go_ret
      refine ⟨rfl, fun hp => ?_, Hr.out.2⟩
      rw [mkI_len] at hp
      obtain ⟨g, e, h1, h2, h3⟩ := Hr.out.1 hp
      refine ⟨g, e, h1, h2, fun i hi => ?_⟩
      rw [mkI_len] at hi
      have := h3 i hi
      simp only [if_pos hi] at this
      rw [mkI_at _ _ _ hi]
      exact this

set_option maxRecDepth 100000 in
set_option maxHeartbeats 800000 in
theorem heldInts_any (A : Option Addr) (n cap lo hi : Nat) (k : Int) (w : World) (hm : n ≤ 1048576) (hk0 : 0 ≤ k) (hk1 : k ≤ 1099511627776) (h : IV w lo hi A (mkI k n)) :
    Calls Try.prog 75 #[.slice A n cap, .int .i64 k] w fun e w' => e = .returned (.int .i64 (k + n)) ∧ w = w' := by
  have HS := Lib.hid h
  clear h
  go_enter Try.func75, Try.ntmps75
  go_wp2
  go_loop [1, 5] (fun t i => ∃ j : Nat, j ≤ n ∧ i = .int .i64 j ∧ t = .int .i64 (k + j)) (fun _ i => n - (intOf i).toNat)
  case atStart => exact ⟨0, Nat.zero_le _, rfl, by simp⟩
  case round =>
    obtain ⟨j, hj, rfl, rfl⟩ := hrel
    by_cases hlt : j < n
    · obtain ⟨g, rfl, h1, h2, h3⟩ := HS.out (by rw [mkI_len]; omega)
      obtain ⟨c0, _⟩ := h3 j (by rw [mkI_len]; exact hlt)
      rw [mkI_at _ _ _ hlt] at c0
      clear h3
      go_wp2
      go_round
      case rel => exact ⟨j + 1, by omega, by go_num, by go_num⟩
      case measure => simp [intOf]; omega
    · obtain rfl : j = n := by omega
      go_wp2
      go_ret
      exact ⟨rfl, rfl⟩
end Go.Proofs.Ytehdbdolhkflcaa.Que

namespace Go.Proofs.Ytehdbdolhkflcaa.Que
open Go.RowKit Go.Deep Base

def listA (ss : List Sl) (f l r c : Int) : List Int := if okQ ss f l r c = true then idsOf ss (usOf ss f) else []
theorem listA_no {ss : List Sl} {f l r c : Int} (h : okQ ss f l r c = false) : listA ss f l r c = [] := by unfold listA; rw [if_neg (by rw [h]; simp)]
theorem listA_val {ss : List Sl} {f l r c : Int} {us fs : List Nat} (v : Val ss f l r c us fs) : listA ss f l r c = idsOf ss us := by unfold listA; rw [if_pos (val_ok v), val_us v]

/-- Between two rounds: the row of the Ids so far. -/
structure ListSt (B : Nat) (W wr : World) (v : Value) (ids : List Int) : Prop where
  own : wr.ownsRow B 3 1 v ids.length (ids.map (Value.int .i64))
  old : Below B W wr
theorem ListSt.step {B : Nat} {W wr w1 : World} {v v' : Value} {ids : List Int} {x : Int} {o : Obj} (h : ListSt B W wr v ids) (hB : B = W.heap.size) (hown : w1.ownsRow B 3 1 v' (ids.length + 1) (ids.map (Value.int .i64) ++ [.int .i64 x])) (hg : (wr.alloc o).grownBy w1 v.ownBlock) : ListSt B W w1 v' (ids ++ [x]) := by
  have hsz : B ≤ wr.heap.size := by rw [hB]; exact h.old.size
  refine ⟨by simpa using hown, (h.old.alloc hsz o).grown hg (by simp; omega) (fun j e => by have := (h.own.lt j e).1; omega)⟩
theorem grown_below {w w' : World} (h : Below w.heap.size w w') (row : Option Nat) : w.grownBy w' row := ⟨h.os, h.tape, h.output, h.size, fun i hi _ => h.block i hi⟩

set_option maxRecDepth 100000 in
set_option maxHeartbeats 2000000 in
theorem specList_any (A : Option Addr) (n cap : Nat) (ss : List Sl) (f l r c : Int) (lo hi : Nat) (w : World) (hn : ss.length = n) (hm : n ≤ 1048576) (h : SlV w lo hi A ss) (hhi : hi ≤ w.heap.size) :
    Calls Try.prog 83 #[.agg #[.slice A n cap, .int .i64 f, .int .i64 l, .int .i64 r, .int .i64 c]] w (NewI w (listA ss f l r c)) := by
  have Hn := Lib.hid hn
  have HS := Lib.hid h
  have Hhi := Lib.hid hhi
  clear h hn hhi
  go_enter Try.func83, Try.ntmps83
  go_wp2_with fail
  have hB0 : Below w.heap.size w ((w.alloc (.cells #[.slice A n cap, .int .i64 f, .int .i64 l, .int .i64 r, .int .i64 c] 28)).alloc (.cells #[] 3)) := bel_trans (bel_alloc w _) (bel_alloc _ _)
  have X0 : Blk5 ((w.alloc (.cells #[.slice A n cap, .int .i64 f, .int .i64 l, .int .i64 r, .int .i64 c] 28)).alloc (.cells #[] 3)) w.heap.size (.slice A n cap) (.int .i64 f) (.int .i64 l) (.int .i64 r) (.int .i64 c) := Blk5.alloc (heap_alloc_new w _) _
  have O0 := World.ownsRow_lit (base := w.heap.size + 1) (e := 3) (size := 1) (w.alloc (.cells #[.slice A n cap, .int .i64 f, .int .i64 l, .int .i64 r, .int .i64 c] 28)) #[] 0 (by simp) (by simp) (by simp)
  refine (specQueueOk_any A n cap lo hi f l r c ss _ Hn.out hm (HS.out.below hB0 Hhi.out) (by have := Hhi.out; simp; omega)).mono ?_
  rintro e w1 ⟨rfl, b1⟩
  have X1 := Lib.hid (X0.below b1)
  have B1 := Lib.hid (bel_trans hB0 b1)
  have V1 := Lib.hid (HS.out.below B1.out Hhi.out)
  have L1 : Hid (ListSt (w.heap.size + 1) (w.alloc (.cells #[.slice A n cap, .int .i64 f, .int .i64 l, .int .i64 r, .int .i64 c] 28)) w1 (.slice (some ⟨w.heap.size + 1, 0, none⟩) 0 0) []) := by
    refine ⟨?_, ?_⟩
    · have h := O0.kept (grown_below b1 none) (.inr (by simp [Value.ownBlock]))
      simpa using h
    · exact ((Below.refl _ _).alloc (by simp) _).trans (b1.mono (by simp))
  clear b1 X0 O0 hB0
  cases hok : okQ ss f l r c
  · have Ho := Lib.hid (listA_no hok)
    clear hok
    go_wp2_with fail
    go_ret
    exact ⟨none, 0, by rw [Ho.out]; rfl, by rw [Ho.out]; exact IV.nil _ _ _ _, B1.out⟩
  obtain ⟨us, fs, v⟩ := ok_val hok
  clear hok
  have hn := Hn.out
  rw [v.len] at hn
  subst hn
  have Hv := Lib.hid v
  have Hus := Lib.hid (seg_head v.seg)
  have hul : us.length ≤ 60 := by have := v.full; rw [List.length_append] at this; omega
  have Hul := Lib.hid hul
  have Hi := Lib.hid (listA_val v)
  clear v V1 hul
  have HW : Hid (∀ wr, Below (w.heap.size + 1) (w.alloc (.cells #[.slice A 60 cap, .int .i64 f, .int .i64 l, .int .i64 r, .int .i64 c] 28)) wr → Blk5 wr w.heap.size (.slice A 60 cap) (.int .i64 f) (.int .i64 l) (.int .i64 r) (.int .i64 c) ∧ SlV wr lo hi A ss ∧ Below w.heap.size w wr) := fun wr hb =>
    ⟨Blk5.of_block (heap_alloc_new w _) (hb.block _ (by omega)), HS.out.below ((bel_alloc w _).trans (hb.mono (by omega))) Hhi.out, (bel_alloc w _).trans (hb.mono (by omega))⟩
  obtain ⟨x0, x1, x2, x3, x4, xf⟩ := X1.out.cells
  go_wp2_with fail
  clear x0 x1 x2 x3 x4 xf
  go_loopw [3, 4] (fun v p wr => ∃ pre suf, us = pre ++ suf ∧ p = .int .i64 (headOf suf) ∧ ListSt (w.heap.size + 1) (w.alloc (.cells #[.slice A 60 cap, .int .i64 f, .int .i64 l, .int .i64 r, .int .i64 c] 28)) wr v (idsOf ss pre)) (fun _ p _ => left us (intOf p))
  case atStart => exact ⟨[], us, rfl, by rw [← Hus.out], L1.out⟩
  case round =>
    obtain ⟨pre, suf, hus, rfl, hst⟩ := hrel
    have Hst := Lib.hid hst
    clear hst L1 X1 B1
    obtain ⟨hbx, hsv, hbw⟩ := HW.out _ Hst.out.old
    obtain ⟨x0, x1, x2, x3, x4, xf⟩ := hbx.cells
    have Hbw := Lib.hid hbw
    have Hsv := Lib.hid hsv
    clear hbx hsv hbw
    cases suf with
    | nil =>
      rw [List.append_nil] at hus
      subst hus
      obtain ⟨A', cap', rfl⟩ := owns_form Hst.out.own
      simp only [headOf]
      go_wp2
      go_ret
      refine ⟨A', cap', by rw [Hi.out]; rfl, ?_, Hbw.out⟩
      rw [Hi.out]
      exact (iv_owns Hst.out.own).wide (by omega) (Nat.le_refl _)
    | cons x suf =>
      subst hus
      have hx60 : x < 60 := Hv.out.lt x (by simp)
      obtain ⟨g, rfl, hg1, hg2, hrd⟩ := Hsv.out (by rw [Hv.out.len]; omega)
      obtain ⟨c0, c1, c2, c3, _⟩ := hrd x (by rw [Hv.out.len]; exact hx60)
      have hx0 : (0 : Int) ≤ (x : Int) := by omega
      have hx1 : (x : Int) < 60 := by omega
      have hxn : ((x : Int) != -1) = true := by simp
      have Hnx := Lib.hid (seg_next Hv.out.seg)
      have hnd : (pre ++ x :: suf).Nodup := (List.nodup_append.1 Hv.out.nd).1
      have Hlt := Lib.hid (left_less hnd)
      clear hnd hrd
      obtain ⟨s, hs⟩ : ∃ s, ss.getD x zSl = s := ⟨_, rfl⟩
      have hs' : sl ss x = s := hs
      rw [hs] at c0 c1 c2 c3
      have Hs := Lib.hid hs'
      have Hs0 := Lib.hid hs
      clear hs hs'
      obtain ⟨sid, sprev, snext, sused⟩ := s
      dsimp only at c0 c1 c2 c3
      have hnx : snext = headOf suf := by have := Hnx.out; rw [Hs.out] at this; exact this
      subst hnx
      simp only [headOf]
      generalize hnq : headOf suf = nq at c2 Hlt Hs Hs0
      have Hnq := Lib.hid hnq
      clear hnq
      obtain ⟨i0, hi0, hz0, hz1, hz2⟩ := info_parts infoInt
      have Hi0 := Lib.hid hi0
      have Hz0 := Lib.hid hz0
      have Hz1 := Lib.hid hz1
      have Hz2 := Lib.hid hz2
      clear hi0 hz0 hz1 hz2
      have hsz : w.heap.size + 1 ≤ wr.heap.size := by have := Hst.out.old.size; simpa using this
      have hpl : pre.length ≤ 60 := by have := Hul.out; rw [List.length_append] at this; omega
      have Hpl := Lib.hid hpl
      clear hpl
      go_wp2_with (at_builtin; refine wpList_append_own _ rfl _ _ 34 rfl (w.heap.size + 1) 3 i0 (.int .i64 0) 1 8 Try.underlying34 Hi0.out Hz0.out Hz1.out Hz2.out rfl (by decide) _ _ _ rfl (Hst.out.own.alloc _) ⟨wr.heap.size, 0, none⟩ 1 1 [.int .i64 sid] rfl rfl ?c1h ?c2h ?c3h ?c4h ?c5h ?_)
      case c1h => exact new_one_at rfl _ _
      case c2h => simp [Value.oneCell']
      case c3h => rw [idsOf_len]; have := Hpl.out; unfold maxLen; omega
      case c4h => rw [idsOf_len]; have := Hpl.out; omega
      case c5h => simp; omega
      · intro v' w1 hown hg _
        have hst1 := Hst.out.step (by simp) hown hg
        obtain ⟨hbx, hsv, _⟩ := HW.out _ hst1.old
        obtain ⟨d0, _, _, _, _, _⟩ := hbx.cells
        obtain ⟨g', e', _, _, hcs⟩ := hsv (by rw [Hv.out.len]; omega)
        cases e'
        obtain ⟨_, _, e2, _, _⟩ := hcs x (by rw [Hv.out.len]; exact hx60)
        rw [Hs0.out] at e2
        have HQ : Hid (ListSt (w.heap.size + 1) (w.alloc (.cells #[.slice (some ⟨g, 0, none⟩) 60 cap, .int .i64 f, .int .i64 l, .int .i64 r, .int .i64 c] 28)) w1 v' (idsOf ss (pre ++ [x]))) := by
          have := idsOf_snoc ss pre x
          rw [Hs.out] at this
          show ListSt _ _ _ _ _
          rw [this]; exact hst1
        clear hst1 hown hg hcs hbx hsv x0 x1 x2 x3 x4 xf c0 c1 c2 c3
        dsimp only at e2
        go_wp2
        go_roundw
        case rel => exact ⟨pre ++ [x], suf, by simp, congrArg (Value.int .i64) Hnq.out.symm, HQ.out⟩
        case measure => exact Hlt.out
end Go.Proofs.Ytehdbdolhkflcaa.Que

namespace Go.Proofs.Ytehdbdolhkflcaa.Que
open Go.RowKit Go.Deep Base Rng
attribute [local go_sem] Oper.semAt_some

/-- Between two rounds: the box of the list at ib, its row made since W2. -/
structure ListI (ib : Nat) (W2 : World) (ids : List Int) (W : World) : Prop where
  own : ∃ v, W.heap[ib]? = some (.cells #[v] 34 (0, 0)) ∧ W.ownsRow W2.heap.size 3 1 v ids.length (ids.map (Value.int .i64))
  turns : Turns ib (ib + 1) W2 W

theorem owns_cells {w : World} {base : Nat} {e : TypeId} {size n : Nat} {v : Value} {xs : List Value} (h : w.ownsRow base e size v n xs) {r : Nat} (hr : v.ownBlock = some r) {o : Obj} (ho : w.heap[r]? = some o) : o.isCells = true := by
  rcases h.2 with ⟨rfl, _⟩ | ⟨g, cap, cur, rfl, hb, hg, _⟩
  · cases hr
  · injection hr with e
    subst e
    rw [hg] at ho
    injection ho with ho
    rw [← ho]; rfl

theorem listI_own {ib : Nat} {W2 : World} {f : List Nat → List Int} (hb : ib < W2.heap.size) : OwnFrom W2.heap.size (fun pre W => ListI ib W2 (f pre) W) := fun pre X Y row hs' hg hr => by
  have hk : ∀ k, k < W2.heap.size → Y.heap[k]? = X.heap[k]? := fun k hk => hg.block k (Nat.lt_of_lt_of_le hk hs'.turns.size) (fun e => by have := (hr k e.symm).1; omega)
  obtain ⟨v, h1, h2⟩ := hs'.own
  refine ⟨⟨v, (hk ib hb).trans h1, h2.kept hg ?_⟩, ⟨hg.os.trans hs'.turns.os, hg.tape.trans hs'.turns.tape, hg.output.trans hs'.turns.output, Nat.le_trans hs'.turns.size hg.size, fun k h0 h1 => (hk k h0).trans (hs'.turns.block k h0 h1)⟩⟩
  cases hv : v.ownBlock with
  | none => exact .inl rfl
  | some r =>
    refine .inr (fun e => ?_)
    obtain ⟨_, o, ho, hc⟩ := hr r e.symm
    rw [owns_cells h2 hv ho] at hc
    cases hc

/-- One Id more. -/
theorem ListI.step {ib : Nat} {W2 W w1 : World} {ids : List Int} {x : Int} {v v' : Value} {o : Obj} (h : ListI ib W2 ids W) (hib : ib < W2.heap.size) (hv : W.heap[ib]? = some (.cells #[v] 34 (0, 0))) (hw : W.ownsRow W2.heap.size 3 1 v ids.length (ids.map (Value.int .i64)))
    (hown : w1.ownsRow W2.heap.size 3 1 v' (ids.length + 1) (ids.map (Value.int .i64) ++ [.int .i64 x])) (hg : (W.alloc o).grownBy w1 v.ownBlock) : ListI ib W2 (ids ++ [x]) (w1.setCell ⟨ib, 0, none⟩ v') := by
  have hlt : ib < W.heap.size := Nat.lt_of_lt_of_le hib h.turns.size
  have hne : ∀ k, k < W2.heap.size → some k ≠ v.ownBlock := fun k hk e => by have := (hw.lt k e.symm).1; omega
  have hk : ∀ k, k < W2.heap.size → w1.heap[k]? = W.heap[k]? := fun k hk => (hg.block k (by simp; have := h.turns.size; omega) (hne k hk)).trans (Below.heap_alloc W o k (Nat.lt_of_lt_of_le hk h.turns.size))
  refine ⟨⟨v', ?_, ?_⟩, ?_⟩
  · have h1 := (hk ib hib).trans hv
    simp [World.setCell, Array.getElem?_modify, h1]
  · have := hown.kept (Draw_grown_set w1 ib 0 v') (.inr fun e => by have := (hown.lt _ e).1; omega)
    simpa using this
  · have hs : W.heap.size ≤ w1.heap.size := by have := hg.size; simp at this; omega
    refine Turns.setCell ⟨hg.os.trans h.turns.os, hg.tape.trans h.turns.tape, hg.output.trans h.turns.output, Nat.le_trans h.turns.size hs, fun k h0 h1 => (hk k h0).trans (h.turns.block k h0 h1)⟩ (by simp) (by simp) _

set_option maxRecDepth 100000 in
set_option maxHeartbeats 1000000 in
theorem implList_any (A : Option Addr) (n cap lo hi : Nat) (ss : List Sl) (f l r c : Int) (w : World) (hn : ss.length = n) (h : SlV w lo hi A ss) (hhi : hi ≤ w.heap.size) :
    Calls Try.prog 84 #[.agg #[.slice A n cap, .int .i64 f, .int .i64 l, .int .i64 r, .int .i64 c]] w (NewI w (listA ss f l r c)) := by
  have Hn := Lib.hid hn
  have HS := Lib.hid h
  have Hhi := Lib.hid hhi
  clear h hn hhi
  refine callsIn_wide (n := 3).1 (callsIn_of_wp_marks Try.func84 rfl trivial ?_ rfl)
  refine wpIn_wide.2 ?_
  simp only [Try.ntmps84, List.size_toArray, List.length_cons, List.length_nil, Nat.reduceAdd, Nat.reduceSub, Array.replicate_succ, Array.replicate_zero, List.push_toArray, List.append_toArray, List.nil_append, List.cons_append]
  go_wp2_with fail
  have hB0 : Below w.heap.size w (w.alloc (.cells #[.slice A n cap, .int .i64 f, .int .i64 l, .int .i64 r, .int .i64 c] 28)) := bel_alloc w _
  refine (linksOf_any A n cap ss f l r c lo hi _ Hn.out (HS.out.below hB0 Hhi.out) (by have := Hhi.out; simp; omega)).mono ?_
  rintro e w1 ⟨s', f', l', r', c', rfl, heq, hb1⟩
  have B1 := Lib.hid (bel_trans hB0 hb1)
  have Heq := Lib.hid heq
  clear hb1 heq hB0
  have hsc := store_links w1 Try.zeroCells127 (lkA s' f' l' r' c') (by rw [zero_links, lkA_size]) s' f' l' r' c' rfl
  have hsz := lkA_size s' f' l' r' c'
  cases hok : okQ ss f l r c
  · have Ho := Lib.hid (listA_no hok)
    clear hok
    go_wp2_with fail
    exact ⟨.slice none 0 0, by simp [results, Try.results84, go_sem], none, 0, by rw [Ho.out]; rfl, by rw [Ho.out]; exact IV.nil _ _ _ _, bel_trans B1.out (bel_alloc _ _)⟩
  obtain ⟨us, fs, v⟩ := ok_val hok
  clear hok
  obtain ⟨rfl, rfl, rfl, rfl, rfl⟩ := Heq.out v.len
  have Hv := Lib.hid v
  have hnn := Hn.out
  rw [v.len] at hnn
  subst hnn
  have hul : us.length ≤ 60 := by have := v.full; rw [List.length_append] at this; omega
  have Hi := Lib.hid (listA_val v)
  clear v Heq
  have hL : Lk (w1.alloc (.cells (lkA s' f' l' r' c') 127)) w1.heap.size s' f' l' r' c' := heap_alloc_new w1 _
  have HL := Lib.hid hL
  have hl240 : ∀ h : 240 < (lkA s' f' l' r' c').size, (lkA s' f' l' r' c')[240]'h = .int .i64 f' := fun h => by
    have h1 := lkA_at s' f' l' r' c' (o := 240) (by omega)
    rw [Array.getElem?_eq_getElem h] at h1
    injection h1
  have H240 := Lib.hid hl240
  clear hL hl240
  generalize lkA s' f' l' r' c' = LA at hsc hsz HL H240 ⊢
  go_wp2_with fail
  simp only [H240.out]
  obtain ⟨W0, hW0⟩ : ∃ W0, (w1.alloc (.cells LA 127)).alloc (.cells #[.slice none 0 0] 34) = W0 := ⟨_, rfl⟩
  rw [hW0]
  have hB0 : Below w1.heap.size w1 W0 := by rw [← hW0]; exact ((Below.refl _ _).alloc (Nat.le_refl _) _).alloc (by simp) _
  have HL0 : Hid (Lk W0 w1.heap.size s' f' l' r' c') := by rw [← hW0]; exact HL.out.alloc _
  have HX0 : Hid (W0.heap[w1.heap.size + 1]? = some (.cells #[.slice none 0 0] 34 (0, 0))) := by
    have h := heap_alloc_new (w1.alloc (.cells LA 127)) (.cells #[.slice none 0 0] 34)
    rw [World.size_alloc, hW0] at h
    exact h
  have hs0 : W0.heap.size = w1.heap.size + 1 + 1 := by rw [← hW0]; simp
  have Hs0 := Lib.hid hs0
  have HB0 := Lib.hid hB0
  clear hW0 hs0 hB0 hsc hsz HL H240
  refine (follow_any _ _ _).mono ?_
  rintro e w' ⟨rfl, rfl⟩
  go_wp2_with fail
  obtain ⟨W2, hW2⟩ : ∃ W2, (W0.alloc (.cells #[.pointer (some ⟨w1.heap.size, 0, none⟩)] 150)).alloc (.cells #[.int .i64 f'] 3) = W2 := ⟨_, rfl⟩
  rw [hW2]
  have hB2 : Below W0.heap.size W0 W2 := by rw [← hW2]; exact ((Below.refl _ _).alloc (Nat.le_refl _) _).alloc (by simp) _
  have p0 : W2.cell? ⟨W0.heap.size, 0, none⟩ = some (.pointer (some ⟨w1.heap.size, 0, none⟩)) := by rw [← hW2]; simp [go_sem]
  have p1 : W2.cell? ⟨W0.heap.size + 1, 0, none⟩ = some (.int .i64 f') := by rw [← hW2]; simp [go_sem]
  have hs2 : W2.heap.size = W0.heap.size + 1 + 1 := by rw [← hW2]; simp
  have hz1 : w1.heap.size + 1 < W0.heap.size := by rw [Hs0.out]; omega
  have hz2 : W0.heap.size + 1 < W2.heap.size := by rw [hs2]; omega
  have hzw : w.heap.size ≤ w1.heap.size := B1.out.size
  clear hs2 hW2
  have hwB : Below w.heap.size w W2 := bel_trans B1.out (bel_trans HB0.out hB2)
  have HL2 := Lib.hid (HL0.out.below hB2)
  have HX2 : Hid (W2.heap[w1.heap.size + 1]? = some (.cells #[.slice none 0 0] 34 (0, 0))) := (hB2.block _ hz1).trans HX0.out
  refine wpIn_wide.1 (range_wide (P := Try.prog) (lb := #[.pointer (some ⟨W0.heap.size + 1, 0, none⟩), .pointer (some ⟨W0.heap.size, 0, none⟩)]) rfl (enters_of Try.func127 (by kernel_rfl) rfl) (follow1_seq (W0.heap.size + 1) W0.heap.size w1.heap.size s' f' l' r' c' f' (inr_of Hv.out.len (val_range Hv.out)).1) (fun _ => rfl)
    (fun pre W => (∃ rest, us = pre ++ rest) ∧ ListI (w1.heap.size + 1) W2 (idsOf s' pre) W)
    (fun _ _ => False)
    (OwnFrom.and (ownFrom_pure _ _) (listI_own (f := idsOf s') (by omega)))
    (fun _ _ _ _ _ hs _ _ => hs)
    ?hR ⟨⟨us, rfl⟩, ⟨⟨_, HX2.out, World.ownsRow_nil _ _ _ _⟩, Turns.of_below (Below.refl _ _)⟩⟩
    (fun x => { tmps := #[.agg #[.slice A 60 cap, .int .i64 f', .int .i64 l', .int .i64 r', .int .i64 c'], .pointer (some ⟨w.heap.size, 0, none⟩), .slice none 0 0, .pointer (some ⟨w1.heap.size, 0, none⟩), .bool true, .pointer (some ⟨w1.heap.size + 1, 0, none⟩), .int .i64 x, .tuple #[.agg LA, .bool true], .agg #[.slice A 60 cap, .int .i64 f', .int .i64 l', .int .i64 r', .int .i64 c'], .tuple #[.agg LA, .bool true], .agg LA, .bool true, .bool true, .bool false, .pointer (some ⟨w1.heap.size, 240, none⟩), .int .i64 f',
      .func (.func 127) #[] #[.pointer (some ⟨W0.heap.size + 1, 0, none⟩), .pointer (some ⟨W0.heap.size, 0, none⟩)], .int .i64 x, undef, undef, undef, undef, undef, undef, undef, undef, undef], defers := [] })
    ?assign ?body ?done ?stop)
  case hR =>
    rintro pre W ⟨⟨rest, hr⟩, hi⟩
    have hl : pre.length ≤ us.length := by rw [hr, List.length_append]; omega
    have hk : ∀ k, k < W2.heap.size → k ≠ w1.heap.size + 1 → W.heap[k]? = W2.heap[k]? := fun k h0 h1 => hi.turns.block k h0 (by omega)
    exact ⟨(World.cell?_of_block (w := W2) (hk (W0.heap.size + 1) (by omega) (by omega))).trans p1, (World.cell?_of_block (w := W2) (hk W0.heap.size (by omega) (by omega))).trans p0, HL2.out.of_block (hk w1.heap.size (by omega) (by omega)), fun x hx => Hv.out.lt x (by rw [hr]; simp [hx]), by omega⟩
  case assign =>
    intro lp x W K hK
    simp only [fEnc]
    gi_wp2
    exact hK
  case body =>
    rintro lp pre x W ⟨⟨rest, hr⟩, hi⟩ ⟨hcur, hx60⟩
    have hsc := seg_cur pre rest Hv.out.seg hr
    rw [hcur] at hsc
    cases rest with
    | nil => exact absurd hsc (by simp)
    | cons y rest' =>
      obtain rfl : x = y := by simp at hsc; omega
      obtain ⟨v, hv, hw⟩ := hi.own
      have hl : pre.length ≤ us.length := by rw [hr, List.length_append]; omega
      have c0 : W.cell? ⟨w1.heap.size, x * 4, none⟩ = some (.int .i64 (sl s' x).id) := (HL2.out.of_block (hi.turns.block _ (by omega) (by omega))).slot hx60 |>.1
      have b0 : W.cell? ⟨w1.heap.size + 1, 0, none⟩ = some v := by simp [World.cell?, hv]
      have bf : W.frozen? ⟨w1.heap.size + 1, 0, none⟩ = false := by simp [World.frozen?, hv]
      have hsz : W2.heap.size ≤ W.heap.size := hi.turns.size
      have Hr := Lib.hid hr
      have HI := Lib.hid hi
      have HV := Lib.hid hv
      have HO := Lib.hid hw
      have hib : some (w1.heap.size + 1) ≠ v.ownBlock := fun e => by have := (hw.lt _ e.symm).1; omega
      have Hib := Lib.hid hib
      clear hr hi hv hw hsc hcur p0 p1 hib
      have hx0 : (0 : Int) ≤ (x : Int) := by omega
      have hx1 : (x : Int) < 60 := by omega
      obtain ⟨i0, hi0, hz0, hz1', hz2'⟩ := info_parts infoInt
      have Hi0 := Lib.hid hi0
      have Hz0 := Lib.hid hz0
      have Hz1 := Lib.hid hz1'
      have Hz2 := Lib.hid hz2'
      clear hi0 hz0 hz1' hz2'
      generalize hsid : (sl s' x).id = sid at c0
      have Hsid := Lib.hid hsid
      clear hsid
      gi_wp2
      refine held_round (fun V => V.cell? ⟨w1.heap.size, x * 4, none⟩ = some (.int .i64 sid)) (by kernel_rfl) (by kernel_rfl) ?hlo ?_
      case hlo => rintro ⟨_, _, h⟩; exact h
      have HS0 : Hid (W.drew.cell? ⟨w1.heap.size, x * 4, none⟩ = some (.int .i64 sid)) := c0
      have HS1 : Hid (∀ o, (W.drew.alloc o).cell? ⟨w1.heap.size, x * 4, none⟩ = some (.int .i64 sid)) := fun o => Lib.cell?_alloc_some o c0
      have B1' : Hid (∀ o, (W.drew.alloc o).cell? ⟨w1.heap.size + 1, 0, none⟩ = some v) := fun o => Lib.cell?_alloc_some o b0
      refine wpAnyH_take (i := 1) (v := (.int .i64 (x : Int))) rfl (by kernel_rfl) (by kernel_rfl) (by kernel_rfl) (fun _ _ _ h => h) (.inl ⟨rfl, fun V hS => ?y0⟩) HS0.out ?_
      case y0 =>
        go_simp
      go_simp
      refine wpAnyH_take (i := 2) (v := (.pointer (some ⟨w1.heap.size, 0, none⟩))) rfl (by kernel_rfl) (by kernel_rfl) (by kernel_rfl) (fun _ _ _ h => h) (.inl ⟨rfl, fun V hS => ?y0⟩) HS0.out ?_
      case y0 =>
        go_simp
      go_simp
      refine wpAnyH_take (i := 3) (v := (.pointer (some ⟨w1.heap.size, x * 4, none⟩))) rfl (by kernel_rfl) (by kernel_rfl) (by kernel_rfl) (fun _ _ _ h => h) (.inl ⟨rfl, fun V hS => ?y0⟩) HS0.out ?_
      case y0 =>
        go_simp
      go_simp
      refine wpAnyH_take (i := 4) (v := (.pointer (some ⟨w1.heap.size, x * 4, none⟩))) rfl (by kernel_rfl) (by kernel_rfl) (by kernel_rfl) (fun _ _ _ h => h) (.inl ⟨rfl, fun V hS => ?y0⟩) HS0.out ?_
      case y0 =>
        go_simp
      go_simp
      refine wpAnyH_take (i := 5) (v := (.int .i64 sid)) rfl (by kernel_rfl) (by kernel_rfl) (by kernel_rfl) (fun _ _ _ h => h) (.inl ⟨rfl, fun V hS => ?y0⟩) HS0.out ?_
      case y0 =>
        go_simp
      go_simp
      refine wpAnyH_ready (rs := [0, 6]) (by kernel_rfl) (by simp) (AllReadyH.cons rfl (fun K hK => ?_) (AllReadyH.cons rfl (fun K hK => ?_) AllReadyH.nil))
      · go_simp
        refine hK.out _ _ HS0.out (fun _ => ?_)
        clear hK K
        refine wpAnyH_ready (rs := [6]) (by kernel_rfl) (by simp) (AllReadyH.cons rfl (fun K hK => ?_) AllReadyH.nil)
        go_simp
        refine hK.out _ _ (HS1.out _) (fun _ => ?_)
        clear hK K
        refine wpAnyH_ready (rs := [7]) (by kernel_rfl) (by simp) (AllReadyH.cons rfl (fun K hK => ?_) AllReadyH.nil)
        refine step_append_lies _ (by rfl) _ _ _ (by rfl) W2.heap.size 3 i0 _ 1 8 Try.underlying34 Hi0.out Hz0.out Hz1.out Hz2.out rfl (by omega) v (idsOf s' pre).length _ (by rfl) ((HO.out.alloc _).drew) ⟨W.heap.size, 0, none⟩ 1 1 [.int .i64 sid] (by rfl) (by rfl) (new_one_at (w := W) rfl _ _) (by simp [Value.oneCell']) (by omega) (by rw [idsOf_len]; unfold maxLen; omega) (by rw [idsOf_len]; omega) (by show W2.heap.size ≤ (W.alloc _).heap.size; simp; omega) (W.heap.size + 1) (by show (W.alloc _).heap.size = _; simp) ?_
        intro gg cap' w3 hown hgrow _ _
        have hgr : (W.alloc (.cells #[.int .i64 sid] 3)).grownBy w3 v.ownBlock := ⟨hgrow.os, hgrow.tape, hgrow.output, hgrow.size, hgrow.block⟩
        have hkeep : ∀ k, k < W2.heap.size → w3.heap[k]? = W.heap[k]? := fun k hk => (hgr.block k (by simp; omega) (fun e => by have := (HO.out.lt k e.symm).1; omega)).trans (Below.heap_alloc W _ k (by omega))
        have y0 : w3.cell? ⟨w1.heap.size + 1, 0, none⟩ = some v := (World.cell?_of_block (w := W) (hkeep (w1.heap.size + 1) (by omega))).trans b0
        have yf : w3.frozen? ⟨w1.heap.size + 1, 0, none⟩ = false := (World.frozen?_of_block (w := W) (hkeep (w1.heap.size + 1) (by omega))).trans bf
        have S3 : Hid (w3.cell? ⟨w1.heap.size, x * 4, none⟩ = some (.int .i64 sid)) := (World.cell?_of_block (w := W) (hkeep w1.heap.size (by omega))).trans c0
        have HQ := Lib.hid (HI.out.step (by omega) HV.out HO.out hown hgr)
        have HKp : Hid (KeepsOthers W (w3.setCell ⟨w1.heap.size + 1, 0, none⟩ (.slice (some ⟨gg, 0, none⟩) ((idsOf s' pre).length + 1) cap'))) := ((KeepsOthers.alloc W _).trans (KeepsOthers.of_grownBy hgr (fun j o hj ho => owns_cells (HO.out.alloc _) hj ho))).trans (KeepsOthers.setCell _ _ _)
        clear hown hgrow hgr hkeep
        refine hK.out _ _ S3.out (fun _ => ?_)
        clear hK K
        refine wpAnyH_ready (rs := [8]) (by kernel_rfl) (by simp) (AllReadyH.cons rfl (fun K hK => ?_) AllReadyH.nil)
        go_simp
        refine hK.out _ _ ((World.cell?_setCell_far _ _ _ _ (by show w1.heap.size + 1 ≠ w1.heap.size; omega)).trans S3.out) (fun _ => ?_)
        clear hK K
        refine wpAnyH_done (by kernel_rfl) ?_ _
        gi_wp2
        refine ⟨HKp.out.from _, ⟨rest', by rw [Hr.out]; simp⟩, ?_⟩
        rw [idsOf_snoc, Hsid.out]
        exact HQ.out
      · go_simp
        refine hK.out _ _ (HS1.out _) (fun _ => ?_)
        clear hK K
        refine wpAnyH_ready (rs := [0]) (by kernel_rfl) (by simp) (AllReadyH.cons rfl (fun K hK => ?_) AllReadyH.nil)
        have b1 : (W.alloc (.cells #[.int .i64 sid] 3)).drew.cell? ⟨w1.heap.size + 1, 0, none⟩ = some v := B1'.out _
        go_simp
        refine hK.out _ _ (HS1.out _) (fun _ => ?_)
        clear hK K b1
        refine wpAnyH_ready (rs := [7]) (by kernel_rfl) (by simp) (AllReadyH.cons rfl (fun K hK => ?_) AllReadyH.nil)
        refine step_append_lies _ (by rfl) _ _ _ (by rfl) W2.heap.size 3 i0 _ 1 8 Try.underlying34 Hi0.out Hz0.out Hz1.out Hz2.out rfl (by omega) v (idsOf s' pre).length _ (by rfl) ((HO.out.alloc _).drew) ⟨W.heap.size, 0, none⟩ 1 1 [.int .i64 sid] (by rfl) (by rfl) (new_one_at (w := W) rfl _ _) (by simp [Value.oneCell']) (by omega) (by rw [idsOf_len]; unfold maxLen; omega) (by rw [idsOf_len]; omega) (by show W2.heap.size ≤ (W.alloc _).heap.size; simp; omega) (W.heap.size + 1) (by show (W.alloc _).heap.size = _; simp) ?_
        intro gg cap' w3 hown hgrow _ _
        have hgr : (W.alloc (.cells #[.int .i64 sid] 3)).grownBy w3 v.ownBlock := ⟨hgrow.os, hgrow.tape, hgrow.output, hgrow.size, hgrow.block⟩
        have hkeep : ∀ k, k < W2.heap.size → w3.heap[k]? = W.heap[k]? := fun k hk => (hgr.block k (by simp; omega) (fun e => by have := (HO.out.lt k e.symm).1; omega)).trans (Below.heap_alloc W _ k (by omega))
        have y0 : w3.cell? ⟨w1.heap.size + 1, 0, none⟩ = some v := (World.cell?_of_block (w := W) (hkeep (w1.heap.size + 1) (by omega))).trans b0
        have yf : w3.frozen? ⟨w1.heap.size + 1, 0, none⟩ = false := (World.frozen?_of_block (w := W) (hkeep (w1.heap.size + 1) (by omega))).trans bf
        have S3 : Hid (w3.cell? ⟨w1.heap.size, x * 4, none⟩ = some (.int .i64 sid)) := (World.cell?_of_block (w := W) (hkeep w1.heap.size (by omega))).trans c0
        have HQ := Lib.hid (HI.out.step (by omega) HV.out HO.out hown hgr)
        have HKp : Hid (KeepsOthers W (w3.setCell ⟨w1.heap.size + 1, 0, none⟩ (.slice (some ⟨gg, 0, none⟩) ((idsOf s' pre).length + 1) cap'))) := ((KeepsOthers.alloc W _).trans (KeepsOthers.of_grownBy hgr (fun j o hj ho => owns_cells (HO.out.alloc _) hj ho))).trans (KeepsOthers.setCell _ _ _)
        clear hown hgrow hgr hkeep
        refine hK.out _ _ S3.out (fun _ => ?_)
        clear hK K
        refine wpAnyH_ready (rs := [8]) (by kernel_rfl) (by simp) (AllReadyH.cons rfl (fun K hK => ?_) AllReadyH.nil)
        go_simp
        refine hK.out _ _ ((World.cell?_setCell_far _ _ _ _ (by show w1.heap.size + 1 ≠ w1.heap.size; omega)).trans S3.out) (fun _ => ?_)
        clear hK K
        refine wpAnyH_done (by kernel_rfl) ?_ _
        gi_wp2
        refine ⟨HKp.out.from _, ⟨rest', by rw [Hr.out]; simp⟩, ?_⟩
        rw [idsOf_snoc, Hsid.out]
        exact HQ.out
  case done =>
    rintro D xs W hD hS ⟨⟨rest, hr⟩, hi⟩ hK
    have hsc := seg_cur xs rest Hv.out.seg hr
    have hrest : rest = [] := by
      cases rest with
      | nil => rfl
      | cons y rest' =>
        rw [show cur s' f' xs = -1 from hS] at hsc
        exact absurd hsc (by simp)
    subst hrest
    rw [List.append_nil] at hr
    obtain ⟨v, hv, hw⟩ := hi.own
    obtain ⟨A', cap', rfl⟩ := owns_form hw
    have b0 : W.cell? ⟨w1.heap.size + 1, 0, none⟩ = some (.slice A' (idsOf s' xs).length cap') := by simp [World.cell?, hv]
    have HO := Lib.hid hw
    have HT := Lib.hid hi.turns
    have Hr := Lib.hid hr
    have hK2 := Lib.hid hK
    clear hsc hr hS hv hw hi hK
    go_wp2
    refine ⟨by simp, .inl ⟨_, _, rfl, run_takeDeferred hK2.out, ?_⟩⟩
    refine ⟨.slice A' (idsOf s' xs).length cap', by simp [results, Try.results84, go_sem], A', cap', by rw [Hi.out, Hr.out], ?_, ?_⟩
    · rw [Hi.out, Hr.out]
      intro hp
      obtain ⟨g, e, hb, hlt, hri⟩ := iv_owns HO.out hp
      have hgD : g ≠ D := fun e1 => by
        subst e1
        obtain ⟨h2, _⟩ := hri 0 hp
        rw [show W.cell? ⟨g, 0, none⟩ = none from by simp [World.cell?, hK2.out]] at h2
        cases h2
      exact ⟨g, e, by omega, by simp [World.putObj]; omega, hri.of_block (World.putObj_heap_other hgD)⟩
    · exact put_below hK2.out (hwB.trans (HT.out.below (by omega) (by omega))) (by omega)
  case stop =>
    rintro D cc W hD hc hK
    exact absurd hc (fun h => h)

theorem listA_few (ss : List Sl) (f l r c : Int) : (listA ss f l r c).length ≤ 60 := by
  cases hok : okQ ss f l r c
  · rw [listA_no hok]; simp
  · obtain ⟨us, fs, v⟩ := ok_val hok
    rw [listA_val v, idsOf_len]
    have := v.full
    rw [List.length_append] at this
    omega
end Go.Proofs.Ytehdbdolhkflcaa.Que

namespace Go.Proofs.Ytehdbdolhkflcaa.Que
open Go.RowKit Go.Deep Base

theorem size_undrew (w : World) : w.drew.heap.size = w.heap.size := rfl


end Go.Proofs.Ytehdbdolhkflcaa.Que

namespace Go.Proofs.Ytehdbdolhkflcaa.Que
open Go.RowKit Go.Deep Base Rng

theorem remEnd_new (n : Nat) (ss : List Sl) (f l r c p : Int) (hn : ss.length = n) : ∃ (ss' : List Sl) (f' l' r' c' v : Int), ss'.length = n ∧ ∀ w e w', RemEnd w n ss f l r c p e w' ↔ NewQ2 w n ss' f' l' r' c' (.int .i64 v) e w' := by
  by_cases h : canRem ss f l r c p = true
  · exact ⟨remS ss r p.toNat, _, _, _, _, (sl ss p.toNat).id, by rw [remS_len]; exact hn, fun w e w' => by unfold RemEnd; rw [if_pos h]⟩
  · exact ⟨ss, f, l, r, c, 0, hn, fun w e w' => by unfold RemEnd; rw [if_neg h]⟩


end Go.Proofs.Ytehdbdolhkflcaa.Que
