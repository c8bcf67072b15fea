/- Which item comes before another; what a valid heap is. What the reference's HeapOk answers. -/
import Derived.Test.YtpjelojmkmednaaLh0
import Derived.Test.YtpjelojmkmednaaLq0
import Derived.Outline
namespace Go.Proofs.Ytpjelojmkmednaa.Hp
open Go.RowKit Go.Deep Base

def before (a b : Du) : Bool := decide (a.at < b.at) || ((a.at == b.at) && decide (a.seq < b.seq))

set_option maxRecDepth 100000 in
theorem sooner_any (a b c d e f : Int) (w : World) :
    Calls Try.prog 116 #[.agg #[.int .i64 a, .int .i64 b, .int .i64 c], .agg #[.int .i64 d, .int .i64 e, .int .i64 f]] w fun en w' => en = .returned (.bool (before ⟨a, b, c⟩ ⟨d, e, f⟩)) ∧ Below w.heap.size w w' := by
  have hB : ∀ o o', Below w.heap.size w ((w.alloc o).alloc o') := fun o o' => ((Below.refl _ _).alloc (Nat.le_refl _) _).alloc (by simp) _
  have HB := Lib.hid hB
  clear hB
  by_cases h1 : a < d
  · go_enter Try.func116, Try.ntmps116
    go_wp2
    go_ret
    exact ⟨by simp [before, h1], HB.out _ _⟩
  · by_cases h2 : a = d
    · subst h2
      by_cases h3 : b < e
      · go_enter Try.func116, Try.ntmps116
        go_wp2
        go_ret
        exact ⟨by simp [before, h3], HB.out _ _⟩
      · go_enter Try.func116, Try.ntmps116
        go_wp2
        go_ret
        exact ⟨by simp [before, h3], HB.out _ _⟩
    · have h2b : (a == d) = false := by simpa using h2
      go_enter Try.func116, Try.ntmps116
      go_wp2
      go_ret
      exact ⟨by simp [before, h1, h2], HB.out _ _⟩

set_option maxRecDepth 100000 in
theorem specBefore_any (a b c d e f : Int) (w : World) :
    Calls Try.prog 96 #[.agg #[.int .i64 a, .int .i64 b, .int .i64 c], .agg #[.int .i64 d, .int .i64 e, .int .i64 f]] w fun en w' => en = .returned (.bool (before ⟨a, b, c⟩ ⟨d, e, f⟩)) ∧ Below w.heap.size w w' := by
  have hB : ∀ o o', Below w.heap.size w ((w.alloc o).alloc o') := fun o o' => ((Below.refl _ _).alloc (Nat.le_refl _) _).alloc (by simp) _
  have HB := Lib.hid hB
  clear hB
  by_cases h1 : a < d
  · go_enter Try.func96, Try.ntmps96
    go_wp2
    go_ret
    exact ⟨by simp [before, h1], HB.out _ _⟩
  · by_cases h2 : a = d
    · subst h2
      by_cases h3 : b < e
      · go_enter Try.func96, Try.ntmps96
        go_wp2
        go_ret
        exact ⟨by simp [before, h3], HB.out _ _⟩
      · go_enter Try.func96, Try.ntmps96
        go_wp2
        go_ret
        exact ⟨by simp [before, h3], HB.out _ _⟩
    · have h2b : (a == d) = false := by simpa using h2
      go_enter Try.func96, Try.ntmps96
      go_wp2
      go_ret
      exact ⟨by simp [before, h1, h2], HB.out _ _⟩

set_option maxRecDepth 100000 in
theorem idOk_any (x : Int) (w : World) : Calls Try.prog 81 #[.int .i64 x] w fun e w' => e = .returned (.bool (Tick.inB x 1 1000000000)) ∧ w = w' := by
  by_cases h1 : 1 ≤ x
  · by_cases h2 : x ≤ 1000000000
    · rw [Tick.inB_true h1 h2]
      go_enter Try.func81, Try.ntmps81
      go_wp2
      go_ret
      exact ⟨rfl, rfl⟩
    · rw [Tick.inB_false (.inr (by omega))]
      go_enter Try.func81, Try.ntmps81
      go_wp2
      go_ret
      exact ⟨rfl, rfl⟩
  · rw [Tick.inB_false (.inl (by omega))]
    go_enter Try.func81, Try.ntmps81
    go_wp2
    go_ret
    exact ⟨rfl, rfl⟩

/-- One item alone. -/
def okD (q : Int) (d : Du) : Bool := Tick.isT d.at && Tick.inB d.seq 1 q && Tick.inB d.id 1 1000000000
/-- The item ahead of which place k may not come. -/
def par (k : Nat) : Nat := (k - 1) / 2

/-- A valid heap. -/
structure HV (ds : List Du) (q : Int) : Prop where
  few : ds.length ≤ 100
  tick : Tick.isT q = true
  each : ∀ i, i < ds.length → okD q (ds.getD i zDu) = true
  apart : ∀ i j, j < i → i < ds.length → (ds.getD j zDu).id ≠ (ds.getD i zDu).id ∧ (ds.getD j zDu).seq ≠ (ds.getD i zDu).seq
  heap : ∀ k, 0 < k → k < ds.length → before (ds.getD k zDu) (ds.getD (par k) zDu) = false

/-- The same, reckoned. -/
def okH (ds : List Du) (q : Int) : Bool :=
  decide (ds.length ≤ 100) && Tick.isT q && (List.range ds.length).all fun i =>
    okD q (ds.getD i zDu) && ((List.range i).all fun j => !((ds.getD j zDu).id == (ds.getD i zDu).id) && !((ds.getD j zDu).seq == (ds.getD i zDu).seq)) && (i == 0 || !before (ds.getD i zDu) (ds.getD (par i) zDu))
theorem okH_true {ds : List Du} {q : Int} (h : HV ds q) : okH ds q = true := by
  unfold okH
  rw [Bool.and_eq_true, Bool.and_eq_true, List.all_eq_true]
  refine ⟨⟨by simpa using h.few, h.tick⟩, fun i hi => ?_⟩
  rw [List.mem_range] at hi
  rw [Bool.and_eq_true, Bool.and_eq_true, List.all_eq_true]
  refine ⟨⟨h.each i hi, fun j hj => ?_⟩, ?_⟩
  · rw [List.mem_range] at hj
    obtain ⟨h1, h2⟩ := h.apart i j hj hi
    rw [beq_eq_false_iff_ne.2 h1, beq_eq_false_iff_ne.2 h2]; rfl
  · by_cases e : i = 0
    · subst e; rfl
    · rw [h.heap i (by omega) hi]; simp
theorem okH_val {ds : List Du} {q : Int} (h : okH ds q = true) : HV ds q := by
  unfold okH at h
  rw [Bool.and_eq_true, Bool.and_eq_true, List.all_eq_true] at h
  obtain ⟨⟨h1, h2⟩, h3⟩ := h
  have h4 : ∀ i, i < ds.length → okD q (ds.getD i zDu) = true ∧ (∀ j, j < i → (ds.getD j zDu).id ≠ (ds.getD i zDu).id ∧ (ds.getD j zDu).seq ≠ (ds.getD i zDu).seq) ∧ (0 < i → before (ds.getD i zDu) (ds.getD (par i) zDu) = false) := fun i hi => by
    have h5 := h3 i (List.mem_range.2 hi)
    rw [Bool.and_eq_true, Bool.and_eq_true, List.all_eq_true] at h5
    obtain ⟨⟨a1, a2⟩, a3⟩ := h5
    refine ⟨a1, fun j hj => ?_, fun h0 => ?_⟩
    · have := a2 j (List.mem_range.2 hj)
      simpa using this
    · have e : (i == 0) = false := by simp; omega
      rw [e] at a3
      simpa using a3
  exact ⟨by simpa using h1, h2, fun i hi => (h4 i hi).1, fun i j hj hi => (h4 i hi).2.1 j hj, fun k hk hi => (h4 k hi).2.2 hk⟩
theorem okH_false {ds : List Du} {q : Int} (h : ¬ HV ds q) : okH ds q = false := by
  cases e : okH ds q
  · rfl
  · exact absurd (okH_val e) h
end Go.Proofs.Ytpjelojmkmednaa.Hp

namespace Go.Proofs.Ytpjelojmkmednaa.Hp
open Go.RowKit Go.Deep Base

/-- A block of two cells that is known whole: a boxed heap. -/
def Blk2 (w : World) (g : Nat) (v0 v1 : Value) : Prop := w.heap[g]? = some (.cells #[v0, v1] 29 (0, 0))
theorem Blk2.cells {w : World} {g : Nat} {v0 v1 : Value} (h : Blk2 w g v0 v1) : w.cell? ⟨g, 0, none⟩ = some v0 ∧ w.cell? ⟨g, 1, none⟩ = some v1 ∧ ∀ j, w.frozen? ⟨g, j, none⟩ = false := by
  have hc : ∀ o, w.cell? ⟨g, o, none⟩ = #[v0, v1][o]? := fun o => cell_of_row _ _ o _ _ (0, 0) h
  refine ⟨?_, ?_, fun j => by unfold Blk2 at h; simp [World.frozen?, h]⟩ <;> (rw [hc]; rfl)
theorem Blk2.lt {w : World} {g : Nat} {v0 v1 : Value} (h : Blk2 w g v0 v1) : g < w.heap.size := (Array.getElem?_eq_some_iff.1 h).1
theorem Blk2.of_block {w w' : World} {g : Nat} {v0 v1 : Value} (h : Blk2 w g v0 v1) (e : w'.heap[g]? = w.heap[g]?) : Blk2 w' g v0 v1 := e.trans h
theorem Blk2.alloc {w : World} {g : Nat} {v0 v1 : Value} (h : Blk2 w g v0 v1) (o : Obj) : Blk2 (w.alloc o) g v0 v1 := h.of_block (Below.heap_alloc w o g h.lt)
theorem Blk2.below {w w' : World} {g : Nat} {v0 v1 : Value} (h : Blk2 w g v0 v1) (hb : Below w.heap.size w w') : Blk2 w' g v0 v1 := h.of_block (hb.block g h.lt)

theorem quiet {P : Program} {f : FuncId} {args : Array Value} {w : World} {n : Nat} {v : Value}
    (h : Calls P f args (w.drewN n) fun e w' => e = .returned v ∧ w.drewN n = w') : Calls P f args (w.drewN n) fun e w'' => e = .returned v ∧ ∃ m, w'' = w.drewN m :=
  h.mono fun _ _ ⟨he, hm⟩ => ⟨he, n, hm.symm⟩

theorem same {P : Program} {f : FuncId} {args : Array Value} {w : World} {v : Value} (h : Calls P f args w fun e w' => e = .returned v ∧ w = w') : Calls P f args w fun e w' => e = .returned v ∧ w' = w :=
  h.mono fun _ _ ⟨he, hm⟩ => ⟨he, hm.symm⟩
theorem below_drewN {B : Nat} {a b : World} (h : Below B a b) (n : Nat) : Below B a (b.drewN n) := ⟨h.os, h.tape, h.output, h.size, h.block⟩
theorem tdiv_par (k : Nat) (h : 0 < k) : ((k : Int) - 1).tdiv 2 = (par k : Int) := by
  unfold par
  obtain ⟨j, rfl⟩ : ∃ j, k = j + 1 := ⟨k - 1, by omega⟩
  rw [show (((j + 1 : Nat) : Int) - 1) = (j : Int) from by omega, show j + 1 - 1 = j from by omega]
  rfl

/-- What the reference has found right when the first k items have been looked at. -/
structure Upto (ds : List Du) (q : Int) (k : Nat) : Prop where
  each : ∀ i, i < k → okD q (ds.getD i zDu) = true
  apart : ∀ i j, j < i → i < k → (ds.getD j zDu).id ≠ (ds.getD i zDu).id ∧ (ds.getD j zDu).seq ≠ (ds.getD i zDu).seq
  heap : ∀ i, 0 < i → i < k → before (ds.getD i zDu) (ds.getD (par i) zDu) = false
theorem Upto.zero (ds : List Du) (q : Int) : Upto ds q 0 := ⟨fun _ h => absurd h (by omega), fun _ _ _ h => absurd h (by omega), fun _ _ h => absurd h (by omega)⟩
theorem Upto.step {ds : List Du} {q : Int} {k : Nat} (h : Upto ds q k) (h1 : okD q (ds.getD k zDu) = true) (h2 : ∀ j, j < k → (ds.getD j zDu).id ≠ (ds.getD k zDu).id ∧ (ds.getD j zDu).seq ≠ (ds.getD k zDu).seq) (h3 : 0 < k → before (ds.getD k zDu) (ds.getD (par k) zDu) = false) : Upto ds q (k + 1) := by
  refine ⟨fun i hi => ?_, fun i j hj hi => ?_, fun i h0 hi => ?_⟩
  · by_cases e : i = k
    · subst e; exact h1
    · exact h.each i (by omega)
  · by_cases e : i = k
    · subst e; exact h2 j hj
    · exact h.apart i j hj (by omega)
  · by_cases e : i = k
    · subst e; exact h3 h0
    · exact h.heap i h0 (by omega)

set_option maxRecDepth 100000 in
set_option maxHeartbeats 2000000 in
theorem specHeapOk_any (A : Option Addr) (n cap lo hi : Nat) (ds : List Du) (q : Int) (w : World) (hn : ds.length = n) (hm : n ≤ 1048576) (h : DV w lo hi A ds) (hs : hi ≤ w.heap.size) :
    Calls Try.prog 50 #[.agg #[.slice A n cap, .int .i64 q]] w fun e w' => e = .returned (.bool (okH ds q)) ∧ Below w.heap.size w w' := by
  have Hn := Lib.hid hn
  have HI := Lib.hid h
  clear hn h
  by_cases h100 : 100 < n
  · have Ho := Lib.hid (okH_false (ds := ds) (q := q) (fun v => by have := v.few; have := Hn.out; omega))
    go_enter Try.func50, Try.ntmps50
    go_wp2
    go_ret
    exact ⟨by rw [Ho.out]; rfl, bel_alloc _ _⟩
  cases hq : Tick.isT q
  · have Ho := Lib.hid (okH_false (ds := ds) (q := q) (fun v => by rw [v.tick] at hq; cases hq))
    have Hq := Lib.hid hq
    clear hq
    go_enter Try.func50, Try.ntmps50
    go_wp2_with fail
    refine (Tick.specTickOk_any _ _).mono ?_
    rintro e w' ⟨rfl, rfl⟩
    rw [Hq.out]
    go_wp2
    go_ret
    exact ⟨by rw [Ho.out]; rfl, bel_alloc _ _⟩
  have Hq := Lib.hid hq
  clear hq
  have HW : Hid (∀ wr, Below (w.heap.size + 1) (w.alloc (.cells #[.slice A n cap, .int .i64 q] 29)) wr → Blk2 wr w.heap.size (.slice A n cap) (.int .i64 q) ∧ DV wr lo hi A ds ∧ Below w.heap.size w wr) := fun wr hb =>
    ⟨Blk2.of_block (heap_alloc_new w _) (hb.block _ (by omega)), HI.out.below ((bel_alloc w _).trans (hb.mono (by omega))) hs, (bel_alloc w _).trans (hb.mono (by omega))⟩
  go_enter Try.func50, Try.ntmps50
  go_wp2_with fail
  refine (Tick.specTickOk_any _ _).mono ?_
  rintro e w' ⟨rfl, rfl⟩
  rw [Hq.out]
  go_wp2
  go_loopw [3] (fun i wr => ∃ k : Nat, k ≤ n ∧ i = .int .i64 k ∧ Below (w.heap.size + 1) (w.alloc (.cells #[.slice A n cap, .int .i64 q] 29)) wr ∧ Upto ds q k) (fun i _ => n - (intOf i).toNat)
  case atStart => exact ⟨0, Nat.zero_le _, rfl, Below.refl _ _, Upto.zero ds q⟩
  case round =>
    obtain ⟨k, hk, rfl, hr, hu⟩ := hrel
    obtain ⟨wo, rfl⟩ : ∃ wo, wo = wr := ⟨_, rfl⟩
    have Hu := Lib.hid hu
    have Hr := Lib.hid hr
    clear hu hr
    obtain ⟨hbx, hsv, hbw⟩ := HW.out _ Hr.out
    obtain ⟨x0, x1, xf⟩ := hbx.cells
    have hxl : w.heap.size < wo.heap.size := hbx.lt
    have Hsv := Lib.hid hsv
    have Hbw := Lib.hid hbw
    clear hbx hsv hbw
    by_cases hlt : k < n
    · obtain ⟨g, rfl, hg1, hg2, hrd⟩ := Hsv.out (by have := Hn.out; omega)
      obtain ⟨c0, c1, c2, _⟩ := hrd k (by have := Hn.out; omega)
      obtain ⟨dat, dseq, did, hd⟩ : ∃ a b c, ds.getD k zDu = ⟨a, b, c⟩ := ⟨_, _, _, rfl⟩
      rw [hd] at c0 c1 c2
      dsimp only at c0 c1 c2
      have Hd := Lib.hid hd
      have Hrd := Lib.hid hrd
      clear hd hrd
      have hk0 : (0 : Int) ≤ (k : Int) := by omega
      have hk1 : (k : Int) < (n : Int) := by omega
      cases h1 : Tick.isT dat
      · have HT : Hid (∀ W, Calls Try.prog 95 #[.int .i64 dat] W fun e w' => e = .returned (.bool false) ∧ W = w') := fun W => by have := Tick.specTickOk_any dat W; rw [h1] at this; exact this
        have Ho := Lib.hid (okH_false (ds := ds) (q := q) (fun v => by have := v.each k (by have := Hn.out; omega); rw [Hd.out] at this; unfold okD at this; rw [h1] at this; cases this))
        clear h1
        go_wp2_with fail
        go_quiet ((go_at_call 95; exact quiet (HT.out _)))
        go_wp2
        go_ret
        exact ⟨by rw [Ho.out]; rfl, below_drewN (bel_trans Hbw.out (bel_alloc _ _)) _⟩
      have HT : Hid (∀ W, Calls Try.prog 95 #[.int .i64 dat] W fun e w' => e = .returned (.bool true) ∧ W = w') := fun W => by have := Tick.specTickOk_any dat W; rw [h1] at this; exact this
      have H1 := Lib.hid h1
      clear h1
      cases h2 : Tick.inB dseq 1 q
      · have HS2 : Hid (∀ W, Calls Try.prog 93 #[.int .i64 dseq, .int .i64 1, .int .i64 q] W fun e w' => e = .returned (.bool false) ∧ W = w') := fun W => by have := Tick.in_any dseq 1 q W; rw [h2] at this; exact this
        have Ho := Lib.hid (okH_false (ds := ds) (q := q) (fun v => by have := v.each k (by have := Hn.out; omega); rw [Hd.out] at this; unfold okD at this; rw [h2] at this; simp at this))
        clear h2
        go_wp2_with fail
        go_quiet ((first | (go_at_call 95; exact quiet (HT.out _)) | (go_at_call 93; with_reducible exact quiet (HS2.out _))))
        go_wp2
        go_ret
        exact ⟨by rw [Ho.out]; rfl, below_drewN (bel_trans Hbw.out (bel_alloc _ _)) _⟩
      have HS2 : Hid (∀ W, Calls Try.prog 93 #[.int .i64 dseq, .int .i64 1, .int .i64 q] W fun e w' => e = .returned (.bool true) ∧ W = w') := fun W => by have := Tick.in_any dseq 1 q W; rw [h2] at this; exact this
      have H2 := Lib.hid h2
      clear h2
      cases h3 : Tick.inB did 1 1000000000
      · have HS3 : Hid (∀ W, Calls Try.prog 93 #[.int .i64 did, .int .i64 1, .int .i64 1000000000] W fun e w' => e = .returned (.bool false) ∧ W = w') := fun W => by have := Tick.in_any did 1 1000000000 W; rw [h3] at this; exact this
        have Ho := Lib.hid (okH_false (ds := ds) (q := q) (fun v => by have := v.each k (by have := Hn.out; omega); rw [Hd.out] at this; unfold okD at this; rw [h3] at this; simp at this))
        clear h3
        go_wp2_with fail
        go_quiet ((first | (go_at_call 95; exact quiet (HT.out _)) | (go_at_call 93; with_reducible exact quiet (HS2.out _)) | (go_at_call 93; with_reducible exact quiet (HS3.out _))))
        go_wp2
        go_ret
        exact ⟨by rw [Ho.out]; rfl, below_drewN (bel_trans Hbw.out (bel_alloc _ _)) _⟩
      have HS3 : Hid (∀ W, Calls Try.prog 93 #[.int .i64 did, .int .i64 1, .int .i64 1000000000] W fun e w' => e = .returned (.bool true) ∧ W = w') := fun W => by have := Tick.in_any did 1 1000000000 W; rw [h3] at this; exact this
      have Hok : Hid (okD q (ds.getD k zDu) = true) := by rw [Hd.out]; unfold okD; rw [H1.out, H2.out, h3]; rfl
      clear h3
      by_cases hk00 : k = 0
      · have hkd : decide (0 < (k : Int)) = false := by simp; omega
        have hkd2 : decide (0 < k) = false := by simp; omega
        have hkn : ¬ 0 < k := by omega
        have hkn2 : ¬ (0 : Int) < (k : Int) := by omega
        have Hk0 := Lib.hid hk00
        clear hk00
        go_wp2_with fail
        go_quiet ((first | (go_at_call 95; exact quiet (HT.out _)) | (go_at_call 93; with_reducible exact quiet (HS2.out _)) | (go_at_call 93; with_reducible exact quiet (HS3.out _))))
        clear hkd hkd2 hkn hkn2
        go_wp2_with fail
        obtain ⟨WW, hWW⟩ : ∃ WW, ((wo.alloc (.cells #[.int .i64 dat, .int .i64 dseq, .int .i64 did] 80)).drewN nq) = WW := ⟨_, rfl⟩
        have hBW : Below (wo.heap.size + 1) (wo.alloc (.cells #[.int .i64 dat, .int .i64 dseq, .int .i64 did] 80)) WW := by rw [← hWW]; exact (below_drewN (Below.refl _ _) nq)
        have H3 : Hid (0 < k → before (ds.getD k zDu) (ds.getD (par k) zDu) = false) := (fun h => absurd h (by have := Hk0.out; omega))
        rw [hWW]
        have zWW : wo.heap.size < WW.heap.size := by have := hBW.size; simp at this; omega
        have e1 : WW.cell? ⟨wo.heap.size, 1, none⟩ = some (.int .i64 dseq) := (hBW.cell (p := ⟨wo.heap.size, 1, none⟩) (Nat.lt_succ_self _)).trans (by simp [go_sem])
        have e2 : WW.cell? ⟨wo.heap.size, 2, none⟩ = some (.int .i64 did) := (hBW.cell (p := ⟨wo.heap.size, 2, none⟩) (Nat.lt_succ_self _)).trans (by simp [go_sem])
        have HBW := Lib.hid (((bel_alloc wo (.cells #[.int .i64 dat, .int .i64 dseq, .int .i64 did] 80)).trans (hBW.mono (Nat.le_succ _))))
        have He1 := Lib.hid e1
        have He2 := Lib.hid e2
        have Hx0 := Lib.hid x0
        clear hWW hBW e1 e2 x0 x1 xf c0 c1 c2
        go_loopw [5] (fun j wz => ∃ jj : Nat, jj ≤ k ∧ j = .int .i64 jj ∧ Below WW.heap.size WW wz ∧ ∀ i, i < jj → (ds.getD i zDu).id ≠ (ds.getD k zDu).id ∧ (ds.getD i zDu).seq ≠ (ds.getD k zDu).seq) (fun j _ => k - (intOf j).toNat)
        case atStart => exact ⟨0, Nat.zero_le _, rfl, Below.refl _ _, fun i hi => absurd hi (by omega)⟩
        case round =>
          obtain ⟨jj, hjj, rfl, hbq, hap⟩ := hrel
          have Hap := Lib.hid hap
          have Hbq := Lib.hid hbq
          have HBQ := Lib.hid (bel_trans HBW.out hbq)
          have x0 : wr.cell? ⟨w.heap.size, 0, none⟩ = some (.slice (some ⟨g, 0, none⟩) n cap) := (HBQ.out.cell (p := ⟨w.heap.size, 0, none⟩) hxl).trans Hx0.out
          have e1 : wr.cell? ⟨wo.heap.size, 1, none⟩ = some (.int .i64 dseq) := (hbq.cell (p := ⟨wo.heap.size, 1, none⟩) zWW).trans He1.out
          have e2 : wr.cell? ⟨wo.heap.size, 2, none⟩ = some (.int .i64 did) := (hbq.cell (p := ⟨wo.heap.size, 2, none⟩) zWW).trans He2.out
          clear hap hbq
          by_cases hl2 : jj < k
          · obtain ⟨_, b1, b2, _⟩ := (Hrd.out.of_block (HBQ.out.block g (by have := Hbw.out.size; omega))) jj (by have := Hn.out; omega)
            obtain ⟨jat, jseq, jid, hjd⟩ : ∃ a b c, ds.getD jj zDu = ⟨a, b, c⟩ := ⟨_, _, _, rfl⟩
            rw [hjd] at b1 b2
            dsimp only at b1 b2
            have Hjd := Lib.hid hjd
            clear hjd
            have hj0 : (0 : Int) ≤ (jj : Int) := by omega
            have hj1 : (jj : Int) < (n : Int) := by omega
            by_cases hid : jid = did
            · have Ho := Lib.hid (okH_false (ds := ds) (q := q) (fun v => by have := (v.apart k jj hl2 (by have := Hn.out; omega)).1; rw [Hd.out, Hjd.out] at this; exact this hid))
              have hidb : (jid == did) = true := by simpa using hid
              clear hid
              go_wp2_with fail
              go_quiet (fail)
              go_wp2
              go_ret
              exact ⟨by rw [Ho.out]; rfl, below_drewN (bel_trans Hbw.out HBQ.out) _⟩
            · have hidb : (jid == did) = false := by simpa using hid
              have Hid1 := Lib.hid hid
              clear hid
              by_cases hsq : jseq = dseq
              · have Ho := Lib.hid (okH_false (ds := ds) (q := q) (fun v => by have := (v.apart k jj hl2 (by have := Hn.out; omega)).2; rw [Hd.out, Hjd.out] at this; exact this hsq))
                have hsqb : (jseq == dseq) = true := by simpa using hsq
                clear hsq
                go_wp2_with fail
                go_quiet (fail)
                go_wp2
                go_ret
                exact ⟨by rw [Ho.out]; rfl, below_drewN (bel_trans Hbw.out HBQ.out) _⟩
              · have hsqb : (jseq == dseq) = false := by simpa using hsq
                have Hsq := Lib.hid hsq
                clear hsq
                go_wp2_with fail
                go_quiet (fail)
                go_wp2
                go_roundw
                case rel =>
                  refine ⟨jj + 1, by omega, by go_num, below_drewN Hbq.out _, fun i hi => ?_⟩
                  by_cases e : i = jj
                  · subst e; rw [Hjd.out, Hd.out]; exact ⟨Hid1.out, Hsq.out⟩
                  · exact Hap.out i (by omega)
                case measure => simp [intOf]; omega
          · have hjk : k = jj := by omega
            subst hjk
            go_wp2
            go_roundw
            case rel => exact ⟨k + 1, by omega, by go_num, Hr.out.trans (HBQ.out.mono (by have := Hr.out.size; simp at this; omega)), Hu.out.step Hok.out Hap.out H3.out⟩
            case measure => simp [intOf]; omega
      have hkp : 0 < k := by omega
      clear hk00
      have htd := tdiv_par k hkp
      have htd2 : ((k : Int) - 1) / 2 = (par k : Int) := by unfold par; omega
      have hpl : par k < k := by unfold par; omega
      obtain ⟨p, hp⟩ : ∃ p, par k = p := ⟨_, rfl⟩
      rw [hp] at htd htd2 hpl
      have Hp := Lib.hid hp
      clear hp
      obtain ⟨p0, p1, p2, _⟩ := Hrd.out p (by have := Hn.out; omega)
      obtain ⟨pat, pseq, pid, hpd⟩ : ∃ a b c, ds.getD p zDu = ⟨a, b, c⟩ := ⟨_, _, _, rfl⟩
      rw [hpd] at p0 p1 p2
      dsimp only at p0 p1 p2
      have Hpd := Lib.hid hpd
      clear hpd
      have hpi0 : (0 : Int) ≤ (p : Int) := by omega
      have hpi1 : (p : Int) < (n : Int) := by omega
      have hgr : g < wo.heap.size := by have := Hbw.out.size; omega
      have hkd : decide (0 < (k : Int)) = true := by simp; omega
      have hw1 : IntKind.i64.wrap ((k : Int) - 1) = (k : Int) - 1 := IntWalk.i64_in _ (by omega)
      have hw2 : IntKind.i64.wrap (p : Int) = (p : Int) := IntWalk.i64_in _ (by omega)
      go_wp2_with fail
      obtain ⟨WX, hWX⟩ : ∃ WX, wo.alloc (.cells #[.int .i64 dat, .int .i64 dseq, .int .i64 did] 80) = WX := ⟨_, rfl⟩
      have HBX : Hid (Below wo.heap.size wo WX) := by rw [← hWX]; exact bel_alloc _ _
      have i0 : WX.cell? ⟨wo.heap.size, 0, none⟩ = some (.int .i64 dat) := by rw [← hWX]; simp [go_sem]
      have i1 : WX.cell? ⟨wo.heap.size, 1, none⟩ = some (.int .i64 dseq) := by rw [← hWX]; simp [go_sem]
      have i2 : WX.cell? ⟨wo.heap.size, 2, none⟩ = some (.int .i64 did) := by rw [← hWX]; simp [go_sem]
      have HXX := Lib.hid hWX
      rw [hWX]
      clear hWX
      have y0 : WX.cell? ⟨w.heap.size, 0, none⟩ = some (.slice (some ⟨g, 0, none⟩) n cap) := (HBX.out.cell (p := ⟨w.heap.size, 0, none⟩) hxl).trans x0
      have y1 : WX.cell? ⟨w.heap.size, 1, none⟩ = some (.int .i64 q) := (HBX.out.cell (p := ⟨w.heap.size, 1, none⟩) hxl).trans x1
      have q0 : WX.cell? ⟨g, p * 3, none⟩ = some (.int .i64 pat) := (HBX.out.cell (p := ⟨g, p * 3, none⟩) hgr).trans p0
      have q1 : WX.cell? ⟨g, p * 3 + 1, none⟩ = some (.int .i64 pseq) := (HBX.out.cell (p := ⟨g, p * 3 + 1, none⟩) hgr).trans p1
      have q2 : WX.cell? ⟨g, p * 3 + 2, none⟩ = some (.int .i64 pid) := (HBX.out.cell (p := ⟨g, p * 3 + 2, none⟩) hgr).trans p2
      clear p0 p1 p2
      refine wp_region_still_tail 30 (by kernel_rfl) (by kernel_rfl) ?_
      simp only [List.take_succ_cons, List.take_zero, List.drop_succ_cons, List.drop_zero]
      repeat still_step
      still_call (same (HT.out _))
      repeat still_step
      still_call (same (HS2.out _))
      repeat still_step
      still_call (same (HS3.out _))
      repeat still_step
      refine wpStill_nil ?_
      change wpList _ _ _ _ _ WX.drew
      go_wp2_with fail
      refine (specBefore_any dat dseq did pat pseq pid _).mono ?_
      rintro e w5 ⟨rfl, b5⟩
      have B5 := Lib.hid (bel_of_drew b5)
      clear b5
      cases hbf : before ⟨dat, dseq, did⟩ ⟨pat, pseq, pid⟩
      · have Hbf : Hid (before (ds.getD k zDu) (ds.getD (par k) zDu) = false) := by rw [Hp.out, Hd.out, Hpd.out]; exact hbf
        clear hbf hw1 hw2 htd htd2 hkd
        go_wp2_with fail
        obtain ⟨WW, hWW⟩ : ∃ WW, w5 = WW := ⟨_, rfl⟩
        have hBW : Below (wo.heap.size + 1) (wo.alloc (.cells #[.int .i64 dat, .int .i64 dseq, .int .i64 did] 80)) WW := by rw [← hWW]; exact (by rw [HXX.out]; exact B5.out.mono (by rw [← HXX.out]; simp))
        have H3 : Hid (0 < k → before (ds.getD k zDu) (ds.getD (par k) zDu) = false) := (fun _ => Hbf.out)
        rw [hWW]
        have zWW : wo.heap.size < WW.heap.size := by have := hBW.size; simp at this; omega
        have e1 : WW.cell? ⟨wo.heap.size, 1, none⟩ = some (.int .i64 dseq) := (hBW.cell (p := ⟨wo.heap.size, 1, none⟩) (Nat.lt_succ_self _)).trans (by simp [go_sem])
        have e2 : WW.cell? ⟨wo.heap.size, 2, none⟩ = some (.int .i64 did) := (hBW.cell (p := ⟨wo.heap.size, 2, none⟩) (Nat.lt_succ_self _)).trans (by simp [go_sem])
        have HBW := Lib.hid (((bel_alloc wo (.cells #[.int .i64 dat, .int .i64 dseq, .int .i64 did] 80)).trans (hBW.mono (Nat.le_succ _))))
        have He1 := Lib.hid e1
        have He2 := Lib.hid e2
        have Hx0 := Lib.hid x0
        clear hWW hBW e1 e2 x0 x1 xf c0 c1 c2
        go_loopw [5] (fun j wz => ∃ jj : Nat, jj ≤ k ∧ j = .int .i64 jj ∧ Below WW.heap.size WW wz ∧ ∀ i, i < jj → (ds.getD i zDu).id ≠ (ds.getD k zDu).id ∧ (ds.getD i zDu).seq ≠ (ds.getD k zDu).seq) (fun j _ => k - (intOf j).toNat)
        case atStart => exact ⟨0, Nat.zero_le _, rfl, Below.refl _ _, fun i hi => absurd hi (by omega)⟩
        case round =>
          obtain ⟨jj, hjj, rfl, hbq, hap⟩ := hrel
          have Hap := Lib.hid hap
          have Hbq := Lib.hid hbq
          have HBQ := Lib.hid (bel_trans HBW.out hbq)
          have x0 : wr.cell? ⟨w.heap.size, 0, none⟩ = some (.slice (some ⟨g, 0, none⟩) n cap) := (HBQ.out.cell (p := ⟨w.heap.size, 0, none⟩) hxl).trans Hx0.out
          have e1 : wr.cell? ⟨wo.heap.size, 1, none⟩ = some (.int .i64 dseq) := (hbq.cell (p := ⟨wo.heap.size, 1, none⟩) zWW).trans He1.out
          have e2 : wr.cell? ⟨wo.heap.size, 2, none⟩ = some (.int .i64 did) := (hbq.cell (p := ⟨wo.heap.size, 2, none⟩) zWW).trans He2.out
          clear hap hbq
          by_cases hl2 : jj < k
          · obtain ⟨_, b1, b2, _⟩ := (Hrd.out.of_block (HBQ.out.block g (by have := Hbw.out.size; omega))) jj (by have := Hn.out; omega)
            obtain ⟨jat, jseq, jid, hjd⟩ : ∃ a b c, ds.getD jj zDu = ⟨a, b, c⟩ := ⟨_, _, _, rfl⟩
            rw [hjd] at b1 b2
            dsimp only at b1 b2
            have Hjd := Lib.hid hjd
            clear hjd
            have hj0 : (0 : Int) ≤ (jj : Int) := by omega
            have hj1 : (jj : Int) < (n : Int) := by omega
            by_cases hid : jid = did
            · have Ho := Lib.hid (okH_false (ds := ds) (q := q) (fun v => by have := (v.apart k jj hl2 (by have := Hn.out; omega)).1; rw [Hd.out, Hjd.out] at this; exact this hid))
              have hidb : (jid == did) = true := by simpa using hid
              clear hid
              go_wp2_with fail
              go_quiet (fail)
              go_wp2
              go_ret
              exact ⟨by rw [Ho.out]; rfl, below_drewN (bel_trans Hbw.out HBQ.out) _⟩
            · have hidb : (jid == did) = false := by simpa using hid
              have Hid1 := Lib.hid hid
              clear hid
              by_cases hsq : jseq = dseq
              · have Ho := Lib.hid (okH_false (ds := ds) (q := q) (fun v => by have := (v.apart k jj hl2 (by have := Hn.out; omega)).2; rw [Hd.out, Hjd.out] at this; exact this hsq))
                have hsqb : (jseq == dseq) = true := by simpa using hsq
                clear hsq
                go_wp2_with fail
                go_quiet (fail)
                go_wp2
                go_ret
                exact ⟨by rw [Ho.out]; rfl, below_drewN (bel_trans Hbw.out HBQ.out) _⟩
              · have hsqb : (jseq == dseq) = false := by simpa using hsq
                have Hsq := Lib.hid hsq
                clear hsq
                go_wp2_with fail
                go_quiet (fail)
                go_wp2
                go_roundw
                case rel =>
                  refine ⟨jj + 1, by omega, by go_num, below_drewN Hbq.out _, fun i hi => ?_⟩
                  by_cases e : i = jj
                  · subst e; rw [Hjd.out, Hd.out]; exact ⟨Hid1.out, Hsq.out⟩
                  · exact Hap.out i (by omega)
                case measure => simp [intOf]; omega
          · have hjk : k = jj := by omega
            subst hjk
            go_wp2
            go_roundw
            case rel => exact ⟨k + 1, by omega, by go_num, Hr.out.trans (HBQ.out.mono (by have := Hr.out.size; simp at this; omega)), Hu.out.step Hok.out Hap.out H3.out⟩
            case measure => simp [intOf]; omega
      · have Ho := Lib.hid (okH_false (ds := ds) (q := q) (fun v => by have := v.heap k hkp (by have := Hn.out; omega); rw [Hp.out, Hd.out, Hpd.out, hbf] at this; cases this))
        clear hbf
        go_wp2
        go_ret
        exact ⟨by rw [Ho.out]; rfl, bel_trans Hbw.out (bel_trans HBX.out B5.out)⟩
    · obtain rfl : k = n := by omega
      have Ho := Lib.hid (okH_true (ds := ds) (q := q) ⟨by have := Hn.out; omega, Hq.out, fun i hi => Hu.out.each i (by have := Hn.out; omega), fun i j hj hi => Hu.out.apart i j hj (by have := Hn.out; omega), fun i h0 hi => Hu.out.heap i h0 (by have := Hn.out; omega)⟩)
      go_wp2
      go_ret
      exact ⟨by rw [Ho.out]; rfl, Hbw.out⟩
end Go.Proofs.Ytpjelojmkmednaa.Hp
