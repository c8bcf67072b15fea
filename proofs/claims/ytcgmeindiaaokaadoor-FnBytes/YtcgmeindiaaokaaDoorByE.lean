/- Events and rows of events in memory: that came in, that a call has made; copied, compared, marked, held. -/
import Derived.Test.YtcgmeindiaaokaaDoorByN
import Derived.Deep.Slices
import Derived.Deep.Fields
import Derived.ChangeSame
import Derived.OpenShut
import Derived.StillTailTactics
namespace Go.Proofs.YtcgmeindiaaokaaDoor.By
open Go.RowKit Go.Deep Go.ChangeShapes Go.WideShapes Base Rw

abbrev aggE (e : Ev) : Value := .agg #[.int .i64 e.1, .int .i64 e.2.1, .int .i64 e.2.2]
def cellsE : List Ev → List Value
  | [] => []
  | e :: r => [.int .i64 e.1, .int .i64 e.2.1, .int .i64 e.2.2] ++ cellsE r
theorem cellsE_len : ∀ es, (cellsE es).length = es.length * 3
  | [] => rfl
  | e :: r => by simp [cellsE, cellsE_len r]; omega
theorem cellsE_append : ∀ (a b : List Ev), cellsE (a ++ b) = cellsE a ++ cellsE b
  | [], b => rfl
  | e :: r, b => by simp [cellsE, cellsE_append r b]
def atE (es : List Ev) (i : Nat) : Ev := es.getD i zE
theorem cellsE_at : ∀ (es : List Ev) (i : Nat), i < es.length → (cellsE es)[i * 3]? = some (.int .i64 (atE es i).1) ∧ (cellsE es)[i * 3 + 1]? = some (.int .i64 (atE es i).2.1) ∧ (cellsE es)[i * 3 + 2]? = some (.int .i64 (atE es i).2.2)
  | [], i, h => by simp at h
  | e :: r, 0, _ => by simp [cellsE, atE]
  | e :: r, i + 1, h => by
    have := cellsE_at r i (by simpa using h)
    have e1 : (i + 1) * 3 = i * 3 + 3 := by omega
    rw [e1]
    simpa [cellsE, atE, List.getElem?_cons_succ] using this

/-- The events es lie at A. -/
def EI (w : World) (A : Option Addr) (es : List Ev) : Prop :=
  0 < es.length → ∃ b off, A = some ⟨b, off, none⟩ ∧ ∀ i, i < es.length → w.cell? ⟨b, off + i * 3, none⟩ = some (.int .i64 (atE es i).1) ∧ w.cell? ⟨b, off + i * 3 + 1, none⟩ = some (.int .i64 (atE es i).2.1) ∧ w.cell? ⟨b, off + i * 3 + 2, none⟩ = some (.int .i64 (atE es i).2.2)
/-- The same in a block from lo on and ahead of hi, that may be written. -/
def EV (w : World) (lo hi : Nat) (A : Option Addr) (es : List Ev) : Prop :=
  0 < es.length → ∃ g, A = some ⟨g, 0, none⟩ ∧ lo ≤ g ∧ g < hi ∧ (∀ j, w.frozen? ⟨g, j, none⟩ = false) ∧ ∀ i, i < es.length → w.cell? ⟨g, i * 3, none⟩ = some (.int .i64 (atE es i).1) ∧ w.cell? ⟨g, i * 3 + 1, none⟩ = some (.int .i64 (atE es i).2.1) ∧ w.cell? ⟨g, i * 3 + 2, none⟩ = some (.int .i64 (atE es i).2.2)
/-- A new row of events comes back. -/
def NewE (w : World) (es : List Ev) (e : Ending) (w' : World) : Prop := ∃ A cap, e = .returned (.slice A es.length cap) ∧ EV w' w.heap.size w'.heap.size A es ∧ Below w.heap.size w w'

theorem EI.nil (w : World) (A : Option Addr) : EI w A [] := fun h => absurd h (by simp)
theorem EV.nil (w : World) (lo hi : Nat) (A : Option Addr) : EV w lo hi A [] := fun h => absurd h (by simp)
theorem EI.below {w w' : World} {A : Option Addr} {es : List Ev} (h : EI w A es) (hb : Below w.heap.size w w') : EI w' A es := by
  intro hp
  obtain ⟨b, off, rfl, hc⟩ := h hp
  have k : ∀ {o v}, w.cell? ⟨b, o, none⟩ = some v → w'.cell? ⟨b, o, none⟩ = some v := fun h => (hb.cell (World.block_lt_of_cell? _ _ h)).trans h
  exact ⟨b, off, rfl, fun i hi => ⟨k (hc i hi).1, k (hc i hi).2.1, k (hc i hi).2.2⟩⟩
theorem EV.ei {w : World} {lo hi : Nat} {A : Option Addr} {es : List Ev} (h : EV w lo hi A es) : EI w A es := by
  intro hp
  obtain ⟨g, rfl, _, _, _, hc⟩ := h hp
  exact ⟨g, 0, rfl, fun i hi => by simpa using hc i hi⟩
theorem EV.of_block {w w' : World} {lo hi : Nat} {A : Option Addr} {es : List Ev} (h : EV w lo hi A es) (e : ∀ g, lo ≤ g → g < hi → w'.heap[g]? = w.heap[g]?) : EV w' lo hi A es := by
  intro hp
  obtain ⟨g, rfl, h1, h2, hf, hc⟩ := h hp
  have hcc : ∀ o, w'.cell? ⟨g, o, none⟩ = w.cell? ⟨g, o, none⟩ := fun o => World.cell?_of_block (w := w) (e g h1 h2)
  have hff : ∀ o, w'.frozen? ⟨g, o, none⟩ = w.frozen? ⟨g, o, none⟩ := fun o => World.frozen?_of_block (w := w) (e g h1 h2)
  exact ⟨g, rfl, h1, h2, fun j => (hff j).trans (hf j), fun i hi => ⟨(hcc _).trans (hc i hi).1, (hcc _).trans (hc i hi).2.1, (hcc _).trans (hc i hi).2.2⟩⟩
theorem EV.below {w w' : World} {lo hi B : Nat} {A : Option Addr} {es : List Ev} (h : EV w lo hi A es) (hb : Below B w w') (hB : hi ≤ B) : EV w' lo hi A es := h.of_block fun g _ h2 => hb.block g (by omega)
theorem EV.turns {w w' : World} {lo hi l h : Nat} {A : Option Addr} {es : List Ev} (s : EV w lo hi A es) (t : Turns l h w w') (hd : hi ≤ l ∨ h ≤ lo) (hs : hi ≤ w.heap.size) : EV w' lo hi A es := s.of_block fun g _ h2 => t.block g (by omega) (by omega)
theorem EV.wide {w : World} {lo hi lo' hi' : Nat} {A : Option Addr} {es : List Ev} (h : EV w lo hi A es) (h1 : lo' ≤ lo) (h2 : hi ≤ hi') : EV w lo' hi' A es := by
  intro hp
  obtain ⟨g, rfl, h1', h2', h3⟩ := h hp
  exact ⟨g, rfl, by omega, by omega, h3⟩
theorem ev_owns {w : World} {base n cap : Nat} {e : TypeId} {A : Option Addr} {es : List Ev} (h : w.ownsRow base e 3 (.slice A n cap) n (cellsE es)) : EV w base w.heap.size A es := by
  intro hp
  have hl := h.1
  rw [cellsE_len] at hl
  rcases h.2 with ⟨hv, hn⟩ | ⟨g, cap', cur, hv, hb, hg, hfr⟩
  · omega
  · injection hv with hA _ _
    subst hA
    have hc : w.ownsRow base e 3 (.slice (some ⟨g, 0, none⟩) n cap) n (cellsE es) := h
    have hk : ∀ o v, (cellsE es)[o]? = some v → w.cell? ⟨g, o, none⟩ = some v := fun o v hv => by
      have hlt : o < (cellsE es).length := (List.getElem?_eq_some_iff.1 hv).1
      rw [cellsE_len] at hlt
      rw [hc.cellAt o (by omega)]
      exact hv
    refine ⟨g, rfl, hb, (h.lt g rfl).2, fun j => by simp [World.frozen?, hg], fun i hi => ?_⟩
    have := cellsE_at es i hi
    exact ⟨hk _ _ this.1, hk _ _ this.2.1, hk _ _ this.2.2⟩

/-- A row of events that grows by append. -/
structure ESt (B : Nat) (W wr : World) (v : Value) (es : List Ev) : Prop where
  own : wr.ownsRow B 41 3 v es.length (cellsE es)
  old : Below B W wr
theorem ESt.step {B : Nat} {W wr w1 : World} {v v' : Value} {es : List Ev} {x : Ev} {o : Obj} (h : ESt B W wr v es) (hB : B ≤ W.heap.size) (hown : w1.ownsRow B 41 3 v' (es.length + 1) (cellsE es ++ [.int .i64 x.1, .int .i64 x.2.1, .int .i64 x.2.2])) (hg : (wr.alloc o).grownBy w1 v.ownBlock) : ESt B W w1 v' (es ++ [x]) := by
  have hsz : B ≤ wr.heap.size := Nat.le_trans hB h.old.size
  refine ⟨?_, (h.old.alloc hsz o).grown hg (by simp; omega) (fun j e => by have := (h.own.lt j e).1; omega)⟩
  rw [cellsE_append, List.length_append]
  exact hown
theorem ESt.keep {B : Nat} {W wr w2 : World} {v : Value} {es : List Ev} (h : ESt B W wr v es) (hB : B ≤ wr.heap.size) (hb : Below wr.heap.size wr w2) : ESt B W w2 v es :=
  ⟨h.own.kept (grown_below hb none) (by cases v.ownBlock <;> simp), h.old.trans (hb.mono hB)⟩
theorem ESt.nil {W w : World} {B : Nat} (hb : Below B W w) : ESt B W w (.slice none 0 0) [] := ⟨World.ownsRow_nil _ _ _ _, hb⟩
theorem ESt.empty {W w : World} {B : Nat} (hb : Below B W w) (hB : B ≤ w.heap.size) : ESt B W (w.alloc (.cells #[] 41)) (.slice (some ⟨w.heap.size, 0, none⟩) 0 0) [] := by
  refine ⟨?_, hb.alloc hB _⟩
  have h := World.ownsRow_lit (base := B) (e := 41) (size := 3) w #[] 0 hB (by simp) (by simp)
  simpa [cellsE] using h
theorem ESt.form {B : Nat} {W wr : World} {v : Value} {es : List Ev} (h : ESt B W wr v es) : ∃ A cap, v = .slice A es.length cap ∧ EV wr B wr.heap.size A es := by
  obtain ⟨A, cap, rfl⟩ := owns_form h.own
  exact ⟨A, cap, rfl, ev_owns h.own⟩

theorem eqE_same (s : Ev) (w : World) : Calls Tryd.prog 25 #[aggE s, aggE s] w fun e w' => e = .returned (.bool true) ∧ Below w.heap.size w w' := by
  obtain ⟨a, b, c⟩ := s
  go_enter Tryd.func25, Tryd.ntmps25
  go_wp2
  go_ret
  exact ⟨rfl, ((Below.refl _ _).alloc (Nat.le_refl _) _).alloc (by simp) _⟩

theorem infoE : (Tryd.prog.info? 41).map (fun i => (i.zero, i.size, i.bytes)) = some (some (.agg #[.int .i64 0, .int .i64 0, .int .i64 0]), 3, 24) := by kernel_rfl
theorem make_evs (n : Nat) (hn : n ≤ 1048576) (w : World) :
    (Instr.makeSlice 24 (.int .i64 (n : Int)) (.int .i64 (n : Int))).run Tryd.prog w = .ok (.slice (some ⟨w.heap.size, 0, none⟩) n n) (w.alloc (.cells (madeCells #[.int .i64 0, .int .i64 0, .int .i64 0] (n * 3)) 41)) := by
  obtain ⟨i, hi, hz, hs, hb⟩ := info_parts infoE
  have h := run_make (P := Tryd.prog) w 24 41 i _ Tryd.underlying24 hi hz .i64 .i64 n n (by omega) (by omega) (by rw [hb]; omega) (by omega)
  simp only [Int.toNat_natCast, hs] at h
  exact h

/-- A row whose first k items have become what f says, the rest as they were (g). -/
structure RowK (w wr : World) (lo hi : Nat) (A : Option Addr) (n : Nat) (f g : Nat → Ev) (k : Nat) : Prop where
  row : 0 < n → ∃ b, A = some ⟨b, 0, none⟩ ∧ lo ≤ b ∧ b < hi ∧ (∀ o, wr.frozen? ⟨b, o, none⟩ = false) ∧ ∀ i, i < n → wr.cell? ⟨b, i * 3, none⟩ = some (.int .i64 (if i < k then f i else g i).1) ∧ wr.cell? ⟨b, i * 3 + 1, none⟩ = some (.int .i64 (if i < k then f i else g i).2.1) ∧ wr.cell? ⟨b, i * 3 + 2, none⟩ = some (.int .i64 (if i < k then f i else g i).2.2)
  trn : Turns lo hi w wr
theorem RowK.step {w wr : World} {lo hi n b k : Nat} {f g : Nat → Ev} (h : RowK w wr lo hi (some ⟨b, 0, none⟩) n f g k) (hk : k < n) {s : Ev} (hs : f k = s) :
    RowK w (((wr.setCell ⟨b, k * 3, none⟩ (.int .i64 s.1)).setCell ⟨b, k * 3 + 1, none⟩ (.int .i64 s.2.1)).setCell ⟨b, k * 3 + 2, none⟩ (.int .i64 s.2.2)) lo hi (some ⟨b, 0, none⟩) n f g (k + 1) := by
  obtain ⟨b', e, h1, h2, h3, h4⟩ := h.row (by omega)
  cases e
  refine ⟨fun _ => ⟨b, rfl, h1, h2, fun o => by rw [World.frozen?_setCell, World.frozen?_setCell, World.frozen?_setCell]; exact h3 o, fun i hi => ?_⟩, ((h.trn.setCell h1 h2 _).setCell h1 h2 _).setCell h1 h2 _⟩
  have hsome : ∀ j, j < 3 → (wr.cell? ⟨b, i * 3 + j, none⟩).isSome = true := fun j hj => by
    have : j = 0 ∨ j = 1 ∨ j = 2 := by omega
    rcases this with rfl | rfl | rfl
    · rw [Nat.add_zero, (h4 i hi).1]; rfl
    · rw [(h4 i hi).2.1]; rfl
    · rw [(h4 i hi).2.2]; rfl
  have hcell : ∀ j, j < 3 → (((wr.setCell ⟨b, k * 3, none⟩ (.int .i64 s.1)).setCell ⟨b, k * 3 + 1, none⟩ (.int .i64 s.2.1)).setCell ⟨b, k * 3 + 2, none⟩ (.int .i64 s.2.2)).cell? ⟨b, i * 3 + j, none⟩ = if i * 3 + j = k * 3 + 2 then some (.int .i64 s.2.2) else if i * 3 + j = k * 3 + 1 then some (.int .i64 s.2.1) else if i * 3 + j = k * 3 then some (.int .i64 s.1) else wr.cell? ⟨b, i * 3 + j, none⟩ := fun j hj => by
    rw [cell_set (some_set (some_set (hsome j hj))), cell_set (some_set (hsome j hj)), cell_set (hsome j hj)]
  have e0 := hcell 0 (by omega)
  have e1 := hcell 1 (by omega)
  have e2 := hcell 2 (by omega)
  simp only [Nat.add_zero] at e0
  rw [e0, e1, e2]
  by_cases e : i = k
  · subst e
    simp only [show ¬ (i * 3 = i * 3 + 2) by omega, show ¬ (i * 3 = i * 3 + 1) by omega, show ¬ (i * 3 + 1 = i * 3 + 2) by omega, show i < i + 1 by omega, if_true, if_false, hs, and_self]
  · simp only [show ¬ (i * 3 = k * 3 + 2) by omega, show ¬ (i * 3 = k * 3 + 1) by omega, show ¬ (i * 3 = k * 3) by omega, show ¬ (i * 3 + 1 = k * 3 + 2) by omega, show ¬ (i * 3 + 1 = k * 3 + 1) by omega, show ¬ (i * 3 + 1 = k * 3) by omega, show ¬ (i * 3 + 2 = k * 3 + 2) by omega, show ¬ (i * 3 + 2 = k * 3 + 1) by omega, show ¬ (i * 3 + 2 = k * 3) by omega, if_false]
    obtain ⟨c0, c1, c2⟩ := h4 i hi
    rw [c0, c1, c2]
    by_cases l : i < k
    · rw [if_pos l, if_pos (by omega)]; exact ⟨rfl, rfl, rfl⟩
    · rw [if_neg l, if_neg (by omega)]; exact ⟨rfl, rfl, rfl⟩
theorem RowK.keep {w wr w2 : World} {lo hi n k : Nat} {A : Option Addr} {f g : Nat → Ev} (h : RowK w wr lo hi A n f g k) (hb : Below wr.heap.size wr w2) (hh : hi ≤ wr.heap.size) : RowK w w2 lo hi A n f g k := by
  refine ⟨fun hp => ?_, h.trn.trans (Turns.of_below hb)⟩
  obtain ⟨b, e, h1, h2, h3, h4⟩ := h.row hp
  have hcc : ∀ o, w2.cell? ⟨b, o, none⟩ = wr.cell? ⟨b, o, none⟩ := fun o => hb.cell (p := ⟨b, o, none⟩) (by show b < _; omega)
  have hff : ∀ o, w2.frozen? ⟨b, o, none⟩ = wr.frozen? ⟨b, o, none⟩ := fun o => hb.frozen (p := ⟨b, o, none⟩) (by show b < _; omega)
  exact ⟨b, e, h1, h2, fun o => (hff o).trans (h3 o), fun i hi => by rw [hcc, hcc, hcc]; exact h4 i hi⟩
theorem RowK.ev {w wr : World} {lo hi n : Nat} {A : Option Addr} {f g : Nat → Ev} {es : List Ev} (h : RowK w wr lo hi A n f g n) (hn : es.length = n) (hf : ∀ i, i < n → f i = atE es i) : EV wr lo hi A es := by
  intro hp
  obtain ⟨b, e, h1, h2, h3, h4⟩ := h.row (by omega)
  refine ⟨b, e, h1, h2, h3, fun i hi => ?_⟩
  have := h4 i (by omega)
  rw [if_pos (by omega), hf i (by omega)] at this
  exact this

def CopyE (w : World) (n : Nat) (es : List Ev) (e : Ending) (w' : World) : Prop :=
  e = .returned (.slice (some ⟨w.heap.size, 0, none⟩) n n) ∧ EV w' w.heap.size w'.heap.size (some ⟨w.heap.size, 0, none⟩) es ∧ Below w.heap.size w w'
theorem RowK.start (w : World) (n : Nat) (f : Nat → Ev) : RowK (w.alloc (.cells (madeCells #[.int .i64 0, .int .i64 0, .int .i64 0] (n * 3)) 41)) (w.alloc (.cells (madeCells #[.int .i64 0, .int .i64 0, .int .i64 0] (n * 3)) 41)) w.heap.size (w.heap.size + 1) (some ⟨w.heap.size, 0, none⟩) n f (fun _ => zE) 0 := by
  have h := World.rowIs_alloc w (madeCells #[.int .i64 0, .int .i64 0, .int .i64 0] (n * 3)) 41 (fun _ => .int .i64 0) (fun i hi => by
    rw [size_madeCells] at hi
    have hm : i % 3 = 0 ∨ i % 3 = 1 ∨ i % 3 = 2 := by omega
    rcases hm with h | h | h <;> simp [madeCells, hi, h])
  rw [size_madeCells] at h
  refine ⟨fun hp => ⟨_, rfl, Nat.le_refl _, by omega, fun o => h.frozen o, fun i hi => ?_⟩, Turns.of_below (Below.refl _ _)⟩
  simp only [Nat.not_lt_zero, if_false, zE]
  exact ⟨h.cell (by omega), h.cell (by omega), h.cell (by omega)⟩

set_option maxRecDepth 100000 in
set_option maxHeartbeats 400000 in
theorem eqEs_same (A1 A2 : Option Addr) (n c1 c2 : Nat) (es : List Ev) (w : World) (hn : es.length = n) (hm : n ≤ 1048576) (h1 : EI w A1 es) (h2 : EI w A2 es) :
    Calls Tryd.prog 27 #[.slice A1 n c1, .slice A2 n c2] w fun e w' => e = .returned (.bool true) ∧ Below w.heap.size w w' := by
  have Hn := Lib.hid hn
  clear hn
  have H1 := Lib.hid h1
  have H2 := Lib.hid h2
  clear h1 h2
  go_enter Tryd.func27, Tryd.ntmps27
  go_wp2
  go_loopw [5] (fun i wr => ∃ k : Nat, k ≤ n ∧ i = .int .i64 k ∧ Below w.heap.size w wr) (fun i _ => n - (intOf i).toNat)
  case atStart => exact ⟨0, Nat.zero_le _, rfl, Below.refl _ _⟩
  case round =>
    obtain ⟨k, hk, rfl, hr⟩ := hrel
    by_cases hlt : k < n
    · obtain ⟨g, off, rfl, hc⟩ := (H1.out.below hr) (by have := Hn.out; omega)
      obtain ⟨c0, c1, c2⟩ := hc k (by have := Hn.out; omega)
      clear hc
      obtain ⟨g', off', rfl, hc⟩ := (H2.out.below hr) (by have := Hn.out; omega)
      obtain ⟨d0, d1, d2⟩ := hc k (by have := Hn.out; omega)
      clear hc
      generalize atE es k = s at c0 c1 c2 d0 d1 d2
      go_wp2
      go_still_tail 8, (by kernel_rfl)
      change wpList _ _ _ _ _ wr.drew
      go_wp2_with fail
      refine (eqE_same s _).mono ?_
      rintro e w1 ⟨rfl, hb⟩
      go_wp2
      go_roundw
      case rel => exact ⟨k + 1, by omega, by go_num, bel_trans hr (bel_of_drew hb)⟩
      case measure => simp [intOf]; omega
    · go_wp2
      go_ret
      exact ⟨rfl, hr⟩

def mkE (k : Int) (n : Nat) : List Ev := (List.range n).map fun (i : Nat) => (k + 3 * (i : Int), k + 3 * (i : Int) + 1, k + 3 * (i : Int) + 1 + 1)
theorem mkE_len (k : Int) (n : Nat) : (mkE k n).length = n := by simp [mkE]
theorem mkE_at (k : Int) (n i : Nat) (h : i < n) : atE (mkE k n) i = (k + 3 * (i : Int), k + 3 * (i : Int) + 1, k + 3 * (i : Int) + 1 + 1) := by simp [mkE, atE, h]

set_option maxHeartbeats 800000 in
theorem markEs_any (A : Option Addr) (n cap lo hi : Nat) (k : Int) (es : List Ev) (w : World) (hn : es.length = n) (hm : n ≤ 1048576) (hk0 : 0 ≤ k) (hk1 : k ≤ 1099511627776) (h : EV w lo hi A es) :
    Calls Tryd.prog 29 #[.slice A n cap, .int .i64 k] w fun e w' => e = .returned (.int .i64 (k + 3 * n)) ∧ EV w' lo hi A (mkE k n) ∧ Turns lo hi w w' := by
  have HS : Hid (RowK w w lo hi A n (fun i => (k + 3 * (i : Int), k + 3 * (i : Int) + 1, k + 3 * (i : Int) + 1 + 1)) (atE es) 0) := ⟨fun hp => by
    obtain ⟨g, e, h1, h2, h3, h4⟩ := h (by omega)
    exact ⟨g, e, h1, h2, h3, fun i hi => by simpa using h4 i (by omega)⟩, Turns.of_below (Below.refl _ _)⟩
  clear h hn
  go_enter Tryd.func29, Tryd.ntmps29
  go_wp2
  go_loopw [1, 5] (fun t i wr => ∃ j : Nat, j ≤ n ∧ i = .int .i64 j ∧ t = .int .i64 (k + 3 * j) ∧ Hid (RowK w wr lo hi A n (fun i => (k + 3 * (i : Int), k + 3 * (i : Int) + 1, k + 3 * (i : Int) + 1 + 1)) (atE es) j)) (fun _ i _ => n - (intOf i).toNat)
  case atStart => exact ⟨0, Nat.zero_le _, rfl, by simp, HS⟩
  case round =>
    obtain ⟨j, hj, rfl, rfl, Hr⟩ := hrel
    clear HS
    by_cases hlt : j < n
    · obtain ⟨g, rfl, h1, h2, h3, h4⟩ := Hr.out.row (by omega)
      obtain ⟨c0, c1, c2⟩ := h4 j hlt
      rw [if_neg (by omega)] at c0 c1 c2
      generalize atE es j = s at c0 c1 c2
      have f0 := h3 (j * 3)
      have f1 := h3 (j * 3 + 1)
      have f2 := h3 (j * 3 + 2)
      have Hq := Lib.hid (Hr.out.step hlt (s := (k + 3 * (j : Int), k + 3 * (j : Int) + 1, k + 3 * (j : Int) + 1 + 1)) rfl)
      clear Hr h4 h3
      go_wp2
      go_roundw
      case rel => exact ⟨j + 1, by omega, by go_num, by go_num, Hq⟩
      case measure => simp [intOf]; omega
    · obtain rfl : j = n := by omega
      go_wp2
      go_ret
      exact ⟨rfl, Hr.out.ev (mkE_len _ _) (fun i hi => (mkE_at k j i hi).symm), Hr.out.trn⟩

set_option maxHeartbeats 800000 in
theorem heldEs_any (A : Option Addr) (n cap lo hi : Nat) (k : Int) (w : World) (hm : n ≤ 1048576) (hk0 : 0 ≤ k) (hk1 : k ≤ 1099511627776) (h : EV w lo hi A (mkE k n)) :
    Calls Tryd.prog 30 #[.slice A n cap, .int .i64 k] w fun e w' => e = .returned (.int .i64 (k + 3 * n)) ∧ Below w.heap.size w w' := by
  have HS := Lib.hid h
  clear h
  go_enter Tryd.func30, Tryd.ntmps30
  go_wp2
  go_loopw [1, 5] (fun t i wr => ∃ j : Nat, j ≤ n ∧ i = .int .i64 j ∧ t = .int .i64 (k + 3 * j) ∧ Below w.heap.size w wr ∧ Hid (EV wr lo hi A (mkE k n))) (fun _ i _ => n - (intOf i).toNat)
  case atStart => exact ⟨0, Nat.zero_le _, rfl, by simp, Below.refl _ _, HS⟩
  case round =>
    obtain ⟨j, hj, rfl, rfl, hb, Hs⟩ := hrel
    clear HS
    by_cases hlt : j < n
    · obtain ⟨g, rfl, h1, h2, h3, h4⟩ := Hs.out (by rw [mkE_len]; omega)
      obtain ⟨c0, c1, c2⟩ := h4 j (by rw [mkE_len]; exact hlt)
      rw [mkE_at _ _ _ hlt] at c0 c1 c2
      simp only at c0 c1 c2
      clear h3 h4
      go_wp2
      go_roundw
      case rel => exact ⟨j + 1, by omega, by go_num, by go_num, hb, Hs⟩
      case measure => simp [intOf]; omega
    · obtain rfl : j = n := by omega
      go_wp2
      go_ret
      exact ⟨rfl, hb⟩
end Go.Proofs.YtcgmeindiaaokaaDoor.By
