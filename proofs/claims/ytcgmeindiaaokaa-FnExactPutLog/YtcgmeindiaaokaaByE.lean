/- Events and rows of events in memory: that came in, that a call has made; copied, compared, marked, held. -/
import Derived.Test.YtcgmeindiaaokaaByN
import Derived.Deep.Slices
import Derived.Deep.Fields
import Derived.ChangeSame
import Derived.OpenShut
import Derived.StillTailTactics
namespace Go.Proofs.Ytcgmeindiaaokaa.By
open Go.RowKit Go.Deep Go.ChangeShapes Go.WideShapes Base Rw

abbrev aggE (e : Ev) : Value := .agg #[.int .i64 e.1, .int .i64 e.2.1, .int .i64 e.2.2]
def cellsE : List Ev → List Value
  | [] => []
  | e :: r => [.int .i64 e.1, .int .i64 e.2.1, .int .i64 e.2.2] ++ cellsE r
theorem cellsE_len : ∀ es, (cellsE es).length = es.length * 3
  | [] => rfl
  | e :: r => by simp [cellsE, cellsE_len r]; omega
theorem cellsE_append : ∀ (a b : List Ev), cellsE (a ++ b) = cellsE a ++ cellsE b
  | [], b => rfl
  | e :: r, b => by simp [cellsE, cellsE_append r b]
def atE (es : List Ev) (i : Nat) : Ev := es.getD i zE
theorem cellsE_at : ∀ (es : List Ev) (i : Nat), i < es.length → (cellsE es)[i * 3]? = some (.int .i64 (atE es i).1) ∧ (cellsE es)[i * 3 + 1]? = some (.int .i64 (atE es i).2.1) ∧ (cellsE es)[i * 3 + 2]? = some (.int .i64 (atE es i).2.2)
  | [], i, h => by simp at h
  | e :: r, 0, _ => by simp [cellsE, atE]
  | e :: r, i + 1, h => by
    have := cellsE_at r i (by simpa using h)
    have e1 : (i + 1) * 3 = i * 3 + 3 := by omega
    rw [e1]
    simpa [cellsE, atE, List.getElem?_cons_succ] using this

/-- The events es lie at A. -/
def EI (w : World) (A : Option Addr) (es : List Ev) : Prop :=
  0 < es.length → ∃ b off, A = some ⟨b, off, none⟩ ∧ ∀ i, i < es.length → w.cell? ⟨b, off + i * 3, none⟩ = some (.int .i64 (atE es i).1) ∧ w.cell? ⟨b, off + i * 3 + 1, none⟩ = some (.int .i64 (atE es i).2.1) ∧ w.cell? ⟨b, off + i * 3 + 2, none⟩ = some (.int .i64 (atE es i).2.2)
/-- The same in a block from lo on and ahead of hi, that may be written. -/
def EV (w : World) (lo hi : Nat) (A : Option Addr) (es : List Ev) : Prop :=
  0 < es.length → ∃ g, A = some ⟨g, 0, none⟩ ∧ lo ≤ g ∧ g < hi ∧ (∀ j, w.frozen? ⟨g, j, none⟩ = false) ∧ ∀ i, i < es.length → w.cell? ⟨g, i * 3, none⟩ = some (.int .i64 (atE es i).1) ∧ w.cell? ⟨g, i * 3 + 1, none⟩ = some (.int .i64 (atE es i).2.1) ∧ w.cell? ⟨g, i * 3 + 2, none⟩ = some (.int .i64 (atE es i).2.2)
/-- A new row of events comes back. -/
def NewE (w : World) (es : List Ev) (e : Ending) (w' : World) : Prop := ∃ A cap, e = .returned (.slice A es.length cap) ∧ EV w' w.heap.size w'.heap.size A es ∧ Below w.heap.size w w'

theorem EI.nil (w : World) (A : Option Addr) : EI w A [] := fun h => absurd h (by simp)
theorem EV.nil (w : World) (lo hi : Nat) (A : Option Addr) : EV w lo hi A [] := fun h => absurd h (by simp)
theorem EI.below {w w' : World} {A : Option Addr} {es : List Ev} (h : EI w A es) (hb : Below w.heap.size w w') : EI w' A es := by
  intro hp
  obtain ⟨b, off, rfl, hc⟩ := h hp
  have k : ∀ {o v}, w.cell? ⟨b, o, none⟩ = some v → w'.cell? ⟨b, o, none⟩ = some v := fun h => (hb.cell (World.block_lt_of_cell? _ _ h)).trans h
  exact ⟨b, off, rfl, fun i hi => ⟨k (hc i hi).1, k (hc i hi).2.1, k (hc i hi).2.2⟩⟩
theorem EV.ei {w : World} {lo hi : Nat} {A : Option Addr} {es : List Ev} (h : EV w lo hi A es) : EI w A es := by
  intro hp
  obtain ⟨g, rfl, _, _, _, hc⟩ := h hp
  exact ⟨g, 0, rfl, fun i hi => by simpa using hc i hi⟩
theorem EV.of_block {w w' : World} {lo hi : Nat} {A : Option Addr} {es : List Ev} (h : EV w lo hi A es) (e : ∀ g, lo ≤ g → g < hi → w'.heap[g]? = w.heap[g]?) : EV w' lo hi A es := by
  intro hp
  obtain ⟨g, rfl, h1, h2, hf, hc⟩ := h hp
  have hcc : ∀ o, w'.cell? ⟨g, o, none⟩ = w.cell? ⟨g, o, none⟩ := fun o => World.cell?_of_block (w := w) (e g h1 h2)
  have hff : ∀ o, w'.frozen? ⟨g, o, none⟩ = w.frozen? ⟨g, o, none⟩ := fun o => World.frozen?_of_block (w := w) (e g h1 h2)
  exact ⟨g, rfl, h1, h2, fun j => (hff j).trans (hf j), fun i hi => ⟨(hcc _).trans (hc i hi).1, (hcc _).trans (hc i hi).2.1, (hcc _).trans (hc i hi).2.2⟩⟩
theorem EV.below {w w' : World} {lo hi B : Nat} {A : Option Addr} {es : List Ev} (h : EV w lo hi A es) (hb : Below B w w') (hB : hi ≤ B) : EV w' lo hi A es := h.of_block fun g _ h2 => hb.block g (by omega)
theorem EV.turns {w w' : World} {lo hi l h : Nat} {A : Option Addr} {es : List Ev} (s : EV w lo hi A es) (t : Turns l h w w') (hd : hi ≤ l ∨ h ≤ lo) (hs : hi ≤ w.heap.size) : EV w' lo hi A es := s.of_block fun g _ h2 => t.block g (by omega) (by omega)
theorem EV.wide {w : World} {lo hi lo' hi' : Nat} {A : Option Addr} {es : List Ev} (h : EV w lo hi A es) (h1 : lo' ≤ lo) (h2 : hi ≤ hi') : EV w lo' hi' A es := by
  intro hp
  obtain ⟨g, rfl, h1', h2', h3⟩ := h hp
  exact ⟨g, rfl, by omega, by omega, h3⟩
theorem ev_owns {w : World} {base n cap : Nat} {e : TypeId} {A : Option Addr} {es : List Ev} (h : w.ownsRow base e 3 (.slice A n cap) n (cellsE es)) : EV w base w.heap.size A es := by
  intro hp
  have hl := h.1
  rw [cellsE_len] at hl
  rcases h.2 with ⟨hv, hn⟩ | ⟨g, cap', cur, hv, hb, hg, hfr⟩
  · omega
  · injection hv with hA _ _
    subst hA
    have hc : w.ownsRow base e 3 (.slice (some ⟨g, 0, none⟩) n cap) n (cellsE es) := h
    have hk : ∀ o v, (cellsE es)[o]? = some v → w.cell? ⟨g, o, none⟩ = some v := fun o v hv => by
      have hlt : o < (cellsE es).length := (List.getElem?_eq_some_iff.1 hv).1
      rw [cellsE_len] at hlt
      rw [hc.cellAt o (by omega)]
      exact hv
    refine ⟨g, rfl, hb, (h.lt g rfl).2, fun j => by simp [World.frozen?, hg], fun i hi => ?_⟩
    have := cellsE_at es i hi
    exact ⟨hk _ _ this.1, hk _ _ this.2.1, hk _ _ this.2.2⟩

/-- A row of events that grows by append. -/
structure ESt (B : Nat) (W wr : World) (v : Value) (es : List Ev) : Prop where
  own : wr.ownsRow B 30 3 v es.length (cellsE es)
  old : Below B W wr
theorem ESt.step {B : Nat} {W wr w1 : World} {v v' : Value} {es : List Ev} {x : Ev} {o : Obj} (h : ESt B W wr v es) (hB : B ≤ W.heap.size) (hown : w1.ownsRow B 30 3 v' (es.length + 1) (cellsE es ++ [.int .i64 x.1, .int .i64 x.2.1, .int .i64 x.2.2])) (hg : (wr.alloc o).grownBy w1 v.ownBlock) : ESt B W w1 v' (es ++ [x]) := by
  have hsz : B ≤ wr.heap.size := Nat.le_trans hB h.old.size
  refine ⟨?_, (h.old.alloc hsz o).grown hg (by simp; omega) (fun j e => by have := (h.own.lt j e).1; omega)⟩
  rw [cellsE_append, List.length_append]
  exact hown
theorem ESt.keep {B : Nat} {W wr w2 : World} {v : Value} {es : List Ev} (h : ESt B W wr v es) (hB : B ≤ wr.heap.size) (hb : Below wr.heap.size wr w2) : ESt B W w2 v es :=
  ⟨h.own.kept (grown_below hb none) (by cases v.ownBlock <;> simp), h.old.trans (hb.mono hB)⟩
theorem ESt.nil {W w : World} {B : Nat} (hb : Below B W w) : ESt B W w (.slice none 0 0) [] := ⟨World.ownsRow_nil _ _ _ _, hb⟩
theorem ESt.empty {W w : World} {B : Nat} (hb : Below B W w) (hB : B ≤ w.heap.size) : ESt B W (w.alloc (.cells #[] 30)) (.slice (some ⟨w.heap.size, 0, none⟩) 0 0) [] := by
  refine ⟨?_, hb.alloc hB _⟩
  have h := World.ownsRow_lit (base := B) (e := 30) (size := 3) w #[] 0 hB (by simp) (by simp)
  simpa [cellsE] using h
theorem ESt.form {B : Nat} {W wr : World} {v : Value} {es : List Ev} (h : ESt B W wr v es) : ∃ A cap, v = .slice A es.length cap ∧ EV wr B wr.heap.size A es := by
  obtain ⟨A, cap, rfl⟩ := owns_form h.own
  exact ⟨A, cap, rfl, ev_owns h.own⟩

section
variable {H : Type} {enc : TypeId × Value → H} {W : World} {base : Nat} {spare : Nat → Bool} {held : Bool}
set_option maxRecDepth 100000 in
theorem open_ev1 {fuel : Nat} {cs : List Value} {x : DataW H × List MemPlace} (h : DataW.trod enc Try.prog W base spare held fuel 28 cs = some x) :
    ∃ s : Ev, cs = [.int .i64 s.1, .int .i64 s.2.1, .int .i64 s.2.2] := by
  have hC : Try.prog.cellsOf 28 = 3 := by kernel_rfl
  have hI : Try.prog.cellsOf 3 = 1 := by kernel_rfl
  obtain ⟨ys, k, _, _, hcl, hyl, hf⟩ := DataW.trod_struct Try.underlying28 h
  rw [hC] at hcl
  match cs, hcl, ys, hyl with
  | [q0, q1, q2], _, [y0, y1, y2], _ =>
    have g0 : DataW.trod enc Try.prog W base spare held k 3 [q0] = some y0 := by have := hf 0 _ rfl; simpa [hI] using this
    have g1 : DataW.trod enc Try.prog W base spare held k 3 [q1] = some y1 := by have := hf 1 _ rfl; simpa [hI] using this
    have g2 : DataW.trod enc Try.prog W base spare held k 3 [q2] = some y2 := by have := hf 2 _ rfl; simpa [hI] using this
    obtain ⟨n0, e0, _⟩ := DataW.trod_int Try.underlying3 g0
    obtain ⟨n1, e1, _⟩ := DataW.trod_int Try.underlying3 g1
    obtain ⟨n2, e2, _⟩ := DataW.trod_int Try.underlying3 g2
    simp at e0 e1 e2
    subst e0 e1 e2
    exact ⟨(n0, n1, n2), rfl⟩
theorem open_ev {rr : Reach} {b0 : Nat} {v : Value} {d : DataW H} {p : List MemPlace} (hv : Value.okWide Try.prog W rr b0 28 v) (h : DataW.Trod enc Try.prog W base spare held 28 v d p) :
    ∃ s : Ev, v = aggE s := by
  obtain ⟨cs, rfl, hsz⟩ := okWide_struct Try.underlying28 hv
  obtain ⟨cl⟩ := cs
  obtain ⟨fuel, hf⟩ := h
  obtain ⟨s, hs⟩ := open_ev1 hf
  simp [Value.cells] at hs
  exact ⟨s, by rw [hs]⟩
set_option maxRecDepth 100000 in
theorem open_evs {rr : Reach} {b0 : Nat} {v : Value} {d : DataW H} {p : List MemPlace} (hv : Value.okWide Try.prog W rr b0 33 v) (h : DataW.Trod enc Try.prog W base spare held 33 v d p) :
    ∃ (A : Option Addr) (n cap : Nat) (es : List Ev), v = .slice A n cap ∧ es.length = n ∧ n ≤ maxLen ∧ EI W A es := by
  obtain ⟨A0, n0, cap0, rfl⟩ := okWide_slice Try.underlying33 hv
  obtain ⟨fuel, hf⟩ := h
  rcases open_slice Try.underlying33 hf with ⟨hcs, _⟩ | ⟨a, len, cap, m, k, D, Pl, hcs, _, hl, hm, hmm, _, hi⟩
  · simp [Value.cells] at hcs
    obtain ⟨rfl, rfl, rfl⟩ := hcs
    exact ⟨none, 0, 0, [], rfl, rfl, by simp, EI.nil _ _⟩
  · simp [Value.cells] at hcs
    obtain ⟨rfl, rfl, rfl⟩ := hcs
    have hlm : n0 ≤ m := by rw [hmm]; split <;> omega
    have hC : Try.prog.cellsOf 28 = 3 := by kernel_rfl
    obtain ⟨V, hV⟩ := choose_lt (α := Ev) (n := n0) (p := fun i s => W.cell? ((a.add (i * 3)).add 0) = some (.int .i64 s.1) ∧ W.cell? ((a.add (i * 3)).add 1) = some (.int .i64 s.2.1) ∧ W.cell? ((a.add (i * 3)).add 2) = some (.int .i64 s.2.2)) (fun i hil => by
      obtain ⟨cs', hc, ht⟩ := hi i (by omega)
      rw [hC] at hc
      obtain ⟨_, hcl, hat⟩ := World.cells?_some hc
      obtain ⟨s, rfl⟩ := open_ev1 ht
      exact ⟨s, hat 0 (by omega), hat 1 (by omega), hat 2 (by omega)⟩)
    refine ⟨some a, n0, cap0, (List.range n0).map V, rfl, by simp, by omega, fun hp => ?_⟩
    simp at hp
    obtain ⟨b, off, spot⟩ := a
    have h0 := (hV 0 hp).1
    have hs : spot = none := by simpa [Addr.add] using World.cell?_spot h0
    subst hs
    refine ⟨b, off, rfl, fun i hi => ?_⟩
    simp at hi
    obtain ⟨g0, g1, g2⟩ := hV i hi
    have ea : ∀ j, ((⟨b, off, none⟩ : Addr).add (i * 3)).add j = ⟨b, off + i * 3 + j, none⟩ := fun j => by rw [Addr.add_mid, Addr.add_mid]
    rw [ea] at g0 g1 g2
    have hg : atE ((List.range n0).map V) i = V i := by simp [atE, hi]
    rw [hg]
    exact ⟨g0, g1, g2⟩
end

theorem szE_any (A : Option Addr) (n cap : Nat) (left : Int) (w : World) (hn : n ≤ 9223372036854775807) (h0 : 0 ≤ left) (h1 : left ≤ 1048576) :
    Calls Try.prog 15 #[.slice A n cap, .int .i64 left] w fun e w' => e = .returned (.int .i64 (if left < n then -1 else left - n)) ∧ w = w' := by
  by_cases hl : left < n
  · have hl' : ¬ 0 ≤ left - n := by omega
    go_enter Try.func15, Try.ntmps15
    go_wp2
    go_ret
    exact ⟨ret_int (by simp), rfl⟩
  · go_enter Try.func15, Try.ntmps15
    go_wp2
    go_ret
    exact ⟨ret_int (by simp), rfl⟩

theorem toE_any (s : Ev) (w : World) : Calls Try.prog 13 #[aggE s] w fun e w' => e = .returned (aggE s) ∧ Below w.heap.size w w' := by
  obtain ⟨a, b, c⟩ := s
  go_enter Try.func13, Try.ntmps13
  go_wp2
  exact bodyPost_ret (v := .agg #[.int .i64 a, .int .i64 b, .int .i64 c]) (by simp [results, Try.results13, go_sem]) rfl ⟨rfl, (((Below.refl _ _).alloc (Nat.le_refl _) _).alloc (by simp) _).alloc (by simp; omega) _⟩

theorem eqE_same (s : Ev) (w : World) : Calls Try.prog 30 #[aggE s, aggE s] w fun e w' => e = .returned (.bool true) ∧ Below w.heap.size w w' := by
  obtain ⟨a, b, c⟩ := s
  go_enter Try.func30, Try.ntmps30
  go_wp2
  go_ret
  exact ⟨rfl, ((Below.refl _ _).alloc (Nat.le_refl _) _).alloc (by simp) _⟩

theorem infoE : (Try.prog.info? 30).map (fun i => (i.zero, i.size, i.bytes)) = some (some (.agg #[.int .i64 0, .int .i64 0, .int .i64 0]), 3, 24) := by kernel_rfl
theorem make_evs (n : Nat) (hn : n ≤ 1048576) (w : World) :
    (Instr.makeSlice 37 (.int .i64 (n : Int)) (.int .i64 (n : Int))).run Try.prog w = .ok (.slice (some ⟨w.heap.size, 0, none⟩) n n) (w.alloc (.cells (madeCells #[.int .i64 0, .int .i64 0, .int .i64 0] (n * 3)) 30)) := by
  obtain ⟨i, hi, hz, hs, hb⟩ := info_parts infoE
  have h := run_make (P := Try.prog) w 37 30 i _ Try.underlying37 hi hz .i64 .i64 n n (by omega) (by omega) (by rw [hb]; omega) (by omega)
  simp only [Int.toNat_natCast, hs] at h
  exact h

/-- A row whose first k items have become what f says, the rest as they were (g). -/
structure RowK (w wr : World) (lo hi : Nat) (A : Option Addr) (n : Nat) (f g : Nat → Ev) (k : Nat) : Prop where
  row : 0 < n → ∃ b, A = some ⟨b, 0, none⟩ ∧ lo ≤ b ∧ b < hi ∧ (∀ o, wr.frozen? ⟨b, o, none⟩ = false) ∧ ∀ i, i < n → wr.cell? ⟨b, i * 3, none⟩ = some (.int .i64 (if i < k then f i else g i).1) ∧ wr.cell? ⟨b, i * 3 + 1, none⟩ = some (.int .i64 (if i < k then f i else g i).2.1) ∧ wr.cell? ⟨b, i * 3 + 2, none⟩ = some (.int .i64 (if i < k then f i else g i).2.2)
  trn : Turns lo hi w wr
theorem RowK.step {w wr : World} {lo hi n b k : Nat} {f g : Nat → Ev} (h : RowK w wr lo hi (some ⟨b, 0, none⟩) n f g k) (hk : k < n) {s : Ev} (hs : f k = s) :
    RowK w (((wr.setCell ⟨b, k * 3, none⟩ (.int .i64 s.1)).setCell ⟨b, k * 3 + 1, none⟩ (.int .i64 s.2.1)).setCell ⟨b, k * 3 + 2, none⟩ (.int .i64 s.2.2)) lo hi (some ⟨b, 0, none⟩) n f g (k + 1) := by
  obtain ⟨b', e, h1, h2, h3, h4⟩ := h.row (by omega)
  cases e
  refine ⟨fun _ => ⟨b, rfl, h1, h2, fun o => by rw [World.frozen?_setCell, World.frozen?_setCell, World.frozen?_setCell]; exact h3 o, fun i hi => ?_⟩, ((h.trn.setCell h1 h2 _).setCell h1 h2 _).setCell h1 h2 _⟩
  have hsome : ∀ j, j < 3 → (wr.cell? ⟨b, i * 3 + j, none⟩).isSome = true := fun j hj => by
    have : j = 0 ∨ j = 1 ∨ j = 2 := by omega
    rcases this with rfl | rfl | rfl
    · rw [Nat.add_zero, (h4 i hi).1]; rfl
    · rw [(h4 i hi).2.1]; rfl
    · rw [(h4 i hi).2.2]; rfl
  have hcell : ∀ j, j < 3 → (((wr.setCell ⟨b, k * 3, none⟩ (.int .i64 s.1)).setCell ⟨b, k * 3 + 1, none⟩ (.int .i64 s.2.1)).setCell ⟨b, k * 3 + 2, none⟩ (.int .i64 s.2.2)).cell? ⟨b, i * 3 + j, none⟩ = if i * 3 + j = k * 3 + 2 then some (.int .i64 s.2.2) else if i * 3 + j = k * 3 + 1 then some (.int .i64 s.2.1) else if i * 3 + j = k * 3 then some (.int .i64 s.1) else wr.cell? ⟨b, i * 3 + j, none⟩ := fun j hj => by
    rw [cell_set (some_set (some_set (hsome j hj))), cell_set (some_set (hsome j hj)), cell_set (hsome j hj)]
  have e0 := hcell 0 (by omega)
  have e1 := hcell 1 (by omega)
  have e2 := hcell 2 (by omega)
  simp only [Nat.add_zero] at e0
  rw [e0, e1, e2]
  by_cases e : i = k
  · subst e
    simp only [show ¬ (i * 3 = i * 3 + 2) by omega, show ¬ (i * 3 = i * 3 + 1) by omega, show ¬ (i * 3 + 1 = i * 3 + 2) by omega, show i < i + 1 by omega, if_true, if_false, hs, and_self]
  · simp only [show ¬ (i * 3 = k * 3 + 2) by omega, show ¬ (i * 3 = k * 3 + 1) by omega, show ¬ (i * 3 = k * 3) by omega, show ¬ (i * 3 + 1 = k * 3 + 2) by omega, show ¬ (i * 3 + 1 = k * 3 + 1) by omega, show ¬ (i * 3 + 1 = k * 3) by omega, show ¬ (i * 3 + 2 = k * 3 + 2) by omega, show ¬ (i * 3 + 2 = k * 3 + 1) by omega, show ¬ (i * 3 + 2 = k * 3) by omega, if_false]
    obtain ⟨c0, c1, c2⟩ := h4 i hi
    rw [c0, c1, c2]
    by_cases l : i < k
    · rw [if_pos l, if_pos (by omega)]; exact ⟨rfl, rfl, rfl⟩
    · rw [if_neg l, if_neg (by omega)]; exact ⟨rfl, rfl, rfl⟩
theorem RowK.keep {w wr w2 : World} {lo hi n k : Nat} {A : Option Addr} {f g : Nat → Ev} (h : RowK w wr lo hi A n f g k) (hb : Below wr.heap.size wr w2) (hh : hi ≤ wr.heap.size) : RowK w w2 lo hi A n f g k := by
  refine ⟨fun hp => ?_, h.trn.trans (Turns.of_below hb)⟩
  obtain ⟨b, e, h1, h2, h3, h4⟩ := h.row hp
  have hcc : ∀ o, w2.cell? ⟨b, o, none⟩ = wr.cell? ⟨b, o, none⟩ := fun o => hb.cell (p := ⟨b, o, none⟩) (by show b < _; omega)
  have hff : ∀ o, w2.frozen? ⟨b, o, none⟩ = wr.frozen? ⟨b, o, none⟩ := fun o => hb.frozen (p := ⟨b, o, none⟩) (by show b < _; omega)
  exact ⟨b, e, h1, h2, fun o => (hff o).trans (h3 o), fun i hi => by rw [hcc, hcc, hcc]; exact h4 i hi⟩
theorem RowK.ev {w wr : World} {lo hi n : Nat} {A : Option Addr} {f g : Nat → Ev} {es : List Ev} (h : RowK w wr lo hi A n f g n) (hn : es.length = n) (hf : ∀ i, i < n → f i = atE es i) : EV wr lo hi A es := by
  intro hp
  obtain ⟨b, e, h1, h2, h3, h4⟩ := h.row (by omega)
  refine ⟨b, e, h1, h2, h3, fun i hi => ?_⟩
  have := h4 i (by omega)
  rw [if_pos (by omega), hf i (by omega)] at this
  exact this

def CopyE (w : World) (n : Nat) (es : List Ev) (e : Ending) (w' : World) : Prop :=
  e = .returned (.slice (some ⟨w.heap.size, 0, none⟩) n n) ∧ EV w' w.heap.size w'.heap.size (some ⟨w.heap.size, 0, none⟩) es ∧ Below w.heap.size w w'
theorem RowK.start (w : World) (n : Nat) (f : Nat → Ev) : RowK (w.alloc (.cells (madeCells #[.int .i64 0, .int .i64 0, .int .i64 0] (n * 3)) 30)) (w.alloc (.cells (madeCells #[.int .i64 0, .int .i64 0, .int .i64 0] (n * 3)) 30)) w.heap.size (w.heap.size + 1) (some ⟨w.heap.size, 0, none⟩) n f (fun _ => zE) 0 := by
  have h := World.rowIs_alloc w (madeCells #[.int .i64 0, .int .i64 0, .int .i64 0] (n * 3)) 30 (fun _ => .int .i64 0) (fun i hi => by
    rw [size_madeCells] at hi
    have hm : i % 3 = 0 ∨ i % 3 = 1 ∨ i % 3 = 2 := by omega
    rcases hm with h | h | h <;> simp [madeCells, hi, h])
  rw [size_madeCells] at h
  refine ⟨fun hp => ⟨_, rfl, Nat.le_refl _, by omega, fun o => h.frozen o, fun i hi => ?_⟩, Turns.of_below (Below.refl _ _)⟩
  simp only [Nat.not_lt_zero, if_false, zE]
  exact ⟨h.cell (by omega), h.cell (by omega), h.cell (by omega)⟩

set_option maxHeartbeats 800000 in
theorem toEs_any (A : Option Addr) (n cap : Nat) (es : List Ev) (w : World) (hn : es.length = n) (hm : n ≤ 1048576) (h : EI w A es) :
    Calls Try.prog 17 #[.slice A n cap] w (CopyE w n es) := by
  have hmk := make_evs n hm
  have Hn := Lib.hid hn
  have HI := Lib.hid h
  clear h hn
  go_enter Try.func17, Try.ntmps17
  go_wp2
  clear hmk
  have R0 := Lib.hid (RowK.start w n (atE es))
  have B0 := Lib.hid (bel_alloc w (.cells (madeCells #[.int .i64 0, .int .i64 0, .int .i64 0] (n * 3)) 30))
  have s0 : (w.alloc (.cells (madeCells #[.int .i64 0, .int .i64 0, .int .i64 0] (n * 3)) 30)).heap.size = w.heap.size + 1 := by simp
  generalize w.alloc (.cells (madeCells #[.int .i64 0, .int .i64 0, .int .i64 0] (n * 3)) 30) = w0 at R0 B0 s0 ⊢
  go_loopw [4] (fun i wr => ∃ k : Nat, k ≤ n ∧ i = .int .i64 k ∧ Hid (RowK w0 wr w.heap.size (w.heap.size + 1) (some ⟨w.heap.size, 0, none⟩) n (atE es) (fun _ => zE) k)) (fun i _ => n - (intOf i).toNat)
  case atStart => exact ⟨0, Nat.zero_le _, rfl, R0⟩
  case round =>
    obtain ⟨k, hk, rfl, Hr⟩ := hrel
    clear R0
    have zr : w.heap.size + 1 ≤ wr.heap.size := by have := Hr.out.trn.size; omega
    by_cases hlt : k < n
    · obtain ⟨b, off, rfl, hc⟩ := (HI.out.below (w' := wr) (B0.out.trans (Hr.out.trn.below (Nat.le_refl _) (by omega)))) (by have := Hn.out; omega)
      obtain ⟨c0, c1, c2⟩ := hc k (by have := Hn.out; omega)
      clear hc
      obtain ⟨s, hs⟩ : ∃ s, atE es k = s := ⟨_, rfl⟩
      rw [hs] at c0 c1 c2
      have Hs := Lib.hid hs
      clear hs
      go_wp2_with fail
      refine (toE_any s _).mono ?_
      rintro e w1 ⟨rfl, hb⟩
      have Hr1 := Lib.hid (Hr.out.keep hb zr)
      clear Hr hb
      obtain ⟨b', e', _, _, zf, zc⟩ := Hr1.out.row (by omega)
      cases e'
      obtain ⟨z0, z1, z2⟩ := zc k hlt
      rw [if_neg (by omega)] at z0 z1 z2
      have zf' := zf (k * 3)
      have Hq := Lib.hid (Hr1.out.step hlt Hs.out)
      clear zc Hr1
      go_wp2
      go_roundw
      case rel => exact ⟨k + 1, by omega, by go_num, Hq⟩
      case measure => simp [intOf]; omega
    · obtain rfl : k = n := by omega
      go_wp2
      go_ret
      exact ⟨rfl, (Hr.out.ev Hn.out (fun _ _ => rfl)).wide (Nat.le_refl _) zr, B0.out.trans (Hr.out.trn.below (Nat.le_refl _) (by omega))⟩

set_option maxRecDepth 100000 in
set_option maxHeartbeats 400000 in
theorem eqEs_same (A1 A2 : Option Addr) (n c1 c2 : Nat) (es : List Ev) (w : World) (hn : es.length = n) (hm : n ≤ 1048576) (h1 : EI w A1 es) (h2 : EI w A2 es) :
    Calls Try.prog 19 #[.slice A1 n c1, .slice A2 n c2] w fun e w' => e = .returned (.bool true) ∧ Below w.heap.size w w' := by
  have Hn := Lib.hid hn
  clear hn
  have H1 := Lib.hid h1
  have H2 := Lib.hid h2
  clear h1 h2
  go_enter Try.func19, Try.ntmps19
  go_wp2
  go_loopw [5] (fun i wr => ∃ k : Nat, k ≤ n ∧ i = .int .i64 k ∧ Below w.heap.size w wr) (fun i _ => n - (intOf i).toNat)
  case atStart => exact ⟨0, Nat.zero_le _, rfl, Below.refl _ _⟩
  case round =>
    obtain ⟨k, hk, rfl, hr⟩ := hrel
    by_cases hlt : k < n
    · obtain ⟨g, off, rfl, hc⟩ := (H1.out.below hr) (by have := Hn.out; omega)
      obtain ⟨c0, c1, c2⟩ := hc k (by have := Hn.out; omega)
      clear hc
      obtain ⟨g', off', rfl, hc⟩ := (H2.out.below hr) (by have := Hn.out; omega)
      obtain ⟨d0, d1, d2⟩ := hc k (by have := Hn.out; omega)
      clear hc
      generalize atE es k = s at c0 c1 c2 d0 d1 d2
      go_wp2
      go_still_tail 8, (by kernel_rfl)
      change wpList _ _ _ _ _ wr.drew
      go_wp2_with fail
      refine (eqE_same s _).mono ?_
      rintro e w1 ⟨rfl, hb⟩
      go_wp2
      go_roundw
      case rel => exact ⟨k + 1, by omega, by go_num, bel_trans hr (bel_of_drew hb)⟩
      case measure => simp [intOf]; omega
    · go_wp2
      go_ret
      exact ⟨rfl, hr⟩

def mkE (k : Int) (n : Nat) : List Ev := (List.range n).map fun (i : Nat) => (k + 3 * (i : Int), k + 3 * (i : Int) + 1, k + 3 * (i : Int) + 1 + 1)
theorem mkE_len (k : Int) (n : Nat) : (mkE k n).length = n := by simp [mkE]
theorem mkE_at (k : Int) (n i : Nat) (h : i < n) : atE (mkE k n) i = (k + 3 * (i : Int), k + 3 * (i : Int) + 1, k + 3 * (i : Int) + 1 + 1) := by simp [mkE, atE, h]

set_option maxHeartbeats 800000 in
theorem markEs_any (A : Option Addr) (n cap lo hi : Nat) (k : Int) (es : List Ev) (w : World) (hn : es.length = n) (hm : n ≤ 1048576) (hk0 : 0 ≤ k) (hk1 : k ≤ 1099511627776) (h : EV w lo hi A es) :
    Calls Try.prog 20 #[.slice A n cap, .int .i64 k] w fun e w' => e = .returned (.int .i64 (k + 3 * n)) ∧ EV w' lo hi A (mkE k n) ∧ Turns lo hi w w' := by
  have HS : Hid (RowK w w lo hi A n (fun i => (k + 3 * (i : Int), k + 3 * (i : Int) + 1, k + 3 * (i : Int) + 1 + 1)) (atE es) 0) := ⟨fun hp => by
    obtain ⟨g, e, h1, h2, h3, h4⟩ := h (by omega)
    exact ⟨g, e, h1, h2, h3, fun i hi => by simpa using h4 i (by omega)⟩, Turns.of_below (Below.refl _ _)⟩
  clear h hn
  go_enter Try.func20, Try.ntmps20
  go_wp2
  go_loopw [1, 5] (fun t i wr => ∃ j : Nat, j ≤ n ∧ i = .int .i64 j ∧ t = .int .i64 (k + 3 * j) ∧ Hid (RowK w wr lo hi A n (fun i => (k + 3 * (i : Int), k + 3 * (i : Int) + 1, k + 3 * (i : Int) + 1 + 1)) (atE es) j)) (fun _ i _ => n - (intOf i).toNat)
  case atStart => exact ⟨0, Nat.zero_le _, rfl, by simp, HS⟩
  case round =>
    obtain ⟨j, hj, rfl, rfl, Hr⟩ := hrel
    clear HS
    by_cases hlt : j < n
    · obtain ⟨g, rfl, h1, h2, h3, h4⟩ := Hr.out.row (by omega)
      obtain ⟨c0, c1, c2⟩ := h4 j hlt
      rw [if_neg (by omega)] at c0 c1 c2
      generalize atE es j = s at c0 c1 c2
      have f0 := h3 (j * 3)
      have f1 := h3 (j * 3 + 1)
      have f2 := h3 (j * 3 + 2)
      have Hq := Lib.hid (Hr.out.step hlt (s := (k + 3 * (j : Int), k + 3 * (j : Int) + 1, k + 3 * (j : Int) + 1 + 1)) rfl)
      clear Hr h4 h3
      go_wp2
      go_roundw
      case rel => exact ⟨j + 1, by omega, by go_num, by go_num, Hq⟩
      case measure => simp [intOf]; omega
    · obtain rfl : j = n := by omega
      go_wp2
      go_ret
      exact ⟨rfl, Hr.out.ev (mkE_len _ _) (fun i hi => (mkE_at k j i hi).symm), Hr.out.trn⟩


end Go.Proofs.Ytcgmeindiaaokaa.By
