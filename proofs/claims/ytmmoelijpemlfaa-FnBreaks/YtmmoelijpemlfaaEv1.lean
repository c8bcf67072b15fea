/- Lists of events in memory: one that came in, a copy, the comparison of two that read alike, marks. -/
import Derived.Test.YtmmoelijpemlfaaBc2
import Derived.Test.YtmmoelijpemlfaaBk1
namespace Go.Proofs.Ytmmoelijpemlfaa.Bk
open Go.RowKit Go.Deep Go.ChangeShapes Go.WideShapes Base Rw

/-- A slice of events at A reads as es. -/
def EvI (w : World) (A : Option Addr) (es : List (Int × Int)) : Prop :=
  0 < es.length → ∃ b off, A = some ⟨b, off, none⟩ ∧ ∀ i, i < es.length → w.cell? ⟨b, off + i * 2, none⟩ = some (.int .i64 (es.getD i (0, 0)).1) ∧ w.cell? ⟨b, off + i * 2 + 1, none⟩ = some (.int .i64 (es.getD i (0, 0)).2)
/-- The same, in a block of its own from lo on and ahead of hi, that may be written. -/
def EvV (w : World) (lo hi : Nat) (A : Option Addr) (es : List (Int × Int)) : Prop :=
  0 < es.length → ∃ g, A = some ⟨g, 0, none⟩ ∧ lo ≤ g ∧ g < hi ∧ ∀ i, i < es.length → w.cell? ⟨g, i * 2, none⟩ = some (.int .i64 (es.getD i (0, 0)).1) ∧ w.cell? ⟨g, i * 2 + 1, none⟩ = some (.int .i64 (es.getD i (0, 0)).2) ∧ ∀ j, w.frozen? ⟨g, j, none⟩ = false

theorem EvI.below {w w' : World} {A : Option Addr} {es : List (Int × Int)} (h : EvI w A es) (hb : Below w.heap.size w w') : EvI w' A es := by
  intro hp
  obtain ⟨b, off, rfl, hc⟩ := h hp
  exact ⟨b, off, rfl, fun i hi => ⟨(hb.cell (World.block_lt_of_cell? _ _ (hc i hi).1)).trans (hc i hi).1, (hb.cell (World.block_lt_of_cell? _ _ (hc i hi).2)).trans (hc i hi).2⟩⟩
theorem EvV.evI {w : World} {lo hi : Nat} {A : Option Addr} {es : List (Int × Int)} (h : EvV w lo hi A es) : EvI w A es := by
  intro hp
  obtain ⟨g, rfl, _, _, hc⟩ := h hp
  exact ⟨g, 0, rfl, fun i hi => by simpa using ⟨(hc i hi).1, (hc i hi).2.1⟩⟩
theorem EvV.of_block {w w' : World} {lo hi : Nat} {A : Option Addr} {es : List (Int × Int)} (h : EvV w lo hi A es) (e : ∀ g, lo ≤ g → g < hi → w'.heap[g]? = w.heap[g]?) : EvV w' lo hi A es := by
  intro hp
  obtain ⟨g, rfl, h1, h2, hc⟩ := h hp
  have hcc : ∀ o, w'.cell? ⟨g, o, none⟩ = w.cell? ⟨g, o, none⟩ := fun o => World.cell?_of_block (w := w) (e g h1 h2)
  have hf : ∀ o, w'.frozen? ⟨g, o, none⟩ = w.frozen? ⟨g, o, none⟩ := fun o => World.frozen?_of_block (w := w) (e g h1 h2)
  exact ⟨g, rfl, h1, h2, fun i hi => ⟨(hcc _).trans (hc i hi).1, (hcc _).trans (hc i hi).2.1, fun j => (hf j).trans ((hc i hi).2.2 j)⟩⟩
theorem EvV.below {w w' : World} {lo hi B : Nat} {A : Option Addr} {es : List (Int × Int)} (h : EvV w lo hi A es) (hb : Below B w w') (hB : hi ≤ B) : EvV w' lo hi A es := h.of_block fun g _ h2 => hb.block g (by omega)
theorem EvV.turns {w w' : World} {lo hi l h : Nat} {A : Option Addr} {es : List (Int × Int)} (s : EvV w lo hi A es) (t : Turns l h w w') (hd : hi ≤ l ∨ h ≤ lo) (hs : hi ≤ w.heap.size) : EvV w' lo hi A es := s.of_block fun g _ h2 => t.block g (by omega) (by omega)

section
variable {H : Type} {enc : TypeId × Value → H} {W : World} {base : Nat} {spare : Nat → Bool} {held : Bool}

set_option maxRecDepth 100000 in
theorem open_event {fuel : Nat} {cs : List Value} {x : DataW H × List MemPlace} (h : DataW.trod enc Try.prog W base spare held fuel 89 cs = some x) :
    ∃ s : Int × Int, cs = [.int .i64 s.1, .int .i64 s.2] := by
  have hC : Try.prog.cellsOf 89 = 2 := by kernel_rfl
  have hI : Try.prog.cellsOf 3 = 1 := by kernel_rfl
  obtain ⟨ys, k, _, _, hcl, hyl, hf⟩ := DataW.trod_struct Try.underlying89 h
  rw [hC] at hcl
  match cs, hcl, ys, hyl with
  | [q0, q1], _, [y0, y1], _ =>
    have g0 : DataW.trod enc Try.prog W base spare held k 3 [q0] = some y0 := by have := hf 0 _ rfl; simpa [hI] using this
    have g1 : DataW.trod enc Try.prog W base spare held k 3 [q1] = some y1 := by have := hf 1 _ rfl; simpa [hI] using this
    obtain ⟨n0, e0, _⟩ := DataW.trod_int Try.underlying3 g0
    obtain ⟨n1, e1, _⟩ := DataW.trod_int Try.underlying3 g1
    simp at e0 e1
    subst e0 e1
    exact ⟨(n0, n1), rfl⟩

set_option maxRecDepth 100000 in
theorem open_events {rr : Reach} {b0 : Nat} {v : Value} {d : DataW H} {p : List MemPlace} (hv : Value.okWide Try.prog W rr b0 53 v) (h : DataW.Trod enc Try.prog W base spare held 53 v d p) :
    ∃ (A : Option Addr) (n cap : Nat) (es : List (Int × Int)), v = .slice A n cap ∧ es.length = n ∧ n ≤ maxLen ∧ EvI W A es := by
  obtain ⟨A0, n0, cap0, rfl⟩ := okWide_slice Try.underlying53 hv
  obtain ⟨fuel, hf⟩ := h
  rcases open_slice Try.underlying53 hf with ⟨hcs, _⟩ | ⟨a, len, cap, m, k, D, Pl, hcs, _, hl, hm, hmm, _, hi⟩
  · simp [Value.cells] at hcs
    obtain ⟨rfl, rfl, rfl⟩ := hcs
    exact ⟨none, 0, 0, [], rfl, rfl, by simp, fun hp => absurd hp (by simp)⟩
  · simp [Value.cells] at hcs
    obtain ⟨rfl, rfl, rfl⟩ := hcs
    have hlm : n0 ≤ m := by rw [hmm]; split <;> omega
    have hC : Try.prog.cellsOf 89 = 2 := by kernel_rfl
    obtain ⟨V, hV⟩ := choose_lt (α := Int × Int) (n := n0) (p := fun i s => W.cell? ((a.add (i * 2)).add 0) = some (.int .i64 s.1) ∧ W.cell? ((a.add (i * 2)).add 1) = some (.int .i64 s.2)) (fun i hil => by
      obtain ⟨cs', hc, ht⟩ := hi i (by omega)
      rw [hC] at hc
      obtain ⟨_, hcl, hat⟩ := World.cells?_some hc
      obtain ⟨s, rfl⟩ := open_event ht
      exact ⟨s, hat 0 (by omega), hat 1 (by omega)⟩)
    refine ⟨some a, n0, cap0, (List.range n0).map V, rfl, by simp, by omega, fun hp => ?_⟩
    simp at hp
    obtain ⟨b, off, spot⟩ := a
    have h0 := (hV 0 hp).1
    have hs : spot = none := by simpa [Addr.add] using World.cell?_spot h0
    subst hs
    refine ⟨b, off, rfl, fun i hi => ?_⟩
    simp at hi
    obtain ⟨g0, g1⟩ := hV i hi
    have ea : ∀ j, ((⟨b, off, none⟩ : Addr).add (i * 2)).add j = ⟨b, off + i * 2 + j, none⟩ := fun j => by rw [Addr.add_mid, Addr.add_mid]
    rw [ea] at g0 g1
    have hg : ((List.range n0).map V).getD i (0, 0) = V i := by simp [hi]
    rw [hg]
    exact ⟨g0, g1⟩
end

theorem szEvents_any (A : Option Addr) (n cap : Nat) (left : Int) (w : World) (hn : n ≤ 9223372036854775807) (h0 : 0 ≤ left) (h1 : left ≤ 1048576) :
    Calls Try.prog 35 #[.slice A n cap, .int .i64 left] w fun e w' => e = .returned (.int .i64 (if left < n then -1 else left - n)) ∧ w = w' := by
  by_cases hl : left < n
  · have hl' : ¬ 0 ≤ left - n := by omega
    go_enter Try.func35, Try.ntmps35
    go_wp2
    go_ret
    exact ⟨ret_int (by simp), rfl⟩
  · go_enter Try.func35, Try.ntmps35
    go_wp2
    go_ret
    exact ⟨ret_int (by simp), rfl⟩

theorem toEvent_any (a b : Int) (w : World) :
    Calls Try.prog 60 #[.agg #[.int .i64 a, .int .i64 b]] w fun e w' => e = .returned (.agg #[.int .i64 a, .int .i64 b]) ∧ Below w.heap.size w w' := by
  go_enter Try.func60, Try.ntmps60
  go_wp2
  exact bodyPost_ret (v := .agg #[.int .i64 a, .int .i64 b]) (by simp [results, Try.results60, go_sem]) rfl ⟨rfl, (((Below.refl _ _).alloc (Nat.le_refl _) _).alloc (by simp) _).alloc (by simp; omega) _⟩

theorem eqEvent_same (a b : Int) (w : World) :
    Calls Try.prog 61 #[.agg #[.int .i64 a, .int .i64 b], .agg #[.int .i64 a, .int .i64 b]] w fun e w' => e = .returned (.bool true) ∧ Below w.heap.size w w' := by
  go_enter Try.func61, Try.ntmps61
  go_wp2
  go_ret
  exact ⟨rfl, ((Below.refl _ _).alloc (Nat.le_refl _) _).alloc (by simp) _⟩

theorem infoEvent : (Try.prog.info? 87).map (fun i => (i.zero, i.size, i.bytes)) = some (some (.agg #[.int .i64 0, .int .i64 0]), 2, 16) := by kernel_rfl

theorem make_events (n : Nat) (hn : n ≤ 1048576) (w : World) :
    (Instr.makeSlice 26 (.int .i64 (n : Int)) (.int .i64 (n : Int))).run Try.prog w = .ok (.slice (some ⟨w.heap.size, 0, none⟩) n n) (w.alloc (.cells (madeCells #[.int .i64 0, .int .i64 0] (n * 2)) 87)) := by
  obtain ⟨i, hi, hz, hs, hb⟩ := info_parts infoEvent
  have h := run_make (P := Try.prog) w 26 87 i _ Try.underlying26 hi hz .i64 .i64 n n (by omega) (by omega) (by rw [hb]; omega) (by omega)
  simp only [Int.toNat_natCast, hs] at h
  exact h

def evC (s : Int × Int) (j : Nat) : Value := if j = 0 then .int .i64 s.1 else .int .i64 s.2
def toE (es : List (Int × Int)) (k j : Nat) : Value := if j / 2 < k then evC (es.getD (j / 2) (0, 0)) (j % 2) else evC (0, 0) (j % 2)

def ToEs (w wr : World) (n : Nat) (es : List (Int × Int)) (k : Nat) : Prop :=
  wr.rowIs w.heap.size 87 (n * 2) (toE es k) ∧ Below w.heap.size w wr

theorem ToEs.start (w : World) (n : Nat) (es : List (Int × Int)) : ToEs w (w.alloc (.cells (madeCells #[.int .i64 0, .int .i64 0] (n * 2)) 87)) n es 0 := by
  refine ⟨?_, bel_alloc _ _⟩
  have h := World.rowIs_alloc w (madeCells #[.int .i64 0, .int .i64 0] (n * 2)) 87 (toE es 0) (fun i hi => by
    rw [size_madeCells] at hi
    have hm : i % 2 = 0 ∨ i % 2 = 1 := by omega
    rcases hm with h | h <;> simp [madeCells, hi, toE, evC, h])
  rw [size_madeCells] at h
  exact h
theorem ToEs.later {w wr w' : World} {n k : Nat} {es : List (Int × Int)} (h : ToEs w wr n es k) (hb : Below wr.heap.size wr w') : ToEs w w' n es k :=
  ⟨h.1.of_block (hb.block _ h.1.lt), h.2.trans (hb.mono h.2.size)⟩
theorem ToEs.step {w wr : World} {n k : Nat} {es : List (Int × Int)} (h : ToEs w wr n es k) {s : Int × Int} (hs : es.getD k (0, 0) = s) :
    ToEs w ((wr.setCell ⟨w.heap.size, k * 2, none⟩ (.int .i64 s.1)).setCell ⟨w.heap.size, k * 2 + 1, none⟩ (.int .i64 s.2)) n es (k + 1) := by
  refine ⟨((h.1.set _ _).set _ _).congr (fun j _ => ?_), (h.2.setCell (Nat.le_refl _) _).setCell (Nat.le_refl _) _⟩
  unfold toE
  by_cases e1 : j = k * 2 + 1
  · subst e1; rw [if_pos rfl, if_pos (by omega), show (k * 2 + 1) / 2 = k from by omega, show (k * 2 + 1) % 2 = 1 from by omega, hs]; rfl
  rw [if_neg e1]
  by_cases e0 : j = k * 2
  · subst e0; rw [if_pos rfl, if_pos (by omega), show (k * 2) / 2 = k from by omega, show (k * 2) % 2 = 0 from by omega, hs]; rfl
  rw [if_neg e0]
  by_cases l : j / 2 < k
  · rw [if_pos l, if_pos (by omega)]
  · rw [if_neg l, if_neg (by omega)]
theorem ToEs.zero {w wr : World} {n k : Nat} {es : List (Int × Int)} (h : ToEs w wr n es k) (hk : k < n) :
    wr.cell? ⟨w.heap.size, k * 2, none⟩ = some (.int .i64 0) ∧ wr.cell? ⟨w.heap.size, k * 2 + 1, none⟩ = some (.int .i64 0) ∧ ∀ j, wr.frozen? ⟨w.heap.size, j, none⟩ = false := by
  refine ⟨?_, ?_, fun j => h.1.frozen j⟩
  · have := h.1.cell (i := k * 2) (by omega)
    rw [this, toE, if_neg (by omega), show k * 2 % 2 = 0 from by omega]; rfl
  · have := h.1.cell (i := k * 2 + 1) (by omega)
    rw [this, toE, if_neg (by omega), show (k * 2 + 1) % 2 = 1 from by omega]; rfl

theorem toEvents_any (A : Option Addr) (n cap : Nat) (es : List (Int × Int)) (w : World) (hn : es.length = n) (hm : n ≤ 1048576) (h : EvI w A es) :
    Calls Try.prog 36 #[.slice A n cap] w fun e w' => e = .returned (.slice (some ⟨w.heap.size, 0, none⟩) n n) ∧ EvV w' w.heap.size w'.heap.size (some ⟨w.heap.size, 0, none⟩) es ∧ Below w.heap.size w w' := by
  have hmk := make_events n hm
  have Hn := Lib.hid hn
  clear hn
  have HI := Lib.hid h
  clear h
  go_enter Try.func36, Try.ntmps36
  go_wp2
  clear hmk
  go_loopw [4] (fun i wr => ∃ k : Nat, k ≤ n ∧ i = .int .i64 k ∧ ToEs w wr n es k) (fun i _ => n - (intOf i).toNat)
  case atStart => exact ⟨0, Nat.zero_le _, rfl, ToEs.start w n es⟩
  case round =>
    obtain ⟨k, hk, rfl, hr⟩ := hrel
    by_cases hlt : k < n
    · obtain ⟨b, off, rfl, hc⟩ := HI.out.below hr.2 (by have := Hn.out; omega)
      obtain ⟨c0, c1⟩ := hc k (by have := Hn.out; omega)
      clear hc
      have Hr := Lib.hid hr
      clear hr
      obtain ⟨s, hs⟩ : ∃ s, es.getD k (0, 0) = s := ⟨_, rfl⟩
      rw [hs] at c0 c1
      have Hs := Lib.hid hs
      clear hs
      go_wp2_with fail
      refine (toEvent_any _ _ _).mono ?_
      rintro e w1 ⟨rfl, hb⟩
      have hr := Hr.out.later hb
      obtain ⟨z0, z1, zf⟩ := hr.zero hlt
      have Hq := Lib.hid (hr.step Hs.out)
      clear hr
      go_wp2
      go_roundw
      case rel => exact ⟨k + 1, by omega, by go_num, Hq.out⟩
      case measure => simp [intOf]; omega
    · have Hr := Lib.hid hr
      clear hr
      obtain rfl : k = n := by omega
      go_wp2
      go_ret
      refine ⟨rfl, fun _ => ⟨_, rfl, Nat.le_refl _, Hr.out.1.lt, fun i hi => ⟨?_, ?_, fun j => Hr.out.1.frozen j⟩⟩, Hr.out.2⟩
      · have := Hr.out.1.cell (i := i * 2) (by have := Hn.out; omega)
        rw [this, toE, if_pos (by have := Hn.out; omega), show i * 2 / 2 = i from by omega, show i * 2 % 2 = 0 from by omega]; rfl
      · have := Hr.out.1.cell (i := i * 2 + 1) (by have := Hn.out; omega)
        rw [this, toE, if_pos (by have := Hn.out; omega), show (i * 2 + 1) / 2 = i from by omega, show (i * 2 + 1) % 2 = 1 from by omega]; rfl

set_option maxRecDepth 100000 in
set_option maxHeartbeats 400000 in
theorem eqEvents_same (A1 A2 : Option Addr) (n c1 c2 : Nat) (es : List (Int × Int)) (w : World) (hn : es.length = n) (hm : n ≤ 1048576) (h1 : EvI w A1 es) (h2 : EvI w A2 es) :
    Calls Try.prog 38 #[.slice A1 n c1, .slice A2 n c2] w fun e w' => e = .returned (.bool true) ∧ Below w.heap.size w w' := by
  have Hn := Lib.hid hn
  clear hn
  have H1 := Lib.hid h1
  have H2 := Lib.hid h2
  clear h1 h2
  go_enter Try.func38, Try.ntmps38
  go_wp2
  go_loopw [5] (fun i wr => ∃ k : Nat, k ≤ n ∧ i = .int .i64 k ∧ Below w.heap.size w wr) (fun i _ => n - (intOf i).toNat)
  case atStart => exact ⟨0, Nat.zero_le _, rfl, Below.refl _ _⟩
  case round =>
    obtain ⟨k, hk, rfl, hr⟩ := hrel
    by_cases hlt : k < n
    · obtain ⟨g, off, rfl, hc⟩ := (H1.out.below hr) (by have := Hn.out; omega)
      obtain ⟨c0, c1⟩ := hc k (by have := Hn.out; omega)
      clear hc
      obtain ⟨g', off', rfl, hc⟩ := (H2.out.below hr) (by have := Hn.out; omega)
      obtain ⟨d0, d1⟩ := hc k (by have := Hn.out; omega)
      clear hc
      generalize es.getD k (0, 0) = s at c0 c1 d0 d1
      go_wp2
      go_still_tail 8, (by kernel_rfl)
      change wpList _ _ _ _ _ wr.drew
      go_wp2_with fail
      refine (eqEvent_same _ _ _).mono ?_
      rintro e w1 ⟨rfl, hb⟩
      go_wp2
      go_roundw
      case rel => exact ⟨k + 1, by omega, by go_num, bel_trans hr (bel_of_drew hb)⟩
      case measure => simp [intOf]; omega
    · go_wp2
      go_ret
      exact ⟨rfl, hr⟩

def MarkE (w wr : World) (lo hi : Nat) (A : Option Addr) (n : Nat) : Prop :=
  (0 < n → ∃ g, A = some ⟨g, 0, none⟩ ∧ lo ≤ g ∧ g < hi ∧ (∀ j, j < n * 2 → (wr.cell? ⟨g, j, none⟩).isSome = true) ∧ ∀ o, wr.frozen? ⟨g, o, none⟩ = false) ∧ Turns lo hi w wr
theorem MarkE.set {w wr : World} {lo hi g n i : Nat} (h : MarkE w wr lo hi (some ⟨g, 0, none⟩) n) (hn : 0 < n) (u : Value) : MarkE w (wr.setCell ⟨g, i, none⟩ u) lo hi (some ⟨g, 0, none⟩) n := by
  obtain ⟨g', e, h1, h2, h3, h4⟩ := h.1 hn
  cases e
  exact ⟨fun _ => ⟨g, rfl, h1, h2, fun j hj => some_set (h3 j hj), fun o => by rw [World.frozen?_setCell]; exact h4 o⟩, h.2.setCell h1 h2 _⟩

set_option maxHeartbeats 800000 in
theorem markEvents_any (A : Option Addr) (n cap lo hi : Nat) (k : Int) (es : List (Int × Int)) (w : World) (hn : es.length = n) (hm : n ≤ 1048576) (hk0 : 0 ≤ k) (hk1 : k ≤ 1099511627776) (h : EvV w lo hi A es) :
    Calls Try.prog 39 #[.slice A n cap, .int .i64 k] w fun e w' => e = .returned (.int .i64 (k + 2 * n)) ∧ Turns lo hi w w' := by
  have HS : Hid (MarkE w w lo hi A n) := ⟨fun hp => by
    obtain ⟨g, e, h1, h2, h3⟩ := h (by omega)
    refine ⟨g, e, h1, h2, fun j hj => ?_, (h3 0 (by omega)).2.2⟩
    have hm : j % 2 = 0 ∨ j % 2 = 1 := by omega
    rcases hm with hm | hm
    · have := (h3 (j / 2) (by omega)).1
      rw [show j / 2 * 2 = j from by omega] at this
      rw [this]; rfl
    · have := (h3 (j / 2) (by omega)).2.1
      rw [show j / 2 * 2 + 1 = j from by omega] at this
      rw [this]; rfl, Turns.of_below (Below.refl _ _)⟩
  clear h hn
  go_enter Try.func39, Try.ntmps39
  go_wp2
  go_loopw [1, 5] (fun t i wr => ∃ j : Nat, j ≤ n ∧ i = .int .i64 j ∧ t = .int .i64 (k + 2 * j) ∧ MarkE w wr lo hi A n) (fun _ i _ => n - (intOf i).toNat)
  case atStart => exact ⟨0, Nat.zero_le _, rfl, by simp, HS.out⟩
  case round =>
    obtain ⟨j, hj, rfl, rfl, hr⟩ := hrel
    clear HS
    by_cases hlt : j < n
    · obtain ⟨g, rfl, h1, h2, h3, h4⟩ := hr.1 (by omega)
      obtain ⟨x0, c0⟩ := Option.isSome_iff_exists.1 (h3 (j * 2) (by omega))
      obtain ⟨x1, c1⟩ := Option.isSome_iff_exists.1 (h3 (j * 2 + 1) (by omega))
      have Hr := Lib.hid ((hr.set (i := j * 2) (by omega) (.int .i64 (k + 2 * j))).set (i := j * 2 + 1) (by omega) (.int .i64 (k + 2 * j + 1)))
      clear hr h3
      go_wp2
      go_roundw
      case rel => exact ⟨j + 1, by omega, by go_num, by go_num, Hr.out⟩
      case measure => simp [intOf]; omega
    · have Hr := Lib.hid hr
      clear hr
      obtain rfl : j = n := by omega
      go_wp2
      go_ret
      exact ⟨rfl, Hr.out.2⟩
end Go.Proofs.Ytmmoelijpemlfaa.Bk
