/- Words for connections in memory: a slice of them reads as a list; the laws' helpers on such slices: a copy, the comparison of two that read alike. -/
import Derived.Test.YtehdbdolhkflcaaNl0
import Derived.Test.YtehdbdolhkflcaaNk0
import Derived.Test.YtehdbdolhkflcaaNb0
import Derived.Deep.QuietTactic
import Derived.BigQuiet
import Derived.RegionTactic
import Derived.StillTailTactics
namespace Go.Proofs.Ytehdbdolhkflcaa.Po
open Go.RowKit Go.Deep Base

/-- A connection: its numbers in their order (Id, State, Born, Since, Ticket) and Told. -/
abbrev Cn := (Nat → Int) × Bool
def zCn : Cn := (fun _ => 0, false)
structure Ev where
  kind : Int
  ticket : Int
  conn : Int
structure Op where
  kind : Int
  a : Int
  b : Int
  c : Int
structure Pl where
  c : Nat → Int
  now : Int
  mode : Int
  nc : Int
  nt : Int
  cs : List Cn
  x : Ln.Lx
  b : Bk.Br
  fails : Int
  redial : Int
  drain : Int
/-- A pool at work: the events so far are kept beside it. -/
structure Rn where
  p : Pl
  ev : List Ev

/-- Where a pool's rows lie: the connections, the line's two, the breaker's failures. -/
structure PA where
  C : Option Addr
  cc : Nat
  A : Option Addr
  ca : Nat
  B : Option Addr
  cb : Nat
  F : Option Addr
  fc : Nat
/-- The cell of field j of a connection. -/
def cellC (k : Cn) (j : Nat) : Value := if j < 5 then .int .i64 (k.1 j) else .bool k.2
/-- A connection's six cells in block b from cell o on. -/
def KO (w : World) (b o : Nat) (k : Cn) : Prop := ∀ j, j < 6 → w.cell? ⟨b, o + j, none⟩ = some (cellC k j)
theorem KO.six {w : World} {b o : Nat} {k : Cn} (h : KO w b o k) :
    w.cell? ⟨b, o, none⟩ = some (.int .i64 (k.1 0)) ∧ w.cell? ⟨b, o + 1, none⟩ = some (.int .i64 (k.1 1)) ∧ w.cell? ⟨b, o + 2, none⟩ = some (.int .i64 (k.1 2))
    ∧ w.cell? ⟨b, o + 3, none⟩ = some (.int .i64 (k.1 3)) ∧ w.cell? ⟨b, o + 4, none⟩ = some (.int .i64 (k.1 4)) ∧ w.cell? ⟨b, o + 5, none⟩ = some (.bool k.2) :=
  ⟨h 0 (by omega), h 1 (by omega), h 2 (by omega), h 3 (by omega), h 4 (by omega), h 5 (by omega)⟩
theorem KO.of_six {w : World} {b o : Nat} {k : Cn} (h : w.cell? ⟨b, o, none⟩ = some (.int .i64 (k.1 0)) ∧ w.cell? ⟨b, o + 1, none⟩ = some (.int .i64 (k.1 1)) ∧ w.cell? ⟨b, o + 2, none⟩ = some (.int .i64 (k.1 2))
    ∧ w.cell? ⟨b, o + 3, none⟩ = some (.int .i64 (k.1 3)) ∧ w.cell? ⟨b, o + 4, none⟩ = some (.int .i64 (k.1 4)) ∧ w.cell? ⟨b, o + 5, none⟩ = some (.bool k.2)) : KO w b o k := by
  obtain ⟨h0, h1, h2, h3, h4, h5⟩ := h
  intro j hj
  match j, hj with
  | 0, _ => exact h0
  | 1, _ => exact h1
  | 2, _ => exact h2
  | 3, _ => exact h3
  | 4, _ => exact h4
  | 5, _ => exact h5
theorem KO.of_block {w w' : World} {b o : Nat} {k : Cn} (h : KO w b o k) (e : w'.heap[b]? = w.heap[b]?) : KO w' b o k := fun j hj => (World.cell?_of_block e).trans (h j hj)

/-- The connections cs lie in block b from its head on, and may be written. -/
def CnR (w : World) (b : Nat) (cs : List Cn) : Prop := ∀ i, i < cs.length → KO w b (i * 6) (cs.getD i zCn) ∧ ∀ j, w.frozen? ⟨b, j, none⟩ = false
/-- A slice of connections at A reads as cs; it lies in a block from lo on and ahead of hi. -/
def CnV (w : World) (lo hi : Nat) (A : Option Addr) (cs : List Cn) : Prop := 0 < cs.length → ∃ g, A = some ⟨g, 0, none⟩ ∧ lo ≤ g ∧ g < hi ∧ CnR w g cs
/-- A slice of the law's own connections at A reads as cs. -/
def CnL (w : World) (A : Option Addr) (cs : List Cn) : Prop := 0 < cs.length → ∃ b off, A = some ⟨b, off, none⟩ ∧ ∀ i, i < cs.length → KO w b (off + i * 6) (cs.getD i zCn)

theorem CnR.of_block {w w' : World} {b : Nat} {cs : List Cn} (h : CnR w b cs) (e : w'.heap[b]? = w.heap[b]?) : CnR w' b cs := fun i hi =>
  ⟨(h i hi).1.of_block e, fun j => (World.frozen?_of_block (w := w) e).trans ((h i hi).2 j)⟩
theorem CnV.of_block {w w' : World} {lo hi : Nat} {A : Option Addr} {cs : List Cn} (h : CnV w lo hi A cs) (e : ∀ g, lo ≤ g → g < hi → w'.heap[g]? = w.heap[g]?) : CnV w' lo hi A cs := by
  intro hp
  obtain ⟨g, rfl, h1, h2, h3⟩ := h hp
  exact ⟨g, rfl, h1, h2, h3.of_block (e g h1 h2)⟩
theorem CnV.wide {w : World} {lo hi lo' hi' : Nat} {A : Option Addr} {cs : List Cn} (h : CnV w lo hi A cs) (h1 : lo' ≤ lo) (h2 : hi ≤ hi') : CnV w lo' hi' A cs := by
  intro hp
  obtain ⟨g, rfl, h1', h2', h3⟩ := h hp
  exact ⟨g, rfl, by omega, by omega, h3⟩
theorem CnV.below {w w' : World} {lo hi B : Nat} {A : Option Addr} {cs : List Cn} (h : CnV w lo hi A cs) (hb : Below B w w') (hB : hi ≤ B) : CnV w' lo hi A cs := h.of_block fun g _ h2 => hb.block g (by omega)
theorem CnV.sets {w : World} {lo hi g o : Nat} {A : Option Addr} {cs : List Cn} {r : List Value} (h : CnV w lo hi A cs) (hg : g < lo ∨ hi ≤ g) : CnV (Ln.sets g o r w) lo hi A cs := h.of_block fun k h1 h2 => Ln.sets_other g (by omega) r o w
theorem CnV.nil (w : World) (lo hi : Nat) (A : Option Addr) : CnV w lo hi A [] := fun h => absurd h (by simp)
theorem CnL.below {w w' : World} {A : Option Addr} {cs : List Cn} (h : CnL w A cs) (hb : Below w.heap.size w w') : CnL w' A cs := by
  intro hp
  obtain ⟨b, off, rfl, hc⟩ := h hp
  have hlt := World.block_lt_of_cell? _ _ (hc 0 hp 0 (by omega))
  exact ⟨b, off, rfl, fun i hi => (hc i hi).of_block (hb.block b hlt)⟩

theorem toConn_any (k : Nat → Int) (t : Bool) (w : World) :
    Calls Try.prog 79 #[.agg #[.int .i64 (k 0), .int .i64 (k 1), .int .i64 (k 2), .int .i64 (k 3), .int .i64 (k 4), .bool t]] w fun e w' => e = .returned (.agg #[.int .i64 (k 0), .int .i64 (k 1), .int .i64 (k 2), .int .i64 (k 3), .int .i64 (k 4), .bool t]) ∧ Below w.heap.size w w' := by
  generalize k 0 = k0, k 1 = k1, k 2 = k2, k 3 = k3, k 4 = k4
  go_enter Try.func79, Try.ntmps79
  go_wp2
  exact bodyPost_ret (v := .agg #[.int .i64 k0, .int .i64 k1, .int .i64 k2, .int .i64 k3, .int .i64 k4, .bool t]) (by simp [results, Try.results79, go_sem]) rfl ⟨rfl, (((Below.refl _ _).alloc (Nat.le_refl _) _).alloc (by simp) _).alloc (by simp; omega) _⟩

theorem eqConn_same (k : Nat → Int) (t : Bool) (w : World) :
    Calls Try.prog 66 #[.agg #[.int .i64 (k 0), .int .i64 (k 1), .int .i64 (k 2), .int .i64 (k 3), .int .i64 (k 4), .bool t], .agg #[.int .i64 (k 0), .int .i64 (k 1), .int .i64 (k 2), .int .i64 (k 3), .int .i64 (k 4), .bool t]] w fun e w' => e = .returned (.bool true) ∧ Below w.heap.size w w' := by
  generalize k 0 = k0, k 1 = k1, k 2 = k2, k 3 = k3, k 4 = k4
  go_enter Try.func66, Try.ntmps66
  go_wp2
  go_ret
  exact ⟨rfl, ((Below.refl _ _).alloc (Nat.le_refl _) _).alloc (by simp) _⟩

theorem infoConn : (Try.prog.info? 76).map (fun i => (i.zero, i.size, i.bytes)) = some (some (.agg #[.int .i64 0, .int .i64 0, .int .i64 0, .int .i64 0, .int .i64 0, .bool false]), 6, 48) := by kernel_rfl

theorem make_conns (n : Nat) (hn : n ≤ 1048576) (w : World) :
    (Instr.makeSlice 25 (.int .i64 (n : Int)) (.int .i64 (n : Int))).run Try.prog w = .ok (.slice (some ⟨w.heap.size, 0, none⟩) n n) (w.alloc (.cells (madeCells #[.int .i64 0, .int .i64 0, .int .i64 0, .int .i64 0, .int .i64 0, .bool false] (n * 6)) 76)) := by
  obtain ⟨i, hi, hz, hs, hb⟩ := info_parts infoConn
  have h := run_make (P := Try.prog) w 25 76 i _ Try.underlying25 hi hz .i64 .i64 n n (by omega) (by omega) (by rw [hb]; omega) (by omega)
  simp only [Int.toNat_natCast, hs] at h
  exact h

def toFC (cs : List Cn) (k j : Nat) : Value := if j / 6 < k then cellC (cs.getD (j / 6) zCn) (j % 6) else cellC zCn (j % 6)

def ToCs (w wr : World) (n : Nat) (cs : List Cn) (k : Nat) : Prop :=
  wr.rowIs w.heap.size 76 (n * 6) (toFC cs k) ∧ Below w.heap.size w wr

theorem ToCs.start (w : World) (n : Nat) (cs : List Cn) : ToCs w (w.alloc (.cells (madeCells #[.int .i64 0, .int .i64 0, .int .i64 0, .int .i64 0, .int .i64 0, .bool false] (n * 6)) 76)) n cs 0 := by
  refine ⟨?_, bel_alloc _ _⟩
  have h := World.rowIs_alloc w (madeCells #[.int .i64 0, .int .i64 0, .int .i64 0, .int .i64 0, .int .i64 0, .bool false] (n * 6)) 76 (toFC cs 0) (fun i hi => by
    rw [size_madeCells] at hi
    have hm : i % 6 = 0 ∨ i % 6 = 1 ∨ i % 6 = 2 ∨ i % 6 = 3 ∨ i % 6 = 4 ∨ i % 6 = 5 := by omega
    rcases hm with h | h | h | h | h | h <;> simp [madeCells, hi, toFC, cellC, zCn, h])
  rw [size_madeCells] at h
  exact h

theorem ToCs.later {w wr w' : World} {n k : Nat} {cs : List Cn} (h : ToCs w wr n cs k) (hb : Below wr.heap.size wr w') : ToCs w w' n cs k :=
  ⟨h.1.of_block (hb.block _ h.1.lt), h.2.trans (hb.mono h.2.size)⟩

/-- The world behind the stores of a connection's six cells. -/
def putC (w : World) (b o : Nat) (k : Cn) : World :=
  (((((w.setCell ⟨b, o, none⟩ (.int .i64 (k.1 0))).setCell ⟨b, o + 1, none⟩ (.int .i64 (k.1 1))).setCell ⟨b, o + 2, none⟩ (.int .i64 (k.1 2))).setCell ⟨b, o + 3, none⟩ (.int .i64 (k.1 3))).setCell ⟨b, o + 4, none⟩ (.int .i64 (k.1 4))).setCell ⟨b, o + 5, none⟩ (.bool k.2)

theorem rowIs_put {w : World} {b n : Nat} {T : TypeId} {f : Nat → Value} (h : w.rowIs b T n f) (o : Nat) (k : Cn) : (putC w b o k).rowIs b T n (fun j => if o ≤ j ∧ j < o + 6 then cellC k (j - o) else f j) := by
  refine ((((((h.set _ _).set _ _).set _ _).set _ _).set _ _).set _ _).congr fun j _ => ?_
  by_cases e : o ≤ j ∧ j < o + 6
  · rw [if_pos e]
    have : j = o ∨ j = o + 1 ∨ j = o + 2 ∨ j = o + 3 ∨ j = o + 4 ∨ j = o + 5 := by omega
    rcases this with rfl | rfl | rfl | rfl | rfl | rfl
    · rw [if_neg (by omega), if_neg (by omega), if_neg (by omega), if_neg (by omega), if_neg (by omega), if_pos rfl, Nat.sub_self]; rfl
    · rw [if_neg (by omega), if_neg (by omega), if_neg (by omega), if_neg (by omega), if_pos rfl, Nat.add_sub_cancel_left]; rfl
    · rw [if_neg (by omega), if_neg (by omega), if_neg (by omega), if_pos rfl, Nat.add_sub_cancel_left]; rfl
    · rw [if_neg (by omega), if_neg (by omega), if_pos rfl, Nat.add_sub_cancel_left]; rfl
    · rw [if_neg (by omega), if_pos rfl, Nat.add_sub_cancel_left]; rfl
    · rw [if_pos rfl, Nat.add_sub_cancel_left]; rfl
  · rw [if_neg e, if_neg (by omega), if_neg (by omega), if_neg (by omega), if_neg (by omega), if_neg (by omega), if_neg (by omega)]

theorem putC_below {a w : World} {B b o : Nat} {k : Cn} (h : Below B a w) (hB : B ≤ b) : Below B a (putC w b o k) :=
  (((((h.setCell hB _).setCell hB _).setCell hB _).setCell hB _).setCell hB _).setCell hB _

theorem ToCs.step {w wr : World} {n k : Nat} {cs : List Cn} (h : ToCs w wr n cs k) {s : Cn} (hs : cs.getD k zCn = s) : ToCs w (putC wr w.heap.size (k * 6) s) n cs (k + 1) := by
  refine ⟨(rowIs_put h.1 (k * 6) s).congr fun j _ => ?_, putC_below h.2 (Nat.le_refl _)⟩
  unfold toFC
  by_cases e : k * 6 ≤ j ∧ j < k * 6 + 6
  · rw [if_pos e, if_pos (by omega), show j / 6 = k from by omega, show j % 6 = j - k * 6 from by omega, hs]
  · rw [if_neg e]
    by_cases l : j / 6 < k
    · rw [if_pos l, if_pos (by omega)]
    · rw [if_neg l, if_neg (by omega)]

theorem ToCs.zero {w wr : World} {n k : Nat} {cs : List Cn} (h : ToCs w wr n cs k) (hk : k < n) : KO wr w.heap.size (k * 6) zCn ∧ ∀ j, wr.frozen? ⟨w.heap.size, j, none⟩ = false := by
  refine ⟨fun j hj => ?_, fun j => h.1.frozen j⟩
  have := h.1.cell (i := k * 6 + j) (by omega)
  rw [this, toFC, if_neg (by omega), show (k * 6 + j) % 6 = j from by omega]

theorem cr_of_row {w : World} {b n : Nat} {cs : List Cn} (h : w.rowIs b 76 (n * 6) (toFC cs n)) (hn : cs.length = n) : CnR w b cs := by
  intro i hi
  refine ⟨fun j hj => ?_, fun j => h.frozen j⟩
  have := h.cell (i := i * 6 + j) (by omega)
  rw [this, toFC, if_pos (by omega), show (i * 6 + j) / 6 = i from by omega, show (i * 6 + j) % 6 = j from by omega]

set_option maxRecDepth 100000 in
set_option maxHeartbeats 1000000 in
theorem toConnS_any (A : Option Addr) (n cap : Nat) (cs : List Cn) (w : World) (hn : cs.length = n) (hm : n ≤ 1048576) (h : CnL w A cs) :
    Calls Try.prog 41 #[.slice A n cap] w fun e w' => ∃ A' cap', e = .returned (.slice A' n cap') ∧ CnV w' w.heap.size w'.heap.size A' cs ∧ Below w.heap.size w w' := by
  have hmk := make_conns n hm
  have Hn := Lib.hid hn
  clear hn
  have HI := Lib.hid h
  clear h
  go_enter Try.func41, Try.ntmps41
  go_wp2
  clear hmk
  go_loopw [4] (fun i wr => ∃ k : Nat, k ≤ n ∧ i = .int .i64 k ∧ ToCs w wr n cs k) (fun i _ => n - (intOf i).toNat)
  case atStart => exact ⟨0, Nat.zero_le _, rfl, ToCs.start w n cs⟩
  case round =>
    obtain ⟨k, hk, rfl, hr⟩ := hrel
    by_cases hlt : k < n
    · obtain ⟨b, off, rfl, hc⟩ := HI.out.below hr.2 (by have := Hn.out; omega)
      obtain ⟨c0, c1, c2, c3, c4, c5⟩ := (hc k (by have := Hn.out; omega)).six
      clear hc
      have Hr := Lib.hid hr
      clear hr
      obtain ⟨s, hs⟩ : ∃ s, cs.getD k zCn = s := ⟨_, rfl⟩
      rw [hs] at c0 c1 c2 c3 c4 c5
      have Hs := Lib.hid hs
      clear hs
      obtain ⟨s, st⟩ := s
      dsimp only at c0 c1 c2 c3 c4 c5
      go_wp2_with fail
      refine (toConn_any _ _ _).mono ?_
      rintro e w1 ⟨rfl, hb⟩
      have hr := Hr.out.later hb
      obtain ⟨hz, zf⟩ := hr.zero hlt
      obtain ⟨z0, z1, z2, z3, z4, z5⟩ := hz.six
      have Hq := Lib.hid (hr.step Hs.out)
      clear hr hz
      go_wp2
      go_roundw
      case rel => exact ⟨k + 1, by omega, by go_num, Hq.out⟩
      case measure => simp [intOf]; omega
    · have Hr := Lib.hid hr
      clear hr
      obtain rfl : k = n := by omega
      go_wp2
      go_ret
      exact ⟨_, _, rfl, fun _ => ⟨_, rfl, Nat.le_refl _, Hr.out.1.lt, cr_of_row Hr.out.1 Hn.out⟩, Hr.out.2⟩

set_option maxRecDepth 100000 in
set_option maxHeartbeats 1000000 in
theorem eqConnS_same (A1 A2 : Option Addr) (n c1 c2 lo hi lo' hi' : Nat) (cs : List Cn) (w : World) (hn : cs.length = n) (hm : n ≤ 1048576) (h1 : CnV w lo hi A1 cs) (h2 : CnV w lo' hi' A2 cs) (hs : hi ≤ w.heap.size) (hs' : hi' ≤ w.heap.size) :
    Calls Try.prog 29 #[.slice A1 n c1, .slice A2 n c2] w fun e w' => e = .returned (.bool true) ∧ Below w.heap.size w w' := by
  have Hn := Lib.hid hn
  clear hn
  have H1 := Lib.hid h1
  have H2 := Lib.hid h2
  clear h1 h2
  go_enter Try.func29, Try.ntmps29
  go_wp2
  go_loopw [5] (fun i wr => ∃ k : Nat, k ≤ n ∧ i = .int .i64 k ∧ Below w.heap.size w wr) (fun i _ => n - (intOf i).toNat)
  case atStart => exact ⟨0, Nat.zero_le _, rfl, Below.refl _ _⟩
  case round =>
    obtain ⟨k, hk, rfl, hr⟩ := hrel
    by_cases hlt : k < n
    · obtain ⟨g, rfl, _, _, hc⟩ := (H1.out.below hr hs) (by have := Hn.out; omega)
      obtain ⟨c0, c1, c2, c3, c4, c5⟩ := (hc k (by have := Hn.out; omega)).1.six
      clear hc
      obtain ⟨g', rfl, _, _, hc⟩ := (H2.out.below hr hs') (by have := Hn.out; omega)
      obtain ⟨d0, d1, d2, d3, d4, d5⟩ := (hc k (by have := Hn.out; omega)).1.six
      clear hc
      generalize cs.getD k zCn = s at c0 c1 c2 c3 c4 c5 d0 d1 d2 d3 d4 d5
      obtain ⟨s, st⟩ := s
      dsimp only at c0 c1 c2 c3 c4 c5 d0 d1 d2 d3 d4 d5
      go_wp2
      go_still_tail 8, (by kernel_rfl)
      change wpList _ _ _ _ _ wr.drew
      go_wp2_with fail
      refine (eqConn_same _ _ _).mono ?_
      rintro e w1 ⟨rfl, hb⟩
      go_wp2
      go_roundw
      case rel => exact ⟨k + 1, by omega, by go_num, bel_trans hr (bel_of_drew hb)⟩
      case measure => simp [intOf]; omega
    · go_wp2
      go_ret
      exact ⟨rfl, hr⟩
end Go.Proofs.Ytehdbdolhkflcaa.Po
