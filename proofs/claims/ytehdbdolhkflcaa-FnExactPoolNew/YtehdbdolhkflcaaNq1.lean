/- Contracts of the laws' helpers on slots: a copy, the comparison of two that are alike. Contracts of the laws' helpers on queues: size, copy, comparison of two that read alike. Contracts of the laws' helpers that write marks into a queue's slots and look for them again. What is known of a queue of the law's own type that came in: its slice reads as a list of slots. What spec.l01Has answers; rows of integers that a call has made by append. What spec.QueueOk answers: whether the two walks of the plain mathematics go through. What spec.l02Copy and spec.NewQueue make. What spec.NewQueue makes. The program's own form of a queue in memory (an array of slots and four numbers in one block), and the copy of a slice of slots. What impl.NewQueue makes: the model's empty queue. -/
import Derived.Test.YtehdbdolhkflcaaNq0
import Derived.Deep.QuietTactic
import Derived.BigQuiet
import Derived.RegionTactic
import Derived.StillTailTactics
import Derived.Deep.Slices
import Derived.Deep.Fields
import Derived.ChangeSame
import Derived.OpenShut
import Derived.Maps.AppendAt
import Derived.Deep.RegionLaw
import Derived.Deep.AppendLies
import Derived.Deep.WholeRow
import Derived.Lib.SliceRun
import Derived.Deep.RegionHeld3
namespace Go.Proofs.Ytehdbdolhkflcaa.Que
open Go.RowKit Go.Deep Base

def slV (s : Sl) : Value := .agg #[.int .i64 s.id, .int .i64 s.prev, .int .i64 s.next, .bool s.used]

set_option maxRecDepth 100000 in
theorem toSlot_any (a b c : Int) (d : Bool) (w : World) :
    Calls Try.prog 124 #[.agg #[.int .i64 a, .int .i64 b, .int .i64 c, .bool d]] w fun e w' => e = .returned (.agg #[.int .i64 a, .int .i64 b, .int .i64 c, .bool d]) ∧ Below w.heap.size w w' := by
  go_enter Try.func124, Try.ntmps124
  go_wp2
  exact bodyPost_ret (v := .agg #[.int .i64 a, .int .i64 b, .int .i64 c, .bool d]) (by simp [results, Try.results124, go_sem]) rfl ⟨rfl, (((Below.refl _ _).alloc (Nat.le_refl _) _).alloc (by simp) _).alloc (by simp; omega) _⟩

set_option maxRecDepth 100000 in
theorem eqSlot_same (a b c : Int) (d : Bool) (w : World) :
    Calls Try.prog 122 #[.agg #[.int .i64 a, .int .i64 b, .int .i64 c, .bool d], .agg #[.int .i64 a, .int .i64 b, .int .i64 c, .bool d]] w fun e w' => e = .returned (.bool true) ∧ Below w.heap.size w w' := by
  cases d
  all_goals
    go_enter Try.func122, Try.ntmps122
    go_wp2
    go_ret
    exact ⟨rfl, ((Below.refl _ _).alloc (Nat.le_refl _) _).alloc (by simp) _⟩

theorem infoSlot : (Try.prog.info? 122).map (fun i => (i.zero, i.size, i.bytes)) = some (some (.agg #[.int .i64 0, .int .i64 0, .int .i64 0, .bool false]), 4, 32) := by kernel_rfl

theorem make_slots (n : Nat) (hn : n ≤ 1048576) (w : World) :
    (Instr.makeSlice 26 (.int .i64 (n : Int)) (.int .i64 (n : Int))).run Try.prog w = .ok (.slice (some ⟨w.heap.size, 0, none⟩) n n) (w.alloc (.cells (madeCells #[.int .i64 0, .int .i64 0, .int .i64 0, .bool false] (n * 4)) 122)) := by
  obtain ⟨i, hi, hz, hs, hb⟩ := info_parts infoSlot
  have h := run_make (P := Try.prog) w 26 122 i _ Try.underlying26 hi hz .i64 .i64 n n (by omega) (by omega) (by rw [hb]; omega) (by omega)
  simp only [Int.toNat_natCast, hs] at h
  exact h

def toF (ss : List Sl) (k j : Nat) : Value := if j / 4 < k then (ss.getD (j / 4) zSl).at (j % 4) else zSl.at (j % 4)

def ToSl (w wr : World) (n : Nat) (ss : List Sl) (k : Nat) : Prop :=
  wr.rowIs w.heap.size 122 (n * 4) (toF ss k) ∧ Below w.heap.size w wr

theorem ToSl.start (w : World) (n : Nat) (ss : List Sl) : ToSl w (w.alloc (.cells (madeCells #[.int .i64 0, .int .i64 0, .int .i64 0, .bool false] (n * 4)) 122)) n ss 0 := by
  refine ⟨?_, bel_alloc _ _⟩
  have h := World.rowIs_alloc w (madeCells #[.int .i64 0, .int .i64 0, .int .i64 0, .bool false] (n * 4)) 122 (toF ss 0) (fun i hi => by
    rw [size_madeCells] at hi
    have hm : i % 4 = 0 ∨ i % 4 = 1 ∨ i % 4 = 2 ∨ i % 4 = 3 := by omega
    rcases hm with h | h | h | h <;> simp [madeCells, hi, toF, Sl.at, zSl, h])
  rw [size_madeCells] at h
  exact h

theorem ToSl.later {w wr w' : World} {n k : Nat} {ss : List Sl} (h : ToSl w wr n ss k) (hb : Below wr.heap.size wr w') : ToSl w w' n ss k :=
  ⟨h.1.of_block (hb.block _ h.1.lt), h.2.trans (hb.mono h.2.size)⟩

theorem ToSl.step {w wr : World} {n k : Nat} {ss : List Sl} (h : ToSl w wr n ss k) {s : Sl} (hs : ss.getD k zSl = s) :
    ToSl w ((((wr.setCell ⟨w.heap.size, k * 4, none⟩ (.int .i64 s.id)).setCell ⟨w.heap.size, k * 4 + 1, none⟩ (.int .i64 s.prev)).setCell ⟨w.heap.size, k * 4 + 2, none⟩ (.int .i64 s.next)).setCell ⟨w.heap.size, k * 4 + 3, none⟩ (.bool s.used)) n ss (k + 1) := by
  refine ⟨(((((h.1.set _ _).set _ _).set _ _).set _ _)).congr (fun j _ => ?_), (((h.2.setCell (Nat.le_refl _) _).setCell (Nat.le_refl _) _).setCell (Nat.le_refl _) _).setCell (Nat.le_refl _) _⟩
  unfold toF
  by_cases e3 : j = k * 4 + 3
  · subst e3; rw [if_pos rfl, if_pos (by omega), show (k * 4 + 3) / 4 = k from by omega, show (k * 4 + 3) % 4 = 3 from by omega, hs]; rfl
  rw [if_neg e3]
  by_cases e2 : j = k * 4 + 2
  · subst e2; rw [if_pos rfl, if_pos (by omega), show (k * 4 + 2) / 4 = k from by omega, show (k * 4 + 2) % 4 = 2 from by omega, hs]; rfl
  rw [if_neg e2]
  by_cases e1 : j = k * 4 + 1
  · subst e1; rw [if_pos rfl, if_pos (by omega), show (k * 4 + 1) / 4 = k from by omega, show (k * 4 + 1) % 4 = 1 from by omega, hs]; rfl
  rw [if_neg e1]
  by_cases e0 : j = k * 4
  · subst e0; rw [if_pos rfl, if_pos (by omega), show (k * 4) / 4 = k from by omega, show (k * 4) % 4 = 0 from by omega, hs]; rfl
  rw [if_neg e0]
  by_cases l : j / 4 < k
  · rw [if_pos l, if_pos (by omega)]
  · rw [if_neg l, if_neg (by omega)]

theorem ToSl.zero {w wr : World} {n k : Nat} {ss : List Sl} (h : ToSl w wr n ss k) (hk : k < n) :
    wr.cell? ⟨w.heap.size, k * 4, none⟩ = some (.int .i64 0) ∧ wr.cell? ⟨w.heap.size, k * 4 + 1, none⟩ = some (.int .i64 0) ∧ wr.cell? ⟨w.heap.size, k * 4 + 2, none⟩ = some (.int .i64 0) ∧ wr.cell? ⟨w.heap.size, k * 4 + 3, none⟩ = some (.bool false)
    ∧ ∀ j, wr.frozen? ⟨w.heap.size, j, none⟩ = false := by
  refine ⟨?_, ?_, ?_, ?_, fun j => h.1.frozen j⟩
  · have := h.1.cell (i := k * 4) (by omega)
    rw [this, toF, if_neg (by omega), show k * 4 % 4 = 0 from by omega]; rfl
  · have := h.1.cell (i := k * 4 + 1) (by omega)
    rw [this, toF, if_neg (by omega), show (k * 4 + 1) % 4 = 1 from by omega]; rfl
  · have := h.1.cell (i := k * 4 + 2) (by omega)
    rw [this, toF, if_neg (by omega), show (k * 4 + 2) % 4 = 2 from by omega]; rfl
  · have := h.1.cell (i := k * 4 + 3) (by omega)
    rw [this, toF, if_neg (by omega), show (k * 4 + 3) % 4 = 3 from by omega]; rfl

theorem rd_of_row {w : World} {b n : Nat} {ss : List Sl} (h : w.rowIs b 122 (n * 4) (toF ss n)) (hn : ss.length = n) : Rd w b ss := by
  intro i hi
  refine ⟨?_, ?_, ?_, ?_, fun j => h.frozen j⟩
  · have := h.cell (i := i * 4) (by omega)
    rw [this, toF, if_pos (by omega), show i * 4 / 4 = i from by omega, show i * 4 % 4 = 0 from by omega]; rfl
  · have := h.cell (i := i * 4 + 1) (by omega)
    rw [this, toF, if_pos (by omega), show (i * 4 + 1) / 4 = i from by omega, show (i * 4 + 1) % 4 = 1 from by omega]; rfl
  · have := h.cell (i := i * 4 + 2) (by omega)
    rw [this, toF, if_pos (by omega), show (i * 4 + 2) / 4 = i from by omega, show (i * 4 + 2) % 4 = 2 from by omega]; rfl
  · have := h.cell (i := i * 4 + 3) (by omega)
    rw [this, toF, if_pos (by omega), show (i * 4 + 3) / 4 = i from by omega, show (i * 4 + 3) % 4 = 3 from by omega]; rfl

set_option maxRecDepth 100000 in
theorem toSlotS_any (A : Option Addr) (n cap : Nat) (ss : List Sl) (w : World) (hn : ss.length = n) (hm : n ≤ 1048576) (h : LSl w A ss) :
    Calls Try.prog 109 #[.slice A n cap] w fun e w' => e = .returned (.slice (some ⟨w.heap.size, 0, none⟩) n n) ∧ SlV w' w.heap.size w'.heap.size (some ⟨w.heap.size, 0, none⟩) ss ∧ Below w.heap.size w w' := by
  have hmk := make_slots n hm
  have Hn := Lib.hid hn
  clear hn
  have HI := Lib.hid h
  clear h
  go_enter Try.func109, Try.ntmps109
  go_wp2
  clear hmk
  go_loopw [4] (fun i wr => ∃ k : Nat, k ≤ n ∧ i = .int .i64 k ∧ ToSl w wr n ss k) (fun i _ => n - (intOf i).toNat)
  case atStart => exact ⟨0, Nat.zero_le _, rfl, ToSl.start w n ss⟩
  case round =>
    obtain ⟨k, hk, rfl, hr⟩ := hrel
    by_cases hlt : k < n
    · obtain ⟨b, off, rfl, hc⟩ := HI.out.below hr.2 (by have := Hn.out; omega)
      obtain ⟨c0, c1, c2, c3⟩ := hc k (by have := Hn.out; omega)
      clear hc
      have Hr := Lib.hid hr
      clear hr
      obtain ⟨s, hs⟩ : ∃ s, ss.getD k zSl = s := ⟨_, rfl⟩
      rw [hs] at c0 c1 c2 c3
      have Hs := Lib.hid hs
      clear hs
      go_wp2_with fail
      refine (toSlot_any _ _ _ _ _).mono ?_
      rintro e w1 ⟨rfl, hb⟩
      have hr := Hr.out.later hb
      obtain ⟨z0, z1, z2, z3, zf⟩ := hr.zero hlt
      have Hq := Lib.hid (hr.step Hs.out)
      clear hr
      go_wp2
      go_roundw
      case rel => exact ⟨k + 1, by omega, by go_num, Hq.out⟩
      case measure => simp [intOf]; omega
    · have Hr := Lib.hid hr
      clear hr
      obtain rfl : k = n := by omega
      go_wp2
      go_ret
      exact ⟨rfl, fun _ => ⟨_, rfl, Nat.le_refl _, Hr.out.1.lt, rd_of_row Hr.out.1 Hn.out⟩, Hr.out.2⟩
end Go.Proofs.Ytehdbdolhkflcaa.Que

namespace Go.Proofs.Ytehdbdolhkflcaa.Que
open Go.RowKit Go.Deep Base

set_option maxRecDepth 100000 in
set_option maxHeartbeats 400000 in
theorem eqSlotS_same (A1 A2 : Option Addr) (n c1 c2 lo hi lo' hi' : Nat) (ss : List Sl) (w : World) (hn : ss.length = n) (hm : n ≤ 1048576) (h1 : SlV w lo hi A1 ss) (h2 : SlV w lo' hi' A2 ss) (hs : hi ≤ w.heap.size) (hs' : hi' ≤ w.heap.size) :
    Calls Try.prog 101 #[.slice A1 n c1, .slice A2 n c2] w fun e w' => e = .returned (.bool true) ∧ Below w.heap.size w w' := by
  have Hn := Lib.hid hn
  clear hn
  have H1 := Lib.hid h1
  have H2 := Lib.hid h2
  clear h1 h2
  go_enter Try.func101, Try.ntmps101
  go_wp2
  go_loopw [5] (fun i wr => ∃ k : Nat, k ≤ n ∧ i = .int .i64 k ∧ Below w.heap.size w wr) (fun i _ => n - (intOf i).toNat)
  case atStart => exact ⟨0, Nat.zero_le _, rfl, Below.refl _ _⟩
  case round =>
    obtain ⟨k, hk, rfl, hr⟩ := hrel
    by_cases hlt : k < n
    · obtain ⟨g, rfl, _, _, hc⟩ := (H1.out.below hr hs) (by have := Hn.out; omega)
      obtain ⟨c0, c1, c2, c3, _⟩ := hc k (by have := Hn.out; omega)
      clear hc
      obtain ⟨g', rfl, _, _, hc⟩ := (H2.out.below hr hs') (by have := Hn.out; omega)
      obtain ⟨d0, d1, d2, d3, _⟩ := hc k (by have := Hn.out; omega)
      clear hc
      generalize ss.getD k zSl = s at c0 c1 c2 c3 d0 d1 d2 d3
      go_wp2
      go_still_tail 8, (by kernel_rfl)
      change wpList _ _ _ _ _ wr.drew
      go_wp2_with fail
      refine (eqSlot_same _ _ _ _ _).mono ?_
      rintro e w1 ⟨rfl, hb⟩
      go_wp2
      go_roundw
      case rel => exact ⟨k + 1, by omega, by go_num, bel_trans hr (bel_of_drew hb)⟩
      case measure => simp [intOf]; omega
    · go_wp2
      go_ret
      exact ⟨rfl, hr⟩

/-- A queue's value: its slice and its four numbers. -/
def qV (A : Option Addr) (n cap : Nat) (f l r c : Int) : Value := .agg #[.slice A n cap, .int .i64 f, .int .i64 l, .int .i64 r, .int .i64 c]

set_option maxRecDepth 100000 in
theorem szQueue_any (A : Option Addr) (n cap : Nat) (f l r c left : Int) (w : World) (hn : n ≤ 9223372036854775807) (h0 : 0 ≤ left) (h1 : left ≤ 1048576) :
    Calls Try.prog 76 #[.agg #[.slice A n cap, .int .i64 f, .int .i64 l, .int .i64 r, .int .i64 c], .int .i64 left] w fun e w' => e = .returned (.int .i64 (if left < n then -1 else left - n)) ∧ Below w.heap.size w w' := by
  by_cases hl : left < n
  · have hl' : ¬ 0 ≤ left - n := by omega
    go_enter Try.func76, Try.ntmps76
    go_wp2
    go_ret
    exact ⟨ret_int (by simp), (Below.refl _ _).alloc (Nat.le_refl _) _⟩
  · go_enter Try.func76, Try.ntmps76
    go_wp2
    go_ret
    exact ⟨ret_int (by simp), (Below.refl _ _).alloc (Nat.le_refl _) _⟩

/-- What a call that hands back a new queue leaves: its slice lies in new memory, old memory stands. -/
def NewQ (w : World) (n : Nat) (ss : List Sl) (f l r c : Int) (e : Ending) (w' : World) : Prop :=
  ∃ A cap, e = .returned (.agg #[.slice A n cap, .int .i64 f, .int .i64 l, .int .i64 r, .int .i64 c]) ∧ SlV w' w.heap.size w'.heap.size A ss ∧ Below w.heap.size w w'

theorem bcell {W w1 : World} (hb : Below W.heap.size W w1) : (∀ b o, b < W.heap.size → w1.cell? ⟨b, o, none⟩ = W.cell? ⟨b, o, none⟩) ∧ (∀ b o, b < W.heap.size → w1.frozen? ⟨b, o, none⟩ = W.frozen? ⟨b, o, none⟩) :=
  ⟨fun b o h => hb.cell (p := ⟨b, o, none⟩) h, fun b o h => hb.frozen (p := ⟨b, o, none⟩) h⟩

theorem SlV.setCell {w : World} {lo hi : Nat} {A : Option Addr} {ss : List Sl} (h : SlV w lo hi A ss) {p : Addr} (hp : p.block < lo) (u : Value) : SlV (w.setCell p u) lo hi A ss :=
  h.of_block fun g h1 _ => Below.heap_setCell w p u g (by omega)

set_option maxRecDepth 100000 in
set_option maxHeartbeats 400000 in
theorem toQueue_any (A : Option Addr) (n cap : Nat) (ss : List Sl) (f l r c : Int) (w : World) (hn : ss.length = n) (hm : n ≤ 1048576) (h : LSl w A ss) :
    Calls Try.prog 80 #[.agg #[.slice A n cap, .int .i64 f, .int .i64 l, .int .i64 r, .int .i64 c]] w (NewQ w n ss f l r c) := by
  have Hn := Lib.hid hn
  clear hn
  have HI := Lib.hid h
  clear h
  go_enter Try.func80, Try.ntmps80
  go_wp2_with fail
  refine (toSlotS_any A n cap ss _ Hn.out hm (HI.out.below ?_)).mono ?_
  · exact (((Below.refl _ _).alloc (Nat.le_refl _) _).alloc (by simp) _).alloc (by simp <;> omega) _
  rintro e w1 ⟨rfl, hv, hb⟩
  simp only [World.size_alloc] at hv
  have Hv := Lib.hid hv
  clear hv
  obtain ⟨hc, hf⟩ := bcell hb
  have hz : w.heap.size + 1 + 1 < w1.heap.size := by have := hb.size; simp at this; omega
  have Hb := Lib.hid hb
  clear hb
  go_wp2
  refine bodyPost_ret (v := .agg #[.slice (some ⟨w.heap.size + 1 + 1 + 1, 0, none⟩) n n, .int .i64 f, .int .i64 l, .int .i64 r, .int .i64 c]) (by simp [results, Try.results80, go_sem, hc]) rfl ⟨_, _, rfl, ?_, ?_⟩
  · refine SlV.wide (lo := w.heap.size + 1 + 1 + 1) (hi := w1.heap.size) ?_ (by omega) (by simp [World.setCell])
    iterate 10 refine SlV.setCell ?_ (by simp <;> omega) _
    exact Hv.out
  · iterate 10 refine Below.setCell ?_ (by simp <;> omega) _
    exact bel_trans ((((Below.refl _ _).alloc (Nat.le_refl _) _).alloc (by simp) _).alloc (by simp; omega) _) Hb.out

set_option maxRecDepth 100000 in
set_option maxHeartbeats 400000 in
theorem eqQueue_same (A1 A2 : Option Addr) (n c1 c2 lo hi lo' hi' : Nat) (ss : List Sl) (f l r c : Int) (w : World) (hn : ss.length = n) (hm : n ≤ 1048576) (h1 : SlV w lo hi A1 ss) (h2 : SlV w lo' hi' A2 ss) (hs : hi ≤ w.heap.size) (hs' : hi' ≤ w.heap.size) :
    Calls Try.prog 67 #[.agg #[.slice A1 n c1, .int .i64 f, .int .i64 l, .int .i64 r, .int .i64 c], .agg #[.slice A2 n c2, .int .i64 f, .int .i64 l, .int .i64 r, .int .i64 c]] w fun e w' => e = .returned (.bool true) ∧ Below w.heap.size w w' := by
  have Hn := Lib.hid hn
  clear hn
  have H1 := Lib.hid h1
  have H2 := Lib.hid h2
  clear h1 h2
  have ha : ∀ o o', Below w.heap.size w ((w.alloc o).alloc o') := fun o o' => ((Below.refl _ _).alloc (Nat.le_refl _) _).alloc (by simp) _
  have Ha := Lib.hid ha
  clear ha
  go_enter Try.func67, Try.ntmps67
  go_wp2_with fail
  refine (eqSlotS_same A1 A2 n c1 c2 lo hi lo' hi' ss _ Hn.out hm (H1.out.below (Ha.out _ _) hs) (H2.out.below (Ha.out _ _) hs') (by simp; omega) (by simp; omega)).mono ?_
  rintro e w1 ⟨rfl, hb⟩
  obtain ⟨hc, hf⟩ := bcell hb
  have Hb := Lib.hid hb
  clear hb
  go_wp2
  go_ret
  exact ⟨rfl, bel_trans (Ha.out _ _) Hb.out⟩
end Go.Proofs.Ytehdbdolhkflcaa.Que

namespace Go.Proofs.Ytehdbdolhkflcaa.Que
open Go.RowKit Go.Deep Base

/-- The n slots from block b's head on are f 0, f 1, .., and may be written. -/
def RdF (w : World) (b n : Nat) (f : Nat → Sl) : Prop :=
  ∀ i, i < n → w.cell? ⟨b, i * 4, none⟩ = some (.int .i64 (f i).id) ∧ w.cell? ⟨b, i * 4 + 1, none⟩ = some (.int .i64 (f i).prev)
    ∧ w.cell? ⟨b, i * 4 + 2, none⟩ = some (.int .i64 (f i).next) ∧ w.cell? ⟨b, i * 4 + 3, none⟩ = some (.bool (f i).used) ∧ ∀ j, w.frozen? ⟨b, j, none⟩ = false

def set4 (w : World) (b i : Nat) (s : Sl) : World :=
  (((w.setCell ⟨b, i * 4, none⟩ (.int .i64 s.id)).setCell ⟨b, i * 4 + 1, none⟩ (.int .i64 s.prev)).setCell ⟨b, i * 4 + 2, none⟩ (.int .i64 s.next)).setCell ⟨b, i * 4 + 3, none⟩ (.bool s.used)

theorem some_set {w : World} {b o p : Nat} {v : Value} (h : (w.cell? ⟨b, p, none⟩).isSome = true) : ((w.setCell ⟨b, o, none⟩ v).cell? ⟨b, p, none⟩).isSome = true := by
  by_cases e : p = o
  · subst e; rw [World.cell?_setCell_same' _ _ _ h]; rfl
  · rw [World.cell?_setCell_other _ _ _ _ (fun e' => by injection e' with _ e' _; exact e e'.symm)]; exact h

theorem cell_set {w : World} {b o p : Nat} {v : Value} (h : (w.cell? ⟨b, p, none⟩).isSome = true) : (w.setCell ⟨b, o, none⟩ v).cell? ⟨b, p, none⟩ = if p = o then some v else w.cell? ⟨b, p, none⟩ := by
  by_cases e : p = o
  · subst e; rw [if_pos rfl]; exact World.cell?_setCell_same' _ _ _ h
  · rw [if_neg e, World.cell?_setCell_other _ _ _ _ (fun e' => by injection e' with _ e' _; exact e e'.symm)]

theorem cell_set4 {w : World} {b i p : Nat} {s : Sl} (h : (w.cell? ⟨b, p, none⟩).isSome = true) :
    (set4 w b i s).cell? ⟨b, p, none⟩ = if p = i * 4 + 3 then some (.bool s.used) else if p = i * 4 + 2 then some (.int .i64 s.next) else if p = i * 4 + 1 then some (.int .i64 s.prev) else if p = i * 4 then some (.int .i64 s.id) else w.cell? ⟨b, p, none⟩ := by
  unfold set4
  rw [cell_set (some_set (some_set (some_set h))), cell_set (some_set (some_set h)), cell_set (some_set h), cell_set h]

theorem RdF.set {w : World} {b n : Nat} {f : Nat → Sl} (h : RdF w b n f) (i : Nat) (s : Sl) : RdF (set4 w b i s) b n (fun j => if j = i then s else f j) := by
  intro j hj
  obtain ⟨h0, h1, h2, h3, h4⟩ := h j hj
  have hs : ∀ {p x}, w.cell? ⟨b, p, none⟩ = some x → (w.cell? ⟨b, p, none⟩).isSome = true := fun h => by rw [h]; rfl
  rw [cell_set4 (hs h0), cell_set4 (hs h1), cell_set4 (hs h2), cell_set4 (hs h3)]
  have hf : ∀ j, (set4 w b i s).frozen? ⟨b, j, none⟩ = false := fun k => by unfold set4; simp only [World.frozen?_setCell]; exact h4 k
  by_cases e : j = i
  · subst e
    simp only [if_pos]
    exact ⟨by rw [if_neg (by omega), if_neg (by omega), if_neg (by omega)], by rw [if_neg (by omega), if_neg (by omega)], by rw [if_neg (by omega)], trivial, hf⟩
  · simp only [if_neg e]
    exact ⟨by rw [if_neg (by omega), if_neg (by omega), if_neg (by omega), if_neg (by omega)]; exact h0, by rw [if_neg (by omega), if_neg (by omega), if_neg (by omega), if_neg (by omega)]; exact h1, by rw [if_neg (by omega), if_neg (by omega), if_neg (by omega), if_neg (by omega)]; exact h2, by rw [if_neg (by omega), if_neg (by omega), if_neg (by omega), if_neg (by omega)]; exact h3, hf⟩

theorem RdF.congr {w : World} {b n : Nat} {f g : Nat → Sl} (h : RdF w b n f) (e : ∀ i, i < n → f i = g i) : RdF w b n g := fun i hi => e i hi ▸ h i hi

theorem Turns.set4 {lo hi : Nat} {a w : World} (h : Turns lo hi a w) {g : Nat} (h1 : lo ≤ g) (h2 : g < hi) (i : Nat) (s : Sl) : Turns lo hi a (set4 w g i s) := by
  unfold Que.set4
  exact (((h.setCell (p := ⟨g, _, none⟩) h1 h2 _).setCell (p := ⟨g, _, none⟩) h1 h2 _).setCell (p := ⟨g, _, none⟩) h1 h2 _).setCell (p := ⟨g, _, none⟩) h1 h2 _

/-- The marks of slot i, counted from k on. -/
def mkS (k : Int) (i : Nat) : Sl := ⟨k + 4 * i, k + 4 * i + 1, k + 4 * i + 1 + 1, (k + 4 * i + 1 + 1 + 1) % 3 == 0⟩

def mkL (k : Int) (n : Nat) : List Sl := (List.range n).map (mkS k)

theorem mkL_len (k : Int) (n : Nat) : (mkL k n).length = n := by simp [mkL]
theorem mkL_at (k : Int) (n i : Nat) (h : i < n) : (mkL k n).getD i zSl = mkS k i := by simp [mkL, h]

def MarkSt (w wr : World) (lo hi : Nat) (A : Option Addr) (n : Nat) (k : Int) (ss : List Sl) (i : Nat) : Prop :=
  (0 < n → ∃ g, A = some ⟨g, 0, none⟩ ∧ lo ≤ g ∧ g < hi ∧ RdF wr g n (fun j => if j < i then mkS k j else ss.getD j zSl)) ∧ Turns lo hi w wr

theorem MarkSt.step {w wr : World} {lo hi g n i : Nat} {k : Int} {ss : List Sl} (h : MarkSt w wr lo hi (some ⟨g, 0, none⟩) n k ss i) (hn : 0 < n) : MarkSt w (set4 wr g i (mkS k i)) lo hi (some ⟨g, 0, none⟩) n k ss (i + 1) := by
  obtain ⟨g', e, h1, h2, h3⟩ := h.1 hn
  cases e
  refine ⟨fun _ => ⟨g, rfl, h1, h2, (h3.set i (mkS k i)).congr fun j hj => ?_⟩, h.2.set4 h1 h2 i _⟩
  by_cases e : j = i
  · subst e; simp
  · simp only [if_neg e]
    by_cases l : j < i
    · rw [if_pos l, if_pos (by omega)]
    · rw [if_neg l, if_neg (by omega)]

set_option maxRecDepth 100000 in
set_option maxHeartbeats 800000 in
theorem markSlotS_any (A : Option Addr) (n cap lo hi : Nat) (k : Int) (ss : List Sl) (w : World) (hn : ss.length = n) (hm : n ≤ 1048576) (hk0 : 0 ≤ k) (hk1 : k ≤ 1099511627776) (h : SlV w lo hi A ss) :
    Calls Try.prog 103 #[.slice A n cap, .int .i64 k] w fun e w' => e = .returned (.int .i64 (k + 4 * n)) ∧ SlV w' lo hi A (mkL k n) ∧ Turns lo hi w w' := by
  have Hn := Lib.hid hn
  clear hn
  have HS : Hid (MarkSt w w lo hi A n k ss 0) := ⟨fun hp => by
    obtain ⟨g, e, h1, h2, h3⟩ := h (by have := Hn.out; omega)
    exact ⟨g, e, h1, h2, fun i hi => by simpa using h3 i (by have := Hn.out; omega)⟩, Turns.of_below (Below.refl _ _)⟩
  clear h
  go_enter Try.func103, Try.ntmps103
  go_wp2
  go_loopw [1, 5] (fun t i wr => ∃ j : Nat, j ≤ n ∧ i = .int .i64 j ∧ t = .int .i64 (k + 4 * j) ∧ MarkSt w wr lo hi A n k ss j) (fun _ i _ => n - (intOf i).toNat)
  case atStart => exact ⟨0, Nat.zero_le _, rfl, by simp, HS.out⟩
  case round =>
    obtain ⟨j, hj, rfl, rfl, hr⟩ := hrel
    clear HS
    by_cases hlt : j < n
    · obtain ⟨g, rfl, h1, h2, h3⟩ := hr.1 (by omega)
      obtain ⟨c0, c1, c2, c3, c4⟩ := h3 j hlt
      simp only [Nat.lt_irrefl, if_false] at c0 c1 c2 c3
      generalize ss.getD j zSl = s at c0 c1 c2 c3
      have Hr := Lib.hid (hr.step (by omega))
      clear hr h3
      go_wp2
      go_roundw
      case rel => exact ⟨j + 1, by omega, by go_num, by go_num, Hr.out⟩
      case measure => simp [intOf]; omega
    · have Hr := Lib.hid hr
      clear hr
      obtain rfl : j = n := by omega
      go_wp2
      go_ret
      refine ⟨rfl, fun hp => ?_, Hr.out.2⟩
      rw [mkL_len] at hp
      obtain ⟨g, e, h1, h2, h3⟩ := Hr.out.1 hp
      refine ⟨g, e, h1, h2, fun i hi => ?_⟩
      rw [mkL_len] at hi
      have := h3 i hi
      simp only [if_pos hi] at this
      rw [mkL_at _ _ _ hi]
      exact this

set_option maxRecDepth 100000 in
set_option maxHeartbeats 800000 in
theorem heldSlotS_any (A : Option Addr) (n cap lo hi : Nat) (k : Int) (w : World) (hm : n ≤ 1048576) (hk0 : 0 ≤ k) (hk1 : k ≤ 1099511627776) (h : SlV w lo hi A (mkL k n)) :
    Calls Try.prog 105 #[.slice A n cap, .int .i64 k] w fun e w' => e = .returned (.int .i64 (k + 4 * n)) ∧ w = w' := by
  have HS := Lib.hid h
  clear h
  go_enter Try.func105, Try.ntmps105
  go_wp2
  go_loop [1, 5] (fun t i => ∃ j : Nat, j ≤ n ∧ i = .int .i64 j ∧ t = .int .i64 (k + 4 * j)) (fun _ i => n - (intOf i).toNat)
  case atStart => exact ⟨0, Nat.zero_le _, rfl, by simp⟩
  case round =>
    obtain ⟨j, hj, rfl, rfl⟩ := hrel
    by_cases hlt : j < n
    · obtain ⟨g, rfl, h1, h2, h3⟩ := HS.out (by rw [mkL_len]; omega)
      obtain ⟨c0, c1, c2, c3, _⟩ := h3 j (by rw [mkL_len]; exact hlt)
      rw [mkL_at _ _ _ hlt] at c0 c1 c2 c3
      simp only [mkS] at c0 c1 c2 c3
      clear h3
      cases hu : ((k + 4 * (j : Int) + 1 + 1 + 1) % 3 == 0)
      all_goals
        go_wp2
        go_round
        case rel => exact ⟨j + 1, by omega, by go_num, by go_num⟩
        case measure => simp [intOf]; omega
    · obtain rfl : j = n := by omega
      go_wp2
      go_ret
      exact ⟨rfl, rfl⟩

set_option maxRecDepth 100000 in
set_option maxHeartbeats 400000 in
theorem markQueue_any (A : Option Addr) (n cap lo hi : Nat) (k f l r c : Int) (ss : List Sl) (w : World) (hn : ss.length = n) (hm : n ≤ 1048576) (hk0 : 0 ≤ k) (hk1 : k ≤ 1099511627776) (h : SlV w lo hi A ss) (hs : hi ≤ w.heap.size) :
    Calls Try.prog 70 #[.agg #[.slice A n cap, .int .i64 f, .int .i64 l, .int .i64 r, .int .i64 c], .int .i64 k] w fun e w' => e = .returned (.int .i64 (k + 4 * n)) ∧ SlV w' lo hi A (mkL k n) ∧ Turns lo hi w w' := by
  have Hn := Lib.hid hn
  clear hn
  have H := Lib.hid h
  clear h
  go_enter Try.func70, Try.ntmps70
  go_wp2_with fail
  refine (markSlotS_any A n cap lo hi k ss _ Hn.out hm hk0 hk1 (H.out.below (bel_alloc _ _) hs)).mono ?_
  rintro e w1 ⟨rfl, hv, ht⟩
  have Hv := Lib.hid hv
  have Ht := Lib.hid ht
  clear hv ht
  go_wp2
  go_ret
  exact ⟨rfl, Hv.out, (Turns.of_below (bel_alloc _ _)).trans Ht.out⟩

set_option maxRecDepth 100000 in
set_option maxHeartbeats 400000 in
theorem heldQueue_any (A : Option Addr) (n cap lo hi : Nat) (k f l r c : Int) (w : World) (hm : n ≤ 1048576) (hk0 : 0 ≤ k) (hk1 : k ≤ 1099511627776) (h : SlV w lo hi A (mkL k n)) (hs : hi ≤ w.heap.size) :
    Calls Try.prog 73 #[.agg #[.slice A n cap, .int .i64 f, .int .i64 l, .int .i64 r, .int .i64 c], .int .i64 k] w fun e w' => e = .returned (.int .i64 (k + 4 * n)) ∧ Below w.heap.size w w' := by
  have H := Lib.hid h
  clear h
  have hk2 : 0 ≤ k + 4 * (n : Int) := by omega
  go_enter Try.func73, Try.ntmps73
  go_wp2_with fail
  refine (heldSlotS_any A n cap lo hi k _ hm hk0 hk1 (H.out.below (bel_alloc _ _) hs)).mono ?_
  rintro e w1 ⟨rfl, rfl⟩
  go_wp2
  go_ret
  exact ⟨rfl, bel_alloc _ _⟩
end Go.Proofs.Ytehdbdolhkflcaa.Que

namespace Go.Proofs.Ytehdbdolhkflcaa.Que
open Go.RowKit Go.Deep Go.ChangeShapes Go.WideShapes Base

instance : Inhabited Sl := ⟨zSl⟩

section
variable {H : Type} {enc : TypeId × Value → H} {W : World} {base : Nat} {spare : Nat → Bool} {held : Bool}

set_option maxRecDepth 100000 in
theorem open_slot {fuel : Nat} {cs : List Value} {x : DataW H × List MemPlace} (h : DataW.trod enc Try.prog W base spare held fuel 154 cs = some x) :
    ∃ s : Sl, cs = [.int .i64 s.id, .int .i64 s.prev, .int .i64 s.next, .bool s.used] := by
  have hC : Try.prog.cellsOf 154 = 4 := by kernel_rfl
  have hI : Try.prog.cellsOf 3 = 1 := by kernel_rfl
  have hB : Try.prog.cellsOf 4 = 1 := by kernel_rfl
  obtain ⟨ys, k, _, _, hcl, hyl, hf⟩ := DataW.trod_struct Try.underlying154 h
  rw [hC] at hcl
  match cs, hcl, ys, hyl with
  | [q0, q1, q2, q3], _, [y0, y1, y2, y3], _ =>
    have g0 : DataW.trod enc Try.prog W base spare held k 3 [q0] = some y0 := by have := hf 0 _ rfl; simpa [hI] using this
    have g1 : DataW.trod enc Try.prog W base spare held k 3 [q1] = some y1 := by have := hf 1 _ rfl; simpa [hI] using this
    have g2 : DataW.trod enc Try.prog W base spare held k 3 [q2] = some y2 := by have := hf 2 _ rfl; simpa [hI] using this
    have g3 : DataW.trod enc Try.prog W base spare held k 4 [q3] = some y3 := by have := hf 3 _ rfl; simpa [hB] using this
    obtain ⟨n0, e0, _⟩ := DataW.trod_int Try.underlying3 g0
    obtain ⟨n1, e1, _⟩ := DataW.trod_int Try.underlying3 g1
    obtain ⟨n2, e2, _⟩ := DataW.trod_int Try.underlying3 g2
    obtain ⟨n3, e3, _⟩ := DataW.trod_bool Try.underlying4 g3
    simp at e0 e1 e2 e3
    subst e0 e1 e2 e3
    exact ⟨⟨n0, n1, n2, n3⟩, rfl⟩

set_option maxRecDepth 100000 in
theorem open_slots {fuel : Nat} {cs : List Value} {x : DataW H × List MemPlace} (h : DataW.trod enc Try.prog W base spare held fuel 46 cs = some x) :
    ∃ (A : Option Addr) (n cap : Nat) (ss : List Sl), cs = [.slice A n cap] ∧ ss.length = n ∧ n ≤ maxLen ∧ LSl W A ss := by
  rcases open_slice Try.underlying46 h with ⟨rfl, _⟩ | ⟨a, len, cap, m, k, D, Pl, rfl, _, hl, hm, hmm, _, hi⟩
  · exact ⟨none, 0, 0, [], rfl, rfl, by simp, fun hp => absurd hp (by simp)⟩
  · have hlm : len ≤ m := by rw [hmm]; split <;> omega
    have hC : Try.prog.cellsOf 154 = 4 := by kernel_rfl
    obtain ⟨V, hV⟩ := choose_lt (α := Sl) (n := len) (p := fun i s => W.cell? ((a.add (i * 4)).add 0) = some (.int .i64 s.id) ∧ W.cell? ((a.add (i * 4)).add 1) = some (.int .i64 s.prev) ∧ W.cell? ((a.add (i * 4)).add 2) = some (.int .i64 s.next) ∧ W.cell? ((a.add (i * 4)).add 3) = some (.bool s.used)) (fun i hil => by
      obtain ⟨cs', hc, ht⟩ := hi i (by omega)
      rw [hC] at hc
      obtain ⟨_, hcl, hat⟩ := World.cells?_some hc
      obtain ⟨s, rfl⟩ := open_slot ht
      exact ⟨s, hat 0 (by omega), hat 1 (by omega), hat 2 (by omega), hat 3 (by omega)⟩)
    refine ⟨some a, len, cap, (List.range len).map V, rfl, by simp, by omega, fun hp => ?_⟩
    simp at hp
    obtain ⟨b, off, spot⟩ := a
    have h0 := (hV 0 hp).1
    have hs : spot = none := by simpa [Addr.add] using World.cell?_spot h0
    subst hs
    refine ⟨b, off, rfl, fun i hi => ?_⟩
    simp at hi
    obtain ⟨g0, g1, g2, g3⟩ := hV i hi
    have ea : ∀ j, ((⟨b, off, none⟩ : Addr).add (i * 4)).add j = ⟨b, off + i * 4 + j, none⟩ := fun j => by
      rw [Addr.add_mid, Addr.add_mid]
    rw [ea] at g0 g1 g2 g3
    have hg : ((List.range len).map V).getD i zSl = V i := by simp [hi]
    rw [hg]
    exact ⟨g0, g1, g2, g3⟩

set_option maxRecDepth 100000 in
theorem open_queue {rr : Reach} {b0 : Nat} {v : Value} {d : DataW H} {p : List MemPlace} (hv : Value.okWide Try.prog W rr b0 48 v) (h : DataW.Trod enc Try.prog W base spare held 48 v d p) :
    ∃ (A : Option Addr) (n cap : Nat) (f l r c : Int) (ss : List Sl), v = .agg #[.slice A n cap, .int .i64 f, .int .i64 l, .int .i64 r, .int .i64 c] ∧ ss.length = n ∧ n ≤ maxLen ∧ LSl W A ss := by
  have hC : Try.prog.cellsOf 48 = 5 := by kernel_rfl
  have hI : Try.prog.cellsOf 3 = 1 := by kernel_rfl
  have hS : Try.prog.cellsOf 46 = 1 := by kernel_rfl
  obtain ⟨cs, rfl, hsz⟩ := okWide_struct Try.underlying48 hv
  obtain ⟨cl⟩ := cs
  obtain ⟨fuel, hf⟩ := h
  obtain ⟨ys, k, _, _, _, hyl, hg⟩ := DataW.trod_struct Try.underlying48 hf
  match cl, hsz.trans hC, ys, hyl with
  | [q0, q1, q2, q3, q4], _, [y0, y1, y2, y3, y4], _ =>
    have g0 : DataW.trod enc Try.prog W base spare held k 46 [q0] = some y0 := by have := hg 0 _ rfl; simpa [hS, Value.cells] using this
    have g1 : DataW.trod enc Try.prog W base spare held k 3 [q1] = some y1 := by have := hg 1 _ rfl; simpa [hI, Value.cells] using this
    have g2 : DataW.trod enc Try.prog W base spare held k 3 [q2] = some y2 := by have := hg 2 _ rfl; simpa [hI, Value.cells] using this
    have g3 : DataW.trod enc Try.prog W base spare held k 3 [q3] = some y3 := by have := hg 3 _ rfl; simpa [hI, Value.cells] using this
    have g4 : DataW.trod enc Try.prog W base spare held k 3 [q4] = some y4 := by have := hg 4 _ rfl; simpa [hI, Value.cells] using this
    obtain ⟨A, n, cap, ss, e0, hn, hm, hl⟩ := open_slots g0
    obtain ⟨n1, e1, _⟩ := DataW.trod_int Try.underlying3 g1
    obtain ⟨n2, e2, _⟩ := DataW.trod_int Try.underlying3 g2
    obtain ⟨n3, e3, _⟩ := DataW.trod_int Try.underlying3 g3
    obtain ⟨n4, e4, _⟩ := DataW.trod_int Try.underlying3 g4
    simp at e0 e1 e2 e3 e4
    subst e0 e1 e2 e3 e4
    exact ⟨A, n, cap, n1, n2, n3, n4, ss, rfl, hn, hm, hl⟩
end
end Go.Proofs.Ytehdbdolhkflcaa.Que

namespace Go.Proofs.Ytehdbdolhkflcaa.Que
open Go.RowKit Go.Deep Base

theorem owns_form {w : World} {base : Nat} {e : TypeId} {size n : Nat} {v : Value} {xs : List Value} (h : w.ownsRow base e size v n xs) : ∃ A cap, v = .slice A n cap := by
  rcases h.2 with ⟨rfl, rfl⟩ | ⟨g, cap, _, rfl, _⟩
  · exact ⟨none, 0, rfl⟩
  · exact ⟨_, cap, rfl⟩

theorem ints_owns {w : World} {base : Nat} {e : TypeId} {A : Option Addr} {n cap : Nat} {zs : List Int} (h : w.ownsRow base e 1 (.slice A n cap) n (zs.map (Value.int .i64))) : Ints w A zs := by
  intro hp
  have hl := h.1
  simp at hl
  rcases h.2 with ⟨hv, hn⟩ | ⟨g, cap', cur, hv, _, _⟩
  · omega
  · injection hv with hA _ _
    subst hA
    refine ⟨g, 0, rfl, fun i hi => ?_⟩
    have hc : w.ownsRow base e 1 (.slice (some ⟨g, 0, none⟩) n cap) n (zs.map (Value.int .i64)) := h
    have := hc.cellAt i (by omega)
    rw [Nat.zero_add, this]
    simp [hi]

set_option maxRecDepth 100000 in
set_option maxHeartbeats 400000 in
theorem has_any (A : Option Addr) (n cap : Nat) (zs : List Int) (x : Int) (w : World) (hn : zs.length = n) (hm : n ≤ 1048576) (h : Ints w A zs) :
    Calls Try.prog 55 #[.slice A n cap, .int .i64 x] w fun e w' => e = .returned (.bool (zs.contains x)) ∧ w = w' := by
  have Hn := Lib.hid hn
  clear hn
  have HI := Lib.hid h
  clear h
  go_enter Try.func55, Try.ntmps55
  go_wp2
  go_loop [5] (fun i => ∃ k : Nat, k ≤ n ∧ i = .int .i64 k ∧ (zs.take k).contains x = false) (fun i => n - (intOf i).toNat)
  case atStart => exact ⟨0, Nat.zero_le _, rfl, by simp⟩
  case round =>
    obtain ⟨k, hk, rfl, hq⟩ := hrel
    have Hq := Lib.hid hq
    clear hq
    by_cases hlt : k < n
    · obtain ⟨b, off, rfl, hc⟩ := HI.out (by have := Hn.out; omega)
      have hck := hc k (by have := Hn.out; omega)
      clear hc
      have Ht : Hid (zs.take (k + 1) = zs.take k ++ [zs.getD k 0]) := by
        have hk' : k < zs.length := by have := Hn.out; omega
        show _ = _
        rw [List.take_succ_eq_append_getElem hk']; simp [List.getD_eq_getElem?_getD, hk']
      have Hm : Hid (zs.getD k 0 ∈ zs) := by
        have hk' : k < zs.length := by have := Hn.out; omega
        show _ ∈ _
        simp [List.getD_eq_getElem?_getD, hk']
      generalize zs.getD k 0 = z at hck Ht Hm
      by_cases he : z = x
      · subst he
        go_wp2
        go_ret
        exact ⟨ret_bool (by simpa using Hm.out), rfl⟩
      · have hb : (z == x) = false := beq_eq_false_iff_ne.2 he
        have Hq' : Hid ((zs.take (k + 1)).contains x = false) := by
          have h1 := Hq.out
          have h2 := Ht.out
          show _ = _
          rw [h2]
          simp at h1 ⊢
          exact ⟨h1, fun h => he h.symm⟩
        go_wp2
        go_round
        case rel => exact ⟨k + 1, by omega, by go_num, Hq'.out⟩
        case measure => simp [intOf]; omega
    · go_wp2
      go_ret
      refine ⟨ret_bool ?_, rfl⟩
      have e : zs.take k = zs := List.take_of_length_le (by have := Hn.out; omega)
      have := Hq.out
      rw [e] at this
      simpa using this
end Go.Proofs.Ytehdbdolhkflcaa.Que

namespace Go.Proofs.Ytehdbdolhkflcaa.Que
open Go.RowKit Go.Deep Base

theorem infoBool : (Try.prog.info? 4).map (fun i => (i.zero, i.size, i.bytes)) = some (some (.bool false), 1, 1) := by kernel_rfl
theorem infoInt : (Try.prog.info? 3).map (fun i => (i.zero, i.size, i.bytes)) = some (some (.int .i64 0), 1, 8) := by kernel_rfl

theorem make_seen (w : World) :
    (Instr.makeSlice 147 (.int .i64 60) (.int .i64 60)).run Try.prog w = .ok (.slice (some ⟨w.heap.size, 0, none⟩) 60 60) (w.alloc (.cells (madeCells #[.bool false] 60) 4)) :=
  run_make_row' (P := Try.prog) 147 4 (.bool false) 1 Try.underlying147 infoBool rfl .i64 .i64 60 (by omega) (by omega) w

def idsOf (ss : List Sl) (vis : List Nat) : List Int := vis.map fun v => (sl ss v).id

structure UsedSt (B : Nat) (W1 wr : World) (v : Value) (vis : List Nat) (ids : List Int) : Prop where
  seen : wr.rowIs B 4 60 (fun j => .bool (decide (j ∈ vis)))
  ids : wr.ownsRow (B + 1) 3 1 v ids.length (ids.map (Value.int .i64))
  old : Below B W1 wr

theorem box5 {w wr : World} {v0 v1 v2 v3 v4 : Value} {t : TypeId} (h : Below (w.heap.size + 1) (w.alloc (.cells #[v0, v1, v2, v3, v4] t)) wr) :
    wr.cell? ⟨w.heap.size, 0, none⟩ = some v0 ∧ wr.cell? ⟨w.heap.size, 1, none⟩ = some v1 ∧ wr.cell? ⟨w.heap.size, 2, none⟩ = some v2 ∧ wr.cell? ⟨w.heap.size, 3, none⟩ = some v3 ∧ wr.cell? ⟨w.heap.size, 4, none⟩ = some v4 := by
  have e : ∀ o, wr.cell? ⟨w.heap.size, o, none⟩ = (w.alloc (.cells #[v0, v1, v2, v3, v4] t)).cell? ⟨w.heap.size, o, none⟩ := fun o => h.cell (by simp)
  have hn : ∀ o, (w.alloc (.cells #[v0, v1, v2, v3, v4] t)).cell? ⟨w.heap.size, o, none⟩ = #[v0, v1, v2, v3, v4][o]? := fun o => cell_of_row _ _ o _ t (0, 0) (heap_alloc_new w _)
  refine ⟨?_, ?_, ?_, ?_, ?_⟩ <;> (rw [e, hn]; rfl)

theorem UsedSt.start (w : World) (o : Obj) : UsedSt (w.heap.size + 1) (w.alloc o) (((w.alloc o).alloc (.cells (madeCells #[.bool false] 60) 4)).alloc (.cells #[] 3)) (.slice (some ⟨w.heap.size + 1 + 1, 0, none⟩) 0 0) [] [] := by
  refine ⟨?_, ?_, ?_⟩
  · have h := (World.rowIs_made (w.alloc o) (.bool false) 60 4).alloc (.cells #[] 3)
    rw [World.size_alloc] at h
    exact h.congr (fun i _ => by simp)
  · have h := World.ownsRow_lit (base := w.heap.size + 1 + 1) (e := 3) (size := 1) ((w.alloc o).alloc (.cells (madeCells #[.bool false] 60) 4)) #[] 0 (by simp) (by simp) (by simp)
    simpa using h
  · exact (((Below.refl _ _).alloc (by simp) _).alloc (by simp) _)

/-- One place more: its mark is set, its Id appended. -/
theorem UsedSt.step {B : Nat} {W1 wr w1 : World} {v v' : Value} {vis : List Nat} {ids : List Int} {k : Nat} {x : Int} {o o' : Obj} (h : UsedSt B W1 wr v vis ids) (hB : B = W1.heap.size)
    (hown : w1.ownsRow (B + 1) 3 1 v' (ids.length + 1) (ids.map (Value.int .i64) ++ [.int .i64 x])) (hg : (((wr.setCell ⟨B, k, none⟩ (.bool true)).alloc o).alloc o').grownBy w1 v.ownBlock) :
    UsedSt B W1 w1 v' (vis ++ [k]) (ids ++ [x]) := by
  have hlt := h.seen.lt
  have hne : some B ≠ v.ownBlock := by
    intro e
    have := (h.ids.lt B e.symm).1
    omega
  have hs : (((wr.setCell ⟨B, k, none⟩ (.bool true)).alloc o).alloc o').rowIs B 4 60 (fun j => .bool (decide (j ∈ vis ++ [k]))) := by
    refine (((h.seen.set k (.bool true)).alloc o).alloc o').congr (fun j _ => ?_)
    by_cases e : j = k
    · subst e; simp
    · rw [if_neg e]; simp [e]
  refine ⟨hs.of_block (hg.block B hs.lt hne), by simpa using hown, ?_⟩
  have h1 : Below B W1 (((wr.setCell ⟨B, k, none⟩ (.bool true)).alloc o).alloc o') := ((h.old.setCell (Nat.le_refl _) _).alloc (by simp [World.setCell]; omega) o).alloc (by simp [World.setCell]; omega) o'
  exact h1.grown hg (by simp [World.setCell]; omega) (fun j e => by have := (h.ids.lt j e).1; omega)

theorem okQ_len {ss : List Sl} {f l r c : Int} (h : ss.length ≠ 60) : okQ ss f l r c = false := by unfold okQ; rw [decide_eq_false h]; rfl
theorem okQ_none {ss : List Sl} {f l r c : Int} (h : usedW ss 61 f (-1) [] = none) : okQ ss f l r c = false := by unfold okQ; rw [h]; simp
theorem okQ_cnt {ss : List Sl} {f l r c : Int} {us : List Nat} {a : Int} (h : usedW ss 61 f (-1) [] = some (us, a)) (h' : (us.length : Int) ≠ c ∨ l ≠ a) : okQ ss f l r c = false := by
  unfold okQ; rw [h]
  rcases h' with h' | h'
  · simp [h']
  · simp [h']
theorem okQ_free {ss : List Sl} {f l r c : Int} {us : List Nat} {a : Int} (h : usedW ss 61 f (-1) [] = some (us, a)) (h' : freeW ss 61 r us = none) : okQ ss f l r c = false := by
  unfold okQ; rw [h]; simp [h']
theorem okQ_end {ss : List Sl} {f l r c : Int} {us vs : List Nat} {a : Int} (h0 : ss.length = 60) (h : usedW ss 61 f (-1) [] = some (us, a)) (h1 : (us.length : Int) = c) (h2 : l = a) (h' : freeW ss 61 r us = some vs) : okQ ss f l r c = ((vs.length : Int) == 60) := by
  unfold okQ; rw [h]; simp [h', h0, h1, h2]
  rw [Bool.eq_iff_iff]; simp; omega

theorem usedW_nil {ss : List Sl} {F : Nat} {a : Int} {vis : List Nat} : usedW ss (F + 1) (-1) a vis = some (vis, a) := by unfold usedW; rw [if_pos rfl]
theorem usedW_out {ss : List Sl} {F : Nat} {p a : Int} {vis : List Nat} (h : p ≠ -1) (h' : ¬ (0 ≤ p ∧ p ≤ 59)) : usedW ss (F + 1) p a vis = none := by unfold usedW; rw [if_neg h, if_pos h']
theorem usedW_seen {ss : List Sl} {F k : Nat} {a : Int} {vis : List Nat} (h : k < 60) (h' : k ∈ vis) : usedW ss (F + 1) k a vis = none := by
  unfold usedW; rw [if_neg (by omega), if_neg (by omega), Int.toNat_natCast, if_pos h']
theorem usedW_bad {ss : List Sl} {F k : Nat} {a : Int} {vis : List Nat} (h : k < 60) (h' : okU ss vis a k = false) : usedW ss (F + 1) k a vis = none := by
  unfold usedW; rw [if_neg (by omega), if_neg (by omega), Int.toNat_natCast]; split
  · rfl
  · rw [if_neg (by rw [h']; simp)]
theorem usedW_next {ss : List Sl} {F k : Nat} {a : Int} {vis : List Nat} (h : k < 60) (h1 : k ∉ vis) (h' : okU ss vis a k = true) : usedW ss (F + 1) k a vis = usedW ss F (sl ss k).next k (vis ++ [k]) := by
  conv => lhs; unfold usedW
  rw [if_neg (by omega), if_neg (by omega), Int.toNat_natCast, if_neg h1, if_pos h']
theorem freeW_nil {ss : List Sl} {F : Nat} {vis : List Nat} : freeW ss (F + 1) (-1) vis = some vis := by unfold freeW; rw [if_pos rfl]
theorem freeW_out {ss : List Sl} {F : Nat} {p : Int} {vis : List Nat} (h : p ≠ -1) (h' : ¬ (0 ≤ p ∧ p ≤ 59)) : freeW ss (F + 1) p vis = none := by unfold freeW; rw [if_neg h, if_pos h']
theorem freeW_seen {ss : List Sl} {F k : Nat} {vis : List Nat} (h : k < 60) (h' : k ∈ vis) : freeW ss (F + 1) k vis = none := by
  unfold freeW; rw [if_neg (by omega), if_neg (by omega), Int.toNat_natCast, if_pos h']
theorem freeW_bad {ss : List Sl} {F k : Nat} {vis : List Nat} (h : k < 60) (h' : okF (sl ss k) = false) : freeW ss (F + 1) k vis = none := by
  unfold freeW; rw [if_neg (by omega), if_neg (by omega), Int.toNat_natCast]; split
  · rfl
  · rw [if_neg (by rw [h']; simp)]
theorem freeW_next {ss : List Sl} {F k : Nat} {vis : List Nat} (h : k < 60) (h1 : k ∉ vis) (h' : okF (sl ss k) = true) : freeW ss (F + 1) k vis = freeW ss F (sl ss k).next (vis ++ [k]) := by
  conv => lhs; unfold freeW
  rw [if_neg (by omega), if_neg (by omega), Int.toNat_natCast, if_neg h1, if_pos h']

theorem okU_eq {ss : List Sl} {vis : List Nat} {a id prev next : Int} {used : Bool} {k : Nat} (h : sl ss k = ⟨id, prev, next, used⟩) :
    okU ss vis a k = (used && (prev == a) && decide (1 ≤ id) && decide (id ≤ 1000000000) && !((idsOf ss vis).contains id)) := by unfold okU; rw [h]; rfl

theorem idsOf_len (ss : List Sl) (vis : List Nat) : (idsOf ss vis).length = vis.length := by simp [idsOf]
theorem idsOf_snoc (ss : List Sl) (vis : List Nat) (k : Nat) : idsOf ss (vis ++ [k]) = idsOf ss vis ++ [(sl ss k).id] := by simp [idsOf]

theorem new_one_at {w : World} {B : Nat} (h : w.heap.size = B) (x : Value) (t : TypeId) : ∀ j u, [x][j]? = some u → (w.alloc (.cells #[x] t)).cell? ((⟨B, 0, none⟩ : Addr).add j) = some u := by
  subst h; exact cell_one_new _ _ _

theorem Draw_grown_set (w : World) (g o : Nat) (v : Value) : w.grownBy (w.setCell ⟨g, o, none⟩ v) (some g) :=
  ⟨rfl, rfl, rfl, by simp [World.setCell], fun i _ hne => Below.heap_setCell w _ v i (fun e => hne (by rw [e]))⟩

/-- Between two rounds of the first walk. -/
def LoopU (ss : List Sl) (f : Int) (B : Nat) (W1 : World) (v n a at_ : Value) (wr : World) : Prop :=
  ∃ (vis : List Nat) (F : Nat) (ahead p : Int), n = .int .i64 (vis.length : Int) ∧ a = .int .i64 ahead ∧ at_ = .int .i64 p ∧ F + vis.length = 60 ∧ usedW ss 61 f (-1) [] = usedW ss (F + 1) p ahead vis
    ∧ vis.Nodup ∧ (∀ x ∈ vis, x < 60) ∧ UsedSt B W1 wr v vis (idsOf ss vis)

/-- Between two rounds of the second walk. -/
def LoopF (ss : List Sl) (r : Int) (us : List Nat) (B : Nat) (W1 : World) (n at_ : Value) (wr : World) : Prop :=
  ∃ (vs : List Nat) (F : Nat) (p : Int), n = .int .i64 (vs.length : Int) ∧ at_ = .int .i64 p ∧ 60 ≤ F + vs.length ∧ freeW ss 61 r us = freeW ss (F + 1) p vs
    ∧ vs.Nodup ∧ (∀ x ∈ vs, x < 60) ∧ wr.rowIs B 4 60 (fun j => .bool (decide (j ∈ vs))) ∧ Below B W1 wr

theorem nodup_snoc {l : List Nat} {k : Nat} (h : l.Nodup) (hk : k ∉ l) : (l ++ [k]).Nodup := by
  rw [List.nodup_append]
  exact ⟨h, by simp, fun a ha b hb => by simp at hb; subst hb; rintro rfl; exact hk ha⟩
theorem lt_snoc {l : List Nat} {k : Nat} (h : ∀ x ∈ l, x < 60) (hk : k < 60) : ∀ x ∈ l ++ [k], x < 60 := fun x hx => by
  rcases List.mem_append.1 hx with hx | hx
  · exact h x hx
  · simp at hx; omega

set_option maxRecDepth 100000 in
set_option maxHeartbeats 2000000 in
theorem specQueueOk_any (A : Option Addr) (n cap lo hi : Nat) (f l r c : Int) (ss : List Sl) (w : World) (hn : ss.length = n) (hm : n ≤ 1048576) (h : SlV w lo hi A ss) (hs : hi ≤ w.heap.size) :
    Calls Try.prog 91 #[.agg #[.slice A n cap, .int .i64 f, .int .i64 l, .int .i64 r, .int .i64 c]] w fun e w' => e = .returned (.bool (okQ ss f l r c)) ∧ Below w.heap.size w w' := by
  have Hn := Lib.hid hn
  clear hn
  have HI := Lib.hid h
  clear h
  have HW : Hid (∀ (o : Obj) (wr : World), Below (w.heap.size + 1) (w.alloc o) wr → Below w.heap.size w wr) := fun o wr hb => (bel_alloc w o).trans (hb.mono (by omega))
  by_cases h60 : n = 60
  · subst h60
    have hmk := make_seen
    by_cases hc : 0 ≤ c ∧ c ≤ 60
    · have hin : Tick.inB c 0 60 = true := Tick.inB_true hc.1 hc.2
      go_enter Try.func91, Try.ntmps91
      go_wp2_with (go_at_call 60; with_reducible refine (Tick.in_any _ _ _ _).mono ?_; rintro e w' ⟨rfl, rfl⟩)
      clear hin hmk
      go_loopw [4, 5, 6, 7] (fun v m a p wr => LoopU ss f (w.heap.size + 1) (w.alloc (.cells #[.slice A 60 cap, .int .i64 f, .int .i64 l, .int .i64 r, .int .i64 c] 28)) v m a p wr) (fun _ m _ _ _ => 61 - (intOf m).toNat)
      case atStart => exact ⟨[], 60, -1, f, rfl, rfl, rfl, rfl, rfl, by simp, by simp, UsedSt.start w _⟩
      case round =>
        obtain ⟨vis, F, ahead, p, rfl, rfl, rfl, hF, hW, hnd, hlt, hst⟩ := hrel
        obtain ⟨b0, b1, b2, b3, b4⟩ := box5 hst.old
        have Hst := Lib.hid hst
        clear hst
        have HF := Lib.hid hF
        have HE := Lib.hid hW
        have Hd := Lib.hid hnd
        have Hl := Lib.hid hlt
        have hvl : vis.length ≤ 60 := by omega
        clear hF hW hnd hlt
        by_cases hp : p = -1
        · subst hp
          have Hu : Hid (usedW ss 61 f (-1) [] = some (vis, ahead)) := HE.out.trans usedW_nil
          clear HE
          by_cases hcn : (vis.length : Int) = c
          · have hcb : ((vis.length : Int) != c) = false := by simp [hcn]
            have hcb' : ((vis.length : Int) == c) = true := by simp [hcn]
            have Hcn := Lib.hid hcn
            clear hcn
            by_cases hla : l = ahead
            · subst hla
              go_wp2
              clear hcb hcb'
              go_loopw [5, 9] (fun m p wx => LoopF ss r vis (w.heap.size + 1) (w.alloc (.cells #[.slice A 60 cap, .int .i64 f, .int .i64 l, .int .i64 r, .int .i64 c] 28)) m p wx) (fun m _ _ => 61 - (intOf m).toNat)
              case atStart => exact ⟨vis, 60, r, rfl, rfl, by omega, rfl, Hd.out, Hl.out, Hst.out.seen, Hst.out.old⟩
              case round =>
                clear Hst HF Hd Hl b0 b1 b2 b3 b4
                obtain ⟨vs, G, p, rfl, rfl, hG, hW, hnd, hlt, hrow, hold⟩ := hrel
                obtain ⟨b0, b1, b2, b3, b4⟩ := box5 hold
                have HG := Lib.hid hG
                have HE := Lib.hid hW
                have Hd := Lib.hid hnd
                have Hl := Lib.hid hlt
                have Hrow := Lib.hid hrow
                have Hold := Lib.hid hold
                have hvl : vs.length ≤ 60 := nodup_le 60 vs hnd hlt
                clear hG hW hnd hlt hrow hold
                by_cases hp : p = -1
                · subst hp
                  have Hu2 : Hid (freeW ss 61 r vis = some vs) := HE.out.trans freeW_nil
                  go_wp2
                  go_ret
                  exact ⟨ret_bool (okQ_end Hn.out Hu.out Hcn.out rfl Hu2.out).symm, HW.out _ _ Hold.out⟩
                · have hp1 : (p == -1) = false := beq_eq_false_iff_ne.2 hp
                  have hp2 : (p != -1) = true := by simp [hp]
                  by_cases hr : 0 ≤ p ∧ p ≤ 59
                  · obtain ⟨k, rfl⟩ := Int.eq_ofNat_of_zero_le hr.1
                    have hk : k < 60 := by omega
                    have hin : Tick.inB (k : Int) 0 59 = true := Tick.inB_true hr.1 hr.2
                    have hsn := Hrow.out.cell hk
                    by_cases hv : k ∈ vs
                    · rw [decide_eq_true hv] at hsn
                      go_wp2_with (go_at_call 60; with_reducible refine (Tick.in_any _ _ _ _).mono ?_; rintro e w' ⟨rfl, rfl⟩)
                      go_ret
                      exact ⟨ret_bool (okQ_free Hu.out (HE.out.trans (freeW_seen hk hv))).symm, HW.out _ _ Hold.out⟩
                    · rw [decide_eq_false hv] at hsn
                      have Hv := Lib.hid hv
                      clear hv
                      obtain ⟨g, rfl, _, _, hcs⟩ := (HI.out.below (HW.out _ _ Hold.out) hs) (by have := Hn.out; omega)
                      obtain ⟨c0, c1, c2, c3, _⟩ := hcs k (by have := Hn.out; omega)
                      clear hcs
                      have Hs : Hid (sl ss k = ss.getD k zSl) := rfl
                      generalize ss.getD k zSl = sk at c0 c1 c2 c3 Hs
                      obtain ⟨id, prev, next, used⟩ := sk
                      dsimp only at c0 c1 c2 c3
                      have Hok : Hid (okF (sl ss k) = (!used && (id == 0) && (prev == -1))) := by
                        show okF (sl ss k) = _
                        rw [Hs.out]; rfl
                      have HB := Lib.hid ((HW.out _ _ Hold.out).alloc (HW.out _ _ Hold.out).size (.cells #[.int .i64 id, .int .i64 prev, .int .i64 next, .bool used] 122))
                      cases used
                      · by_cases hi : id = 0
                        · subst hi
                          by_cases hpv : prev = -1
                          · subst hpv
                            have HE1 := Lib.hid (HE.out.trans (freeW_next hk Hv.out (by rw [Hok.out]; rfl)))
                            have hfz : wr.frozen? ⟨w.heap.size + 1, k, none⟩ = false := Hrow.out.frozen k
                            have hwz := Hrow.out.lt
                            have HR := Lib.hid ((Hrow.out.set k (.bool true)).alloc (.cells #[.int .i64 0, .int .i64 (-1), .int .i64 next, .bool false] 122))
                            have HO := Lib.hid ((Hold.out.setCell (p := ⟨w.heap.size + 1, k, none⟩) (Nat.le_refl _) (.bool true)).alloc (by simp [World.setCell]; omega) (.cells #[.int .i64 0, .int .i64 (-1), .int .i64 next, .bool false] 122))
                            obtain ⟨d0, _, _, _, _⟩ := box5 HO.out
                            have hcs := (HI.out.below (HW.out _ _ HO.out) hs) (by have := Hn.out; omega)
                            obtain ⟨g', e', _, hgs, hcs⟩ := hcs
                            cases e'
                            obtain ⟨_, _, e2, _, _⟩ := hcs k (by have := Hn.out; omega)
                            rw [show ss.getD k zSl = sl ss k from rfl, Hs.out] at e2
                            dsimp only at e2
                            clear hcs
                            go_wp2_with (go_at_call 60; with_reducible refine (Tick.in_any _ _ _ _).mono ?_; rintro e w' ⟨rfl, rfl⟩)
                            go_roundw
                            case rel =>
                              have hnd := nodup_snoc Hd.out Hv.out
                              have hl60 := lt_snoc Hl.out hk
                              have h60 := nodup_le 60 _ hnd hl60
                              rw [List.length_append, List.length_singleton] at h60
                              refine ⟨vs ++ [k], G - 1, next, by simp, rfl, ?_, ?_, hnd, hl60, HR.out.congr (fun j _ => ?_), HO.out⟩
                              · have := HG.out
                                rw [List.length_append, List.length_singleton]; omega
                              · have h1 := HE1.out
                                have := HG.out
                                rw [Hs.out] at h1
                                rw [show G - 1 + 1 = G from by omega]
                                exact h1
                              · by_cases e : j = k
                                · subst e; simp
                                · rw [if_neg e]; simp [e]
                            case measure => simp [intOf] <;> omega
                          · have hpb : (prev == -1) = false := beq_eq_false_iff_ne.2 hpv
                            have hpc : (prev != -1) = true := by simp [hpv]
                            go_wp2_with (go_at_call 60; with_reducible refine (Tick.in_any _ _ _ _).mono ?_; rintro e w' ⟨rfl, rfl⟩)
                            go_ret
                            exact ⟨ret_bool (okQ_free Hu.out (HE.out.trans (freeW_bad hk (by rw [Hok.out, hpb]; rfl)))).symm, HB.out⟩
                        · have hib : (id == 0) = false := beq_eq_false_iff_ne.2 hi
                          have hic : (id != 0) = true := by simp [hi]
                          go_wp2_with (go_at_call 60; with_reducible refine (Tick.in_any _ _ _ _).mono ?_; rintro e w' ⟨rfl, rfl⟩)
                          go_ret
                          exact ⟨ret_bool (okQ_free Hu.out (HE.out.trans (freeW_bad hk (by rw [Hok.out, hib]; simp)))).symm, HB.out⟩
                      · go_wp2_with (go_at_call 60; with_reducible refine (Tick.in_any _ _ _ _).mono ?_; rintro e w' ⟨rfl, rfl⟩)
                        go_ret
                        exact ⟨ret_bool (okQ_free Hu.out (HE.out.trans (freeW_bad hk (by rw [Hok.out]; rfl)))).symm, HB.out⟩
                  · have hin : Tick.inB p 0 59 = false := Tick.inB_false (by omega)
                    go_wp2_with (go_at_call 60; with_reducible refine (Tick.in_any _ _ _ _).mono ?_; rintro e w' ⟨rfl, rfl⟩)
                    go_ret
                    exact ⟨ret_bool (okQ_free Hu.out (HE.out.trans (freeW_out hp hr))).symm, HW.out _ _ Hold.out⟩
            · have hlb : (l == ahead) = false := beq_eq_false_iff_ne.2 hla
              have hlc : (l != ahead) = true := by simp [hla]
              go_wp2
              go_ret
              exact ⟨ret_bool (okQ_cnt Hu.out (.inr hla)).symm, HW.out _ _ Hst.out.old⟩
          · have hcb : ((vis.length : Int) != c) = true := by simp [hcn]
            have hcb' : ((vis.length : Int) == c) = false := by simp [hcn]
            go_wp2
            go_ret
            exact ⟨ret_bool (okQ_cnt Hu.out (.inl hcn)).symm, HW.out _ _ Hst.out.old⟩
        · have hp1 : (p == -1) = false := beq_eq_false_iff_ne.2 hp
          have hp2 : (p != -1) = true := by simp [hp]
          by_cases hr : 0 ≤ p ∧ p ≤ 59
          · obtain ⟨k, rfl⟩ := Int.eq_ofNat_of_zero_le hr.1
            have hk : k < 60 := by omega
            have hin : Tick.inB (k : Int) 0 59 = true := Tick.inB_true hr.1 hr.2
            have hsn := Hst.out.seen.cell hk
            by_cases hv : k ∈ vis
            · rw [decide_eq_true hv] at hsn
              go_wp2_with (go_at_call 60; with_reducible refine (Tick.in_any _ _ _ _).mono ?_; rintro e w' ⟨rfl, rfl⟩)
              go_ret
              exact ⟨ret_bool (okQ_none (HE.out.trans (usedW_seen hk hv))).symm, HW.out _ _ Hst.out.old⟩
            · rw [decide_eq_false hv] at hsn
              have Hv := Lib.hid hv
              clear hv
              obtain ⟨g, rfl, _, _, hcs⟩ := (HI.out.below (HW.out _ _ Hst.out.old) hs) (by have := Hn.out; omega)
              obtain ⟨c0, c1, c2, c3, _⟩ := hcs k (by have := Hn.out; omega)
              clear hcs
              have Hs : Hid (sl ss k = ss.getD k zSl) := rfl
              generalize ss.getD k zSl = sk at c0 c1 c2 c3 Hs
              obtain ⟨id, prev, next, used⟩ := sk
              dsimp only at c0 c1 c2 c3
              have Hok := Lib.hid (okU_eq (vis := vis) (a := ahead) Hs.out)
              cases used
              · go_wp2_with (go_at_call 60; with_reducible refine (Tick.in_any _ _ _ _).mono ?_; rintro e w' ⟨rfl, rfl⟩)
                go_ret
                exact ⟨ret_bool (okQ_none (HE.out.trans (usedW_bad hk (by rw [Hok.out]; rfl)))).symm, (HW.out _ _ Hst.out.old).alloc (HW.out _ _ Hst.out.old).size _⟩
              by_cases hpa : prev = ahead
              · subst hpa
                by_cases hi : 1 ≤ id ∧ id ≤ 1000000000
                · have hin1 : Tick.inB id 1 1000000000 = true := Tick.inB_true hi.1 hi.2
                  obtain ⟨A', cap', rfl⟩ := owns_form Hst.out.ids
                  have HZ := Lib.hid (idsOf_len ss vis)
                  have hzl : (idsOf ss vis).length ≤ 60 := by rw [HZ.out]; exact hvl
                  cases hh : (idsOf ss vis).contains id
                  · have hok : okU ss vis prev k = true := by rw [Hok.out, hh, decide_eq_true hi.1, decide_eq_true hi.2]; simp
                    have HE1 := Lib.hid (HE.out.trans (usedW_next hk Hv.out hok))
                    have Hh := Lib.hid hh
                    clear hok hh
                    obtain ⟨i0, hi0, hz0, hz1, hz2⟩ := info_parts infoInt
                    have Hi0 := Lib.hid hi0
                    have Hz0 := Lib.hid hz0
                    have Hz1 := Lib.hid hz1
                    have Hz2 := Lib.hid hz2
                    clear hi0 hz0 hz1 hz2
                    have hfz : wr.frozen? ⟨w.heap.size + 1, k, none⟩ = false := Hst.out.seen.frozen k
                    have hwz := Hst.out.seen.lt
                    go_wp2_with (first | (go_at_call 60; with_reducible refine (Tick.in_any _ _ _ _).mono ?_; rintro e w' ⟨rfl, rfl⟩) | fail)
                    refine (has_any A' _ cap' _ id _ rfl (by omega) (ints_owns (Hst.out.ids.alloc _))).mono ?_
                    rintro e w' ⟨rfl, rfl⟩
                    rw [Hh.out]
                    go_wp2_with (at_builtin; refine wpList_append_own _ rfl _ _ 34 rfl (w.heap.size + 1 + 1) 3 i0 (.int .i64 0) 1 8 Try.underlying34 Hi0.out Hz0.out Hz1.out Hz2.out rfl (by decide) _ _ _ rfl (((Hst.out.ids.kept (Draw_grown_set _ _ _ _) ?c0h).alloc _).alloc _) ⟨wr.heap.size + 1, 0, none⟩ 1 1 [.int .i64 id] rfl rfl ?c1h ?c2h ?c3h ?c4h ?c5h ?_)
                    case c0h => exact .inr (fun e => by have := (Hst.out.ids.lt _ e).1; omega)
                    case c1h => exact new_one_at (by simp [World.setCell]) _ _
                    case c2h => simp [Value.oneCell']
                    case c3h => unfold maxLen; omega
                    case c4h => omega
                    case c5h => simp [World.setCell]; omega
                    · intro v' w1 hown hg _
                      have hst1 := Hst.out.step (by simp) hown hg
                      obtain ⟨d0, _, _, _, _⟩ := box5 hst1.old
                      have hcs := (HI.out.below (HW.out _ _ hst1.old) hs) (by have := Hn.out; omega)
                      obtain ⟨g', e', _, _, hcs⟩ := hcs
                      cases e'
                      obtain ⟨_, _, e2, _, _⟩ := hcs k (by have := Hn.out; omega)
                      rw [show ss.getD k zSl = sl ss k from rfl, Hs.out] at e2
                      have HQ : Hid (UsedSt (w.heap.size + 1) (w.alloc (.cells #[.slice (some ⟨g, 0, none⟩) 60 cap, .int .i64 f, .int .i64 l, .int .i64 r, .int .i64 c] 28)) w1 v' (vis ++ [k]) (idsOf ss (vis ++ [k]))) := by
                        have := idsOf_snoc ss vis k
                        rw [Hs.out] at this
                        show UsedSt _ _ _ _ _ _
                        rw [this]; exact hst1
                      clear hst1 hown hg hcs
                      dsimp only at e2
                      go_wp2
                      go_roundw
                      case rel =>
                        refine ⟨vis ++ [k], F - 1, k, next, by simp, rfl, rfl, ?_, ?_, nodup_snoc Hd.out Hv.out, lt_snoc Hl.out hk, HQ.out⟩
                        · have := HF.out
                          have := nodup_le 60 (vis ++ [k]) (nodup_snoc Hd.out Hv.out) (lt_snoc Hl.out hk)
                          rw [List.length_append, List.length_singleton] at this ⊢; omega
                        · have h1 := HE1.out
                          have := HF.out
                          have := nodup_le 60 (vis ++ [k]) (nodup_snoc Hd.out Hv.out) (lt_snoc Hl.out hk)
                          simp at this
                          rw [Hs.out] at h1
                          rw [show F - 1 + 1 = F from by omega]
                          exact h1
                      case measure => simp [intOf] <;> omega
                  · have hok : okU ss vis prev k = false := by rw [Hok.out, hh]; simp
                    have HE1 := Lib.hid (HE.out.trans (usedW_bad (F := F) hk hok))
                    have Hh := Lib.hid hh
                    clear hok hh
                    go_wp2_with (first | (go_at_call 60; with_reducible refine (Tick.in_any _ _ _ _).mono ?_; rintro e w' ⟨rfl, rfl⟩) | fail)
                    refine (has_any A' _ cap' _ id _ rfl (by omega) (ints_owns (Hst.out.ids.alloc _))).mono ?_
                    rintro e w' ⟨rfl, rfl⟩
                    rw [Hh.out]
                    go_wp2
                    go_ret
                    exact ⟨ret_bool (okQ_none HE1.out).symm, (HW.out _ _ Hst.out.old).alloc (HW.out _ _ Hst.out.old).size _⟩
                · have hin1 : Tick.inB id 1 1000000000 = false := Tick.inB_false (by omega)
                  have hok : okU ss vis prev k = false := by
                    rw [Hok.out]
                    by_cases h1 : 1 ≤ id
                    · rw [decide_eq_false (p := id ≤ 1000000000) (by omega)]; simp
                    · rw [decide_eq_false (p := 1 ≤ id) h1]; simp
                  have HE1 := Lib.hid (HE.out.trans (usedW_bad (F := F) hk hok))
                  clear hok
                  go_wp2_with (go_at_call 60; with_reducible refine (Tick.in_any _ _ _ _).mono ?_; rintro e w' ⟨rfl, rfl⟩)
                  go_ret
                  exact ⟨ret_bool (okQ_none HE1.out).symm, (HW.out _ _ Hst.out.old).alloc (HW.out _ _ Hst.out.old).size _⟩
              · have hpb : (prev == ahead) = false := beq_eq_false_iff_ne.2 hpa
                have hpc : (prev != ahead) = true := by simp [hpa]
                have HE1 := Lib.hid (HE.out.trans (usedW_bad (F := F) (a := ahead) hk (by rw [Hok.out, hpb]; simp)))
                go_wp2_with (go_at_call 60; with_reducible refine (Tick.in_any _ _ _ _).mono ?_; rintro e w' ⟨rfl, rfl⟩)
                go_ret
                exact ⟨ret_bool (okQ_none HE1.out).symm, (HW.out _ _ Hst.out.old).alloc (HW.out _ _ Hst.out.old).size _⟩
          · have hin : Tick.inB p 0 59 = false := Tick.inB_false (by omega)
            go_wp2_with (go_at_call 60; with_reducible refine (Tick.in_any _ _ _ _).mono ?_; rintro e w' ⟨rfl, rfl⟩)
            go_ret
            exact ⟨ret_bool (okQ_none (HE.out.trans (usedW_out hp hr))).symm, HW.out _ _ Hst.out.old⟩
    · have hin : Tick.inB c 0 60 = false := Tick.inB_false (by omega)
      go_enter Try.func91, Try.ntmps91
      go_wp2_with (go_at_call 60; with_reducible refine (Tick.in_any _ _ _ _).mono ?_; rintro e w' ⟨rfl, rfl⟩)
      go_ret
      refine ⟨ret_bool (Eq.symm ?_), bel_alloc _ _⟩
      cases hb : okQ ss f l r c
      · rfl
      · obtain ⟨us, fs, v⟩ := ok_val hb
        have h1 := v.cnt
        have h2 := v.full
        rw [List.length_append] at h2
        omega
  · have h1 : ((n : Int) == 60) = false := beq_eq_false_iff_ne.2 (by omega)
    have h2 : ((n : Int) != 60) = true := by simp; omega
    go_enter Try.func91, Try.ntmps91
    go_wp2
    go_ret
    exact ⟨ret_bool (okQ_len (by rw [Hn.out]; exact h60)).symm, bel_alloc _ _⟩
end Go.Proofs.Ytehdbdolhkflcaa.Que

namespace Go.Proofs.Ytehdbdolhkflcaa.Que
open Go.RowKit Go.Deep Base

def Sl.cells (s : Sl) : List Value := [.int .i64 s.id, .int .i64 s.prev, .int .i64 s.next, .bool s.used]
def cellsL : List Sl → List Value
  | [] => []
  | s :: r => s.cells ++ cellsL r

theorem cellsL_append (a b : List Sl) : cellsL (a ++ b) = cellsL a ++ cellsL b := by
  induction a with
  | nil => rfl
  | cons s r ih => simp only [List.cons_append, cellsL, ih, List.append_assoc]
theorem cellsL_one (s : Sl) : cellsL [s] = [.int .i64 s.id, .int .i64 s.prev, .int .i64 s.next, .bool s.used] := rfl
theorem cellsL_len (a : List Sl) : (cellsL a).length = a.length * 4 := by
  induction a with
  | nil => rfl
  | cons s r ih => simp only [cellsL, List.length_append, ih, Sl.cells, List.length_cons, List.length_nil]; omega
theorem cellsL_at : ∀ (ss : List Sl) (i j : Nat), i < ss.length → j < 4 → (cellsL ss)[i * 4 + j]? = (ss.getD i zSl).cells[j]?
  | [], i, j, h, _ => by simp at h
  | s :: r, 0, j, _, hj => by
    simp only [cellsL, Nat.zero_mul, Nat.zero_add, List.getD_cons_zero]
    rw [List.getElem?_append_left (by simp [Sl.cells]; omega)]
  | s :: r, i + 1, j, h, hj => by
    simp only [cellsL, List.getD_cons_succ]
    rw [List.getElem?_append_right (by simp [Sl.cells]; omega)]
    rw [show (i + 1) * 4 + j - s.cells.length = i * 4 + j from by simp [Sl.cells]; omega]
    exact cellsL_at r i j (by simp at h; omega) hj

theorem rd_owns {w : World} {base g n cap : Nat} {ss : List Sl} (hn : ss.length = n) (h : w.ownsRow base 122 4 (.slice (some ⟨g, 0, none⟩) n cap) n (cellsL ss)) : Rd w g ss := by
  intro i hi
  have hc : ∀ j, j < 4 → w.cell? ⟨g, i * 4 + j, none⟩ = (ss.getD i zSl).cells[j]? := fun j hj => (h.cellAt (i * 4 + j) (by omega)).trans (cellsL_at ss i j hi hj)
  exact ⟨(hc 0 (by omega)).trans rfl, (hc 1 (by omega)).trans rfl, (hc 2 (by omega)).trans rfl, (hc 3 (by omega)).trans rfl, fun j => h.frozenAt j⟩

theorem slv_owns {w : World} {base n cap : Nat} {A : Option Addr} {ss : List Sl} (hn : ss.length = n) (h : w.ownsRow base 122 4 (.slice A n cap) n (cellsL ss)) : SlV w base w.heap.size A ss := by
  intro hp
  rcases h.2 with ⟨_, h0⟩ | ⟨g, cap', cur, hv, hb, hg, _⟩
  · omega
  · injection hv with hA _ _
    subst hA
    exact ⟨g, rfl, hb, (h.lt g rfl).2, rd_owns hn h⟩

theorem new_four_at {w : World} {B : Nat} (h : w.heap.size = B) (a b c d : Value) (t : TypeId) : ∀ j u, [a, b, c, d][j]? = some u → (w.alloc (.cells #[a, b, c, d] t)).cell? ((⟨B, 0, none⟩ : Addr).add j) = some u := by
  subst h
  intro j u hj
  have ea : (⟨w.heap.size, 0, none⟩ : Addr).add j = ⟨w.heap.size, j, none⟩ := by
    unfold Addr.add; split
    · next h => subst h; rfl
    · simp
  rw [ea, cell_of_row _ _ j #[a, b, c, d] t (0, 0) (heap_alloc_new w _)]
  simpa using hj

theorem below_block {w w' : World} {B g : Nat} (h : Below B w w') (hg : g < B) : w'.heap[g]? = w.heap[g]? := h.block g hg

/-- A block of five cells that is known whole. -/
def Blk5 (w : World) (g : Nat) (v0 v1 v2 v3 v4 : Value) : Prop := w.heap[g]? = some (.cells #[v0, v1, v2, v3, v4] 28 (0, 0))

theorem Blk5.cells {w : World} {g : Nat} {v0 v1 v2 v3 v4 : Value} (h : Blk5 w g v0 v1 v2 v3 v4) :
    w.cell? ⟨g, 0, none⟩ = some v0 ∧ w.cell? ⟨g, 1, none⟩ = some v1 ∧ w.cell? ⟨g, 2, none⟩ = some v2 ∧ w.cell? ⟨g, 3, none⟩ = some v3 ∧ w.cell? ⟨g, 4, none⟩ = some v4 ∧ ∀ j, w.frozen? ⟨g, j, none⟩ = false := by
  have hc : ∀ o, w.cell? ⟨g, o, none⟩ = #[v0, v1, v2, v3, v4][o]? := fun o => cell_of_row _ _ o _ _ (0, 0) h
  refine ⟨?_, ?_, ?_, ?_, ?_, fun j => by unfold Blk5 at h; simp [World.frozen?, h]⟩ <;> (rw [hc]; rfl)
theorem Blk5.lt {w : World} {g : Nat} {v0 v1 v2 v3 v4 : Value} (h : Blk5 w g v0 v1 v2 v3 v4) : g < w.heap.size := (Array.getElem?_eq_some_iff.1 h).1
theorem Blk5.of_block {w w' : World} {g : Nat} {v0 v1 v2 v3 v4 : Value} (h : Blk5 w g v0 v1 v2 v3 v4) (e : w'.heap[g]? = w.heap[g]?) : Blk5 w' g v0 v1 v2 v3 v4 := e.trans h
theorem Blk5.alloc {w : World} {g : Nat} {v0 v1 v2 v3 v4 : Value} (h : Blk5 w g v0 v1 v2 v3 v4) (o : Obj) : Blk5 (w.alloc o) g v0 v1 v2 v3 v4 := h.of_block (Below.heap_alloc w o g h.lt)
theorem Blk5.set0 {w : World} {g : Nat} {v0 v1 v2 v3 v4 : Value} (h : Blk5 w g v0 v1 v2 v3 v4) (u : Value) : Blk5 (w.setCell ⟨g, 0, none⟩ u) g u v1 v2 v3 v4 := by
  unfold Blk5 at h ⊢
  simp [World.setCell, Array.getElem?_modify, h]

theorem far_cells {wr w1 : World} {B : Nat} {v : Value} {e : TypeId} {size k : Nat} {xs : List Value} {o : Obj} (hg : (wr.alloc o).drew.grownBy w1 v.ownBlock) (h : wr.ownsRow B e size v k xs) :
    ∀ b j, b < B ∧ b < wr.heap.size → w1.cell? ⟨b, j, none⟩ = wr.cell? ⟨b, j, none⟩ := fun b j hb => by
  have e1 : w1.heap[b]? = (wr.alloc o).heap[b]? := hg.block b (by show b < (wr.alloc o).heap.size; simp; omega) (fun e => by have := (h.lt b e.symm).1; omega)
  exact World.cell?_of_block (w := wr) (e1.trans (Below.heap_alloc wr o b hb.2))
theorem far_frozen {wr w1 : World} {B : Nat} {v : Value} {e : TypeId} {size k : Nat} {xs : List Value} {o : Obj} (hg : (wr.alloc o).drew.grownBy w1 v.ownBlock) (h : wr.ownsRow B e size v k xs) :
    ∀ b j, b < B ∧ b < wr.heap.size → w1.frozen? ⟨b, j, none⟩ = wr.frozen? ⟨b, j, none⟩ := fun b j hb => by
  have e1 : w1.heap[b]? = (wr.alloc o).heap[b]? := hg.block b (by show b < (wr.alloc o).heap.size; simp; omega) (fun e => by have := (h.lt b e.symm).1; omega)
  exact World.frozen?_of_block (w := wr) (e1.trans (Below.heap_alloc wr o b hb.2))

theorem other_cell {w : World} {b g o j : Nat} (u : Value) (_ : Unit) (h : b ≠ g) : (w.setCell ⟨g, o, none⟩ u).cell? ⟨b, j, none⟩ = w.cell? ⟨b, j, none⟩ :=
  World.cell?_setCell_other _ _ _ _ (fun e => by injection e with e _ _; exact h e.symm)

theorem grown_undrew {a b : World} {row : Option Nat} (h : a.drew.grownBy b row) : a.grownBy b row := ⟨h.os, h.tape, h.output, h.size, h.block⟩

structure CopySt (B : Nat) (w wr : World) (v f l r c : Value) (k : Nat) (ss : List Sl) : Prop where
  box : Blk5 wr (B + 1 + 1) v f l r c
  own : wr.ownsRow (B + 1 + 1 + 1) 122 4 v k (cellsL (ss.take k))
  old : Below (B + 1 + 1) w wr

theorem CopySt.step {B : Nat} {w wr w1 : World} {v v' f l r c : Value} {k : Nat} {ss : List Sl} {o : Obj} (h : CopySt B w wr v f l r c k ss) {xs : List Value} (hx : cellsL (ss.take (k + 1)) = xs) (hown : w1.ownsRow (B + 1 + 1 + 1) 122 4 v' (k + 1) xs) (hg : (wr.alloc o).grownBy w1 v.ownBlock) :
    CopySt B w (w1.setCell ⟨B + 1 + 1, 0, none⟩ v') v' f l r c (k + 1) ss := by
  have hlt := h.box.lt
  have hne : some (B + 1 + 1) ≠ v.ownBlock := fun e => by have := (h.own.lt _ e.symm).1; omega
  have hb1 : Blk5 w1 (B + 1 + 1) v f l r c := (h.box.alloc o).of_block (hg.block _ (by simp; omega) hne)
  refine ⟨hb1.set0 v', ?_, ?_⟩
  · rw [hx]
    refine hown.kept (Draw_grown_set _ _ _ _) (.inr fun e => ?_)
    have := (hown.lt _ e).1
    omega
  · exact ((h.old.alloc (by omega) o).grown hg (by simp; omega) (fun j e => by have := (h.own.lt j e).1; omega)).setCell (by simp) _

def LoopC (B : Nat) (w wr : World) (f l r c : Value) (k : Nat) (ss : List Sl) : Prop := ∃ v, CopySt B w wr v f l r c k ss


end Go.Proofs.Ytehdbdolhkflcaa.Que

namespace Go.Proofs.Ytehdbdolhkflcaa.Que
open Go.RowKit Go.Deep Base

def newAt (i : Nat) : Sl := ⟨0, -1, if i + 1 = 60 then -1 else (i : Int) + 1, false⟩
def newS : List Sl := (List.range 60).map newAt
theorem newS_len : newS.length = 60 := by simp [newS]
theorem newS_at {i : Nat} (h : i < 60) : newS.getD i zSl = newAt i := by simp [newS, h]
theorem newS_take {k : Nat} (h : k < 60) : newS.take (k + 1) = newS.take k ++ [newAt k] := by
  rw [List.take_succ_eq_append_getElem (by rw [newS_len]; exact h)]
  simp [newS]

structure NewSt (B : Nat) (w wr : World) (v : Value) (k : Nat) : Prop where
  box : Blk5 wr (B + 1) v (.int .i64 (-1)) (.int .i64 (-1)) (.int .i64 0) (.int .i64 0)
  own : wr.ownsRow (B + 1 + 1) 122 4 v k (cellsL (newS.take k))
  old : Below (B + 1) w wr

theorem NewSt.step {B : Nat} {w wr w1 : World} {v v' : Value} {k : Nat} {o : Obj} (h : NewSt B w wr v k) {xs : List Value} (hx : cellsL (newS.take (k + 1)) = xs) (hown : w1.ownsRow (B + 1 + 1) 122 4 v' (k + 1) xs) (hg : (wr.alloc o).grownBy w1 v.ownBlock) :
    NewSt B w (w1.setCell ⟨B + 1, 0, none⟩ v') v' (k + 1) := by
  have hlt := h.box.lt
  have hne : some (B + 1) ≠ v.ownBlock := fun e => by have := (h.own.lt _ e.symm).1; omega
  have hb1 : Blk5 w1 (B + 1) v (.int .i64 (-1)) (.int .i64 (-1)) (.int .i64 0) (.int .i64 0) := (h.box.alloc o).of_block (hg.block _ (by simp; omega) hne)
  refine ⟨hb1.set0 v', ?_, ?_⟩
  · rw [hx]
    refine hown.kept (Draw_grown_set _ _ _ _) (.inr fun e => ?_)
    have := (hown.lt _ e).1
    omega
  · exact ((h.old.alloc (by omega) o).grown hg (by simp; omega) (fun j e => by have := (h.own.lt j e).1; omega)).setCell (by simp) _

def LoopN (B : Nat) (w wr : World) (k : Nat) : Prop := ∃ v, NewSt B w wr v k

set_option maxRecDepth 100000 in
set_option maxHeartbeats 1000000 in
theorem specNew_any (w : World) : Calls Try.prog 62 #[] w (NewQ w 60 newS (-1) (-1) 0 0) := by
  go_enter Try.func62, Try.ntmps62
  go_wp2
  go_loopw [2] (fun i wr => ∃ k : Nat, k ≤ 60 ∧ i = .int .i64 k ∧ LoopN w.heap.size (w.alloc (.cells #[.slice none 0 0, .int .i64 0, .int .i64 0, .int .i64 0, .int .i64 0] 28)) wr k) (fun i _ => 60 - (intOf i).toNat)
  case atStart =>
    refine ⟨0, Nat.zero_le _, rfl, .slice none 0 0, ⟨?_, ?_, ?_⟩⟩
    · have h := heap_alloc_new (w.alloc (.cells #[.slice none 0 0, .int .i64 0, .int .i64 0, .int .i64 0, .int .i64 0] 28)) (.cells #[.slice none 0 0, .int .i64 (-1), .int .i64 (-1), .int .i64 0, .int .i64 0] 28)
      simp only [World.size_alloc] at h
      exact h
    · exact World.ownsRow_nil _ _ _ _
    · exact (Below.refl _ _).alloc (by simp) _
  case round =>
    obtain ⟨k, hk, rfl, v, hst⟩ := hrel
    have Hst := Lib.hid hst
    clear hst
    obtain ⟨x0, x1, x2, x3, x4, xf⟩ := Hst.out.box.cells
    by_cases hlt : k < 60
    · obtain ⟨i0, hi0, hz0, hz1, hz2⟩ := info_parts infoSlot
      have Hi0 := Lib.hid hi0
      have Hz0 := Lib.hid hz0
      have Hz1 := Lib.hid hz1
      have Hz2 := Lib.hid hz2
      clear hi0 hz0 hz1 hz2
      have hsz := Hst.out.box.lt
      obtain ⟨nx, hnx⟩ : ∃ nx, (newAt k).next = nx := ⟨_, rfl⟩
      have Hx : Hid (cellsL (newS.take (k + 1)) = cellsL (newS.take k) ++ [.int .i64 0, .int .i64 (-1), .int .i64 nx, .bool false]) := by
        show _ = _
        rw [newS_take hlt, cellsL_append, ← hnx]; rfl
      by_cases h60 : k + 1 = 60
      · have h1 : ((k : Int) + 1 == 60) = true := beq_iff_eq.2 (by omega)
        obtain rfl : -1 = nx := by rw [← hnx]; show _ = if k + 1 = 60 then _ else _; rw [if_pos h60]
        clear hnx h60
        go_wp2_with (at_builtin; refine wpList_append_own _ rfl _ _ 26 rfl (w.heap.size + 1 + 1) 122 i0 _ 4 32 Try.underlying26 Hi0.out Hz0.out Hz1.out Hz2.out rfl (by decide) _ _ _ rfl (Hst.out.own.alloc _) ⟨wr.heap.size, 0, none⟩ 1 1 [.int .i64 0, .int .i64 (-1), .int .i64 (-1), .bool false] rfl rfl ?c1h ?c2h ?c3h ?c4h ?c5h ?_)
        case c1h => exact new_four_at (w := wr) rfl _ _ _ _ _
        case c2h => simp [Value.oneCell']
        case c3h => unfold maxLen; omega
        case c4h => omega
        case c5h => simp; omega
        · intro v' w1 hown hg _
          have hne : some (w.heap.size + 1) ≠ v.ownBlock := fun e => by have := (Hst.out.own.lt _ e.symm).1; omega
          obtain ⟨y0, _, _, _, _, yf⟩ := ((Hst.out.box.alloc (.cells #[.int .i64 0, .int .i64 (-1), .int .i64 (-1), .bool false] 122)).of_block (hg.block _ (by simp; omega) hne)).cells
          have HQ := Lib.hid (Hst.out.step Hx.out hown hg)
          obtain ⟨A', cap', rfl⟩ := owns_form hown
          clear hown hg hne
          go_wp2
          go_roundw
          case rel => exact ⟨k + 1, by omega, by go_num, _, HQ.out⟩
          case measure => simp [intOf]; omega
      · have h1 : ((k : Int) + 1 == 60) = false := beq_eq_false_iff_ne.2 (by omega)
        obtain rfl : (k : Int) + 1 = nx := by rw [← hnx]; show _ = if k + 1 = 60 then _ else _; rw [if_neg h60]
        clear hnx h60
        go_wp2_with (at_builtin; refine wpList_append_own _ rfl _ _ 26 rfl (w.heap.size + 1 + 1) 122 i0 _ 4 32 Try.underlying26 Hi0.out Hz0.out Hz1.out Hz2.out rfl (by decide) _ _ _ rfl (Hst.out.own.alloc _) ⟨wr.heap.size, 0, none⟩ 1 1 [.int .i64 0, .int .i64 (-1), .int .i64 ((k : Int) + 1), .bool false] rfl rfl ?c1h2 ?c2h2 ?c3h2 ?c4h2 ?c5h2 ?_)
        case c1h2 => exact new_four_at (w := wr) rfl _ _ _ _ _
        case c2h2 => simp [Value.oneCell']
        case c3h2 => unfold maxLen; omega
        case c4h2 => omega
        case c5h2 => simp; omega
        · intro v' w1 hown hg _
          have hne : some (w.heap.size + 1) ≠ v.ownBlock := fun e => by have := (Hst.out.own.lt _ e.symm).1; omega
          obtain ⟨y0, _, _, _, _, yf⟩ := ((Hst.out.box.alloc (.cells #[.int .i64 0, .int .i64 (-1), .int .i64 ((k : Int) + 1), .bool false] 122)).of_block (hg.block _ (by simp; omega) hne)).cells
          have HQ := Lib.hid (Hst.out.step Hx.out hown hg)
          obtain ⟨A', cap', rfl⟩ := owns_form hown
          clear hown hg hne
          go_wp2
          go_roundw
          case rel => exact ⟨k + 1, by omega, by go_num, _, HQ.out⟩
          case measure => simp [intOf]; omega
    · obtain rfl : k = 60 := by omega
      obtain ⟨A', cap', rfl⟩ := owns_form Hst.out.own
      obtain ⟨z0, z1, z2, z3, z4, zf⟩ := (Blk5.of_block (w := w.alloc (.cells #[.slice none 0 0, .int .i64 0, .int .i64 0, .int .i64 0, .int .i64 0] 28)) (g := w.heap.size) (heap_alloc_new w _) (Hst.out.old.block w.heap.size (by omega))).cells
      go_wp2
      refine bodyPost_ret (v := .agg #[.slice A' 60 cap', .int .i64 (-1), .int .i64 (-1), .int .i64 0, .int .i64 0]) (by simp [results, Try.results62, go_sem, z0, z1, z2, z3, z4]) rfl ⟨A', cap', rfl, ?_, ?_⟩
      · have e : newS.take 60 = newS := List.take_of_length_le (by rw [newS_len]; omega)
        have ho := Hst.out.own
        rw [e] at ho
        refine SlV.wide (lo := w.heap.size + 1 + 1) (hi := wr.heap.size) ?_ (by omega) (by simp [World.setCell])
        iterate 5 refine SlV.setCell ?_ (by simp <;> omega) _
        exact slv_owns newS_len ho
      · iterate 5 refine Below.setCell ?_ (by simp <;> omega) _
        exact ((Below.refl _ _).alloc (Nat.le_refl _) _).trans (Hst.out.old.mono (by omega))
end Go.Proofs.Ytehdbdolhkflcaa.Que

namespace Go.Proofs.Ytehdbdolhkflcaa.Que
open Go.RowKit Go.Deep Base

def lkF (ss : List Sl) (f l r c : Int) (o : Nat) : Value :=
  if o < 240 then (sl ss (o / 4)).at (o % 4) else if o = 240 then .int .i64 f else if o = 241 then .int .i64 l else if o = 242 then .int .i64 r else .int .i64 c

def lkA (ss : List Sl) (f l r c : Int) : Array Value := (Array.range 244).map (lkF ss f l r c)
theorem lkA_size (ss : List Sl) (f l r c : Int) : (lkA ss f l r c).size = 244 := by simp [lkA]
theorem lkA_at (ss : List Sl) (f l r c : Int) {o : Nat} (h : o < 244) : (lkA ss f l r c)[o]? = some (lkF ss f l r c o) := by simp [lkA, h]
theorem lkA_past (ss : List Sl) (f l r c : Int) {o : Nat} (h : ¬ o < 244) : (lkA ss f l r c)[o]? = none := by simp [lkA]; omega

/-- The program's form of a queue lies in block b. -/
def Lk (w : World) (b : Nat) (ss : List Sl) (f l r c : Int) : Prop := w.heap[b]? = some (.cells (lkA ss f l r c) 127 (0, 0))

theorem Lk.row {w : World} {b : Nat} {ss : List Sl} {f l r c : Int} (h : Lk w b ss f l r c) : w.rowIs b 127 244 (lkF ss f l r c) := ⟨_, h, lkA_size _ _ _ _ _, fun _ hi => lkA_at _ _ _ _ _ hi⟩
theorem lk_of_row {w : World} {b : Nat} {ss : List Sl} {f l r c : Int} (h : w.rowIs b 127 244 (lkF ss f l r c)) : Lk w b ss f l r c := by
  obtain ⟨cs, hb, hn, hc⟩ := h
  unfold Lk
  rw [hb]
  have : cs = lkA ss f l r c := by
    apply Array.ext_getElem?
    intro i
    by_cases hi : i < 244
    · rw [hc i hi, lkA_at _ _ _ _ _ hi]
    · rw [lkA_past _ _ _ _ _ hi, Array.getElem?_eq_none (by omega)]
  rw [this]
theorem Lk.of_block {w w' : World} {b : Nat} {ss : List Sl} {f l r c : Int} (h : Lk w b ss f l r c) (e : w'.heap[b]? = w.heap[b]?) : Lk w' b ss f l r c := e.trans h
theorem Lk.lt {w : World} {b : Nat} {ss : List Sl} {f l r c : Int} (h : Lk w b ss f l r c) : b < w.heap.size := h.row.lt
theorem Lk.alloc {w : World} {b : Nat} {ss : List Sl} {f l r c : Int} (h : Lk w b ss f l r c) (o : Obj) : Lk (w.alloc o) b ss f l r c := h.of_block (Below.heap_alloc w o b h.lt)
theorem Lk.drew {w : World} {b : Nat} {ss : List Sl} {f l r c : Int} (h : Lk w b ss f l r c) : Lk w.drew b ss f l r c := h
theorem Lk.below {w w' : World} {b : Nat} {ss : List Sl} {f l r c : Int} (h : Lk w b ss f l r c) (hb : Below w.heap.size w w') : Lk w' b ss f l r c := h.of_block (hb.block b h.lt)

theorem Lk.nums {w : World} {b : Nat} {ss : List Sl} {f l r c : Int} (h : Lk w b ss f l r c) :
    w.cell? ⟨b, 240, none⟩ = some (.int .i64 f) ∧ w.cell? ⟨b, 241, none⟩ = some (.int .i64 l) ∧ w.cell? ⟨b, 242, none⟩ = some (.int .i64 r) ∧ w.cell? ⟨b, 243, none⟩ = some (.int .i64 c) ∧ ∀ j, w.frozen? ⟨b, j, none⟩ = false :=
  ⟨h.row.cell (by omega), h.row.cell (by omega), h.row.cell (by omega), h.row.cell (by omega), fun j => h.row.frozen j⟩

theorem Lk.slot {w : World} {b : Nat} {ss : List Sl} {f l r c : Int} (h : Lk w b ss f l r c) {i : Nat} (hi : i < 60) :
    w.cell? ⟨b, i * 4, none⟩ = some (.int .i64 (sl ss i).id) ∧ w.cell? ⟨b, i * 4 + 1, none⟩ = some (.int .i64 (sl ss i).prev) ∧ w.cell? ⟨b, i * 4 + 2, none⟩ = some (.int .i64 (sl ss i).next) ∧ w.cell? ⟨b, i * 4 + 3, none⟩ = some (.bool (sl ss i).used) := by
  have hc : ∀ j, j < 4 → w.cell? ⟨b, i * 4 + j, none⟩ = some ((sl ss i).at j) := fun j hj => by
    rw [h.row.cell (i := i * 4 + j) (by omega), lkF, if_pos (by omega), show (i * 4 + j) / 4 = i from by omega, show (i * 4 + j) % 4 = j from by omega]
  exact ⟨hc 0 (by omega), hc 1 (by omega), hc 2 (by omega), hc 3 (by omega)⟩

theorem Lk.rd {w : World} {b : Nat} {ss : List Sl} {f l r c : Int} (h : Lk w b ss f l r c) (hn : ss.length = 60) : Rd w b ss := by
  intro i hi
  obtain ⟨h0, h1, h2, h3⟩ := h.slot (i := i) (by omega)
  exact ⟨h0, h1, h2, h3, h.nums.2.2.2.2⟩

/-- A store of field j of slot i. -/
theorem Lk.setF {w : World} {b : Nat} {ss : List Sl} {f l r c : Int} (h : Lk w b ss f l r c) {i j : Nat} (hi : i < 60) (hj : j < 4) (hn : ss.length = 60) {s : Sl} {v : Value} (hv : s.at j = v) (hs : ∀ k, k < 4 → k ≠ j → s.at k = (sl ss i).at k) :
    Lk (w.setCell ⟨b, i * 4 + j, none⟩ v) b (ss.set i s) f l r c := by
  refine lk_of_row ((h.row.set (i * 4 + j) v).congr fun o ho => ?_)
  by_cases e : o = i * 4 + j
  · subst e
    rw [if_pos rfl, lkF, if_pos (by omega), show (i * 4 + j) / 4 = i from by omega, show (i * 4 + j) % 4 = j from by omega, sl_set _ _ _ _ (by omega), if_pos rfl, hv]
  · rw [if_neg e]
    unfold lkF
    by_cases ho' : o < 240
    · rw [if_pos ho', if_pos ho', sl_set _ _ _ _ (by omega)]
      by_cases ei : o / 4 = i
      · rw [if_pos ei, ei]
        exact (hs (o % 4) (by omega) (by omega)).symm
      · rw [if_neg ei]
    · rw [if_neg ho', if_neg ho']

theorem Lk.setN {w : World} {b : Nat} {ss : List Sl} {f l r c : Int} (h : Lk w b ss f l r c) (f' l' r' c' : Int) (o : Nat) (ho : 240 ≤ o) (v : Value) (hv : lkF ss f' l' r' c' o = v) (hs : ∀ k, 240 ≤ k → k < 244 → k ≠ o → lkF ss f' l' r' c' k = lkF ss f l r c k) :
    Lk (w.setCell ⟨b, o, none⟩ v) b ss f' l' r' c' := by
  refine lk_of_row ((h.row.set o v).congr fun k hk => ?_)
  by_cases e : k = o
  · subst e; rw [if_pos rfl, hv]
  · rw [if_neg e]
    by_cases hk' : k < 240
    · unfold lkF; rw [if_pos hk', if_pos hk']
    · exact (hs k (by omega) hk e).symm

theorem Lk.setFirst {w : World} {b : Nat} {ss : List Sl} {f l r c : Int} (h : Lk w b ss f l r c) (x : Int) : Lk (w.setCell ⟨b, 240, none⟩ (.int .i64 x)) b ss x l r c :=
  h.setN x l r c 240 (by omega) _ rfl fun k h1 h2 h3 => by
    have : k = 241 ∨ k = 242 ∨ k = 243 := by omega
    rcases this with rfl | rfl | rfl <;> rfl
theorem Lk.setLast {w : World} {b : Nat} {ss : List Sl} {f l r c : Int} (h : Lk w b ss f l r c) (x : Int) : Lk (w.setCell ⟨b, 241, none⟩ (.int .i64 x)) b ss f x r c :=
  h.setN f x r c 241 (by omega) _ rfl fun k h1 h2 h3 => by
    have : k = 240 ∨ k = 242 ∨ k = 243 := by omega
    rcases this with rfl | rfl | rfl <;> rfl
theorem Lk.setFree {w : World} {b : Nat} {ss : List Sl} {f l r c : Int} (h : Lk w b ss f l r c) (x : Int) : Lk (w.setCell ⟨b, 242, none⟩ (.int .i64 x)) b ss f l x c :=
  h.setN f l x c 242 (by omega) _ rfl fun k h1 h2 h3 => by
    have : k = 240 ∨ k = 241 ∨ k = 243 := by omega
    rcases this with rfl | rfl | rfl <;> rfl
theorem Lk.setCount {w : World} {b : Nat} {ss : List Sl} {f l r c : Int} (h : Lk w b ss f l r c) (x : Int) : Lk (w.setCell ⟨b, 243, none⟩ (.int .i64 x)) b ss f l r x :=
  h.setN f l r x 243 (by omega) _ rfl fun k h1 h2 h3 => by
    have : k = 240 ∨ k = 241 ∨ k = 242 := by omega
    rcases this with rfl | rfl | rfl <;> rfl

theorem oldcell {w w1 : World} {o : Obj} (hb : Below (w.alloc o).drew.heap.size (w.alloc o).drew w1) : ∀ b j, b < w.heap.size → w1.cell? ⟨b, j, none⟩ = w.cell? ⟨b, j, none⟩ := fun b j h =>
  (hb.cell (p := ⟨b, j, none⟩) (by show b < (w.alloc o).heap.size; simp; omega)).trans (World.cell?_alloc_lt w o ⟨b, j, none⟩ h)

theorem newbox {w w1 : World} {v0 v1 v2 v3 v4 : Value} {t : TypeId} (hb : Below (w.alloc (.cells #[v0, v1, v2, v3, v4] t)).drew.heap.size (w.alloc (.cells #[v0, v1, v2, v3, v4] t)).drew w1) :
    w1.cell? ⟨w.heap.size, 0, none⟩ = some v0 ∧ w1.cell? ⟨w.heap.size, 1, none⟩ = some v1 ∧ w1.cell? ⟨w.heap.size, 2, none⟩ = some v2 ∧ w1.cell? ⟨w.heap.size, 3, none⟩ = some v3 ∧ w1.cell? ⟨w.heap.size, 4, none⟩ = some v4 ∧ ∀ j, w1.frozen? ⟨w.heap.size, j, none⟩ = false := by
  have e : w1.heap[w.heap.size]? = some (.cells #[v0, v1, v2, v3, v4] t (0, 0)) := (hb.block w.heap.size (by show _ < (w.alloc _).heap.size; simp)).trans (heap_alloc_new w _)
  have hc : ∀ o, w1.cell? ⟨w.heap.size, o, none⟩ = #[v0, v1, v2, v3, v4][o]? := fun o => cell_of_row _ _ o _ _ (0, 0) e
  refine ⟨?_, ?_, ?_, ?_, ?_, fun j => by simp [World.frozen?, e]⟩ <;> (rw [hc]; rfl)

theorem other5 {w : World} {b g j o0 o1 o2 o3 o4 : Nat} {u0 u1 u2 u3 u4 : Value} (h : b ≠ g) :
    (((((w.setCell ⟨g, o0, none⟩ u0).setCell ⟨g, o1, none⟩ u1).setCell ⟨g, o2, none⟩ u2).setCell ⟨g, o3, none⟩ u3).setCell ⟨g, o4, none⟩ u4).cell? ⟨b, j, none⟩ = w.cell? ⟨b, j, none⟩ := by
  rw [other_cell _ () h, other_cell _ () h, other_cell _ () h, other_cell _ () h, other_cell _ () h]

/-- What a call that hands back a new slice of slots leaves. -/
def NewS (w : World) (n : Nat) (ss : List Sl) (e : Ending) (w' : World) : Prop :=
  ∃ A cap, e = .returned (.slice A n cap) ∧ SlV w' w.heap.size w'.heap.size A ss ∧ Below w.heap.size w w'

theorem news_rd {w : World} {g : Nat} {ss : List Sl} (h : Rd w g ss) : ∀ j u, (cellsL ss)[j]? = some u → w.cell? ((⟨g, 0, none⟩ : Addr).add j) = some u := by
  intro j u hj
  have hlt : j < (cellsL ss).length := (List.getElem?_eq_some_iff.1 hj).1
  rw [cellsL_len] at hlt
  have ea : (⟨g, 0, none⟩ : Addr).add j = ⟨g, j, none⟩ := by
    unfold Addr.add; split
    · next h => subst h; rfl
    · simp
  rw [ea]
  have hi : j / 4 < ss.length := by omega
  have e := cellsL_at ss (j / 4) (j % 4) hi (by omega)
  rw [show j / 4 * 4 + j % 4 = j from by omega, hj] at e
  obtain ⟨h0, h1, h2, h3, _⟩ := h (j / 4) hi
  have hm : j % 4 = 0 ∨ j % 4 = 1 ∨ j % 4 = 2 ∨ j % 4 = 3 := by omega
  rcases hm with hm | hm | hm | hm <;> rw [hm] at e <;> simp [Sl.cells] at e <;> subst e
  · rw [show j = j / 4 * 4 from by omega]; simpa [List.getD_eq_getElem?_getD] using h0
  · rw [show j = j / 4 * 4 + 1 from by omega]; simpa [List.getD_eq_getElem?_getD, show (j / 4 * 4 + 1) / 4 = j / 4 from by omega] using h1
  · rw [show j = j / 4 * 4 + 2 from by omega]; simpa [List.getD_eq_getElem?_getD, show (j / 4 * 4 + 2) / 4 = j / 4 from by omega] using h2
  · rw [show j = j / 4 * 4 + 3 from by omega]; simpa [List.getD_eq_getElem?_getD, show (j / 4 * 4 + 3) / 4 = j / 4 from by omega] using h3

theorem cells_one (ss : List Sl) : ∀ u ∈ cellsL ss, u.oneCell' = true := by
  induction ss with
  | nil => simp [cellsL]
  | cons s r ih =>
    intro u hu
    simp only [cellsL, Sl.cells, List.mem_append] at hu
    rcases hu with hu | hu
    · simp at hu; rcases hu with rfl | rfl | rfl | rfl <;> rfl
    · exact ih u hu

set_option maxRecDepth 100000 in
set_option maxHeartbeats 400000 in
theorem clone_any (g n cap : Nat) (ss : List Sl) (w : World) (hn : ss.length = n) (hm : n ≤ 1048576) (h : Rd w g ss) (hg : g < w.heap.size) :
    Calls Try.prog 121 #[.slice (some ⟨g, 0, none⟩) n cap] w (NewS w n ss) := by
  have Hn := Lib.hid hn
  clear hn
  have HI := Lib.hid h
  clear h
  obtain ⟨i0, hi0, hz0, hz1, hz2⟩ := info_parts infoSlot
  have Hi0 := Lib.hid hi0
  have Hz0 := Lib.hid hz0
  have Hz1 := Lib.hid hz1
  have Hz2 := Lib.hid hz2
  clear hi0 hz0 hz1 hz2
  have hnil := fun W => Lib.run_eql_slice_nil (P := Try.prog) W 26 122 (some ⟨g, 0, none⟩) n cap 0 0 Try.underlying26
  go_enter Try.func121, Try.ntmps121
  go_wp2_with (at_builtin; refine wpList_append_own _ rfl _ _ 26 rfl w.heap.size 122 i0 _ 4 32 Try.underlying26 Hi0.out Hz0.out Hz1.out Hz2.out rfl (by decide) _ 0 [] rfl ?c0h ⟨g, 0, none⟩ n cap (cellsL ss) rfl ?c6h ?c1h ?c2h ?c3h ?c4h ?c5h ?_)
  case c0h =>
    have h := World.ownsRow_lit (base := w.heap.size) (e := 122) (size := 4) w #[] 0 (Nat.le_refl _) (by simp) (by simp)
    simp at h
    exact h
  case c6h => rw [cellsL_len, Hn.out]
  case c1h => exact news_rd (HI.out.of_block (Below.heap_alloc w _ g hg))
  case c2h => exact cells_one ss
  case c3h => unfold maxLen; omega
  case c4h => omega
  case c5h => simp
  · intro v' w1 hown hgr _
    obtain ⟨A', cap', rfl⟩ := owns_form hown
    have Ho := Lib.hid hown
    have Hg := Lib.hid hgr
    clear hown hgr
    go_wp2
    go_ret
    refine ⟨A', cap', rfl, slv_owns Hn.out Ho.out, (bel_alloc w _).grown Hg.out (by simp) (fun k e => ?_)⟩
    simp [Value.ownBlock] at e
    omega

set_option maxRecDepth 100000 in
theorem clone_nil (w : World) : Calls Try.prog 121 #[.slice none 0 0] w fun e w' => e = .returned (.slice none 0 0) ∧ w = w' := by
  have hnil := fun W => Lib.run_eql_slice_nil (P := Try.prog) W 26 122 none 0 0 0 0 Try.underlying26
  go_enter Try.func121, Try.ntmps121
  go_wp2
  go_ret
  exact ⟨rfl, rfl⟩

set_option maxRecDepth 100000 in
set_option maxHeartbeats 1000000 in
theorem queue_any (b : Nat) (f l r c : Int) (ss : List Sl) (w : World) (hn : ss.length = 60) (h : Lk w b ss f l r c) :
    Calls Try.prog 100 #[.pointer (some ⟨b, 0, none⟩)] w (NewQ w 60 ss f l r c) := by
  obtain ⟨n0, n1, n2, n3, _⟩ := h.nums
  have hlt := h.lt
  have Hn := Lib.hid hn
  have HI := Lib.hid h
  clear h hn
  have HG : Hid (b ≠ w.heap.size) := Nat.ne_of_lt hlt
  go_enter Try.func100, Try.ntmps100
  go_wp2_with fail
  go_region_held3 (fun w' => w'.cell? ⟨b, 240, none⟩ = some (.int .i64 f) ∧ w'.cell? ⟨b, 241, none⟩ = some (.int .i64 l) ∧ w'.cell? ⟨b, 242, none⟩ = some (.int .i64 r) ∧ w'.cell? ⟨b, 243, none⟩ = some (.int .i64 c))
    (first
      | with_reducible exact ⟨(Hc.out _ _ hlt).trans n0, (Hc.out _ _ hlt).trans n1, (Hc.out _ _ hlt).trans n2, (Hc.out _ _ hlt).trans n3⟩
      | with_reducible exact ⟨(other5 HG.out).trans ((Hc.out _ _ hlt).trans n0), (other5 HG.out).trans ((Hc.out _ _ hlt).trans n1), (other5 HG.out).trans ((Hc.out _ _ hlt).trans n2), (other5 HG.out).trans ((Hc.out _ _ hlt).trans n3)⟩
      | go_keep)
    ((go_at_call 121; refine (clone_any b 60 _ ss _ Hn.out (by omega) ((HI.out.alloc _).drew.rd Hn.out) (HI.out.alloc _).drew.lt).mono ?_; rintro e w1 ⟨A', cap', rfl, hv, hb⟩; have Hc := Lib.hid (oldcell hb); obtain ⟨d0, d1, d2, d3, d4, df⟩ := newbox hb; have Hb := Lib.hid hb; have Hv := Lib.hid hv; clear hb hv))
  go_wp2
  refine bodyPost_ret (v := .agg #[.slice A' 60 cap', .int .i64 f, .int .i64 l, .int .i64 r, .int .i64 c]) (by simp [results, Try.results100, go_sem, d0, d1, d2, d3, d4]) rfl ⟨A', cap', rfl, ?_, ?_⟩
  · have hv := Hv.out
    have hz : (w.alloc (.cells #[.slice none 0 0, .int .i64 0, .int .i64 0, .int .i64 0, .int .i64 0] 28)).drew.heap.size = w.heap.size + 1 := by show (w.alloc _).heap.size = _; simp
    rw [hz] at hv
    refine SlV.wide (lo := w.heap.size + 1) (hi := w1.heap.size) ?_ (by omega) (by simp [World.setCell])
    iterate 5 refine SlV.setCell ?_ (by simp <;> omega) _
    exact hv
  · iterate 5 refine Below.setCell ?_ (by simp <;> omega) _
    exact (bel_alloc w _).trans ((bel_of_drew Hb.out).mono (by simp))

theorem zero_links : Try.zeroCells127 = lkA (List.replicate 60 zSl) 0 0 0 0 := by kernel_rfl
theorem info_links : (Try.prog.info? 127).map (·.size) = some 244 := by kernel_rfl
end Go.Proofs.Ytehdbdolhkflcaa.Que

namespace Go.Proofs.Ytehdbdolhkflcaa.Que
open Go.RowKit Go.Deep Base

theorem lkA_one (ss : List Sl) (f l r c : Int) : (lkA ss f l r c).all (·.oneCell') = true := by
  rw [Array.all_eq_true_iff_forall_mem]
  intro v hv
  obtain ⟨i, hi, rfl⟩ := Array.mem_map.1 hv
  unfold lkF Sl.at
  repeat' split
  all_goals rfl

theorem lkA_set240 (ss : List Sl) (f l r c x : Int) : (lkA ss f l r c).setIfInBounds 240 (.int .i64 x) = lkA ss x l r c := by
  apply Array.ext_getElem?
  intro i
  rw [Array.getElem?_setIfInBounds]
  by_cases e : 240 = i
  · subst e; rw [if_pos rfl, if_pos (by rw [lkA_size]; omega), lkA_at _ _ _ _ _ (by omega)]; rfl
  · rw [if_neg e]
    by_cases hi : i < 244
    · rw [lkA_at _ _ _ _ _ hi, lkA_at _ _ _ _ _ hi]
      unfold lkF
      have e' : ¬ i = 240 := fun h => e h.symm
      simp only [e', if_false]
    · rw [lkA_past _ _ _ _ _ hi, lkA_past _ _ _ _ _ hi]
theorem lkA_set241 (ss : List Sl) (f l r c x : Int) : (lkA ss f l r c).setIfInBounds 241 (.int .i64 x) = lkA ss f x r c := by
  apply Array.ext_getElem?
  intro i
  rw [Array.getElem?_setIfInBounds]
  by_cases e : 241 = i
  · subst e; rw [if_pos rfl, if_pos (by rw [lkA_size]; omega), lkA_at _ _ _ _ _ (by omega)]; rfl
  · rw [if_neg e]
    by_cases hi : i < 244
    · rw [lkA_at _ _ _ _ _ hi, lkA_at _ _ _ _ _ hi]
      unfold lkF
      have e' : ¬ i = 241 := fun h => e h.symm
      simp only [e', if_false]
    · rw [lkA_past _ _ _ _ _ hi, lkA_past _ _ _ _ _ hi]

theorem store_links (w : World) (c c' : Array Value) (hc : c.size = 244) (ss : List Sl) (f l r n : Int) (h : c' = lkA ss f l r n) :
    (storeCells ⟨w.heap.size, 0, none⟩ c'.toList).run Try.prog (w.alloc (.cells c 127)) = .ok () (w.alloc (.cells (lkA ss f l r n) 127)) := by
  subst h
  exact run_storeCells_new w 127 c _ (by rw [info_links, lkA_size]) (by rw [hc, lkA_size]) (lkA_one _ _ _ _ _)

theorem Lk.next {w : World} {b : Nat} {ss : List Sl} {f l r c : Int} (h : Lk w b ss f l r c) {i : Nat} (hi : i < 60) (hn : ss.length = 60) (x : Int) : Lk (w.setCell ⟨b, i * 4 + 2, none⟩ (.int .i64 x)) b (ss.set i (wNext (sl ss i) x)) f l r c := by
  refine h.setF hi (j := 2) (by omega) hn rfl (fun j hj hne => ?_)
  have : j = 0 ∨ j = 1 ∨ j = 3 := by omega
  rcases this with rfl | rfl | rfl <;> rfl
theorem Lk.prev {w : World} {b : Nat} {ss : List Sl} {f l r c : Int} (h : Lk w b ss f l r c) {i : Nat} (hi : i < 60) (hn : ss.length = 60) (x : Int) : Lk (w.setCell ⟨b, i * 4 + 1, none⟩ (.int .i64 x)) b (ss.set i (wPrev (sl ss i) x)) f l r c := by
  refine h.setF hi (j := 1) (by omega) hn rfl (fun j hj hne => ?_)
  have : j = 0 ∨ j = 2 ∨ j = 3 := by omega
  rcases this with rfl | rfl | rfl <;> rfl

/-- The slots behind k rounds. -/
def newTo (k : Nat) : List Sl := (List.range 60).map fun i => if i < k then ⟨0, -1, (i : Int) + 1, false⟩ else zSl
theorem newTo_len (k : Nat) : (newTo k).length = 60 := by simp [newTo]
theorem newTo_at {k i : Nat} (h : i < 60) : sl (newTo k) i = if i < k then ⟨0, -1, (i : Int) + 1, false⟩ else zSl := by simp [newTo, sl, h]
theorem newTo_zero : newTo 0 = List.replicate 60 zSl := by decide +kernel
theorem list_ext {a b : List Sl} (h1 : a.length = 60) (h2 : b.length = 60) (h : ∀ i, i < 60 → sl a i = sl b i) : a = b := by
  apply List.ext_getElem?
  intro i
  by_cases hi : i < 60
  · have := h i hi
    unfold sl at this
    rw [List.getD_eq_getElem?_getD, List.getD_eq_getElem?_getD, List.getElem?_eq_getElem (by omega), List.getElem?_eq_getElem (by omega)] at this
    rw [List.getElem?_eq_getElem (by omega), List.getElem?_eq_getElem (by omega)]
    simpa using this
  · rw [List.getElem?_eq_none (by omega), List.getElem?_eq_none (by omega)]
theorem newTo_step {k : Nat} (h : k < 60) : ((newTo k).set k (wPrev (sl (newTo k) k) (-1))).set k (wNext (sl ((newTo k).set k (wPrev (sl (newTo k) k) (-1))) k) ((k : Int) + 1)) = newTo (k + 1) := by
  have hz : sl (newTo k) k = zSl := by rw [newTo_at h, if_neg (by omega)]
  have hz' : sl ((newTo k).set k (wPrev (sl (newTo k) k) (-1))) k = wPrev zSl (-1) := by rw [sl_set _ _ _ _ (by rw [newTo_len]; omega), if_pos rfl, hz]
  rw [hz', hz]
  refine list_ext (by simp [newTo_len]) (newTo_len _) fun i hi => ?_
  by_cases e : i = k
  · subst e
    rw [sl_set _ _ _ _ (by simp [newTo_len]; omega), if_pos rfl, newTo_at hi, if_pos (by omega)]; rfl
  · rw [sl_set _ _ _ _ (by simp [newTo_len]; omega), if_neg e, sl_set _ _ _ _ (by rw [newTo_len]; omega), if_neg e, newTo_at hi, newTo_at hi]
    by_cases l : i < k
    · rw [if_pos l, if_pos (by omega)]
    · rw [if_neg l, if_neg (by omega)]
theorem newTo_end : (newTo 60).set 59 (wNext (sl (newTo 60) 59) (-1)) = newS := by
  have hz : sl (newTo 60) 59 = ⟨0, -1, 60, false⟩ := by rw [newTo_at (by omega), if_pos (by omega)]; rfl
  rw [hz]
  refine list_ext (by simp [newTo_len]) newS_len fun i hi => ?_
  rw [sl_set _ _ _ _ (by rw [newTo_len]; omega), show sl newS i = newAt i from newS_at hi]
  unfold newAt
  by_cases e : i = 59
  · subst e; rfl
  · rw [if_neg e, newTo_at hi, if_pos hi, if_neg (by omega)]

set_option maxRecDepth 100000 in
set_option maxHeartbeats 1000000 in
theorem implNew_any (w : World) : Calls Try.prog 65 #[] w (NewQ w 60 newS (-1) (-1) 0 0) := by
  have hsc : Sem.run Try.prog (storeCells ⟨w.heap.size + 1, 0, none⟩ ((Try.zeroCells127.toList.set 240 (.int .i64 (-1))).set 241 (.int .i64 (-1)))) ((w.alloc (.cells #[.slice none 0 0, .int .i64 0, .int .i64 0, .int .i64 0, .int .i64 0] 28)).alloc (.cells Try.zeroCells127 127))
      = .ok () ((w.alloc (.cells #[.slice none 0 0, .int .i64 0, .int .i64 0, .int .i64 0, .int .i64 0] 28)).alloc (.cells (lkA (newTo 0) (-1) (-1) 0 0) 127)) := by
    have h := store_links (w.alloc (.cells #[.slice none 0 0, .int .i64 0, .int .i64 0, .int .i64 0, .int .i64 0] 28)) Try.zeroCells127 ((Try.zeroCells127.setIfInBounds 240 (.int .i64 (-1))).setIfInBounds 241 (.int .i64 (-1))) (by rw [zero_links, lkA_size]) (newTo 0) (-1) (-1) 0 0 (by rw [zero_links, lkA_set240, lkA_set241, newTo_zero])
    simpa using h
  go_enter Try.func65, Try.ntmps65
  go_wp2
  clear hsc
  go_loopw [4] (fun i wr => ∃ k : Nat, k ≤ 60 ∧ i = .int .i64 k ∧ Lk wr (w.heap.size + 1) (newTo k) (-1) (-1) 0 0 ∧ Below (w.heap.size + 1) (w.alloc (.cells #[.slice none 0 0, .int .i64 0, .int .i64 0, .int .i64 0, .int .i64 0] 28)) wr) (fun i _ => 60 - (intOf i).toNat)
  case atStart =>
    refine ⟨0, Nat.zero_le _, rfl, ?_, (Below.refl _ _).alloc (by simp) _⟩
    have h := heap_alloc_new (w.alloc (.cells #[.slice none 0 0, .int .i64 0, .int .i64 0, .int .i64 0, .int .i64 0] 28)) (.cells (lkA (newTo 0) (-1) (-1) 0 0) 127)
    simp only [World.size_alloc] at h
    exact h
  case round =>
    obtain ⟨k, hk, rfl, hL, hold⟩ := hrel
    by_cases hlt : k < 60
    · obtain ⟨c0, c1, c2, c3⟩ := hL.slot hlt
      have cf := hL.nums.2.2.2.2
      have h2 := (hL.prev hlt (newTo_len _) (-1)).next hlt (by simp [newTo_len]) ((k : Int) + 1)
      rw [newTo_step hlt] at h2
      have H2 := Lib.hid h2
      have Hold := Lib.hid hold
      clear h2 hL hold
      generalize sl (newTo k) k = s at c0 c1 c2 c3
      go_wp2
      go_roundw
      case rel => exact ⟨k + 1, by omega, by go_num, H2.out, (Hold.out.setCell (by simp) _).setCell (by simp) _⟩
      case measure => simp [intOf]; omega
    · obtain rfl : k = 60 := by omega
      obtain ⟨c0, c1, c2, c3⟩ := hL.slot (i := 59) (by omega)
      have cf := hL.nums.2.2.2.2
      have h1 := hL.next (i := 59) (by omega) (newTo_len _) (-1)
      rw [newTo_end] at h1
      have H1 := Lib.hid h1
      have Hold := Lib.hid hold
      clear h1 hL hold
      generalize sl (newTo 60) 59 = s at c0 c1 c2 c3
      go_wp2_with fail
      refine (queue_any (w.heap.size + 1) (-1) (-1) 0 0 newS _ newS_len H1.out).mono ?_
      rintro e w1 ⟨A', cap', rfl, hv, hb⟩
      have hsz : (wr.setCell ⟨w.heap.size + 1, 238, none⟩ (.int .i64 (-1))).heap.size = wr.heap.size := by simp [World.setCell]
      have hlt1 := H1.out.lt
      rw [hsz] at hv hlt1
      have Hb : Hid (Below (w.heap.size + 1) (w.alloc (.cells #[.slice none 0 0, .int .i64 0, .int .i64 0, .int .i64 0, .int .i64 0] 28)) w1) := (Hold.out.setCell (p := ⟨w.heap.size + 1, 238, none⟩) (by simp) (.int .i64 (-1))).trans (hb.mono (by rw [hsz]; omega))
      have Hv := Lib.hid hv
      clear hv hb hsz
      obtain ⟨z0, z1, z2, z3, z4, zf⟩ := (Blk5.of_block (w := w.alloc (.cells #[.slice none 0 0, .int .i64 0, .int .i64 0, .int .i64 0, .int .i64 0] 28)) (g := w.heap.size) (heap_alloc_new w _) (Hb.out.block w.heap.size (by omega))).cells
      go_wp2
      refine bodyPost_ret (v := .agg #[.slice A' 60 cap', .int .i64 (-1), .int .i64 (-1), .int .i64 0, .int .i64 0]) (by simp [results, Try.results65, go_sem, z0, z1, z2, z3, z4]) rfl ⟨A', cap', rfl, ?_, ?_⟩
      · refine SlV.wide (lo := wr.heap.size) (hi := w1.heap.size) ?_ (by omega) (by simp [World.setCell])
        iterate 5 refine SlV.setCell ?_ (by simp <;> omega) _
        exact Hv.out
      · iterate 5 refine Below.setCell ?_ (by simp <;> omega) _
        exact (bel_alloc w _).trans (Hb.out.mono (by omega))
end Go.Proofs.Ytehdbdolhkflcaa.Que
