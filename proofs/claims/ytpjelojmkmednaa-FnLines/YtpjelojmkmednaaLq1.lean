/- Contracts of the laws' helpers on slots: a copy, the comparison of two that are alike. Contracts of the laws' helpers on queues: size, copy, comparison of two that read alike. Contracts of the laws' helpers that write marks into a queue's slots and look for them again. What is known of a queue of the law's own type that came in: its slice reads as a list of slots. -/
import Derived.Test.YtpjelojmkmednaaLq0
import Derived.Deep.QuietTactic
import Derived.BigQuiet
import Derived.RegionTactic
import Derived.StillTailTactics
import Derived.Deep.Slices
import Derived.Deep.Fields
import Derived.ChangeSame
import Derived.OpenShut
namespace Go.Proofs.Ytpjelojmkmednaa.Que
open Go.RowKit Go.Deep Base

def slV (s : Sl) : Value := .agg #[.int .i64 s.id, .int .i64 s.prev, .int .i64 s.next, .bool s.used]

set_option maxRecDepth 100000 in
theorem toSlot_any (a b c : Int) (d : Bool) (w : World) :
    Calls Try.prog 126 #[.agg #[.int .i64 a, .int .i64 b, .int .i64 c, .bool d]] w fun e w' => e = .returned (.agg #[.int .i64 a, .int .i64 b, .int .i64 c, .bool d]) ∧ Below w.heap.size w w' := by
  go_enter Try.func126, Try.ntmps126
  go_wp2
  exact bodyPost_ret (v := .agg #[.int .i64 a, .int .i64 b, .int .i64 c, .bool d]) (by simp [results, Try.results126, go_sem]) rfl ⟨rfl, (((Below.refl _ _).alloc (Nat.le_refl _) _).alloc (by simp) _).alloc (by simp; omega) _⟩

set_option maxRecDepth 100000 in
theorem eqSlot_same (a b c : Int) (d : Bool) (w : World) :
    Calls Try.prog 128 #[.agg #[.int .i64 a, .int .i64 b, .int .i64 c, .bool d], .agg #[.int .i64 a, .int .i64 b, .int .i64 c, .bool d]] w fun e w' => e = .returned (.bool true) ∧ Below w.heap.size w w' := by
  cases d
  all_goals
    go_enter Try.func128, Try.ntmps128
    go_wp2
    go_ret
    exact ⟨rfl, ((Below.refl _ _).alloc (Nat.le_refl _) _).alloc (by simp) _⟩

theorem infoSlot : (Try.prog.info? 91).map (fun i => (i.zero, i.size, i.bytes)) = some (some (.agg #[.int .i64 0, .int .i64 0, .int .i64 0, .bool false]), 4, 32) := by kernel_rfl

theorem make_slots (n : Nat) (hn : n ≤ 1048576) (w : World) :
    (Instr.makeSlice 24 (.int .i64 (n : Int)) (.int .i64 (n : Int))).run Try.prog w = .ok (.slice (some ⟨w.heap.size, 0, none⟩) n n) (w.alloc (.cells (madeCells #[.int .i64 0, .int .i64 0, .int .i64 0, .bool false] (n * 4)) 91)) := by
  obtain ⟨i, hi, hz, hs, hb⟩ := info_parts infoSlot
  have h := run_make (P := Try.prog) w 24 91 i _ Try.underlying24 hi hz .i64 .i64 n n (by omega) (by omega) (by rw [hb]; omega) (by omega)
  simp only [Int.toNat_natCast, hs] at h
  exact h

def toF (ss : List Sl) (k j : Nat) : Value := if j / 4 < k then (ss.getD (j / 4) zSl).at (j % 4) else zSl.at (j % 4)

def ToSl (w wr : World) (n : Nat) (ss : List Sl) (k : Nat) : Prop :=
  wr.rowIs w.heap.size 91 (n * 4) (toF ss k) ∧ Below w.heap.size w wr

theorem ToSl.start (w : World) (n : Nat) (ss : List Sl) : ToSl w (w.alloc (.cells (madeCells #[.int .i64 0, .int .i64 0, .int .i64 0, .bool false] (n * 4)) 91)) n ss 0 := by
  refine ⟨?_, bel_alloc _ _⟩
  have h := World.rowIs_alloc w (madeCells #[.int .i64 0, .int .i64 0, .int .i64 0, .bool false] (n * 4)) 91 (toF ss 0) (fun i hi => by
    rw [size_madeCells] at hi
    have hm : i % 4 = 0 ∨ i % 4 = 1 ∨ i % 4 = 2 ∨ i % 4 = 3 := by omega
    rcases hm with h | h | h | h <;> simp [madeCells, hi, toF, Sl.at, zSl, h])
  rw [size_madeCells] at h
  exact h

theorem ToSl.later {w wr w' : World} {n k : Nat} {ss : List Sl} (h : ToSl w wr n ss k) (hb : Below wr.heap.size wr w') : ToSl w w' n ss k :=
  ⟨h.1.of_block (hb.block _ h.1.lt), h.2.trans (hb.mono h.2.size)⟩

theorem ToSl.step {w wr : World} {n k : Nat} {ss : List Sl} (h : ToSl w wr n ss k) {s : Sl} (hs : ss.getD k zSl = s) :
    ToSl w ((((wr.setCell ⟨w.heap.size, k * 4, none⟩ (.int .i64 s.id)).setCell ⟨w.heap.size, k * 4 + 1, none⟩ (.int .i64 s.prev)).setCell ⟨w.heap.size, k * 4 + 2, none⟩ (.int .i64 s.next)).setCell ⟨w.heap.size, k * 4 + 3, none⟩ (.bool s.used)) n ss (k + 1) := by
  refine ⟨(((((h.1.set _ _).set _ _).set _ _).set _ _)).congr (fun j _ => ?_), (((h.2.setCell (Nat.le_refl _) _).setCell (Nat.le_refl _) _).setCell (Nat.le_refl _) _).setCell (Nat.le_refl _) _⟩
  unfold toF
  by_cases e3 : j = k * 4 + 3
  · subst e3; rw [if_pos rfl, if_pos (by omega), show (k * 4 + 3) / 4 = k from by omega, show (k * 4 + 3) % 4 = 3 from by omega, hs]; rfl
  rw [if_neg e3]
  by_cases e2 : j = k * 4 + 2
  · subst e2; rw [if_pos rfl, if_pos (by omega), show (k * 4 + 2) / 4 = k from by omega, show (k * 4 + 2) % 4 = 2 from by omega, hs]; rfl
  rw [if_neg e2]
  by_cases e1 : j = k * 4 + 1
  · subst e1; rw [if_pos rfl, if_pos (by omega), show (k * 4 + 1) / 4 = k from by omega, show (k * 4 + 1) % 4 = 1 from by omega, hs]; rfl
  rw [if_neg e1]
  by_cases e0 : j = k * 4
  · subst e0; rw [if_pos rfl, if_pos (by omega), show (k * 4) / 4 = k from by omega, show (k * 4) % 4 = 0 from by omega, hs]; rfl
  rw [if_neg e0]
  by_cases l : j / 4 < k
  · rw [if_pos l, if_pos (by omega)]
  · rw [if_neg l, if_neg (by omega)]

theorem ToSl.zero {w wr : World} {n k : Nat} {ss : List Sl} (h : ToSl w wr n ss k) (hk : k < n) :
    wr.cell? ⟨w.heap.size, k * 4, none⟩ = some (.int .i64 0) ∧ wr.cell? ⟨w.heap.size, k * 4 + 1, none⟩ = some (.int .i64 0) ∧ wr.cell? ⟨w.heap.size, k * 4 + 2, none⟩ = some (.int .i64 0) ∧ wr.cell? ⟨w.heap.size, k * 4 + 3, none⟩ = some (.bool false)
    ∧ ∀ j, wr.frozen? ⟨w.heap.size, j, none⟩ = false := by
  refine ⟨?_, ?_, ?_, ?_, fun j => h.1.frozen j⟩
  · have := h.1.cell (i := k * 4) (by omega)
    rw [this, toF, if_neg (by omega), show k * 4 % 4 = 0 from by omega]; rfl
  · have := h.1.cell (i := k * 4 + 1) (by omega)
    rw [this, toF, if_neg (by omega), show (k * 4 + 1) % 4 = 1 from by omega]; rfl
  · have := h.1.cell (i := k * 4 + 2) (by omega)
    rw [this, toF, if_neg (by omega), show (k * 4 + 2) % 4 = 2 from by omega]; rfl
  · have := h.1.cell (i := k * 4 + 3) (by omega)
    rw [this, toF, if_neg (by omega), show (k * 4 + 3) % 4 = 3 from by omega]; rfl

theorem rd_of_row {w : World} {b n : Nat} {ss : List Sl} (h : w.rowIs b 91 (n * 4) (toF ss n)) (hn : ss.length = n) : Rd w b ss := by
  intro i hi
  refine ⟨?_, ?_, ?_, ?_, fun j => h.frozen j⟩
  · have := h.cell (i := i * 4) (by omega)
    rw [this, toF, if_pos (by omega), show i * 4 / 4 = i from by omega, show i * 4 % 4 = 0 from by omega]; rfl
  · have := h.cell (i := i * 4 + 1) (by omega)
    rw [this, toF, if_pos (by omega), show (i * 4 + 1) / 4 = i from by omega, show (i * 4 + 1) % 4 = 1 from by omega]; rfl
  · have := h.cell (i := i * 4 + 2) (by omega)
    rw [this, toF, if_pos (by omega), show (i * 4 + 2) / 4 = i from by omega, show (i * 4 + 2) % 4 = 2 from by omega]; rfl
  · have := h.cell (i := i * 4 + 3) (by omega)
    rw [this, toF, if_pos (by omega), show (i * 4 + 3) / 4 = i from by omega, show (i * 4 + 3) % 4 = 3 from by omega]; rfl

set_option maxRecDepth 100000 in
theorem toSlotS_any (A : Option Addr) (n cap : Nat) (ss : List Sl) (w : World) (hn : ss.length = n) (hm : n ≤ 1048576) (h : LSl w A ss) :
    Calls Try.prog 101 #[.slice A n cap] w fun e w' => e = .returned (.slice (some ⟨w.heap.size, 0, none⟩) n n) ∧ SlV w' w.heap.size w'.heap.size (some ⟨w.heap.size, 0, none⟩) ss ∧ Below w.heap.size w w' := by
  have hmk := make_slots n hm
  have Hn := Lib.hid hn
  clear hn
  have HI := Lib.hid h
  clear h
  go_enter Try.func101, Try.ntmps101
  go_wp2
  clear hmk
  go_loopw [4] (fun i wr => ∃ k : Nat, k ≤ n ∧ i = .int .i64 k ∧ ToSl w wr n ss k) (fun i _ => n - (intOf i).toNat)
  case atStart => exact ⟨0, Nat.zero_le _, rfl, ToSl.start w n ss⟩
  case round =>
    obtain ⟨k, hk, rfl, hr⟩ := hrel
    by_cases hlt : k < n
    · obtain ⟨b, off, rfl, hc⟩ := HI.out.below hr.2 (by have := Hn.out; omega)
      obtain ⟨c0, c1, c2, c3⟩ := hc k (by have := Hn.out; omega)
      clear hc
      have Hr := Lib.hid hr
      clear hr
      obtain ⟨s, hs⟩ : ∃ s, ss.getD k zSl = s := ⟨_, rfl⟩
      rw [hs] at c0 c1 c2 c3
      have Hs := Lib.hid hs
      clear hs
      go_wp2_with fail
      refine (toSlot_any _ _ _ _ _).mono ?_
      rintro e w1 ⟨rfl, hb⟩
      have hr := Hr.out.later hb
      obtain ⟨z0, z1, z2, z3, zf⟩ := hr.zero hlt
      have Hq := Lib.hid (hr.step Hs.out)
      clear hr
      go_wp2
      go_roundw
      case rel => exact ⟨k + 1, by omega, by go_num, Hq.out⟩
      case measure => simp [intOf]; omega
    · have Hr := Lib.hid hr
      clear hr
      obtain rfl : k = n := by omega
      go_wp2
      go_ret
      exact ⟨rfl, fun _ => ⟨_, rfl, Nat.le_refl _, Hr.out.1.lt, rd_of_row Hr.out.1 Hn.out⟩, Hr.out.2⟩
end Go.Proofs.Ytpjelojmkmednaa.Que

namespace Go.Proofs.Ytpjelojmkmednaa.Que
open Go.RowKit Go.Deep Base

set_option maxRecDepth 100000 in
set_option maxHeartbeats 400000 in
theorem eqSlotS_same (A1 A2 : Option Addr) (n c1 c2 lo hi lo' hi' : Nat) (ss : List Sl) (w : World) (hn : ss.length = n) (hm : n ≤ 1048576) (h1 : SlV w lo hi A1 ss) (h2 : SlV w lo' hi' A2 ss) (hs : hi ≤ w.heap.size) (hs' : hi' ≤ w.heap.size) :
    Calls Try.prog 103 #[.slice A1 n c1, .slice A2 n c2] w fun e w' => e = .returned (.bool true) ∧ Below w.heap.size w w' := by
  have Hn := Lib.hid hn
  clear hn
  have H1 := Lib.hid h1
  have H2 := Lib.hid h2
  clear h1 h2
  go_enter Try.func103, Try.ntmps103
  go_wp2
  go_loopw [5] (fun i wr => ∃ k : Nat, k ≤ n ∧ i = .int .i64 k ∧ Below w.heap.size w wr) (fun i _ => n - (intOf i).toNat)
  case atStart => exact ⟨0, Nat.zero_le _, rfl, Below.refl _ _⟩
  case round =>
    obtain ⟨k, hk, rfl, hr⟩ := hrel
    by_cases hlt : k < n
    · obtain ⟨g, rfl, _, _, hc⟩ := (H1.out.below hr hs) (by have := Hn.out; omega)
      obtain ⟨c0, c1, c2, c3, _⟩ := hc k (by have := Hn.out; omega)
      clear hc
      obtain ⟨g', rfl, _, _, hc⟩ := (H2.out.below hr hs') (by have := Hn.out; omega)
      obtain ⟨d0, d1, d2, d3, _⟩ := hc k (by have := Hn.out; omega)
      clear hc
      generalize ss.getD k zSl = s at c0 c1 c2 c3 d0 d1 d2 d3
      go_wp2
      go_still_tail 8, (by kernel_rfl)
      change wpList _ _ _ _ _ wr.drew
      go_wp2_with fail
      refine (eqSlot_same _ _ _ _ _).mono ?_
      rintro e w1 ⟨rfl, hb⟩
      go_wp2
      go_roundw
      case rel => exact ⟨k + 1, by omega, by go_num, bel_trans hr (bel_of_drew hb)⟩
      case measure => simp [intOf]; omega
    · go_wp2
      go_ret
      exact ⟨rfl, hr⟩

/-- A queue's value: its slice and its four numbers. -/
def qV (A : Option Addr) (n cap : Nat) (f l r c : Int) : Value := .agg #[.slice A n cap, .int .i64 f, .int .i64 l, .int .i64 r, .int .i64 c]

set_option maxRecDepth 100000 in
theorem szQueue_any (A : Option Addr) (n cap : Nat) (f l r c left : Int) (w : World) (hn : n ≤ 9223372036854775807) (h0 : 0 ≤ left) (h1 : left ≤ 1048576) :
    Calls Try.prog 55 #[.agg #[.slice A n cap, .int .i64 f, .int .i64 l, .int .i64 r, .int .i64 c], .int .i64 left] w fun e w' => e = .returned (.int .i64 (if left < n then -1 else left - n)) ∧ Below w.heap.size w w' := by
  by_cases hl : left < n
  · have hl' : ¬ 0 ≤ left - n := by omega
    go_enter Try.func55, Try.ntmps55
    go_wp2
    go_ret
    exact ⟨ret_int (by simp), (Below.refl _ _).alloc (Nat.le_refl _) _⟩
  · go_enter Try.func55, Try.ntmps55
    go_wp2
    go_ret
    exact ⟨ret_int (by simp), (Below.refl _ _).alloc (Nat.le_refl _) _⟩

/-- What a call that hands back a new queue leaves: its slice lies in new memory, old memory stands. -/
def NewQ (w : World) (n : Nat) (ss : List Sl) (f l r c : Int) (e : Ending) (w' : World) : Prop :=
  ∃ A cap, e = .returned (.agg #[.slice A n cap, .int .i64 f, .int .i64 l, .int .i64 r, .int .i64 c]) ∧ SlV w' w.heap.size w'.heap.size A ss ∧ Below w.heap.size w w'

theorem bcell {W w1 : World} (hb : Below W.heap.size W w1) : (∀ b o, b < W.heap.size → w1.cell? ⟨b, o, none⟩ = W.cell? ⟨b, o, none⟩) ∧ (∀ b o, b < W.heap.size → w1.frozen? ⟨b, o, none⟩ = W.frozen? ⟨b, o, none⟩) :=
  ⟨fun b o h => hb.cell (p := ⟨b, o, none⟩) h, fun b o h => hb.frozen (p := ⟨b, o, none⟩) h⟩

theorem SlV.setCell {w : World} {lo hi : Nat} {A : Option Addr} {ss : List Sl} (h : SlV w lo hi A ss) {p : Addr} (hp : p.block < lo) (u : Value) : SlV (w.setCell p u) lo hi A ss :=
  h.of_block fun g h1 _ => Below.heap_setCell w p u g (by omega)

set_option maxRecDepth 100000 in
set_option maxHeartbeats 400000 in
theorem toQueue_any (A : Option Addr) (n cap : Nat) (ss : List Sl) (f l r c : Int) (w : World) (hn : ss.length = n) (hm : n ≤ 1048576) (h : LSl w A ss) :
    Calls Try.prog 57 #[.agg #[.slice A n cap, .int .i64 f, .int .i64 l, .int .i64 r, .int .i64 c]] w (NewQ w n ss f l r c) := by
  have Hn := Lib.hid hn
  clear hn
  have HI := Lib.hid h
  clear h
  go_enter Try.func57, Try.ntmps57
  go_wp2_with fail
  refine (toSlotS_any A n cap ss _ Hn.out hm (HI.out.below ?_)).mono ?_
  · exact (((Below.refl _ _).alloc (Nat.le_refl _) _).alloc (by simp) _).alloc (by simp <;> omega) _
  rintro e w1 ⟨rfl, hv, hb⟩
  simp only [World.size_alloc] at hv
  have Hv := Lib.hid hv
  clear hv
  obtain ⟨hc, hf⟩ := bcell hb
  have hz : w.heap.size + 1 + 1 < w1.heap.size := by have := hb.size; simp at this; omega
  have Hb := Lib.hid hb
  clear hb
  go_wp2
  refine bodyPost_ret (v := .agg #[.slice (some ⟨w.heap.size + 1 + 1 + 1, 0, none⟩) n n, .int .i64 f, .int .i64 l, .int .i64 r, .int .i64 c]) (by simp [results, Try.results57, go_sem, hc]) rfl ⟨_, _, rfl, ?_, ?_⟩
  · refine SlV.wide (lo := w.heap.size + 1 + 1 + 1) (hi := w1.heap.size) ?_ (by omega) (by simp [World.setCell])
    iterate 10 refine SlV.setCell ?_ (by simp <;> omega) _
    exact Hv.out
  · iterate 10 refine Below.setCell ?_ (by simp <;> omega) _
    exact bel_trans ((((Below.refl _ _).alloc (Nat.le_refl _) _).alloc (by simp) _).alloc (by simp; omega) _) Hb.out

set_option maxRecDepth 100000 in
set_option maxHeartbeats 400000 in
theorem eqQueue_same (A1 A2 : Option Addr) (n c1 c2 lo hi lo' hi' : Nat) (ss : List Sl) (f l r c : Int) (w : World) (hn : ss.length = n) (hm : n ≤ 1048576) (h1 : SlV w lo hi A1 ss) (h2 : SlV w lo' hi' A2 ss) (hs : hi ≤ w.heap.size) (hs' : hi' ≤ w.heap.size) :
    Calls Try.prog 62 #[.agg #[.slice A1 n c1, .int .i64 f, .int .i64 l, .int .i64 r, .int .i64 c], .agg #[.slice A2 n c2, .int .i64 f, .int .i64 l, .int .i64 r, .int .i64 c]] w fun e w' => e = .returned (.bool true) ∧ Below w.heap.size w w' := by
  have Hn := Lib.hid hn
  clear hn
  have H1 := Lib.hid h1
  have H2 := Lib.hid h2
  clear h1 h2
  have ha : ∀ o o', Below w.heap.size w ((w.alloc o).alloc o') := fun o o' => ((Below.refl _ _).alloc (Nat.le_refl _) _).alloc (by simp) _
  have Ha := Lib.hid ha
  clear ha
  go_enter Try.func62, Try.ntmps62
  go_wp2_with fail
  refine (eqSlotS_same A1 A2 n c1 c2 lo hi lo' hi' ss _ Hn.out hm (H1.out.below (Ha.out _ _) hs) (H2.out.below (Ha.out _ _) hs') (by simp; omega) (by simp; omega)).mono ?_
  rintro e w1 ⟨rfl, hb⟩
  obtain ⟨hc, hf⟩ := bcell hb
  have Hb := Lib.hid hb
  clear hb
  go_wp2
  go_ret
  exact ⟨rfl, bel_trans (Ha.out _ _) Hb.out⟩
end Go.Proofs.Ytpjelojmkmednaa.Que

namespace Go.Proofs.Ytpjelojmkmednaa.Que
open Go.RowKit Go.Deep Base

/-- The n slots from block b's head on are f 0, f 1, .., and may be written. -/
def RdF (w : World) (b n : Nat) (f : Nat → Sl) : Prop :=
  ∀ i, i < n → w.cell? ⟨b, i * 4, none⟩ = some (.int .i64 (f i).id) ∧ w.cell? ⟨b, i * 4 + 1, none⟩ = some (.int .i64 (f i).prev)
    ∧ w.cell? ⟨b, i * 4 + 2, none⟩ = some (.int .i64 (f i).next) ∧ w.cell? ⟨b, i * 4 + 3, none⟩ = some (.bool (f i).used) ∧ ∀ j, w.frozen? ⟨b, j, none⟩ = false

def set4 (w : World) (b i : Nat) (s : Sl) : World :=
  (((w.setCell ⟨b, i * 4, none⟩ (.int .i64 s.id)).setCell ⟨b, i * 4 + 1, none⟩ (.int .i64 s.prev)).setCell ⟨b, i * 4 + 2, none⟩ (.int .i64 s.next)).setCell ⟨b, i * 4 + 3, none⟩ (.bool s.used)

theorem some_set {w : World} {b o p : Nat} {v : Value} (h : (w.cell? ⟨b, p, none⟩).isSome = true) : ((w.setCell ⟨b, o, none⟩ v).cell? ⟨b, p, none⟩).isSome = true := by
  by_cases e : p = o
  · subst e; rw [World.cell?_setCell_same' _ _ _ h]; rfl
  · rw [World.cell?_setCell_other _ _ _ _ (fun e' => by injection e' with _ e' _; exact e e'.symm)]; exact h

theorem cell_set {w : World} {b o p : Nat} {v : Value} (h : (w.cell? ⟨b, p, none⟩).isSome = true) : (w.setCell ⟨b, o, none⟩ v).cell? ⟨b, p, none⟩ = if p = o then some v else w.cell? ⟨b, p, none⟩ := by
  by_cases e : p = o
  · subst e; rw [if_pos rfl]; exact World.cell?_setCell_same' _ _ _ h
  · rw [if_neg e, World.cell?_setCell_other _ _ _ _ (fun e' => by injection e' with _ e' _; exact e e'.symm)]

theorem cell_set4 {w : World} {b i p : Nat} {s : Sl} (h : (w.cell? ⟨b, p, none⟩).isSome = true) :
    (set4 w b i s).cell? ⟨b, p, none⟩ = if p = i * 4 + 3 then some (.bool s.used) else if p = i * 4 + 2 then some (.int .i64 s.next) else if p = i * 4 + 1 then some (.int .i64 s.prev) else if p = i * 4 then some (.int .i64 s.id) else w.cell? ⟨b, p, none⟩ := by
  unfold set4
  rw [cell_set (some_set (some_set (some_set h))), cell_set (some_set (some_set h)), cell_set (some_set h), cell_set h]

theorem RdF.set {w : World} {b n : Nat} {f : Nat → Sl} (h : RdF w b n f) (i : Nat) (s : Sl) : RdF (set4 w b i s) b n (fun j => if j = i then s else f j) := by
  intro j hj
  obtain ⟨h0, h1, h2, h3, h4⟩ := h j hj
  have hs : ∀ {p x}, w.cell? ⟨b, p, none⟩ = some x → (w.cell? ⟨b, p, none⟩).isSome = true := fun h => by rw [h]; rfl
  rw [cell_set4 (hs h0), cell_set4 (hs h1), cell_set4 (hs h2), cell_set4 (hs h3)]
  have hf : ∀ j, (set4 w b i s).frozen? ⟨b, j, none⟩ = false := fun k => by unfold set4; simp only [World.frozen?_setCell]; exact h4 k
  by_cases e : j = i
  · subst e
    simp only [if_pos]
    exact ⟨by rw [if_neg (by omega), if_neg (by omega), if_neg (by omega)], by rw [if_neg (by omega), if_neg (by omega)], by rw [if_neg (by omega)], trivial, hf⟩
  · simp only [if_neg e]
    exact ⟨by rw [if_neg (by omega), if_neg (by omega), if_neg (by omega), if_neg (by omega)]; exact h0, by rw [if_neg (by omega), if_neg (by omega), if_neg (by omega), if_neg (by omega)]; exact h1, by rw [if_neg (by omega), if_neg (by omega), if_neg (by omega), if_neg (by omega)]; exact h2, by rw [if_neg (by omega), if_neg (by omega), if_neg (by omega), if_neg (by omega)]; exact h3, hf⟩

theorem RdF.congr {w : World} {b n : Nat} {f g : Nat → Sl} (h : RdF w b n f) (e : ∀ i, i < n → f i = g i) : RdF w b n g := fun i hi => e i hi ▸ h i hi

theorem Turns.set4 {lo hi : Nat} {a w : World} (h : Turns lo hi a w) {g : Nat} (h1 : lo ≤ g) (h2 : g < hi) (i : Nat) (s : Sl) : Turns lo hi a (set4 w g i s) := by
  unfold Que.set4
  exact (((h.setCell (p := ⟨g, _, none⟩) h1 h2 _).setCell (p := ⟨g, _, none⟩) h1 h2 _).setCell (p := ⟨g, _, none⟩) h1 h2 _).setCell (p := ⟨g, _, none⟩) h1 h2 _

/-- The marks of slot i, counted from k on. -/
def mkS (k : Int) (i : Nat) : Sl := ⟨k + 4 * i, k + 4 * i + 1, k + 4 * i + 1 + 1, (k + 4 * i + 1 + 1 + 1) % 3 == 0⟩

def mkL (k : Int) (n : Nat) : List Sl := (List.range n).map (mkS k)

theorem mkL_len (k : Int) (n : Nat) : (mkL k n).length = n := by simp [mkL]
theorem mkL_at (k : Int) (n i : Nat) (h : i < n) : (mkL k n).getD i zSl = mkS k i := by simp [mkL, h]

def MarkSt (w wr : World) (lo hi : Nat) (A : Option Addr) (n : Nat) (k : Int) (ss : List Sl) (i : Nat) : Prop :=
  (0 < n → ∃ g, A = some ⟨g, 0, none⟩ ∧ lo ≤ g ∧ g < hi ∧ RdF wr g n (fun j => if j < i then mkS k j else ss.getD j zSl)) ∧ Turns lo hi w wr

theorem MarkSt.step {w wr : World} {lo hi g n i : Nat} {k : Int} {ss : List Sl} (h : MarkSt w wr lo hi (some ⟨g, 0, none⟩) n k ss i) (hn : 0 < n) : MarkSt w (set4 wr g i (mkS k i)) lo hi (some ⟨g, 0, none⟩) n k ss (i + 1) := by
  obtain ⟨g', e, h1, h2, h3⟩ := h.1 hn
  cases e
  refine ⟨fun _ => ⟨g, rfl, h1, h2, (h3.set i (mkS k i)).congr fun j hj => ?_⟩, h.2.set4 h1 h2 i _⟩
  by_cases e : j = i
  · subst e; simp
  · simp only [if_neg e]
    by_cases l : j < i
    · rw [if_pos l, if_pos (by omega)]
    · rw [if_neg l, if_neg (by omega)]

set_option maxRecDepth 100000 in
set_option maxHeartbeats 800000 in
theorem markSlotS_any (A : Option Addr) (n cap lo hi : Nat) (k : Int) (ss : List Sl) (w : World) (hn : ss.length = n) (hm : n ≤ 1048576) (hk0 : 0 ≤ k) (hk1 : k ≤ 1099511627776) (h : SlV w lo hi A ss) :
    Calls Try.prog 105 #[.slice A n cap, .int .i64 k] w fun e w' => e = .returned (.int .i64 (k + 4 * n)) ∧ SlV w' lo hi A (mkL k n) ∧ Turns lo hi w w' := by
  have Hn := Lib.hid hn
  clear hn
  have HS : Hid (MarkSt w w lo hi A n k ss 0) := ⟨fun hp => by
    obtain ⟨g, e, h1, h2, h3⟩ := h (by have := Hn.out; omega)
    exact ⟨g, e, h1, h2, fun i hi => by simpa using h3 i (by have := Hn.out; omega)⟩, Turns.of_below (Below.refl _ _)⟩
  clear h
  go_enter Try.func105, Try.ntmps105
  go_wp2
  go_loopw [1, 5] (fun t i wr => ∃ j : Nat, j ≤ n ∧ i = .int .i64 j ∧ t = .int .i64 (k + 4 * j) ∧ MarkSt w wr lo hi A n k ss j) (fun _ i _ => n - (intOf i).toNat)
  case atStart => exact ⟨0, Nat.zero_le _, rfl, by simp, HS.out⟩
  case round =>
    obtain ⟨j, hj, rfl, rfl, hr⟩ := hrel
    clear HS
    by_cases hlt : j < n
    · obtain ⟨g, rfl, h1, h2, h3⟩ := hr.1 (by omega)
      obtain ⟨c0, c1, c2, c3, c4⟩ := h3 j hlt
      simp only [Nat.lt_irrefl, if_false] at c0 c1 c2 c3
      generalize ss.getD j zSl = s at c0 c1 c2 c3
      have Hr := Lib.hid (hr.step (by omega))
      clear hr h3
      go_wp2
      go_roundw
      case rel => exact ⟨j + 1, by omega, by go_num, by go_num, Hr.out⟩
      case measure => simp [intOf]; omega
    · have Hr := Lib.hid hr
      clear hr
      obtain rfl : j = n := by omega
      go_wp2
      go_ret
      refine ⟨rfl, fun hp => ?_, Hr.out.2⟩
      rw [mkL_len] at hp
      obtain ⟨g, e, h1, h2, h3⟩ := Hr.out.1 hp
      refine ⟨g, e, h1, h2, fun i hi => ?_⟩
      rw [mkL_len] at hi
      have := h3 i hi
      simp only [if_pos hi] at this
      rw [mkL_at _ _ _ hi]
      exact this

set_option maxRecDepth 100000 in
set_option maxHeartbeats 800000 in
theorem heldSlotS_any (A : Option Addr) (n cap lo hi : Nat) (k : Int) (w : World) (hm : n ≤ 1048576) (hk0 : 0 ≤ k) (hk1 : k ≤ 1099511627776) (h : SlV w lo hi A (mkL k n)) :
    Calls Try.prog 107 #[.slice A n cap, .int .i64 k] w fun e w' => e = .returned (.int .i64 (k + 4 * n)) ∧ w = w' := by
  have HS := Lib.hid h
  clear h
  go_enter Try.func107, Try.ntmps107
  go_wp2
  go_loop [1, 5] (fun t i => ∃ j : Nat, j ≤ n ∧ i = .int .i64 j ∧ t = .int .i64 (k + 4 * j)) (fun _ i => n - (intOf i).toNat)
  case atStart => exact ⟨0, Nat.zero_le _, rfl, by simp⟩
  case round =>
    obtain ⟨j, hj, rfl, rfl⟩ := hrel
    by_cases hlt : j < n
    · obtain ⟨g, rfl, h1, h2, h3⟩ := HS.out (by rw [mkL_len]; omega)
      obtain ⟨c0, c1, c2, c3, _⟩ := h3 j (by rw [mkL_len]; exact hlt)
      rw [mkL_at _ _ _ hlt] at c0 c1 c2 c3
      simp only [mkS] at c0 c1 c2 c3
      clear h3
      cases hu : ((k + 4 * (j : Int) + 1 + 1 + 1) % 3 == 0)
      all_goals
        go_wp2
        go_round
        case rel => exact ⟨j + 1, by omega, by go_num, by go_num⟩
        case measure => simp [intOf]; omega
    · obtain rfl : j = n := by omega
      go_wp2
      go_ret
      exact ⟨rfl, rfl⟩

set_option maxRecDepth 100000 in
set_option maxHeartbeats 400000 in
theorem markQueue_any (A : Option Addr) (n cap lo hi : Nat) (k f l r c : Int) (ss : List Sl) (w : World) (hn : ss.length = n) (hm : n ≤ 1048576) (hk0 : 0 ≤ k) (hk1 : k ≤ 1099511627776) (h : SlV w lo hi A ss) (hs : hi ≤ w.heap.size) :
    Calls Try.prog 65 #[.agg #[.slice A n cap, .int .i64 f, .int .i64 l, .int .i64 r, .int .i64 c], .int .i64 k] w fun e w' => e = .returned (.int .i64 (k + 4 * n)) ∧ SlV w' lo hi A (mkL k n) ∧ Turns lo hi w w' := by
  have Hn := Lib.hid hn
  clear hn
  have H := Lib.hid h
  clear h
  go_enter Try.func65, Try.ntmps65
  go_wp2_with fail
  refine (markSlotS_any A n cap lo hi k ss _ Hn.out hm hk0 hk1 (H.out.below (bel_alloc _ _) hs)).mono ?_
  rintro e w1 ⟨rfl, hv, ht⟩
  have Hv := Lib.hid hv
  have Ht := Lib.hid ht
  clear hv ht
  go_wp2
  go_ret
  exact ⟨rfl, Hv.out, (Turns.of_below (bel_alloc _ _)).trans Ht.out⟩

set_option maxRecDepth 100000 in
set_option maxHeartbeats 400000 in
theorem heldQueue_any (A : Option Addr) (n cap lo hi : Nat) (k f l r c : Int) (w : World) (hm : n ≤ 1048576) (hk0 : 0 ≤ k) (hk1 : k ≤ 1099511627776) (h : SlV w lo hi A (mkL k n)) (hs : hi ≤ w.heap.size) :
    Calls Try.prog 67 #[.agg #[.slice A n cap, .int .i64 f, .int .i64 l, .int .i64 r, .int .i64 c], .int .i64 k] w fun e w' => e = .returned (.int .i64 (k + 4 * n)) ∧ Below w.heap.size w w' := by
  have H := Lib.hid h
  clear h
  have hk2 : 0 ≤ k + 4 * (n : Int) := by omega
  go_enter Try.func67, Try.ntmps67
  go_wp2_with fail
  refine (heldSlotS_any A n cap lo hi k _ hm hk0 hk1 (H.out.below (bel_alloc _ _) hs)).mono ?_
  rintro e w1 ⟨rfl, rfl⟩
  go_wp2
  go_ret
  exact ⟨rfl, bel_alloc _ _⟩
end Go.Proofs.Ytpjelojmkmednaa.Que

namespace Go.Proofs.Ytpjelojmkmednaa.Que
open Go.RowKit Go.Deep Go.ChangeShapes Go.WideShapes Base

instance : Inhabited Sl := ⟨zSl⟩

section
variable {H : Type} {enc : TypeId × Value → H} {W : World} {base : Nat} {spare : Nat → Bool} {held : Bool}

set_option maxRecDepth 100000 in
theorem open_slot {fuel : Nat} {cs : List Value} {x : DataW H × List MemPlace} (h : DataW.trod enc Try.prog W base spare held fuel 135 cs = some x) :
    ∃ s : Sl, cs = [.int .i64 s.id, .int .i64 s.prev, .int .i64 s.next, .bool s.used] := by
  have hC : Try.prog.cellsOf 135 = 4 := by kernel_rfl
  have hI : Try.prog.cellsOf 3 = 1 := by kernel_rfl
  have hB : Try.prog.cellsOf 4 = 1 := by kernel_rfl
  obtain ⟨ys, k, _, _, hcl, hyl, hf⟩ := DataW.trod_struct Try.underlying135 h
  rw [hC] at hcl
  match cs, hcl, ys, hyl with
  | [q0, q1, q2, q3], _, [y0, y1, y2, y3], _ =>
    have g0 : DataW.trod enc Try.prog W base spare held k 3 [q0] = some y0 := by have := hf 0 _ rfl; simpa [hI] using this
    have g1 : DataW.trod enc Try.prog W base spare held k 3 [q1] = some y1 := by have := hf 1 _ rfl; simpa [hI] using this
    have g2 : DataW.trod enc Try.prog W base spare held k 3 [q2] = some y2 := by have := hf 2 _ rfl; simpa [hI] using this
    have g3 : DataW.trod enc Try.prog W base spare held k 4 [q3] = some y3 := by have := hf 3 _ rfl; simpa [hB] using this
    obtain ⟨n0, e0, _⟩ := DataW.trod_int Try.underlying3 g0
    obtain ⟨n1, e1, _⟩ := DataW.trod_int Try.underlying3 g1
    obtain ⟨n2, e2, _⟩ := DataW.trod_int Try.underlying3 g2
    obtain ⟨n3, e3, _⟩ := DataW.trod_bool Try.underlying4 g3
    simp at e0 e1 e2 e3
    subst e0 e1 e2 e3
    exact ⟨⟨n0, n1, n2, n3⟩, rfl⟩

set_option maxRecDepth 100000 in
theorem open_slots {fuel : Nat} {cs : List Value} {x : DataW H × List MemPlace} (h : DataW.trod enc Try.prog W base spare held fuel 46 cs = some x) :
    ∃ (A : Option Addr) (n cap : Nat) (ss : List Sl), cs = [.slice A n cap] ∧ ss.length = n ∧ n ≤ maxLen ∧ LSl W A ss := by
  rcases open_slice Try.underlying46 h with ⟨rfl, _⟩ | ⟨a, len, cap, m, k, D, Pl, rfl, _, hl, hm, hmm, _, hi⟩
  · exact ⟨none, 0, 0, [], rfl, rfl, by simp, fun hp => absurd hp (by simp)⟩
  · have hlm : len ≤ m := by rw [hmm]; split <;> omega
    have hC : Try.prog.cellsOf 135 = 4 := by kernel_rfl
    obtain ⟨V, hV⟩ := choose_lt (α := Sl) (n := len) (p := fun i s => W.cell? ((a.add (i * 4)).add 0) = some (.int .i64 s.id) ∧ W.cell? ((a.add (i * 4)).add 1) = some (.int .i64 s.prev) ∧ W.cell? ((a.add (i * 4)).add 2) = some (.int .i64 s.next) ∧ W.cell? ((a.add (i * 4)).add 3) = some (.bool s.used)) (fun i hil => by
      obtain ⟨cs', hc, ht⟩ := hi i (by omega)
      rw [hC] at hc
      obtain ⟨_, hcl, hat⟩ := World.cells?_some hc
      obtain ⟨s, rfl⟩ := open_slot ht
      exact ⟨s, hat 0 (by omega), hat 1 (by omega), hat 2 (by omega), hat 3 (by omega)⟩)
    refine ⟨some a, len, cap, (List.range len).map V, rfl, by simp, by omega, fun hp => ?_⟩
    simp at hp
    obtain ⟨b, off, spot⟩ := a
    have h0 := (hV 0 hp).1
    have hs : spot = none := by simpa [Addr.add] using World.cell?_spot h0
    subst hs
    refine ⟨b, off, rfl, fun i hi => ?_⟩
    simp at hi
    obtain ⟨g0, g1, g2, g3⟩ := hV i hi
    have ea : ∀ j, ((⟨b, off, none⟩ : Addr).add (i * 4)).add j = ⟨b, off + i * 4 + j, none⟩ := fun j => by
      rw [Addr.add_mid, Addr.add_mid]
    rw [ea] at g0 g1 g2 g3
    have hg : ((List.range len).map V).getD i zSl = V i := by simp [hi]
    rw [hg]
    exact ⟨g0, g1, g2, g3⟩

set_option maxRecDepth 100000 in
theorem open_queue {rr : Reach} {b0 : Nat} {v : Value} {d : DataW H} {p : List MemPlace} (hv : Value.okWide Try.prog W rr b0 48 v) (h : DataW.Trod enc Try.prog W base spare held 48 v d p) :
    ∃ (A : Option Addr) (n cap : Nat) (f l r c : Int) (ss : List Sl), v = .agg #[.slice A n cap, .int .i64 f, .int .i64 l, .int .i64 r, .int .i64 c] ∧ ss.length = n ∧ n ≤ maxLen ∧ LSl W A ss := by
  have hC : Try.prog.cellsOf 48 = 5 := by kernel_rfl
  have hI : Try.prog.cellsOf 3 = 1 := by kernel_rfl
  have hS : Try.prog.cellsOf 46 = 1 := by kernel_rfl
  obtain ⟨cs, rfl, hsz⟩ := okWide_struct Try.underlying48 hv
  obtain ⟨cl⟩ := cs
  obtain ⟨fuel, hf⟩ := h
  obtain ⟨ys, k, _, _, _, hyl, hg⟩ := DataW.trod_struct Try.underlying48 hf
  match cl, hsz.trans hC, ys, hyl with
  | [q0, q1, q2, q3, q4], _, [y0, y1, y2, y3, y4], _ =>
    have g0 : DataW.trod enc Try.prog W base spare held k 46 [q0] = some y0 := by have := hg 0 _ rfl; simpa [hS, Value.cells] using this
    have g1 : DataW.trod enc Try.prog W base spare held k 3 [q1] = some y1 := by have := hg 1 _ rfl; simpa [hI, Value.cells] using this
    have g2 : DataW.trod enc Try.prog W base spare held k 3 [q2] = some y2 := by have := hg 2 _ rfl; simpa [hI, Value.cells] using this
    have g3 : DataW.trod enc Try.prog W base spare held k 3 [q3] = some y3 := by have := hg 3 _ rfl; simpa [hI, Value.cells] using this
    have g4 : DataW.trod enc Try.prog W base spare held k 3 [q4] = some y4 := by have := hg 4 _ rfl; simpa [hI, Value.cells] using this
    obtain ⟨A, n, cap, ss, e0, hn, hm, hl⟩ := open_slots g0
    obtain ⟨n1, e1, _⟩ := DataW.trod_int Try.underlying3 g1
    obtain ⟨n2, e2, _⟩ := DataW.trod_int Try.underlying3 g2
    obtain ⟨n3, e3, _⟩ := DataW.trod_int Try.underlying3 g3
    obtain ⟨n4, e4, _⟩ := DataW.trod_int Try.underlying3 g4
    simp at e0 e1 e2 e3 e4
    subst e0 e1 e2 e3 e4
    exact ⟨A, n, cap, n1, n2, n3, n4, ss, rfl, hn, hm, hl⟩
end
end Go.Proofs.Ytpjelojmkmednaa.Que
