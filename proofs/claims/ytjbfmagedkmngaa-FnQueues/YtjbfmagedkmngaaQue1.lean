/- Contracts of the laws' helpers on slots: a copy, the comparison of two that are alike. -/
import Derived.Test.YtjbfmagedkmngaaQue0
import Derived.Deep.QuietTactic
import Derived.BigQuiet
import Derived.RegionTactic
namespace Go.Proofs.Ytjbfmagedkmngaa.Que
open Go.RowKit Go.Deep Base

def slV (s : Sl) : Value := .agg #[.int .i64 s.id, .int .i64 s.prev, .int .i64 s.next, .bool s.used]

theorem toSlot_any (a b c : Int) (d : Bool) (w : World) :
    Calls Try.prog 63 #[.agg #[.int .i64 a, .int .i64 b, .int .i64 c, .bool d]] w fun e w' => e = .returned (.agg #[.int .i64 a, .int .i64 b, .int .i64 c, .bool d]) ∧ Below w.heap.size w w' := by
  go_enter Try.func63, Try.ntmps63
  go_wp2
  exact bodyPost_ret (v := .agg #[.int .i64 a, .int .i64 b, .int .i64 c, .bool d]) (by simp [results, Try.results63, go_sem]) rfl ⟨rfl, (((Below.refl _ _).alloc (Nat.le_refl _) _).alloc (by simp) _).alloc (by simp; omega) _⟩

theorem eqSlot_same (a b c : Int) (d : Bool) (w : World) :
    Calls Try.prog 64 #[.agg #[.int .i64 a, .int .i64 b, .int .i64 c, .bool d], .agg #[.int .i64 a, .int .i64 b, .int .i64 c, .bool d]] w fun e w' => e = .returned (.bool true) ∧ Below w.heap.size w w' := by
  cases d
  all_goals
    go_enter Try.func64, Try.ntmps64
    go_wp2
    go_ret
    exact ⟨rfl, ((Below.refl _ _).alloc (Nat.le_refl _) _).alloc (by simp) _⟩

theorem infoSlot : (Try.prog.info? 51).map (fun i => (i.zero, i.size, i.bytes)) = some (some (.agg #[.int .i64 0, .int .i64 0, .int .i64 0, .bool false]), 4, 32) := by kernel_rfl

theorem make_slots (n : Nat) (hn : n ≤ 1048576) (w : World) :
    (Instr.makeSlice 24 (.int .i64 (n : Int)) (.int .i64 (n : Int))).run Try.prog w = .ok (.slice (some ⟨w.heap.size, 0, none⟩) n n) (w.alloc (.cells (madeCells #[.int .i64 0, .int .i64 0, .int .i64 0, .bool false] (n * 4)) 51)) := by
  obtain ⟨i, hi, hz, hs, hb⟩ := info_parts infoSlot
  have h := run_make (P := Try.prog) w 24 51 i _ Try.underlying24 hi hz .i64 .i64 n n (by omega) (by omega) (by rw [hb]; omega) (by omega)
  simp only [Int.toNat_natCast, hs] at h
  exact h

def toF (ss : List Sl) (k j : Nat) : Value := if j / 4 < k then (ss.getD (j / 4) zSl).at (j % 4) else zSl.at (j % 4)

def ToSl (w wr : World) (n : Nat) (ss : List Sl) (k : Nat) : Prop :=
  wr.rowIs w.heap.size 51 (n * 4) (toF ss k) ∧ Below w.heap.size w wr

theorem ToSl.start (w : World) (n : Nat) (ss : List Sl) : ToSl w (w.alloc (.cells (madeCells #[.int .i64 0, .int .i64 0, .int .i64 0, .bool false] (n * 4)) 51)) n ss 0 := by
  refine ⟨?_, bel_alloc _ _⟩
  have h := World.rowIs_alloc w (madeCells #[.int .i64 0, .int .i64 0, .int .i64 0, .bool false] (n * 4)) 51 (toF ss 0) (fun i hi => by
    rw [size_madeCells] at hi
    have hm : i % 4 = 0 ∨ i % 4 = 1 ∨ i % 4 = 2 ∨ i % 4 = 3 := by omega
    rcases hm with h | h | h | h <;> simp [madeCells, hi, toF, Sl.at, zSl, h])
  rw [size_madeCells] at h
  exact h

theorem ToSl.later {w wr w' : World} {n k : Nat} {ss : List Sl} (h : ToSl w wr n ss k) (hb : Below wr.heap.size wr w') : ToSl w w' n ss k :=
  ⟨h.1.of_block (hb.block _ h.1.lt), h.2.trans (hb.mono h.2.size)⟩

theorem ToSl.step {w wr : World} {n k : Nat} {ss : List Sl} (h : ToSl w wr n ss k) {s : Sl} (hs : ss.getD k zSl = s) :
    ToSl w ((((wr.setCell ⟨w.heap.size, k * 4, none⟩ (.int .i64 s.id)).setCell ⟨w.heap.size, k * 4 + 1, none⟩ (.int .i64 s.prev)).setCell ⟨w.heap.size, k * 4 + 2, none⟩ (.int .i64 s.next)).setCell ⟨w.heap.size, k * 4 + 3, none⟩ (.bool s.used)) n ss (k + 1) := by
  refine ⟨(((((h.1.set _ _).set _ _).set _ _).set _ _)).congr (fun j _ => ?_), (((h.2.setCell (Nat.le_refl _) _).setCell (Nat.le_refl _) _).setCell (Nat.le_refl _) _).setCell (Nat.le_refl _) _⟩
  unfold toF
  by_cases e3 : j = k * 4 + 3
  · subst e3; rw [if_pos rfl, if_pos (by omega), show (k * 4 + 3) / 4 = k from by omega, show (k * 4 + 3) % 4 = 3 from by omega, hs]; rfl
  rw [if_neg e3]
  by_cases e2 : j = k * 4 + 2
  · subst e2; rw [if_pos rfl, if_pos (by omega), show (k * 4 + 2) / 4 = k from by omega, show (k * 4 + 2) % 4 = 2 from by omega, hs]; rfl
  rw [if_neg e2]
  by_cases e1 : j = k * 4 + 1
  · subst e1; rw [if_pos rfl, if_pos (by omega), show (k * 4 + 1) / 4 = k from by omega, show (k * 4 + 1) % 4 = 1 from by omega, hs]; rfl
  rw [if_neg e1]
  by_cases e0 : j = k * 4
  · subst e0; rw [if_pos rfl, if_pos (by omega), show (k * 4) / 4 = k from by omega, show (k * 4) % 4 = 0 from by omega, hs]; rfl
  rw [if_neg e0]
  by_cases l : j / 4 < k
  · rw [if_pos l, if_pos (by omega)]
  · rw [if_neg l, if_neg (by omega)]

theorem ToSl.zero {w wr : World} {n k : Nat} {ss : List Sl} (h : ToSl w wr n ss k) (hk : k < n) :
    wr.cell? ⟨w.heap.size, k * 4, none⟩ = some (.int .i64 0) ∧ wr.cell? ⟨w.heap.size, k * 4 + 1, none⟩ = some (.int .i64 0) ∧ wr.cell? ⟨w.heap.size, k * 4 + 2, none⟩ = some (.int .i64 0) ∧ wr.cell? ⟨w.heap.size, k * 4 + 3, none⟩ = some (.bool false)
    ∧ ∀ j, wr.frozen? ⟨w.heap.size, j, none⟩ = false := by
  refine ⟨?_, ?_, ?_, ?_, fun j => h.1.frozen j⟩
  · have := h.1.cell (i := k * 4) (by omega)
    rw [this, toF, if_neg (by omega), show k * 4 % 4 = 0 from by omega]; rfl
  · have := h.1.cell (i := k * 4 + 1) (by omega)
    rw [this, toF, if_neg (by omega), show (k * 4 + 1) % 4 = 1 from by omega]; rfl
  · have := h.1.cell (i := k * 4 + 2) (by omega)
    rw [this, toF, if_neg (by omega), show (k * 4 + 2) % 4 = 2 from by omega]; rfl
  · have := h.1.cell (i := k * 4 + 3) (by omega)
    rw [this, toF, if_neg (by omega), show (k * 4 + 3) % 4 = 3 from by omega]; rfl

theorem rd_of_row {w : World} {b n : Nat} {ss : List Sl} (h : w.rowIs b 51 (n * 4) (toF ss n)) (hn : ss.length = n) : Rd w b ss := by
  intro i hi
  refine ⟨?_, ?_, ?_, ?_, fun j => h.frozen j⟩
  · have := h.cell (i := i * 4) (by omega)
    rw [this, toF, if_pos (by omega), show i * 4 / 4 = i from by omega, show i * 4 % 4 = 0 from by omega]; rfl
  · have := h.cell (i := i * 4 + 1) (by omega)
    rw [this, toF, if_pos (by omega), show (i * 4 + 1) / 4 = i from by omega, show (i * 4 + 1) % 4 = 1 from by omega]; rfl
  · have := h.cell (i := i * 4 + 2) (by omega)
    rw [this, toF, if_pos (by omega), show (i * 4 + 2) / 4 = i from by omega, show (i * 4 + 2) % 4 = 2 from by omega]; rfl
  · have := h.cell (i := i * 4 + 3) (by omega)
    rw [this, toF, if_pos (by omega), show (i * 4 + 3) / 4 = i from by omega, show (i * 4 + 3) % 4 = 3 from by omega]; rfl

theorem toSlotS_any (A : Option Addr) (n cap : Nat) (ss : List Sl) (w : World) (hn : ss.length = n) (hm : n ≤ 1048576) (h : LSl w A ss) :
    Calls Try.prog 55 #[.slice A n cap] w fun e w' => e = .returned (.slice (some ⟨w.heap.size, 0, none⟩) n n) ∧ SlV w' w.heap.size w'.heap.size (some ⟨w.heap.size, 0, none⟩) ss ∧ Below w.heap.size w w' := by
  have hmk := make_slots n hm
  have Hn := Lib.hid hn
  clear hn
  have HI := Lib.hid h
  clear h
  go_enter Try.func55, Try.ntmps55
  go_wp2
  clear hmk
  go_loopw [4] (fun i wr => ∃ k : Nat, k ≤ n ∧ i = .int .i64 k ∧ ToSl w wr n ss k) (fun i _ => n - (intOf i).toNat)
  case atStart => exact ⟨0, Nat.zero_le _, rfl, ToSl.start w n ss⟩
  case round =>
    obtain ⟨k, hk, rfl, hr⟩ := hrel
    by_cases hlt : k < n
    · obtain ⟨b, off, rfl, hc⟩ := HI.out.below hr.2 (by have := Hn.out; omega)
      obtain ⟨c0, c1, c2, c3⟩ := hc k (by have := Hn.out; omega)
      clear hc
      have Hr := Lib.hid hr
      clear hr
      obtain ⟨s, hs⟩ : ∃ s, ss.getD k zSl = s := ⟨_, rfl⟩
      rw [hs] at c0 c1 c2 c3
      have Hs := Lib.hid hs
      clear hs
      go_wp2_with fail
      refine (toSlot_any _ _ _ _ _).mono ?_
      rintro e w1 ⟨rfl, hb⟩
      have hr := Hr.out.later hb
      obtain ⟨z0, z1, z2, z3, zf⟩ := hr.zero hlt
      have Hq := Lib.hid (hr.step Hs.out)
      clear hr
      go_wp2
      go_roundw
      case rel => exact ⟨k + 1, by omega, by go_num, Hq.out⟩
      case measure => simp [intOf]; omega
    · have Hr := Lib.hid hr
      clear hr
      obtain rfl : k = n := by omega
      go_wp2
      go_ret
      exact ⟨rfl, fun _ => ⟨_, rfl, Nat.le_refl _, Hr.out.1.lt, rd_of_row Hr.out.1 Hn.out⟩, Hr.out.2⟩
end Go.Proofs.Ytjbfmagedkmngaa.Que
