/- Contracts of the laws' helpers on items and heaps: size, a copy, the comparison of two that read alike. -/
import Derived.Test.YtnmhdbfemobhkaaHp0
import Derived.Deep.QuietTactic
import Derived.BigQuiet
import Derived.RegionTactic
import Derived.StillTailTactics
namespace Go.Proofs.Ytnmhdbfemobhkaa.Hp
open Go.RowKit Go.Deep Base

theorem toDue_any (a b c : Int) (w : World) :
    Calls Try.prog 83 #[.agg #[.int .i64 a, .int .i64 b, .int .i64 c]] w fun e w' => e = .returned (.agg #[.int .i64 a, .int .i64 b, .int .i64 c]) ∧ Below w.heap.size w w' := by
  go_enter Try.func83, Try.ntmps83
  go_wp2
  exact bodyPost_ret (v := .agg #[.int .i64 a, .int .i64 b, .int .i64 c]) (by simp [results, Try.results83, go_sem]) rfl ⟨rfl, (((Below.refl _ _).alloc (Nat.le_refl _) _).alloc (by simp) _).alloc (by simp; omega) _⟩

theorem eqDue_same (a b c : Int) (w : World) :
    Calls Try.prog 34 #[.agg #[.int .i64 a, .int .i64 b, .int .i64 c], .agg #[.int .i64 a, .int .i64 b, .int .i64 c]] w fun e w' => e = .returned (.bool true) ∧ Below w.heap.size w w' := by
  go_enter Try.func34, Try.ntmps34
  go_wp2
  go_ret
  exact ⟨rfl, ((Below.refl _ _).alloc (Nat.le_refl _) _).alloc (by simp) _⟩

theorem infoDue : (Try.prog.info? 39).map (fun i => (i.zero, i.size, i.bytes)) = some (some (.agg #[.int .i64 0, .int .i64 0, .int .i64 0]), 3, 24) := by kernel_rfl

theorem make_dues (n : Nat) (hn : n ≤ 1048576) (w : World) :
    (Instr.makeSlice 26 (.int .i64 (n : Int)) (.int .i64 (n : Int))).run Try.prog w = .ok (.slice (some ⟨w.heap.size, 0, none⟩) n n) (w.alloc (.cells (madeCells #[.int .i64 0, .int .i64 0, .int .i64 0] (n * 3)) 39)) := by
  obtain ⟨i, hi, hz, hs, hb⟩ := info_parts infoDue
  have h := run_make (P := Try.prog) w 26 39 i _ Try.underlying26 hi hz .i64 .i64 n n (by omega) (by omega) (by rw [hb]; omega) (by omega)
  simp only [Int.toNat_natCast, hs] at h
  exact h

def toF (ds : List Du) (k j : Nat) : Value := if j / 3 < k then (ds.getD (j / 3) zDu).cell (j % 3) else zDu.cell (j % 3)

def ToDs (w wr : World) (n : Nat) (ds : List Du) (k : Nat) : Prop :=
  wr.rowIs w.heap.size 39 (n * 3) (toF ds k) ∧ Below w.heap.size w wr

theorem ToDs.start (w : World) (n : Nat) (ds : List Du) : ToDs w (w.alloc (.cells (madeCells #[.int .i64 0, .int .i64 0, .int .i64 0] (n * 3)) 39)) n ds 0 := by
  refine ⟨?_, bel_alloc _ _⟩
  have h := World.rowIs_alloc w (madeCells #[.int .i64 0, .int .i64 0, .int .i64 0] (n * 3)) 39 (toF ds 0) (fun i hi => by
    rw [size_madeCells] at hi
    have hm : i % 3 = 0 ∨ i % 3 = 1 ∨ i % 3 = 2 := by omega
    rcases hm with h | h | h <;> simp [madeCells, hi, toF, Du.cell, zDu, h])
  rw [size_madeCells] at h
  exact h

theorem ToDs.later {w wr w' : World} {n k : Nat} {ds : List Du} (h : ToDs w wr n ds k) (hb : Below wr.heap.size wr w') : ToDs w w' n ds k :=
  ⟨h.1.of_block (hb.block _ h.1.lt), h.2.trans (hb.mono h.2.size)⟩

theorem ToDs.step {w wr : World} {n k : Nat} {ds : List Du} (h : ToDs w wr n ds k) {s : Du} (hs : ds.getD k zDu = s) :
    ToDs w (((wr.setCell ⟨w.heap.size, k * 3, none⟩ (.int .i64 s.at)).setCell ⟨w.heap.size, k * 3 + 1, none⟩ (.int .i64 s.seq)).setCell ⟨w.heap.size, k * 3 + 2, none⟩ (.int .i64 s.id)) n ds (k + 1) := by
  refine ⟨((((h.1.set _ _).set _ _).set _ _)).congr (fun j _ => ?_), ((h.2.setCell (Nat.le_refl _) _).setCell (Nat.le_refl _) _).setCell (Nat.le_refl _) _⟩
  unfold toF
  by_cases e2 : j = k * 3 + 2
  · subst e2; rw [if_pos rfl, if_pos (by omega), show (k * 3 + 2) / 3 = k from by omega, show (k * 3 + 2) % 3 = 2 from by omega, hs]; rfl
  rw [if_neg e2]
  by_cases e1 : j = k * 3 + 1
  · subst e1; rw [if_pos rfl, if_pos (by omega), show (k * 3 + 1) / 3 = k from by omega, show (k * 3 + 1) % 3 = 1 from by omega, hs]; rfl
  rw [if_neg e1]
  by_cases e0 : j = k * 3
  · subst e0; rw [if_pos rfl, if_pos (by omega), show (k * 3) / 3 = k from by omega, show (k * 3) % 3 = 0 from by omega, hs]; rfl
  rw [if_neg e0]
  by_cases l : j / 3 < k
  · rw [if_pos l, if_pos (by omega)]
  · rw [if_neg l, if_neg (by omega)]

theorem ToDs.zero {w wr : World} {n k : Nat} {ds : List Du} (h : ToDs w wr n ds k) (hk : k < n) :
    wr.cell? ⟨w.heap.size, k * 3, none⟩ = some (.int .i64 0) ∧ wr.cell? ⟨w.heap.size, k * 3 + 1, none⟩ = some (.int .i64 0) ∧ wr.cell? ⟨w.heap.size, k * 3 + 2, none⟩ = some (.int .i64 0)
    ∧ ∀ j, wr.frozen? ⟨w.heap.size, j, none⟩ = false := by
  refine ⟨?_, ?_, ?_, fun j => h.1.frozen j⟩
  · have := h.1.cell (i := k * 3) (by omega)
    rw [this, toF, if_neg (by omega), show k * 3 % 3 = 0 from by omega]; rfl
  · have := h.1.cell (i := k * 3 + 1) (by omega)
    rw [this, toF, if_neg (by omega), show (k * 3 + 1) % 3 = 1 from by omega]; rfl
  · have := h.1.cell (i := k * 3 + 2) (by omega)
    rw [this, toF, if_neg (by omega), show (k * 3 + 2) % 3 = 2 from by omega]; rfl

theorem rd_of_row {w : World} {b n : Nat} {ds : List Du} (h : w.rowIs b 39 (n * 3) (toF ds n)) (hn : ds.length = n) : Rd w b ds := by
  intro i hi
  refine ⟨?_, ?_, ?_, fun j => h.frozen j⟩
  · have := h.cell (i := i * 3) (by omega)
    rw [this, toF, if_pos (by omega), show i * 3 / 3 = i from by omega, show i * 3 % 3 = 0 from by omega]; rfl
  · have := h.cell (i := i * 3 + 1) (by omega)
    rw [this, toF, if_pos (by omega), show (i * 3 + 1) / 3 = i from by omega, show (i * 3 + 1) % 3 = 1 from by omega]; rfl
  · have := h.cell (i := i * 3 + 2) (by omega)
    rw [this, toF, if_pos (by omega), show (i * 3 + 2) / 3 = i from by omega, show (i * 3 + 2) % 3 = 2 from by omega]; rfl

theorem toDueS_any (A : Option Addr) (n cap : Nat) (ds : List Du) (w : World) (hn : ds.length = n) (hm : n ≤ 1048576) (h : LD w A ds) :
    Calls Try.prog 60 #[.slice A n cap] w fun e w' => e = .returned (.slice (some ⟨w.heap.size, 0, none⟩) n n) ∧ DV w' w.heap.size w'.heap.size (some ⟨w.heap.size, 0, none⟩) ds ∧ Below w.heap.size w w' := by
  have hmk := make_dues n hm
  have Hn := Lib.hid hn
  clear hn
  have HI := Lib.hid h
  clear h
  go_enter Try.func60, Try.ntmps60
  go_wp2
  clear hmk
  go_loopw [4] (fun i wr => ∃ k : Nat, k ≤ n ∧ i = .int .i64 k ∧ ToDs w wr n ds k) (fun i _ => n - (intOf i).toNat)
  case atStart => exact ⟨0, Nat.zero_le _, rfl, ToDs.start w n ds⟩
  case round =>
    obtain ⟨k, hk, rfl, hr⟩ := hrel
    by_cases hlt : k < n
    · obtain ⟨b, off, rfl, hc⟩ := HI.out.below hr.2 (by have := Hn.out; omega)
      obtain ⟨c0, c1, c2⟩ := hc k (by have := Hn.out; omega)
      clear hc
      have Hr := Lib.hid hr
      clear hr
      obtain ⟨s, hs⟩ : ∃ s, ds.getD k zDu = s := ⟨_, rfl⟩
      rw [hs] at c0 c1 c2
      have Hs := Lib.hid hs
      clear hs
      go_wp2_with fail
      refine (toDue_any _ _ _ _).mono ?_
      rintro e w1 ⟨rfl, hb⟩
      have hr := Hr.out.later hb
      obtain ⟨z0, z1, z2, zf⟩ := hr.zero hlt
      have Hq := Lib.hid (hr.step Hs.out)
      clear hr
      go_wp2
      go_roundw
      case rel => exact ⟨k + 1, by omega, by go_num, Hq.out⟩
      case measure => simp [intOf]; omega
    · have Hr := Lib.hid hr
      clear hr
      obtain rfl : k = n := by omega
      go_wp2
      go_ret
      exact ⟨rfl, fun _ => ⟨_, rfl, Nat.le_refl _, Hr.out.1.lt, rd_of_row Hr.out.1 Hn.out⟩, Hr.out.2⟩

set_option maxRecDepth 100000 in
set_option maxHeartbeats 400000 in
theorem eqDueS_same (A1 A2 : Option Addr) (n c1 c2 lo hi lo' hi' : Nat) (ds : List Du) (w : World) (hn : ds.length = n) (hm : n ≤ 1048576) (h1 : DV w lo hi A1 ds) (h2 : DV w lo' hi' A2 ds) (hs : hi ≤ w.heap.size) (hs' : hi' ≤ w.heap.size) :
    Calls Try.prog 61 #[.slice A1 n c1, .slice A2 n c2] w fun e w' => e = .returned (.bool true) ∧ Below w.heap.size w w' := by
  have Hn := Lib.hid hn
  clear hn
  have H1 := Lib.hid h1
  have H2 := Lib.hid h2
  clear h1 h2
  go_enter Try.func61, Try.ntmps61
  go_wp2
  go_loopw [5] (fun i wr => ∃ k : Nat, k ≤ n ∧ i = .int .i64 k ∧ Below w.heap.size w wr) (fun i _ => n - (intOf i).toNat)
  case atStart => exact ⟨0, Nat.zero_le _, rfl, Below.refl _ _⟩
  case round =>
    obtain ⟨k, hk, rfl, hr⟩ := hrel
    by_cases hlt : k < n
    · obtain ⟨g, rfl, _, _, hc⟩ := (H1.out.below hr hs) (by have := Hn.out; omega)
      obtain ⟨c0, c1, c2, _⟩ := hc k (by have := Hn.out; omega)
      clear hc
      obtain ⟨g', rfl, _, _, hc⟩ := (H2.out.below hr hs') (by have := Hn.out; omega)
      obtain ⟨d0, d1, d2, _⟩ := hc k (by have := Hn.out; omega)
      clear hc
      generalize ds.getD k zDu = s at c0 c1 c2 d0 d1 d2
      go_wp2
      go_still_tail 8, (by kernel_rfl)
      change wpList _ _ _ _ _ wr.drew
      go_wp2_with fail
      refine (eqDue_same _ _ _ _).mono ?_
      rintro e w1 ⟨rfl, hb⟩
      go_wp2
      go_roundw
      case rel => exact ⟨k + 1, by omega, by go_num, bel_trans hr (bel_of_drew hb)⟩
      case measure => simp [intOf]; omega
    · go_wp2
      go_ret
      exact ⟨rfl, hr⟩

theorem szHeap_any (A : Option Addr) (n cap : Nat) (q left : Int) (w : World) (hn : n ≤ 9223372036854775807) (h0 : 0 ≤ left) (h1 : left ≤ 1048576) :
    Calls Try.prog 23 #[.agg #[.slice A n cap, .int .i64 q], .int .i64 left] w fun e w' => e = .returned (.int .i64 (if left < n then -1 else left - n)) ∧ Below w.heap.size w w' := by
  by_cases hl : left < n
  · have hl' : ¬ 0 ≤ left - n := by omega
    go_enter Try.func23, Try.ntmps23
    go_wp2
    go_ret
    exact ⟨ret_int (by simp), (Below.refl _ _).alloc (Nat.le_refl _) _⟩
  · go_enter Try.func23, Try.ntmps23
    go_wp2
    go_ret
    exact ⟨ret_int (by simp), (Below.refl _ _).alloc (Nat.le_refl _) _⟩

/-- What a call that hands back a new heap leaves: its slice lies in new memory, old memory stands. -/
def NewH (w : World) (n : Nat) (ds : List Du) (q : Int) (e : Ending) (w' : World) : Prop :=
  ∃ A cap, e = .returned (.agg #[.slice A n cap, .int .i64 q]) ∧ DV w' w.heap.size w'.heap.size A ds ∧ Below w.heap.size w w'

set_option maxHeartbeats 400000 in
theorem toHeap_any (A : Option Addr) (n cap : Nat) (ds : List Du) (q : Int) (w : World) (hn : ds.length = n) (hm : n ≤ 1048576) (h : LD w A ds) :
    Calls Try.prog 24 #[.agg #[.slice A n cap, .int .i64 q]] w (NewH w n ds q) := by
  have Hn := Lib.hid hn
  clear hn
  have HI := Lib.hid h
  clear h
  go_enter Try.func24, Try.ntmps24
  go_wp2_with fail
  refine (toDueS_any A n cap ds _ Hn.out hm (HI.out.below ?_)).mono ?_
  · exact (((Below.refl _ _).alloc (Nat.le_refl _) _).alloc (by simp) _).alloc (by simp <;> omega) _
  rintro e w1 ⟨rfl, hv, hb⟩
  simp only [World.size_alloc] at hv
  have Hv := Lib.hid hv
  clear hv
  obtain ⟨hc, hf⟩ := bcell hb
  have hz : w.heap.size + 1 + 1 < w1.heap.size := by have := hb.size; simp at this; omega
  have Hb := Lib.hid hb
  clear hb
  go_wp2
  refine bodyPost_ret (v := .agg #[.slice (some ⟨w.heap.size + 1 + 1 + 1, 0, none⟩) n n, .int .i64 q]) (by simp [results, Try.results24, go_sem, hc]) rfl ⟨_, _, rfl, ?_, ?_⟩
  · refine DV.wide (lo := w.heap.size + 1 + 1 + 1) (hi := w1.heap.size) ?_ (by omega) (by simp [World.setCell])
    iterate 4 refine DV.setCell ?_ (by simp <;> omega) _
    exact Hv.out
  · iterate 4 refine Below.setCell ?_ (by simp <;> omega) _
    exact bel_trans ((((Below.refl _ _).alloc (Nat.le_refl _) _).alloc (by simp) _).alloc (by simp; omega) _) Hb.out

set_option maxHeartbeats 400000 in
theorem eqHeap_same (A1 A2 : Option Addr) (n c1 c2 lo hi lo' hi' : Nat) (ds : List Du) (q : Int) (w : World) (hn : ds.length = n) (hm : n ≤ 1048576) (h1 : DV w lo hi A1 ds) (h2 : DV w lo' hi' A2 ds) (hs : hi ≤ w.heap.size) (hs' : hi' ≤ w.heap.size) :
    Calls Try.prog 26 #[.agg #[.slice A1 n c1, .int .i64 q], .agg #[.slice A2 n c2, .int .i64 q]] w fun e w' => e = .returned (.bool true) ∧ Below w.heap.size w w' := by
  have Hn := Lib.hid hn
  clear hn
  have H1 := Lib.hid h1
  have H2 := Lib.hid h2
  clear h1 h2
  have ha : ∀ o o', Below w.heap.size w ((w.alloc o).alloc o') := fun o o' => ((Below.refl _ _).alloc (Nat.le_refl _) _).alloc (by simp) _
  have Ha := Lib.hid ha
  clear ha
  go_enter Try.func26, Try.ntmps26
  go_wp2_with fail
  refine (eqDueS_same A1 A2 n c1 c2 lo hi lo' hi' ds _ Hn.out hm (H1.out.below (Ha.out _ _) hs) (H2.out.below (Ha.out _ _) hs') (by simp; omega) (by simp; omega)).mono ?_
  rintro e w1 ⟨rfl, hb⟩
  obtain ⟨hc, hf⟩ := bcell hb
  have Hb := Lib.hid hb
  clear hb
  go_wp2
  go_ret
  exact ⟨rfl, bel_trans (Ha.out _ _) Hb.out⟩
end Go.Proofs.Ytnmhdbfemobhkaa.Hp
