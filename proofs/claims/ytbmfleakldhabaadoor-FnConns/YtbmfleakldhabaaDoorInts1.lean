/- Contracts of the laws' helpers on []int: toIntS makes a copy, eqIntS says true of two slices that read alike. -/
import Derived.Test.YtbmfleakldhabaaDoorChecked
import Derived.Test.YtbmfleakldhabaaDoorBase
namespace Go.Proofs.YtbmfleakldhabaaDoor.Base
open Go.RowKit Go.Deep

theorem infoInt : (Tryd.prog.info? 3).map (fun i => (i.zero, i.size, i.bytes)) = some (some (.int .i64 0), 1, 8) := by kernel_rfl

def CopyInts (w : World) (n : Nat) (zs : List Int) (e : Ending) (w' : World) : Prop :=
  e = .returned (.slice (some ⟨w.heap.size, 0, none⟩) n n) ∧ Ints w' (some ⟨w.heap.size, 0, none⟩) zs ∧ Below w.heap.size w w'

def ToRow (w wr : World) (n : Nat) (zs : List Int) (k : Nat) : Prop :=
  wr.rowIs w.heap.size 3 n (fun j => if j < k then .int .i64 (zs.getD j 0) else .int .i64 0) ∧ Below w.heap.size w wr

theorem ToRow.start (w : World) (n : Nat) (zs : List Int) : ToRow w (w.alloc (.cells (madeCells #[.int .i64 0] n) 3)) n zs 0 :=
  ⟨(World.rowIs_made w (.int .i64 0) n 3).congr (fun i _ => by simp), bel_alloc _ _⟩

theorem ToRow.step {w wr : World} {n k : Nat} {zs : List Int} (h : ToRow w wr n zs k) : ToRow w (wr.setCell ⟨w.heap.size, k, none⟩ (.int .i64 (zs.getD k 0))) n zs (k + 1) := by
  refine ⟨(h.1.set k _).congr (fun i _ => ?_), h.2.setCell (Nat.le_refl _) _⟩
  by_cases e : i = k
  · subst e; rw [if_pos rfl, if_pos (by omega)]
  · rw [if_neg e]
    by_cases l : i < k
    · rw [if_pos l, if_pos (by omega)]
    · rw [if_neg l, if_neg (by omega)]

set_option maxHeartbeats 400000 in
theorem toIntS_any (A : Option Addr) (n cap : Nat) (zs : List Int) (w : World) (hn : zs.length = n) (hm : n ≤ 1048576) (h : Ints w A zs) :
    Calls Tryd.prog 46 #[.slice A n cap] w (CopyInts w n zs) := by
  have hmk := run_make_row' (P := Tryd.prog) 29 3 (.int .i64 0) 8 Tryd.underlying29 infoInt rfl .i64 .i64 n (by omega) (by omega)
  have Hn := Lib.hid hn
  clear hn
  have HI := Lib.hid h
  clear h
  go_enter Tryd.func46, Tryd.ntmps46
  go_wp2
  clear hmk
  go_loopw [4] (fun i wr => ∃ k : Nat, k ≤ n ∧ i = .int .i64 k ∧ ToRow w wr n zs k) (fun i _ => n - (intOf i).toNat)
  case atStart => exact ⟨0, Nat.zero_le _, rfl, ToRow.start w n zs⟩
  case round =>
    obtain ⟨k, hk, rfl, hr⟩ := hrel
    by_cases hlt : k < n
    · obtain ⟨b, off, rfl, hc⟩ := HI.out.below hr.2 (by have := Hn.out; omega)
      have hck := hc k (by have := Hn.out; omega)
      clear hc
      have hz : wr.cell? ⟨w.heap.size, k, none⟩ = some (.int .i64 0) := by
        have := hr.1.cell hlt
        rw [if_neg (by omega)] at this
        exact this
      have hf : wr.frozen? ⟨w.heap.size, k, none⟩ = false := hr.1.frozen k
      have Hs := Lib.hid hr.step
      clear hr
      generalize zs.getD k 0 = z at hck Hs
      go_wp2
      go_roundw
      case rel => exact ⟨k + 1, by omega, by go_num, Hs.out⟩
      case measure => simp [intOf]; omega
    · have Hr := Lib.hid hr
      clear hr
      go_wp2
      go_ret
      refine ⟨rfl, ints_of_row (n := n) (t := 3) (Hr.out.1.congr fun i hi => ?_) Hn.out, Hr.out.2⟩
      rw [if_pos (by omega)]

set_option maxHeartbeats 400000 in
theorem eqIntS_same (A1 A2 : Option Addr) (n c1 c2 : Nat) (zs : List Int) (w : World) (hn : zs.length = n) (hm : n ≤ 1048576) (h1 : Ints w A1 zs) (h2 : Ints w A2 zs) :
    Calls Tryd.prog 22 #[.slice A1 n c1, .slice A2 n c2] w fun e w' => e = .returned (.bool true) ∧ Below w.heap.size w w' := by
  have Hn := Lib.hid hn
  clear hn
  have H1 := Lib.hid h1
  have H2 := Lib.hid h2
  clear h1 h2
  go_enter Tryd.func22, Tryd.ntmps22
  go_wp2
  go_loopw [5] (fun i wr => ∃ k : Nat, k ≤ n ∧ i = .int .i64 k ∧ Below w.heap.size w wr) (fun i _ => n - (intOf i).toNat)
  case atStart => exact ⟨0, Nat.zero_le _, rfl, Below.refl _ _⟩
  case round =>
    obtain ⟨k, hk, rfl, hr⟩ := hrel
    by_cases hlt : k < n
    · obtain ⟨b, off, rfl, hc⟩ := H1.out.below hr (by have := Hn.out; omega)
      have hc1 := hc k (by have := Hn.out; omega)
      clear hc
      obtain ⟨b', off', rfl, hc⟩ := H2.out.below hr (by have := Hn.out; omega)
      have hc2 := hc k (by have := Hn.out; omega)
      clear hc
      generalize zs.getD k 0 = z at hc1 hc2
      go_wp2
      go_region
      all_goals
        go_wp2
        go_roundw
        case rel => exact ⟨k + 1, by omega, by go_num, by repeat (first | exact hr | apply Below.drew)⟩
        case measure => simp [intOf]; omega
    · go_wp2
      go_ret
      exact ⟨rfl, hr⟩
end Go.Proofs.YtbmfleakldhabaaDoor.Base
