/- Contracts of the laws' helpers on []int: toIntS makes a copy, eqIntS says true of two slices that read alike. -/
import Derived.Test.YtcgmeindiaaokaaDoorChecked
import Derived.Test.YtcgmeindiaaokaaDoorBase
namespace Go.Proofs.YtcgmeindiaaokaaDoor.Base
open Go.RowKit Go.Deep

theorem infoInt : (Tryd.prog.info? 3).map (fun i => (i.zero, i.size, i.bytes)) = some (some (.int .i64 0), 1, 8) := by kernel_rfl

def CopyInts (w : World) (n : Nat) (zs : List Int) (e : Ending) (w' : World) : Prop :=
  e = .returned (.slice (some ⟨w.heap.size, 0, none⟩) n n) ∧ Ints w' (some ⟨w.heap.size, 0, none⟩) zs ∧ Below w.heap.size w w'

def ToRow (w wr : World) (n : Nat) (zs : List Int) (k : Nat) : Prop :=
  wr.rowIs w.heap.size 3 n (fun j => if j < k then .int .i64 (zs.getD j 0) else .int .i64 0) ∧ Below w.heap.size w wr

theorem ToRow.start (w : World) (n : Nat) (zs : List Int) : ToRow w (w.alloc (.cells (madeCells #[.int .i64 0] n) 3)) n zs 0 :=
  ⟨(World.rowIs_made w (.int .i64 0) n 3).congr (fun i _ => by simp), bel_alloc _ _⟩

theorem ToRow.step {w wr : World} {n k : Nat} {zs : List Int} (h : ToRow w wr n zs k) : ToRow w (wr.setCell ⟨w.heap.size, k, none⟩ (.int .i64 (zs.getD k 0))) n zs (k + 1) := by
  refine ⟨(h.1.set k _).congr (fun i _ => ?_), h.2.setCell (Nat.le_refl _) _⟩
  by_cases e : i = k
  · subst e; rw [if_pos rfl, if_pos (by omega)]
  · rw [if_neg e]
    by_cases l : i < k
    · rw [if_pos l, if_pos (by omega)]
    · rw [if_neg l, if_neg (by omega)]


end Go.Proofs.YtcgmeindiaaokaaDoor.Base
