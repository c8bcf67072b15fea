/- Rows of integers: grown, cloned (slices.Clone). -/
import Derived.Test.YtbmfleakldhabaaDoorIntN
import Derived.Maps.AppendAt
import Derived.Lib.SliceRun
import Derived.Deep.RegionHeld3
import Derived.Deep.RegionLaw
namespace Go.Proofs.YtbmfleakldhabaaDoor.Rw
open Go.RowKit Go.Deep Base

theorem ListSt.nil (W : World) : ListSt W.heap.size W W (.slice none 0 0) [] := ⟨World.ownsRow_nil _ _ _ _, Below.refl _ _⟩
theorem ListSt.empty (W : World) : ListSt W.heap.size W (W.alloc (.cells #[] 3)) (.slice (some ⟨W.heap.size, 0, none⟩) 0 0) [] := by
  refine ⟨?_, bel_alloc _ _⟩
  have h := World.ownsRow_lit (base := W.heap.size) (e := 3) (size := 1) W #[] 0 (Nat.le_refl _) (by simp) (by simp)
  simpa using h
theorem ListSt.newI {W wr : World} {A : Option Addr} {n cap : Nat} {ids : List Int} (h : ListSt W.heap.size W wr (.slice A n cap) ids) (hn : ids.length = n) : NewI W ids (.returned (.slice A n cap)) wr := by
  subst hn
  exact ⟨A, cap, rfl, iv_owns h.own, h.old⟩

theorem map_one (zs : List Int) : ∀ u ∈ zs.map (Value.int .i64), u.oneCell' = true := by
  intro u hu
  rw [List.mem_map] at hu
  obtain ⟨z, _, rfl⟩ := hu
  rfl


end Go.Proofs.YtbmfleakldhabaaDoor.Rw
