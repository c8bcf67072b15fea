/- The library's table of powers of ten; strconv.Itoa where it holds what its text lays. -/
import Derived.Test.YtahfmgjchjjlmaaGreatDoorBase
import Derived.Test.YtahfmgjchjjlmaaGreatDoorShelf
import Derived.Lib.SmallJoins
namespace Go.Proofs.YtahfmgjchjjlmaaGreatDoor.Num
open Go.RowKit Base

def Tab (w : World) : Prop := Lib.TabIs Tryz.prog w "internal/strconv.uint64pow10" .u64 Lib.pow10Tab

theorem gTab : Tryz.prog.globalNamed "internal/strconv.uint64pow10" = some 3 := by kernel_rfl

theorem Tab.below {w w' : World} (h : Tab w) (hb : Below w.heap.size w w') : Tab w' := by
  exact Joins.tab_stays gTab h hb (Nat.le_refl _)

theorem bel_grow (w : World) (k : Nat) (os : Array Obj) : Below w.heap.size w (Sort.grow (w.drewN k) os) :=
  ⟨rfl, rfl, rfl, by simp [Sort.grow], fun i hi => by simp [Sort.grow, Array.getElem?_append, hi]⟩

theorem itoa_any (n : Int) (w : World) (h0 : -9223372036854775808 ≤ n) (h1 : n ≤ 9223372036854775807) (ht : Tab w) :
    Calls Tryz.prog 14 #[.int .i64 n] w fun e w' => e = .returned (.string ⟨(Lib.itoa n).toArray⟩) ∧ Below w.heap.size w w' :=
  (Tryz.strconv_Itoa n h0 h1 w ht).mono fun _ _ ⟨he, k, os, hw⟩ => ⟨he, by rw [hw]; exact bel_grow w k os⟩
end Go.Proofs.YtahfmgjchjjlmaaGreatDoor.Num
