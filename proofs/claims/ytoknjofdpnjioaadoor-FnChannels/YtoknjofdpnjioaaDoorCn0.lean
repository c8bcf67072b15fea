/- What the rows' lists of package-level variables give the walks of chapter 7: the names of the states, the moves. -/
import Derived.Test.YtoknjofdpnjioaaDoorRows
import Derived.Test.YtoknjofdpnjioaaDoorBase
import Derived.Lib.LaidTab
import Derived.Lib.LaidU8
import Derived.LaidSub
import Derived.MakeChecks
import Derived.OpenShut
namespace Go.Proofs.YtoknjofdpnjioaaDoor.Cn
open Go.RowKit Base

/-- The names of the states. -/
def nmL : List (List UInt8) := [[105, 100, 108, 101], [99, 111, 110, 110, 101, 99, 116, 105, 110, 103], [114, 101, 97, 100, 121], [102, 97, 105, 108, 105, 110, 103], [115, 104, 117, 116]]

/-- The moves: the event, the state before it, the state behind it. -/
def mvL : List (List Int) := [[0, 0, 1], [1, 1, 2], [1, 3, 2], [2, 1, 3], [3, 3, 1], [4, 2, 0], [5, 2, 0], [5, 1, 0], [5, 3, 0], [6, 0, 4], [6, 1, 4], [6, 2, 4], [6, 3, 4]]

def mvI : List Int := mvL.flatten

/-- The variable of the names holds them. -/
def Nms (w : World) : Prop := ∀ i, i < 5 → w.cell? ⟨0, i, none⟩ = some (.string ⟨(nmL.getD i []).toArray⟩)

/-- The variable of the moves holds them. -/
def Mvs (w : World) : Prop := ∀ i, i < 39 → w.cell? ⟨1, i, none⟩ = some (.int .i64 (mvI.getD i 0))

theorem Nms.below {w w' : World} (h : Nms w) (hb : Below w.heap.size w w') : Nms w' := fun i hi => (hb.cell (World.block_lt_of_cell? _ _ (h i hi))).trans (h i hi)
theorem Mvs.below {w w' : World} (h : Mvs w) (hb : Below w.heap.size w w') : Mvs w' := fun i hi => (hb.cell (World.block_lt_of_cell? _ _ (h i hi))).trans (h i hi)

theorem gNames : Tryd.prog.globalNamed "loop.example/g00722/impl.channelNames" = some 0 := by kernel_rfl
theorem gNamesType : (Tryd.prog.globals[0]?).map (·.type) = some 68 := by kernel_rfl
theorem gMoves : Tryd.prog.globalNamed "loop.example/g00722/impl.channelMoves" = some 1 := by kernel_rfl
theorem gMovesType : (Tryd.prog.globals[1]?).map (·.type) = some 86 := by kernel_rfl

theorem cString : Tryd.prog.cellsOf 9 = 1 := by kernel_rfl
theorem cInt : Tryd.prog.cellsOf 3 = 1 := by kernel_rfl
theorem cMove : Tryd.prog.cellsOf 85 = 3 := by kernel_rfl

theorem namesPlain : ([(("loop.example/g00722/impl.channelNames", Rows.laid_loop_example_g00722_impl_channelNames) : String × DataW Unit)].all fun x => x.2.handleName?.isNone) = true := by kernel_rfl
theorem namesData : (Rows.laid_loop_example_g00722_impl_channelNames : DataW Unit) = .agg (nmL.map fun l => .lit (.string l)) := by kernel_rfl
theorem movesPlain : ([(("loop.example/g00722/impl.channelMoves", Rows.laid_loop_example_g00722_impl_channelMoves) : String × DataW Unit)].all fun x => x.2.handleName?.isNone) = true := by kernel_rfl
theorem movesData : (Rows.laid_loop_example_g00722_impl_channelMoves : DataW Unit) = .agg (mvL.map fun l => .agg (l.map fun z => .lit (.int .i64 z))) := by kernel_rfl

theorem take1 {cs : List Value} {k : Nat} {v : Value} (h : (cs.drop k).take 1 = [v]) : cs[k]? = some v := by
  have := congrArg (·[0]?) h
  simpa [List.getElem?_take, List.getElem?_drop] using this

theorem names_of {l : List (String × DataW Unit)} {W : World} (h : laidMetH Tryd.prog l W)
    (hl : (l.filter fun x => x.1 == "loop.example/g00722/impl.channelNames") = [("loop.example/g00722/impl.channelNames", Rows.laid_loop_example_g00722_impl_channelNames)]) : Nms W := by
  have h1 := h.filter fun x => x.1 == "loop.example/g00722/impl.channelNames"
  rw [hl, MakeChecks.laidMetH_plain _ _ _ namesPlain, namesData] at h1
  obtain ⟨ps, ⟨g', t', cs, fuel, p, q, hg', ht', hvar, hd, _, _⟩, _⟩ := h1
  obtain rfl := Option.some.inj (gNames.symm.trans hg')
  obtain rfl := Option.some.inj (gNamesType.symm.trans ht')
  intro i hi
  obtain ⟨fuel', d, q', hdi, ht⟩ := Lib.array_elem Tryd.underlying68 hd i hi
  rw [cString, Nat.mul_one] at ht
  obtain ⟨s, hs, hx, _⟩ := DataW.trod_string Tryd.underlying9 ht
  have hc := World.var?_cell gNames hvar i
  have h2 := take1 hs
  rw [hc, ← Array.getElem?_toList, h2]
  have h3 : d = .lit (.string s.data.toList) := congrArg Prod.fst hx
  have h4 : nmL[i]? = some s.data.toList := by
    rw [h3, List.getElem?_map] at hdi
    obtain ⟨a, ha, hb⟩ := Option.map_eq_some_iff.1 hdi
    injection hb with hb
    injection hb with hb
    rw [ha, hb]
  rw [List.getD_eq_getElem?_getD, h4]
  rfl

theorem moves_of {l : List (String × DataW Unit)} {W : World} (h : laidMetH Tryd.prog l W)
    (hl : (l.filter fun x => x.1 == "loop.example/g00722/impl.channelMoves") = [("loop.example/g00722/impl.channelMoves", Rows.laid_loop_example_g00722_impl_channelMoves)]) : Mvs W := by
  have h1 := h.filter fun x => x.1 == "loop.example/g00722/impl.channelMoves"
  rw [hl, MakeChecks.laidMetH_plain _ _ _ movesPlain, movesData] at h1
  obtain ⟨ps, ⟨g', t', cs, fuel, p, q, hg', ht', hvar, hd, _, _⟩, _⟩ := h1
  obtain rfl := Option.some.inj (gMoves.symm.trans hg')
  obtain rfl := Option.some.inj (gMovesType.symm.trans ht')
  have key : ∀ i, i < 13 → ∀ j, j < 3 → cs.toList[i * 3 + j]? = some (.int .i64 ((mvL.getD i []).getD j 0)) := by
    intro i hi j hj
    obtain ⟨fuel', d, q', hdi, ht⟩ := Lib.array_elem Tryd.underlying86 hd i hi
    rw [cMove] at ht
    rw [List.getElem?_map] at hdi
    obtain ⟨zs, hz, rfl⟩ := Option.map_eq_some_iff.1 hdi
    have h2 := Lib.ints_of_struct Tryd.underlying85 (fun q f hq => by
      match q, hq with
      | 0, hq => simp at hq; subst hq; exact ⟨Tryd.underlying3, rfl, cInt⟩
      | 1, hq => simp at hq; subst hq; exact ⟨Tryd.underlying3, rfl, cInt⟩
      | 2, hq => simp at hq; subst hq; exact ⟨Tryd.underlying3, rfl, cInt⟩
      | q + 3, hq => simp at hq) (by rw [cMove]; rfl) ht
    have hlen : zs.length = 3 := by
      have : ∀ x ∈ mvL, x.length = 3 := by decide
      exact this zs (List.mem_of_getElem? hz)
    have h3 := congrArg (·[j]?) h2
    simp only [List.getElem?_take, List.getElem?_drop, List.getElem?_map] at h3
    rw [if_pos hj] at h3
    rw [h3, List.getD_eq_getElem?_getD, List.getD_eq_getElem?_getD, hz]
    simp [hlen, hj]
  intro i hi
  have hc := World.var?_cell gMoves hvar i
  rw [hc, ← Array.getElem?_toList]
  have h5 := key (i / 3) (by omega) (i % 3) (by omega)
  rw [show i / 3 * 3 + i % 3 = i by omega] at h5
  rw [h5]
  have : ∀ i, i < 39 → (mvL.getD (i / 3) []).getD (i % 3) 0 = mvI.getD i 0 := by decide
  rw [this i hi]
end Go.Proofs.YtoknjofdpnjioaaDoor.Cn
