/- What the row's list of package-level variables gives the walk of ConnText: the names of the states. -/
import Derived.Test.YtbmfleakldhabaaDoorRows
import Derived.Test.YtbmfleakldhabaaDoorKnU
import Derived.Lib.LaidTab
import Derived.Lib.LaidU8
import Derived.LaidSub
import Derived.MakeChecks
import Derived.OpenShut
namespace Go.Proofs.YtbmfleakldhabaaDoor.Kn
open Go.RowKit Base

theorem gNames : Tryd.prog.globalNamed "loop.example/g00722/impl.connNames" = some 0 := by kernel_rfl
theorem gNamesType : (Tryd.prog.globals[0]?).map (·.type) = some 71 := by kernel_rfl
theorem cString : Tryd.prog.cellsOf 9 = 1 := by kernel_rfl
theorem namesPlain : ([(("loop.example/g00722/impl.connNames", Rows.laid_loop_example_g00722_impl_connNames) : String × DataW Unit)].all fun x => x.2.handleName?.isNone) = true := by kernel_rfl
theorem namesData : (Rows.laid_loop_example_g00722_impl_connNames : DataW Unit) = .agg (nmL.map fun l => .lit (.string l)) := by kernel_rfl

theorem take1 {cs : List Value} {k : Nat} {v : Value} (h : (cs.drop k).take 1 = [v]) : cs[k]? = some v := by
  have := congrArg (·[0]?) h
  simpa [List.getElem?_take, List.getElem?_drop] using this

theorem names_of {l : List (String × DataW Unit)} {W : World} (h : laidMetH Tryd.prog l W)
    (hl : (l.filter fun x => x.1 == "loop.example/g00722/impl.connNames") = [("loop.example/g00722/impl.connNames", Rows.laid_loop_example_g00722_impl_connNames)]) : Nms W := by
  have h1 := h.filter fun x => x.1 == "loop.example/g00722/impl.connNames"
  rw [hl, MakeChecks.laidMetH_plain _ _ _ namesPlain, namesData] at h1
  obtain ⟨ps, ⟨g', t', cs, fuel, p, q, hg', ht', hvar, hd, _, _⟩, _⟩ := h1
  obtain rfl := Option.some.inj (gNames.symm.trans hg')
  obtain rfl := Option.some.inj (gNamesType.symm.trans ht')
  intro i hi
  obtain ⟨fuel', d, q', hdi, ht⟩ := Lib.array_elem Tryd.underlying71 hd i hi
  rw [cString, Nat.mul_one] at ht
  obtain ⟨s, hs, hx, _⟩ := DataW.trod_string Tryd.underlying9 ht
  have hc := World.var?_cell gNames hvar i
  have h2 := take1 hs
  rw [hc, ← Array.getElem?_toList, h2]
  show some (Value.string s) = some (Value.string ⟨(nmL.getD i []).toArray⟩)
  have h3 : d = .lit (.string s.data.toList) := congrArg Prod.fst hx
  have h4 : nmL[i]? = some s.data.toList := by
    rw [h3, List.getElem?_map] at hdi
    obtain ⟨a, ha, hb⟩ := Option.map_eq_some_iff.1 hdi
    injection hb with hb
    injection hb with hb
    rw [ha, hb]
  rw [List.getD_eq_getElem?_getD, h4]
  rfl
end Go.Proofs.YtbmfleakldhabaaDoor.Kn
