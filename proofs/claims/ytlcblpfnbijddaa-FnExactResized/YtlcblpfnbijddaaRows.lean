/-
  No cell of these rows narrows 'for every input' (looked for: loops, veiled, ifaces, maps, wideKeys, modest, calm, conditions, laid).
  DERIVED. THE GIVEN ROWS OF THIS SEAT. 4 by the template 'for every input the law returns true; each argument reads behind the call as it read before'; 0 by the template 'total and deterministic' (their statements: YtlcblpfnbijddaaTotals.lean).
  GIVEN WITH THE SEED: the statements are not yours to turn. If you find one false, say at which input.
  Laid BY PROGRAM, IN A SANDBOX (cutbox-rows.mjs): the forced cells as the released guide's own fill.sh prints them over the translation ca31fd6464a04dcb… (all of the seat's roots in one cut). By AI agents, Wed Nov 11 2026. No macro, syntax, notation, axiom, sorry.
-/
import Derived.Test.YtlcblpfnbijddaaChecked
import GoSem.Claim
import GoSem.ClaimJoined
import GoSem.ClaimMapViews
import Derived.JoinedTies
import Derived.KernelRfl
namespace Go.Proofs.Ytlcblpfnbijddaa
/- THE CELL 'sum', in the pinned program and in every row, IS THE sha256 OF THE DUMP (.gsa) THAT YtlcblpfnbijddaaProg.lean LOADS. Nothing in Lean hashes anything: it is a label: what it is worth is what the hold of that sum in a sandbox is worth. -/
noncomputable def Try.pinned : Pinned := { name := "ytlcblpfnbijddaa", sum := "ca31fd6464a04dcb92f025c51a8d375e075f282be8f787acdaefe21816f4e81b", checked := Try.checked }
namespace Rows
def none {H : Type} : Left H := { results := [], args := [] }

/-- 'laws.FnExactConfigOk': WHATEVER THE INPUT: true; the input reads as it did. -/
def fnExactConfigOkSpec : ChangeSpec := { name := "fnExactConfigOk", fn := fun _ => fun
  | [d] => { results := [.lit (.bool true)], args := [d] }
  | _ => none }
def fnExactConfigOkRow : OpenClaim := { program := "ytlcblpfnbijddaa", sum := "ca31fd6464a04dcb92f025c51a8d375e075f282be8f787acdaefe21816f4e81b", func := "loop.example/g00722/laws.FnExactConfigOk", spec := "fnExactConfigOk", apart := false }
def FnExactConfigOkSaid : Prop := fnExactConfigOkRow.holds Try.pinned (OpenSpec.ofChange fnExactConfigOkSpec)

/-- ITS FALSE NEIGHBOUR: 'it returns false'. Refute it at one input. -/
def fnExactConfigOkWrong : ChangeSpec := { name := "fnExactConfigOk", fn := fun _ => fun
  | [d] => { results := [.lit (.bool false)], args := [d] }
  | _ => none }
def FnExactConfigOkWrongFalsely : Prop := fnExactConfigOkRow.holds Try.pinned (OpenSpec.ofChange fnExactConfigOkWrong)

/-- 'laws.FnExactDefaultConfig': WHATEVER THE INPUT: true; the input reads as it did. -/
def fnExactDefaultConfigSpec : ChangeSpec := { name := "fnExactDefaultConfig", fn := fun _ => fun
  | [] => { results := [.lit (.bool true)], args := [] }
  | _ => none }
def fnExactDefaultConfigRow : OpenClaim := { program := "ytlcblpfnbijddaa", sum := "ca31fd6464a04dcb92f025c51a8d375e075f282be8f787acdaefe21816f4e81b", func := "loop.example/g00722/laws.FnExactDefaultConfig", spec := "fnExactDefaultConfig", apart := false }
def FnExactDefaultConfigSaid : Prop := fnExactDefaultConfigRow.holds Try.pinned (OpenSpec.ofChange fnExactDefaultConfigSpec)

/-- ITS FALSE NEIGHBOUR: 'it returns false'. Refute it at one input. -/
def fnExactDefaultConfigWrong : ChangeSpec := { name := "fnExactDefaultConfig", fn := fun _ => fun
  | [] => { results := [.lit (.bool false)], args := [] }
  | _ => none }
def FnExactDefaultConfigWrongFalsely : Prop := fnExactDefaultConfigRow.holds Try.pinned (OpenSpec.ofChange fnExactDefaultConfigWrong)

/-- 'laws.FnExactResized': WHATEVER THE INPUT: true; the input reads as it did. -/
def fnExactResizedSpec : ChangeSpec := { name := "fnExactResized", fn := fun _ => fun
  | [d1, d2, d3] => { results := [.lit (.bool true)], args := [d1, d2, d3] }
  | _ => none }
def fnExactResizedRow : OpenClaim := { program := "ytlcblpfnbijddaa", sum := "ca31fd6464a04dcb92f025c51a8d375e075f282be8f787acdaefe21816f4e81b", func := "loop.example/g00722/laws.FnExactResized", spec := "fnExactResized", apart := false }
def FnExactResizedSaid : Prop := fnExactResizedRow.holds Try.pinned (OpenSpec.ofChange fnExactResizedSpec)

/-- ITS FALSE NEIGHBOUR: 'it returns false'. Refute it at one input. -/
def fnExactResizedWrong : ChangeSpec := { name := "fnExactResized", fn := fun _ => fun
  | [d1, d2, d3] => { results := [.lit (.bool false)], args := [d1, d2, d3] }
  | _ => none }
def FnExactResizedWrongFalsely : Prop := fnExactResizedRow.holds Try.pinned (OpenSpec.ofChange fnExactResizedWrong)

/-- 'laws.FnExactFieldNames': WHATEVER THE INPUT: true; the input reads as it did. -/
def fnExactFieldNamesSpec : ChangeSpec := { name := "fnExactFieldNames", fn := fun _ => fun
  | [] => { results := [.lit (.bool true)], args := [] }
  | _ => none }
def fnExactFieldNamesRow : OpenClaim := { program := "ytlcblpfnbijddaa", sum := "ca31fd6464a04dcb92f025c51a8d375e075f282be8f787acdaefe21816f4e81b", func := "loop.example/g00722/laws.FnExactFieldNames", spec := "fnExactFieldNames", apart := false }
def FnExactFieldNamesSaid : Prop := fnExactFieldNamesRow.holds Try.pinned (OpenSpec.ofChange fnExactFieldNamesSpec)

/-- ITS FALSE NEIGHBOUR: 'it returns false'. Refute it at one input. -/
def fnExactFieldNamesWrong : ChangeSpec := { name := "fnExactFieldNames", fn := fun _ => fun
  | [] => { results := [.lit (.bool false)], args := [] }
  | _ => none }
def FnExactFieldNamesWrongFalsely : Prop := fnExactFieldNamesRow.holds Try.pinned (OpenSpec.ofChange fnExactFieldNamesWrong)

/- THE SECOND FORM. 'bulk': how many values and letters a reading holds, each counted each time it is reached (what is shared counts as often as it is met; a slice's spare places count too). A statement '..UptoSaid' is the law's where the arguments, and the package variables that the reading takes, are together of bulk at most 1048576: NARROWER than '..Said'. Prove '..Said' where nothing that the law and all that it calls make is longer than what came in: it says more and counts as full. Else prove '..UptoSaid'. A law counts once. -/
mutual
def uptoBulk {H : Type} : DataW H → Nat
  | .lit (.string bytes) => bytes.length + 1
  | .lit _ => 1
  | .nil => 1
  | .ptr d => uptoBulk d + 1
  | .slice elems spare => uptoBulkAll elems + uptoBulkAll spare + 1
  | .agg parts => uptoBulkAll parts + 1
  | .iface _ d => uptoBulk d + 1
  | .map entries => uptoBulkEntries entries + 1
  | .held _ => 1
def uptoBulkAll {H : Type} : List (DataW H) → Nat
  | [] => 0
  | d :: r => uptoBulk d + uptoBulkAll r
def uptoBulkEntries {H : Type} : List (Lit × DataW H) → Nat
  | [] => 0
  | x :: r => uptoBulkEntry x + uptoBulkEntries r
def uptoBulkEntry {H : Type} : Lit × DataW H → Nat
  | (.string bytes, d) => bytes.length + uptoBulk d + 1
  | (_, d) => uptoBulk d + 1
 end
def uptoSmall : (H : Type) → List (DataW H) → Bool := fun _ ds => decide (uptoBulkAll ds ≤ 1048576)
def OpenSpec.upto (s : _root_.Go.ChangeSpec) : _root_.Go.OpenSpec := { _root_.Go.OpenSpec.ofChange s with cond := some uptoSmall }

/-- 'laws.FnExactConfigOk', WHERE WHAT IT READS IS OF BULK AT MOST 1048576: true; the input reads as it did. -/
def fnExactConfigOkUptoRow : OpenClaim := { program := "ytlcblpfnbijddaa", sum := "ca31fd6464a04dcb92f025c51a8d375e075f282be8f787acdaefe21816f4e81b", func := "loop.example/g00722/laws.FnExactConfigOk", spec := "fnExactConfigOk", apart := false, narrowed := true }
def FnExactConfigOkUptoSaid : Prop := fnExactConfigOkUptoRow.holds Try.pinned (OpenSpec.upto fnExactConfigOkSpec)

/-- 'laws.FnExactDefaultConfig', WHERE WHAT IT READS IS OF BULK AT MOST 1048576: true; the input reads as it did. -/
def fnExactDefaultConfigUptoRow : OpenClaim := { program := "ytlcblpfnbijddaa", sum := "ca31fd6464a04dcb92f025c51a8d375e075f282be8f787acdaefe21816f4e81b", func := "loop.example/g00722/laws.FnExactDefaultConfig", spec := "fnExactDefaultConfig", apart := false, narrowed := true }
def FnExactDefaultConfigUptoSaid : Prop := fnExactDefaultConfigUptoRow.holds Try.pinned (OpenSpec.upto fnExactDefaultConfigSpec)

/-- 'laws.FnExactResized', WHERE WHAT IT READS IS OF BULK AT MOST 1048576: true; the input reads as it did. -/
def fnExactResizedUptoRow : OpenClaim := { program := "ytlcblpfnbijddaa", sum := "ca31fd6464a04dcb92f025c51a8d375e075f282be8f787acdaefe21816f4e81b", func := "loop.example/g00722/laws.FnExactResized", spec := "fnExactResized", apart := false, narrowed := true }
def FnExactResizedUptoSaid : Prop := fnExactResizedUptoRow.holds Try.pinned (OpenSpec.upto fnExactResizedSpec)

/-- 'laws.FnExactFieldNames', WHERE WHAT IT READS IS OF BULK AT MOST 1048576: true; the input reads as it did. -/
def fnExactFieldNamesUptoRow : OpenClaim := { program := "ytlcblpfnbijddaa", sum := "ca31fd6464a04dcb92f025c51a8d375e075f282be8f787acdaefe21816f4e81b", func := "loop.example/g00722/laws.FnExactFieldNames", spec := "fnExactFieldNames", apart := false, narrowed := true }
def FnExactFieldNamesUptoSaid : Prop := fnExactFieldNamesUptoRow.holds Try.pinned (OpenSpec.upto fnExactFieldNamesSpec)

end Rows
end Go.Proofs.Ytlcblpfnbijddaa
