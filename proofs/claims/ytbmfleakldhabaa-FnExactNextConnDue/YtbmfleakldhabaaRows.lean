/-
  No cell of these rows narrows 'for every input' (looked for: loops, veiled, ifaces, maps, wideKeys, modest, calm, conditions, laid).
  DERIVED. THE GIVEN ROWS OF THIS SEAT. 4 by the template 'for every input the law returns true; each argument reads behind the call as it read before'; 0 by the template 'total and deterministic' (their statements: YtbmfleakldhabaaTotals.lean).
  GIVEN WITH THE SEED: the statements are not yours to turn. If you find one false, say at which input.
  Laid BY PROGRAM, IN A SANDBOX (cutbox-rows.mjs): the forced cells as the released guide's own fill.sh prints them over the translation 8fa839ca595516eb… (all of the seat's roots in one cut). By AI agents, Wed Nov 11 2026. No macro, syntax, notation, axiom, sorry.
-/
import Derived.Test.YtbmfleakldhabaaChecked
import GoSem.Claim
import GoSem.ClaimJoined
import GoSem.ClaimMapViews
import Derived.JoinedTies
import Derived.KernelRfl
namespace Go.Proofs.Ytbmfleakldhabaa
/- THE CELL 'sum', in the pinned program and in every row, IS THE sha256 OF THE DUMP (.gsa) THAT YtbmfleakldhabaaProg.lean LOADS. Nothing in Lean hashes anything: it is a label: what it is worth is what the hold of that sum in a sandbox is worth. -/
noncomputable def Try.pinned : Pinned := { name := "ytbmfleakldhabaa", sum := "8fa839ca595516eb9d80f600304f56a31f4ea95516a751d8bf9aadb85ff74ba2", checked := Try.checked }
namespace Rows
def none {H : Type} : Left H := { results := [], args := [] }

/-- 'laws.FnExactConnOk': WHATEVER THE INPUT: true; the input reads as it did. -/
def fnExactConnOkSpec : ChangeSpec := { name := "fnExactConnOk", fn := fun _ => fun
  | [d] => { results := [.lit (.bool true)], args := [d] }
  | _ => none }
def fnExactConnOkRow : OpenClaim := { program := "ytbmfleakldhabaa", sum := "8fa839ca595516eb9d80f600304f56a31f4ea95516a751d8bf9aadb85ff74ba2", func := "loop.example/g00722/laws.FnExactConnOk", spec := "fnExactConnOk", apart := false }
def FnExactConnOkSaid : Prop := fnExactConnOkRow.holds Try.pinned (OpenSpec.ofChange fnExactConnOkSpec)

/-- ITS FALSE NEIGHBOUR: 'it returns false'. Refute it at one input. -/
def fnExactConnOkWrong : ChangeSpec := { name := "fnExactConnOk", fn := fun _ => fun
  | [d] => { results := [.lit (.bool false)], args := [d] }
  | _ => none }
def FnExactConnOkWrongFalsely : Prop := fnExactConnOkRow.holds Try.pinned (OpenSpec.ofChange fnExactConnOkWrong)

/-- 'laws.FnExactNewConn': WHATEVER THE INPUT: true; the input reads as it did. -/
def fnExactNewConnSpec : ChangeSpec := { name := "fnExactNewConn", fn := fun _ => fun
  | [d1, d2] => { results := [.lit (.bool true)], args := [d1, d2] }
  | _ => none }
def fnExactNewConnRow : OpenClaim := { program := "ytbmfleakldhabaa", sum := "8fa839ca595516eb9d80f600304f56a31f4ea95516a751d8bf9aadb85ff74ba2", func := "loop.example/g00722/laws.FnExactNewConn", spec := "fnExactNewConn", apart := false }
def FnExactNewConnSaid : Prop := fnExactNewConnRow.holds Try.pinned (OpenSpec.ofChange fnExactNewConnSpec)

/-- ITS FALSE NEIGHBOUR: 'it returns false'. Refute it at one input. -/
def fnExactNewConnWrong : ChangeSpec := { name := "fnExactNewConn", fn := fun _ => fun
  | [d1, d2] => { results := [.lit (.bool false)], args := [d1, d2] }
  | _ => none }
def FnExactNewConnWrongFalsely : Prop := fnExactNewConnRow.holds Try.pinned (OpenSpec.ofChange fnExactNewConnWrong)

/-- 'laws.FnExactConnDue': WHATEVER THE INPUT: true; the input reads as it did. -/
def fnExactConnDueSpec : ChangeSpec := { name := "fnExactConnDue", fn := fun _ => fun
  | [d1, d2, d3] => { results := [.lit (.bool true)], args := [d1, d2, d3] }
  | _ => none }
def fnExactConnDueRow : OpenClaim := { program := "ytbmfleakldhabaa", sum := "8fa839ca595516eb9d80f600304f56a31f4ea95516a751d8bf9aadb85ff74ba2", func := "loop.example/g00722/laws.FnExactConnDue", spec := "fnExactConnDue", apart := false }
def FnExactConnDueSaid : Prop := fnExactConnDueRow.holds Try.pinned (OpenSpec.ofChange fnExactConnDueSpec)

/-- ITS FALSE NEIGHBOUR: 'it returns false'. Refute it at one input. -/
def fnExactConnDueWrong : ChangeSpec := { name := "fnExactConnDue", fn := fun _ => fun
  | [d1, d2, d3] => { results := [.lit (.bool false)], args := [d1, d2, d3] }
  | _ => none }
def FnExactConnDueWrongFalsely : Prop := fnExactConnDueRow.holds Try.pinned (OpenSpec.ofChange fnExactConnDueWrong)

/-- 'laws.FnExactNextConnDue': WHATEVER THE INPUT: true; the input reads as it did. -/
def fnExactNextConnDueSpec : ChangeSpec := { name := "fnExactNextConnDue", fn := fun _ => fun
  | [d1, d2] => { results := [.lit (.bool true)], args := [d1, d2] }
  | _ => none }
def fnExactNextConnDueRow : OpenClaim := { program := "ytbmfleakldhabaa", sum := "8fa839ca595516eb9d80f600304f56a31f4ea95516a751d8bf9aadb85ff74ba2", func := "loop.example/g00722/laws.FnExactNextConnDue", spec := "fnExactNextConnDue", apart := false }
def FnExactNextConnDueSaid : Prop := fnExactNextConnDueRow.holds Try.pinned (OpenSpec.ofChange fnExactNextConnDueSpec)

/-- ITS FALSE NEIGHBOUR: 'it returns false'. Refute it at one input. -/
def fnExactNextConnDueWrong : ChangeSpec := { name := "fnExactNextConnDue", fn := fun _ => fun
  | [d1, d2] => { results := [.lit (.bool false)], args := [d1, d2] }
  | _ => none }
def FnExactNextConnDueWrongFalsely : Prop := fnExactNextConnDueRow.holds Try.pinned (OpenSpec.ofChange fnExactNextConnDueWrong)

/- THE SECOND FORM. 'bulk': how many values and letters a reading holds, each counted each time it is reached (what is shared counts as often as it is met; a slice's spare places count too). A statement '..UptoSaid' is the law's where the arguments, and the package variables that the reading takes, are together of bulk at most 1048576: NARROWER than '..Said'. Prove '..Said' where nothing that the law and all that it calls make is longer than what came in: it says more and counts as full. Else prove '..UptoSaid'. A law counts once. -/
mutual
def uptoBulk {H : Type} : DataW H → Nat
  | .lit (.string bytes) => bytes.length + 1
  | .lit _ => 1
  | .nil => 1
  | .ptr d => uptoBulk d + 1
  | .slice elems spare => uptoBulkAll elems + uptoBulkAll spare + 1
  | .agg parts => uptoBulkAll parts + 1
  | .iface _ d => uptoBulk d + 1
  | .map entries => uptoBulkEntries entries + 1
  | .held _ => 1
def uptoBulkAll {H : Type} : List (DataW H) → Nat
  | [] => 0
  | d :: r => uptoBulk d + uptoBulkAll r
def uptoBulkEntries {H : Type} : List (Lit × DataW H) → Nat
  | [] => 0
  | x :: r => uptoBulkEntry x + uptoBulkEntries r
def uptoBulkEntry {H : Type} : Lit × DataW H → Nat
  | (.string bytes, d) => bytes.length + uptoBulk d + 1
  | (_, d) => uptoBulk d + 1
 end
def uptoSmall : (H : Type) → List (DataW H) → Bool := fun _ ds => decide (uptoBulkAll ds ≤ 1048576)
def OpenSpec.upto (s : _root_.Go.ChangeSpec) : _root_.Go.OpenSpec := { _root_.Go.OpenSpec.ofChange s with cond := some uptoSmall }

/-- 'laws.FnExactConnOk', WHERE WHAT IT READS IS OF BULK AT MOST 1048576: true; the input reads as it did. -/
def fnExactConnOkUptoRow : OpenClaim := { program := "ytbmfleakldhabaa", sum := "8fa839ca595516eb9d80f600304f56a31f4ea95516a751d8bf9aadb85ff74ba2", func := "loop.example/g00722/laws.FnExactConnOk", spec := "fnExactConnOk", apart := false, narrowed := true }
def FnExactConnOkUptoSaid : Prop := fnExactConnOkUptoRow.holds Try.pinned (OpenSpec.upto fnExactConnOkSpec)

/-- 'laws.FnExactNewConn', WHERE WHAT IT READS IS OF BULK AT MOST 1048576: true; the input reads as it did. -/
def fnExactNewConnUptoRow : OpenClaim := { program := "ytbmfleakldhabaa", sum := "8fa839ca595516eb9d80f600304f56a31f4ea95516a751d8bf9aadb85ff74ba2", func := "loop.example/g00722/laws.FnExactNewConn", spec := "fnExactNewConn", apart := false, narrowed := true }
def FnExactNewConnUptoSaid : Prop := fnExactNewConnUptoRow.holds Try.pinned (OpenSpec.upto fnExactNewConnSpec)

/-- 'laws.FnExactConnDue', WHERE WHAT IT READS IS OF BULK AT MOST 1048576: true; the input reads as it did. -/
def fnExactConnDueUptoRow : OpenClaim := { program := "ytbmfleakldhabaa", sum := "8fa839ca595516eb9d80f600304f56a31f4ea95516a751d8bf9aadb85ff74ba2", func := "loop.example/g00722/laws.FnExactConnDue", spec := "fnExactConnDue", apart := false, narrowed := true }
def FnExactConnDueUptoSaid : Prop := fnExactConnDueUptoRow.holds Try.pinned (OpenSpec.upto fnExactConnDueSpec)

/-- 'laws.FnExactNextConnDue', WHERE WHAT IT READS IS OF BULK AT MOST 1048576: true; the input reads as it did. -/
def fnExactNextConnDueUptoRow : OpenClaim := { program := "ytbmfleakldhabaa", sum := "8fa839ca595516eb9d80f600304f56a31f4ea95516a751d8bf9aadb85ff74ba2", func := "loop.example/g00722/laws.FnExactNextConnDue", spec := "fnExactNextConnDue", apart := false, narrowed := true }
def FnExactNextConnDueUptoSaid : Prop := fnExactNextConnDueUptoRow.holds Try.pinned (OpenSpec.upto fnExactNextConnDueSpec)

end Rows
end Go.Proofs.Ytbmfleakldhabaa
