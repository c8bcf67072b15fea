/-
  No cell of these rows narrows 'for every input' (looked for: loops, veiled, ifaces, maps, wideKeys, modest, calm, conditions, laid).
  DERIVED. THE GIVEN ROWS OF THIS SEAT. 4 by the template 'for every input the law returns true; each argument reads behind the call as it read before'; 0 by the template 'total and deterministic' (their statements: YtcgmeindiaaokaaTotals.lean).
  GIVEN WITH THE SEED: the statements are not yours to turn. If you find one false, say at which input.
  Laid BY PROGRAM, IN A SANDBOX (cutbox-rows.mjs): the forced cells as the released guide's own fill.sh prints them over the translation 99c6bec356b12172… (all of the seat's roots in one cut). By AI agents, Wed Nov 11 2026. No macro, syntax, notation, axiom, sorry.
-/
import Derived.Test.YtcgmeindiaaokaaChecked
import GoSem.Claim
import GoSem.ClaimJoined
import GoSem.ClaimMapViews
import Derived.JoinedTies
import Derived.KernelRfl
namespace Go.Proofs.Ytcgmeindiaaokaa
/- THE CELL 'sum', in the pinned program and in every row, IS THE sha256 OF THE DUMP (.gsa) THAT YtcgmeindiaaokaaProg.lean LOADS. Nothing in Lean hashes anything: it is a label: what it is worth is what the hold of that sum in a sandbox is worth. -/
noncomputable def Try.pinned : Pinned := { name := "ytcgmeindiaaokaa", sum := "99c6bec356b12172d4188883e44e046fb06bb2451caaf908973d1d53bcf3a444", checked := Try.checked }
namespace Rows
def none {H : Type} : Left H := { results := [], args := [] }

/-- 'laws.FnExactPutNumber': WHATEVER THE INPUT: true; the input reads as it did. -/
def fnExactPutNumberSpec : ChangeSpec := { name := "fnExactPutNumber", fn := fun _ => fun
  | [d] => { results := [.lit (.bool true)], args := [d] }
  | _ => none }
def fnExactPutNumberRow : OpenClaim := { program := "ytcgmeindiaaokaa", sum := "99c6bec356b12172d4188883e44e046fb06bb2451caaf908973d1d53bcf3a444", func := "loop.example/g00722/laws.FnExactPutNumber", spec := "fnExactPutNumber", apart := false }
def FnExactPutNumberSaid : Prop := fnExactPutNumberRow.holds Try.pinned (OpenSpec.ofChange fnExactPutNumberSpec)

/-- ITS FALSE NEIGHBOUR: 'it returns false'. Refute it at one input. -/
def fnExactPutNumberWrong : ChangeSpec := { name := "fnExactPutNumber", fn := fun _ => fun
  | [d] => { results := [.lit (.bool false)], args := [d] }
  | _ => none }
def FnExactPutNumberWrongFalsely : Prop := fnExactPutNumberRow.holds Try.pinned (OpenSpec.ofChange fnExactPutNumberWrong)

/-- 'laws.FnExactPutEvent': WHATEVER THE INPUT: true; the input reads as it did. -/
def fnExactPutEventSpec : ChangeSpec := { name := "fnExactPutEvent", fn := fun _ => fun
  | [d] => { results := [.lit (.bool true)], args := [d] }
  | _ => none }
def fnExactPutEventRow : OpenClaim := { program := "ytcgmeindiaaokaa", sum := "99c6bec356b12172d4188883e44e046fb06bb2451caaf908973d1d53bcf3a444", func := "loop.example/g00722/laws.FnExactPutEvent", spec := "fnExactPutEvent", apart := false }
def FnExactPutEventSaid : Prop := fnExactPutEventRow.holds Try.pinned (OpenSpec.ofChange fnExactPutEventSpec)

/-- ITS FALSE NEIGHBOUR: 'it returns false'. Refute it at one input. -/
def fnExactPutEventWrong : ChangeSpec := { name := "fnExactPutEvent", fn := fun _ => fun
  | [d] => { results := [.lit (.bool false)], args := [d] }
  | _ => none }
def FnExactPutEventWrongFalsely : Prop := fnExactPutEventRow.holds Try.pinned (OpenSpec.ofChange fnExactPutEventWrong)

/-- 'laws.FnExactPutLog': WHATEVER THE INPUT: true; the input reads as it did. -/
def fnExactPutLogSpec : ChangeSpec := { name := "fnExactPutLog", fn := fun _ => fun
  | [d] => { results := [.lit (.bool true)], args := [d] }
  | _ => none }
def fnExactPutLogRow : OpenClaim := { program := "ytcgmeindiaaokaa", sum := "99c6bec356b12172d4188883e44e046fb06bb2451caaf908973d1d53bcf3a444", func := "loop.example/g00722/laws.FnExactPutLog", spec := "fnExactPutLog", apart := false }
def FnExactPutLogSaid : Prop := fnExactPutLogRow.holds Try.pinned (OpenSpec.ofChange fnExactPutLogSpec)

/-- ITS FALSE NEIGHBOUR: 'it returns false'. Refute it at one input. -/
def fnExactPutLogWrong : ChangeSpec := { name := "fnExactPutLog", fn := fun _ => fun
  | [d] => { results := [.lit (.bool false)], args := [d] }
  | _ => none }
def FnExactPutLogWrongFalsely : Prop := fnExactPutLogRow.holds Try.pinned (OpenSpec.ofChange fnExactPutLogWrong)

/-- 'laws.FnExactLogSum': WHATEVER THE INPUT: true; the input reads as it did. -/
def fnExactLogSumSpec : ChangeSpec := { name := "fnExactLogSum", fn := fun _ => fun
  | [d] => { results := [.lit (.bool true)], args := [d] }
  | _ => none }
def fnExactLogSumRow : OpenClaim := { program := "ytcgmeindiaaokaa", sum := "99c6bec356b12172d4188883e44e046fb06bb2451caaf908973d1d53bcf3a444", func := "loop.example/g00722/laws.FnExactLogSum", spec := "fnExactLogSum", apart := false }
def FnExactLogSumSaid : Prop := fnExactLogSumRow.holds Try.pinned (OpenSpec.ofChange fnExactLogSumSpec)

/-- ITS FALSE NEIGHBOUR: 'it returns false'. Refute it at one input. -/
def fnExactLogSumWrong : ChangeSpec := { name := "fnExactLogSum", fn := fun _ => fun
  | [d] => { results := [.lit (.bool false)], args := [d] }
  | _ => none }
def FnExactLogSumWrongFalsely : Prop := fnExactLogSumRow.holds Try.pinned (OpenSpec.ofChange fnExactLogSumWrong)

/- THE SECOND FORM. 'bulk': how many values and letters a reading holds, each counted each time it is reached (what is shared counts as often as it is met; a slice's spare places count too). A statement '..UptoSaid' is the law's where the arguments, and the package variables that the reading takes, are together of bulk at most 1048576: NARROWER than '..Said'. Prove '..Said' where nothing that the law and all that it calls make is longer than what came in: it says more and counts as full. Else prove '..UptoSaid'. A law counts once. -/
mutual
def uptoBulk {H : Type} : DataW H → Nat
  | .lit (.string bytes) => bytes.length + 1
  | .lit _ => 1
  | .nil => 1
  | .ptr d => uptoBulk d + 1
  | .slice elems spare => uptoBulkAll elems + uptoBulkAll spare + 1
  | .agg parts => uptoBulkAll parts + 1
  | .iface _ d => uptoBulk d + 1
  | .map entries => uptoBulkEntries entries + 1
  | .held _ => 1
def uptoBulkAll {H : Type} : List (DataW H) → Nat
  | [] => 0
  | d :: r => uptoBulk d + uptoBulkAll r
def uptoBulkEntries {H : Type} : List (Lit × DataW H) → Nat
  | [] => 0
  | x :: r => uptoBulkEntry x + uptoBulkEntries r
def uptoBulkEntry {H : Type} : Lit × DataW H → Nat
  | (.string bytes, d) => bytes.length + uptoBulk d + 1
  | (_, d) => uptoBulk d + 1
 end
def uptoSmall : (H : Type) → List (DataW H) → Bool := fun _ ds => decide (uptoBulkAll ds ≤ 1048576)
def OpenSpec.upto (s : _root_.Go.ChangeSpec) : _root_.Go.OpenSpec := { _root_.Go.OpenSpec.ofChange s with cond := some uptoSmall }

/-- 'laws.FnExactPutNumber', WHERE WHAT IT READS IS OF BULK AT MOST 1048576: true; the input reads as it did. -/
def fnExactPutNumberUptoRow : OpenClaim := { program := "ytcgmeindiaaokaa", sum := "99c6bec356b12172d4188883e44e046fb06bb2451caaf908973d1d53bcf3a444", func := "loop.example/g00722/laws.FnExactPutNumber", spec := "fnExactPutNumber", apart := false, narrowed := true }
def FnExactPutNumberUptoSaid : Prop := fnExactPutNumberUptoRow.holds Try.pinned (OpenSpec.upto fnExactPutNumberSpec)

/-- 'laws.FnExactPutEvent', WHERE WHAT IT READS IS OF BULK AT MOST 1048576: true; the input reads as it did. -/
def fnExactPutEventUptoRow : OpenClaim := { program := "ytcgmeindiaaokaa", sum := "99c6bec356b12172d4188883e44e046fb06bb2451caaf908973d1d53bcf3a444", func := "loop.example/g00722/laws.FnExactPutEvent", spec := "fnExactPutEvent", apart := false, narrowed := true }
def FnExactPutEventUptoSaid : Prop := fnExactPutEventUptoRow.holds Try.pinned (OpenSpec.upto fnExactPutEventSpec)

/-- 'laws.FnExactPutLog', WHERE WHAT IT READS IS OF BULK AT MOST 1048576: true; the input reads as it did. -/
def fnExactPutLogUptoRow : OpenClaim := { program := "ytcgmeindiaaokaa", sum := "99c6bec356b12172d4188883e44e046fb06bb2451caaf908973d1d53bcf3a444", func := "loop.example/g00722/laws.FnExactPutLog", spec := "fnExactPutLog", apart := false, narrowed := true }
def FnExactPutLogUptoSaid : Prop := fnExactPutLogUptoRow.holds Try.pinned (OpenSpec.upto fnExactPutLogSpec)

/-- 'laws.FnExactLogSum', WHERE WHAT IT READS IS OF BULK AT MOST 1048576: true; the input reads as it did. -/
def fnExactLogSumUptoRow : OpenClaim := { program := "ytcgmeindiaaokaa", sum := "99c6bec356b12172d4188883e44e046fb06bb2451caaf908973d1d53bcf3a444", func := "loop.example/g00722/laws.FnExactLogSum", spec := "fnExactLogSum", apart := false, narrowed := true }
def FnExactLogSumUptoSaid : Prop := fnExactLogSumUptoRow.holds Try.pinned (OpenSpec.upto fnExactLogSumSpec)

end Rows
end Go.Proofs.Ytcgmeindiaaokaa
