/-
  No cell of these rows narrows 'for every input' (looked for: loops, veiled, ifaces, maps, wideKeys, modest, calm, conditions, laid).
  DERIVED. THE GIVEN ROWS OF THIS SEAT. 5 by the template 'for every input the law returns true; each argument reads behind the call as it read before'; 0 by the template 'total and deterministic' (their statements: YtehdbdolhkflcaaTotals.lean).
  GIVEN WITH THE SEED: the statements are not yours to turn. If you find one false, say at which input.
  Laid BY PROGRAM, IN A SANDBOX (cutbox-rows.mjs): the forced cells as the released guide's own fill.sh prints them over the translation 2e00db7356bb385c… (all of the seat's roots in one cut). By AI agents, Wed Nov 11 2026. No macro, syntax, notation, axiom, sorry.
-/
import Derived.Test.YtehdbdolhkflcaaChecked
import GoSem.Claim
import GoSem.ClaimJoined
import GoSem.ClaimMapViews
import Derived.JoinedTies
import Derived.KernelRfl
namespace Go.Proofs.Ytehdbdolhkflcaa
/- THE CELL 'sum', in the pinned program and in every row, IS THE sha256 OF THE DUMP (.gsa) THAT YtehdbdolhkflcaaProg.lean LOADS. Nothing in Lean hashes anything: it is a label: what it is worth is what the hold of that sum in a sandbox is worth. -/
noncomputable def Try.pinned : Pinned := { name := "ytehdbdolhkflcaa", sum := "2e00db7356bb385c1b45b984971edfa065a159b480a9d752f82cf566d62036ea", checked := Try.checked }
namespace Rows
def none {H : Type} : Left H := { results := [], args := [] }

/-- 'laws.FnExactPoolNew': WHATEVER THE INPUT: true; the input reads as it did. -/
def fnExactPoolNewSpec : ChangeSpec := { name := "fnExactPoolNew", fn := fun _ => fun
  | [d] => { results := [.lit (.bool true)], args := [d] }
  | _ => none }
def fnExactPoolNewRow : OpenClaim := { program := "ytehdbdolhkflcaa", sum := "2e00db7356bb385c1b45b984971edfa065a159b480a9d752f82cf566d62036ea", func := "loop.example/g00722/laws.FnExactPoolNew", spec := "fnExactPoolNew", apart := false }
def FnExactPoolNewSaid : Prop := fnExactPoolNewRow.holds Try.pinned (OpenSpec.ofChange fnExactPoolNewSpec)

/-- ITS FALSE NEIGHBOUR: 'it returns false'. Refute it at one input. -/
def fnExactPoolNewWrong : ChangeSpec := { name := "fnExactPoolNew", fn := fun _ => fun
  | [d] => { results := [.lit (.bool false)], args := [d] }
  | _ => none }
def FnExactPoolNewWrongFalsely : Prop := fnExactPoolNewRow.holds Try.pinned (OpenSpec.ofChange fnExactPoolNewWrong)

/-- 'laws.FnExactCountState': WHATEVER THE INPUT: true; the input reads as it did. -/
def fnExactCountStateSpec : ChangeSpec := { name := "fnExactCountState", fn := fun _ => fun
  | [d1, d2] => { results := [.lit (.bool true)], args := [d1, d2] }
  | _ => none }
def fnExactCountStateRow : OpenClaim := { program := "ytehdbdolhkflcaa", sum := "2e00db7356bb385c1b45b984971edfa065a159b480a9d752f82cf566d62036ea", func := "loop.example/g00722/laws.FnExactCountState", spec := "fnExactCountState", apart := false }
def FnExactCountStateSaid : Prop := fnExactCountStateRow.holds Try.pinned (OpenSpec.ofChange fnExactCountStateSpec)

/-- ITS FALSE NEIGHBOUR: 'it returns false'. Refute it at one input. -/
def fnExactCountStateWrong : ChangeSpec := { name := "fnExactCountState", fn := fun _ => fun
  | [d1, d2] => { results := [.lit (.bool false)], args := [d1, d2] }
  | _ => none }
def FnExactCountStateWrongFalsely : Prop := fnExactCountStateRow.holds Try.pinned (OpenSpec.ofChange fnExactCountStateWrong)

/-- 'laws.FnExactWanted': WHATEVER THE INPUT: true; the input reads as it did. -/
def fnExactWantedSpec : ChangeSpec := { name := "fnExactWanted", fn := fun _ => fun
  | [d] => { results := [.lit (.bool true)], args := [d] }
  | _ => none }
def fnExactWantedRow : OpenClaim := { program := "ytehdbdolhkflcaa", sum := "2e00db7356bb385c1b45b984971edfa065a159b480a9d752f82cf566d62036ea", func := "loop.example/g00722/laws.FnExactWanted", spec := "fnExactWanted", unfollowed := true, recurses := true, apart := false }
def FnExactWantedSaid : Prop := fnExactWantedRow.holds Try.pinned (OpenSpec.ofChange fnExactWantedSpec)

/-- ITS FALSE NEIGHBOUR: 'it returns false'. Refute it at one input. -/
def fnExactWantedWrong : ChangeSpec := { name := "fnExactWanted", fn := fun _ => fun
  | [d] => { results := [.lit (.bool false)], args := [d] }
  | _ => none }
def FnExactWantedWrongFalsely : Prop := fnExactWantedRow.holds Try.pinned (OpenSpec.ofChange fnExactWantedWrong)

/-- 'laws.FnExactPoolNext': WHATEVER THE INPUT: true; the input reads as it did. -/
def fnExactPoolNextSpec : ChangeSpec := { name := "fnExactPoolNext", fn := fun _ => fun
  | [d] => { results := [.lit (.bool true)], args := [d] }
  | _ => none }
def fnExactPoolNextRow : OpenClaim := { program := "ytehdbdolhkflcaa", sum := "2e00db7356bb385c1b45b984971edfa065a159b480a9d752f82cf566d62036ea", func := "loop.example/g00722/laws.FnExactPoolNext", spec := "fnExactPoolNext", unfollowed := true, recurses := true, apart := false }
def FnExactPoolNextSaid : Prop := fnExactPoolNextRow.holds Try.pinned (OpenSpec.ofChange fnExactPoolNextSpec)

/-- ITS FALSE NEIGHBOUR: 'it returns false'. Refute it at one input. -/
def fnExactPoolNextWrong : ChangeSpec := { name := "fnExactPoolNext", fn := fun _ => fun
  | [d] => { results := [.lit (.bool false)], args := [d] }
  | _ => none }
def FnExactPoolNextWrongFalsely : Prop := fnExactPoolNextRow.holds Try.pinned (OpenSpec.ofChange fnExactPoolNextWrong)

/-- 'laws.FnExactPoolSafe': WHATEVER THE INPUT: true; the input reads as it did. -/
def fnExactPoolSafeSpec : ChangeSpec := { name := "fnExactPoolSafe", fn := fun _ => fun
  | [d] => { results := [.lit (.bool true)], args := [d] }
  | _ => none }
def fnExactPoolSafeRow : OpenClaim := { program := "ytehdbdolhkflcaa", sum := "2e00db7356bb385c1b45b984971edfa065a159b480a9d752f82cf566d62036ea", func := "loop.example/g00722/laws.FnExactPoolSafe", spec := "fnExactPoolSafe", unfollowed := true, recurses := true, apart := false }
def FnExactPoolSafeSaid : Prop := fnExactPoolSafeRow.holds Try.pinned (OpenSpec.ofChange fnExactPoolSafeSpec)

/-- ITS FALSE NEIGHBOUR: 'it returns false'. Refute it at one input. -/
def fnExactPoolSafeWrong : ChangeSpec := { name := "fnExactPoolSafe", fn := fun _ => fun
  | [d] => { results := [.lit (.bool false)], args := [d] }
  | _ => none }
def FnExactPoolSafeWrongFalsely : Prop := fnExactPoolSafeRow.holds Try.pinned (OpenSpec.ofChange fnExactPoolSafeWrong)

/- THE SECOND FORM. 'bulk': how many values and letters a reading holds, each counted each time it is reached (what is shared counts as often as it is met; a slice's spare places count too). A statement '..UptoSaid' is the law's where the arguments, and the package variables that the reading takes, are together of bulk at most 1048576: NARROWER than '..Said'. Prove '..Said' where nothing that the law and all that it calls make is longer than what came in: it says more and counts as full. Else prove '..UptoSaid'. A law counts once. -/
mutual
def uptoBulk {H : Type} : DataW H → Nat
  | .lit (.string bytes) => bytes.length + 1
  | .lit _ => 1
  | .nil => 1
  | .ptr d => uptoBulk d + 1
  | .slice elems spare => uptoBulkAll elems + uptoBulkAll spare + 1
  | .agg parts => uptoBulkAll parts + 1
  | .iface _ d => uptoBulk d + 1
  | .map entries => uptoBulkEntries entries + 1
  | .held _ => 1
def uptoBulkAll {H : Type} : List (DataW H) → Nat
  | [] => 0
  | d :: r => uptoBulk d + uptoBulkAll r
def uptoBulkEntries {H : Type} : List (Lit × DataW H) → Nat
  | [] => 0
  | x :: r => uptoBulkEntry x + uptoBulkEntries r
def uptoBulkEntry {H : Type} : Lit × DataW H → Nat
  | (.string bytes, d) => bytes.length + uptoBulk d + 1
  | (_, d) => uptoBulk d + 1
 end
def uptoSmall : (H : Type) → List (DataW H) → Bool := fun _ ds => decide (uptoBulkAll ds ≤ 1048576)
def OpenSpec.upto (s : _root_.Go.ChangeSpec) : _root_.Go.OpenSpec := { _root_.Go.OpenSpec.ofChange s with cond := some uptoSmall }

/-- 'laws.FnExactPoolNew', WHERE WHAT IT READS IS OF BULK AT MOST 1048576: true; the input reads as it did. -/
def fnExactPoolNewUptoRow : OpenClaim := { program := "ytehdbdolhkflcaa", sum := "2e00db7356bb385c1b45b984971edfa065a159b480a9d752f82cf566d62036ea", func := "loop.example/g00722/laws.FnExactPoolNew", spec := "fnExactPoolNew", apart := false, narrowed := true }
def FnExactPoolNewUptoSaid : Prop := fnExactPoolNewUptoRow.holds Try.pinned (OpenSpec.upto fnExactPoolNewSpec)

/-- 'laws.FnExactCountState', WHERE WHAT IT READS IS OF BULK AT MOST 1048576: true; the input reads as it did. -/
def fnExactCountStateUptoRow : OpenClaim := { program := "ytehdbdolhkflcaa", sum := "2e00db7356bb385c1b45b984971edfa065a159b480a9d752f82cf566d62036ea", func := "loop.example/g00722/laws.FnExactCountState", spec := "fnExactCountState", apart := false, narrowed := true }
def FnExactCountStateUptoSaid : Prop := fnExactCountStateUptoRow.holds Try.pinned (OpenSpec.upto fnExactCountStateSpec)

/-- 'laws.FnExactWanted', WHERE WHAT IT READS IS OF BULK AT MOST 1048576: true; the input reads as it did. -/
def fnExactWantedUptoRow : OpenClaim := { program := "ytehdbdolhkflcaa", sum := "2e00db7356bb385c1b45b984971edfa065a159b480a9d752f82cf566d62036ea", func := "loop.example/g00722/laws.FnExactWanted", spec := "fnExactWanted", unfollowed := true, recurses := true, apart := false, narrowed := true }
def FnExactWantedUptoSaid : Prop := fnExactWantedUptoRow.holds Try.pinned (OpenSpec.upto fnExactWantedSpec)

/-- 'laws.FnExactPoolNext', WHERE WHAT IT READS IS OF BULK AT MOST 1048576: true; the input reads as it did. -/
def fnExactPoolNextUptoRow : OpenClaim := { program := "ytehdbdolhkflcaa", sum := "2e00db7356bb385c1b45b984971edfa065a159b480a9d752f82cf566d62036ea", func := "loop.example/g00722/laws.FnExactPoolNext", spec := "fnExactPoolNext", unfollowed := true, recurses := true, apart := false, narrowed := true }
def FnExactPoolNextUptoSaid : Prop := fnExactPoolNextUptoRow.holds Try.pinned (OpenSpec.upto fnExactPoolNextSpec)

/-- 'laws.FnExactPoolSafe', WHERE WHAT IT READS IS OF BULK AT MOST 1048576: true; the input reads as it did. -/
def fnExactPoolSafeUptoRow : OpenClaim := { program := "ytehdbdolhkflcaa", sum := "2e00db7356bb385c1b45b984971edfa065a159b480a9d752f82cf566d62036ea", func := "loop.example/g00722/laws.FnExactPoolSafe", spec := "fnExactPoolSafe", unfollowed := true, recurses := true, apart := false, narrowed := true }
def FnExactPoolSafeUptoSaid : Prop := fnExactPoolSafeUptoRow.holds Try.pinned (OpenSpec.upto fnExactPoolSafeSpec)

end Rows
end Go.Proofs.Ytehdbdolhkflcaa
