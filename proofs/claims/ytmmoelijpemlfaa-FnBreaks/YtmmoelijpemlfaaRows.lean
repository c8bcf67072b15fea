/-
  No cell of these rows narrows 'for every input' (looked for: loops, veiled, ifaces, maps, wideKeys, modest, calm, conditions, laid).
  DERIVED. THE GIVEN ROWS OF THIS SEAT. 8 by the template 'for every input the law returns true; each argument reads behind the call as it read before'; 0 by the template 'total and deterministic' (their statements: YtmmoelijpemlfaaTotals.lean).
  GIVEN WITH THE SEED: the statements are not yours to turn. If you find one false, say at which input.
  Laid BY PROGRAM, IN A SANDBOX (cutbox-rows.mjs): the forced cells as the released guide's own fill.sh prints them over the translation 740d5db26363237f… (all of the seat's roots in one cut). By AI agents, Wed Nov 11 2026. No macro, syntax, notation, axiom, sorry.
-/
import Derived.Test.YtmmoelijpemlfaaChecked
import GoSem.Claim
import GoSem.ClaimJoined
import GoSem.ClaimMapViews
import Derived.JoinedTies
import Derived.KernelRfl
namespace Go.Proofs.Ytmmoelijpemlfaa
/- THE CELL 'sum', in the pinned program and in every row, IS THE sha256 OF THE DUMP (.gsa) THAT YtmmoelijpemlfaaProg.lean LOADS. Nothing in Lean hashes anything: it is a label: what it is worth is what the hold of that sum in a sandbox is worth. -/
noncomputable def Try.pinned : Pinned := { name := "ytmmoelijpemlfaa", sum := "740d5db26363237fefa4d7924413377c8b3124d0946ad35eb9b19ebaee49706a", checked := Try.checked }
namespace Rows
def none {H : Type} : Left H := { results := [], args := [] }

/-- 'laws.FnBreaks': WHATEVER THE INPUT: true; the input reads as it did. -/
def fnBreaksSpec : ChangeSpec := { name := "fnBreaks", fn := fun _ => fun
  | [d] => { results := [.lit (.bool true)], args := [d] }
  | _ => none }
def fnBreaksRow : OpenClaim := { program := "ytmmoelijpemlfaa", sum := "740d5db26363237fefa4d7924413377c8b3124d0946ad35eb9b19ebaee49706a", func := "loop.example/g00722/laws.FnBreaks", spec := "fnBreaks", unfollowed := true, recurses := true, apart := false }
def FnBreaksSaid : Prop := fnBreaksRow.holds Try.pinned (OpenSpec.ofChange fnBreaksSpec)

/-- ITS FALSE NEIGHBOUR: 'it returns false'. Refute it at one input. -/
def fnBreaksWrong : ChangeSpec := { name := "fnBreaks", fn := fun _ => fun
  | [d] => { results := [.lit (.bool false)], args := [d] }
  | _ => none }
def FnBreaksWrongFalsely : Prop := fnBreaksRow.holds Try.pinned (OpenSpec.ofChange fnBreaksWrong)

/-- 'laws.FnExactBreakerOk': WHATEVER THE INPUT: true; the input reads as it did. -/
def fnExactBreakerOkSpec : ChangeSpec := { name := "fnExactBreakerOk", fn := fun _ => fun
  | [d] => { results := [.lit (.bool true)], args := [d] }
  | _ => none }
def fnExactBreakerOkRow : OpenClaim := { program := "ytmmoelijpemlfaa", sum := "740d5db26363237fefa4d7924413377c8b3124d0946ad35eb9b19ebaee49706a", func := "loop.example/g00722/laws.FnExactBreakerOk", spec := "fnExactBreakerOk", apart := false }
def FnExactBreakerOkSaid : Prop := fnExactBreakerOkRow.holds Try.pinned (OpenSpec.ofChange fnExactBreakerOkSpec)

/-- ITS FALSE NEIGHBOUR: 'it returns false'. Refute it at one input. -/
def fnExactBreakerOkWrong : ChangeSpec := { name := "fnExactBreakerOk", fn := fun _ => fun
  | [d] => { results := [.lit (.bool false)], args := [d] }
  | _ => none }
def FnExactBreakerOkWrongFalsely : Prop := fnExactBreakerOkRow.holds Try.pinned (OpenSpec.ofChange fnExactBreakerOkWrong)

/-- 'laws.FnExactMayDial': WHATEVER THE INPUT: true; the input reads as it did. -/
def fnExactMayDialSpec : ChangeSpec := { name := "fnExactMayDial", fn := fun _ => fun
  | [d1, d2] => { results := [.lit (.bool true)], args := [d1, d2] }
  | _ => none }
def fnExactMayDialRow : OpenClaim := { program := "ytmmoelijpemlfaa", sum := "740d5db26363237fefa4d7924413377c8b3124d0946ad35eb9b19ebaee49706a", func := "loop.example/g00722/laws.FnExactMayDial", spec := "fnExactMayDial", apart := false }
def FnExactMayDialSaid : Prop := fnExactMayDialRow.holds Try.pinned (OpenSpec.ofChange fnExactMayDialSpec)

/-- ITS FALSE NEIGHBOUR: 'it returns false'. Refute it at one input. -/
def fnExactMayDialWrong : ChangeSpec := { name := "fnExactMayDial", fn := fun _ => fun
  | [d1, d2] => { results := [.lit (.bool false)], args := [d1, d2] }
  | _ => none }
def FnExactMayDialWrongFalsely : Prop := fnExactMayDialRow.holds Try.pinned (OpenSpec.ofChange fnExactMayDialWrong)

/-- 'laws.FnExactOnDial': WHATEVER THE INPUT: true; the input reads as it did. -/
def fnExactOnDialSpec : ChangeSpec := { name := "fnExactOnDial", fn := fun _ => fun
  | [d1, d2] => { results := [.lit (.bool true)], args := [d1, d2] }
  | _ => none }
def fnExactOnDialRow : OpenClaim := { program := "ytmmoelijpemlfaa", sum := "740d5db26363237fefa4d7924413377c8b3124d0946ad35eb9b19ebaee49706a", func := "loop.example/g00722/laws.FnExactOnDial", spec := "fnExactOnDial", unfollowed := true, recurses := true, apart := false }
def FnExactOnDialSaid : Prop := fnExactOnDialRow.holds Try.pinned (OpenSpec.ofChange fnExactOnDialSpec)

/-- ITS FALSE NEIGHBOUR: 'it returns false'. Refute it at one input. -/
def fnExactOnDialWrong : ChangeSpec := { name := "fnExactOnDial", fn := fun _ => fun
  | [d1, d2] => { results := [.lit (.bool false)], args := [d1, d2] }
  | _ => none }
def FnExactOnDialWrongFalsely : Prop := fnExactOnDialRow.holds Try.pinned (OpenSpec.ofChange fnExactOnDialWrong)

/-- 'laws.FnExactOnFailure': WHATEVER THE INPUT: true; the input reads as it did. -/
def fnExactOnFailureSpec : ChangeSpec := { name := "fnExactOnFailure", fn := fun _ => fun
  | [d1, d2, d3] => { results := [.lit (.bool true)], args := [d1, d2, d3] }
  | _ => none }
def fnExactOnFailureRow : OpenClaim := { program := "ytmmoelijpemlfaa", sum := "740d5db26363237fefa4d7924413377c8b3124d0946ad35eb9b19ebaee49706a", func := "loop.example/g00722/laws.FnExactOnFailure", spec := "fnExactOnFailure", unfollowed := true, recurses := true, apart := false }
def FnExactOnFailureSaid : Prop := fnExactOnFailureRow.holds Try.pinned (OpenSpec.ofChange fnExactOnFailureSpec)

/-- ITS FALSE NEIGHBOUR: 'it returns false'. Refute it at one input. -/
def fnExactOnFailureWrong : ChangeSpec := { name := "fnExactOnFailure", fn := fun _ => fun
  | [d1, d2, d3] => { results := [.lit (.bool false)], args := [d1, d2, d3] }
  | _ => none }
def FnExactOnFailureWrongFalsely : Prop := fnExactOnFailureRow.holds Try.pinned (OpenSpec.ofChange fnExactOnFailureWrong)

/-- 'laws.FnExactOnSuccess': WHATEVER THE INPUT: true; the input reads as it did. -/
def fnExactOnSuccessSpec : ChangeSpec := { name := "fnExactOnSuccess", fn := fun _ => fun
  | [d] => { results := [.lit (.bool true)], args := [d] }
  | _ => none }
def fnExactOnSuccessRow : OpenClaim := { program := "ytmmoelijpemlfaa", sum := "740d5db26363237fefa4d7924413377c8b3124d0946ad35eb9b19ebaee49706a", func := "loop.example/g00722/laws.FnExactOnSuccess", spec := "fnExactOnSuccess", unfollowed := true, recurses := true, apart := false }
def FnExactOnSuccessSaid : Prop := fnExactOnSuccessRow.holds Try.pinned (OpenSpec.ofChange fnExactOnSuccessSpec)

/-- ITS FALSE NEIGHBOUR: 'it returns false'. Refute it at one input. -/
def fnExactOnSuccessWrong : ChangeSpec := { name := "fnExactOnSuccess", fn := fun _ => fun
  | [d] => { results := [.lit (.bool false)], args := [d] }
  | _ => none }
def FnExactOnSuccessWrongFalsely : Prop := fnExactOnSuccessRow.holds Try.pinned (OpenSpec.ofChange fnExactOnSuccessWrong)

/-- 'laws.FnExactPlayBreaker': WHATEVER THE INPUT: true; the input reads as it did. -/
def fnExactPlayBreakerSpec : ChangeSpec := { name := "fnExactPlayBreaker", fn := fun _ => fun
  | [d1, d2] => { results := [.lit (.bool true)], args := [d1, d2] }
  | _ => none }
def fnExactPlayBreakerRow : OpenClaim := { program := "ytmmoelijpemlfaa", sum := "740d5db26363237fefa4d7924413377c8b3124d0946ad35eb9b19ebaee49706a", func := "loop.example/g00722/laws.FnExactPlayBreaker", spec := "fnExactPlayBreaker", unfollowed := true, recurses := true, apart := false }
def FnExactPlayBreakerSaid : Prop := fnExactPlayBreakerRow.holds Try.pinned (OpenSpec.ofChange fnExactPlayBreakerSpec)

/-- ITS FALSE NEIGHBOUR: 'it returns false'. Refute it at one input. -/
def fnExactPlayBreakerWrong : ChangeSpec := { name := "fnExactPlayBreaker", fn := fun _ => fun
  | [d1, d2] => { results := [.lit (.bool false)], args := [d1, d2] }
  | _ => none }
def FnExactPlayBreakerWrongFalsely : Prop := fnExactPlayBreakerRow.holds Try.pinned (OpenSpec.ofChange fnExactPlayBreakerWrong)

/-- 'laws.FnExactOpenSpans': WHATEVER THE INPUT: true; the input reads as it did. -/
def fnExactOpenSpansSpec : ChangeSpec := { name := "fnExactOpenSpans", fn := fun _ => fun
  | [d1, d2] => { results := [.lit (.bool true)], args := [d1, d2] }
  | _ => none }
def fnExactOpenSpansRow : OpenClaim := { program := "ytmmoelijpemlfaa", sum := "740d5db26363237fefa4d7924413377c8b3124d0946ad35eb9b19ebaee49706a", func := "loop.example/g00722/laws.FnExactOpenSpans", spec := "fnExactOpenSpans", unfollowed := true, recurses := true, apart := false }
def FnExactOpenSpansSaid : Prop := fnExactOpenSpansRow.holds Try.pinned (OpenSpec.ofChange fnExactOpenSpansSpec)

/-- ITS FALSE NEIGHBOUR: 'it returns false'. Refute it at one input. -/
def fnExactOpenSpansWrong : ChangeSpec := { name := "fnExactOpenSpans", fn := fun _ => fun
  | [d1, d2] => { results := [.lit (.bool false)], args := [d1, d2] }
  | _ => none }
def FnExactOpenSpansWrongFalsely : Prop := fnExactOpenSpansRow.holds Try.pinned (OpenSpec.ofChange fnExactOpenSpansWrong)

/- THE SECOND FORM. 'bulk': how many values and letters a reading holds, each counted each time it is reached (what is shared counts as often as it is met; a slice's spare places count too). A statement '..UptoSaid' is the law's where the arguments, and the package variables that the reading takes, are together of bulk at most 1048576: NARROWER than '..Said'. Prove '..Said' where nothing that the law and all that it calls make is longer than what came in: it says more and counts as full. Else prove '..UptoSaid'. A law counts once. -/
mutual
def uptoBulk {H : Type} : DataW H → Nat
  | .lit (.string bytes) => bytes.length + 1
  | .lit _ => 1
  | .nil => 1
  | .ptr d => uptoBulk d + 1
  | .slice elems spare => uptoBulkAll elems + uptoBulkAll spare + 1
  | .agg parts => uptoBulkAll parts + 1
  | .iface _ d => uptoBulk d + 1
  | .map entries => uptoBulkEntries entries + 1
  | .held _ => 1
def uptoBulkAll {H : Type} : List (DataW H) → Nat
  | [] => 0
  | d :: r => uptoBulk d + uptoBulkAll r
def uptoBulkEntries {H : Type} : List (Lit × DataW H) → Nat
  | [] => 0
  | x :: r => uptoBulkEntry x + uptoBulkEntries r
def uptoBulkEntry {H : Type} : Lit × DataW H → Nat
  | (.string bytes, d) => bytes.length + uptoBulk d + 1
  | (_, d) => uptoBulk d + 1
 end
def uptoSmall : (H : Type) → List (DataW H) → Bool := fun _ ds => decide (uptoBulkAll ds ≤ 1048576)
def OpenSpec.upto (s : _root_.Go.ChangeSpec) : _root_.Go.OpenSpec := { _root_.Go.OpenSpec.ofChange s with cond := some uptoSmall }

/-- 'laws.FnBreaks', WHERE WHAT IT READS IS OF BULK AT MOST 1048576: true; the input reads as it did. -/
def fnBreaksUptoRow : OpenClaim := { program := "ytmmoelijpemlfaa", sum := "740d5db26363237fefa4d7924413377c8b3124d0946ad35eb9b19ebaee49706a", func := "loop.example/g00722/laws.FnBreaks", spec := "fnBreaks", unfollowed := true, recurses := true, apart := false, narrowed := true }
def FnBreaksUptoSaid : Prop := fnBreaksUptoRow.holds Try.pinned (OpenSpec.upto fnBreaksSpec)

/-- 'laws.FnExactBreakerOk', WHERE WHAT IT READS IS OF BULK AT MOST 1048576: true; the input reads as it did. -/
def fnExactBreakerOkUptoRow : OpenClaim := { program := "ytmmoelijpemlfaa", sum := "740d5db26363237fefa4d7924413377c8b3124d0946ad35eb9b19ebaee49706a", func := "loop.example/g00722/laws.FnExactBreakerOk", spec := "fnExactBreakerOk", apart := false, narrowed := true }
def FnExactBreakerOkUptoSaid : Prop := fnExactBreakerOkUptoRow.holds Try.pinned (OpenSpec.upto fnExactBreakerOkSpec)

/-- 'laws.FnExactMayDial', WHERE WHAT IT READS IS OF BULK AT MOST 1048576: true; the input reads as it did. -/
def fnExactMayDialUptoRow : OpenClaim := { program := "ytmmoelijpemlfaa", sum := "740d5db26363237fefa4d7924413377c8b3124d0946ad35eb9b19ebaee49706a", func := "loop.example/g00722/laws.FnExactMayDial", spec := "fnExactMayDial", apart := false, narrowed := true }
def FnExactMayDialUptoSaid : Prop := fnExactMayDialUptoRow.holds Try.pinned (OpenSpec.upto fnExactMayDialSpec)

/-- 'laws.FnExactOnDial', WHERE WHAT IT READS IS OF BULK AT MOST 1048576: true; the input reads as it did. -/
def fnExactOnDialUptoRow : OpenClaim := { program := "ytmmoelijpemlfaa", sum := "740d5db26363237fefa4d7924413377c8b3124d0946ad35eb9b19ebaee49706a", func := "loop.example/g00722/laws.FnExactOnDial", spec := "fnExactOnDial", unfollowed := true, recurses := true, apart := false, narrowed := true }
def FnExactOnDialUptoSaid : Prop := fnExactOnDialUptoRow.holds Try.pinned (OpenSpec.upto fnExactOnDialSpec)

/-- 'laws.FnExactOnFailure', WHERE WHAT IT READS IS OF BULK AT MOST 1048576: true; the input reads as it did. -/
def fnExactOnFailureUptoRow : OpenClaim := { program := "ytmmoelijpemlfaa", sum := "740d5db26363237fefa4d7924413377c8b3124d0946ad35eb9b19ebaee49706a", func := "loop.example/g00722/laws.FnExactOnFailure", spec := "fnExactOnFailure", unfollowed := true, recurses := true, apart := false, narrowed := true }
def FnExactOnFailureUptoSaid : Prop := fnExactOnFailureUptoRow.holds Try.pinned (OpenSpec.upto fnExactOnFailureSpec)

/-- 'laws.FnExactOnSuccess', WHERE WHAT IT READS IS OF BULK AT MOST 1048576: true; the input reads as it did. -/
def fnExactOnSuccessUptoRow : OpenClaim := { program := "ytmmoelijpemlfaa", sum := "740d5db26363237fefa4d7924413377c8b3124d0946ad35eb9b19ebaee49706a", func := "loop.example/g00722/laws.FnExactOnSuccess", spec := "fnExactOnSuccess", unfollowed := true, recurses := true, apart := false, narrowed := true }
def FnExactOnSuccessUptoSaid : Prop := fnExactOnSuccessUptoRow.holds Try.pinned (OpenSpec.upto fnExactOnSuccessSpec)

/-- 'laws.FnExactPlayBreaker', WHERE WHAT IT READS IS OF BULK AT MOST 1048576: true; the input reads as it did. -/
def fnExactPlayBreakerUptoRow : OpenClaim := { program := "ytmmoelijpemlfaa", sum := "740d5db26363237fefa4d7924413377c8b3124d0946ad35eb9b19ebaee49706a", func := "loop.example/g00722/laws.FnExactPlayBreaker", spec := "fnExactPlayBreaker", unfollowed := true, recurses := true, apart := false, narrowed := true }
def FnExactPlayBreakerUptoSaid : Prop := fnExactPlayBreakerUptoRow.holds Try.pinned (OpenSpec.upto fnExactPlayBreakerSpec)

/-- 'laws.FnExactOpenSpans', WHERE WHAT IT READS IS OF BULK AT MOST 1048576: true; the input reads as it did. -/
def fnExactOpenSpansUptoRow : OpenClaim := { program := "ytmmoelijpemlfaa", sum := "740d5db26363237fefa4d7924413377c8b3124d0946ad35eb9b19ebaee49706a", func := "loop.example/g00722/laws.FnExactOpenSpans", spec := "fnExactOpenSpans", unfollowed := true, recurses := true, apart := false, narrowed := true }
def FnExactOpenSpansUptoSaid : Prop := fnExactOpenSpansUptoRow.holds Try.pinned (OpenSpec.upto fnExactOpenSpansSpec)

end Rows
end Go.Proofs.Ytmmoelijpemlfaa
