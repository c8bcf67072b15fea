/-
  NARROWER THAN 'FOR EVERY INPUT', by the rows' own cells (each row's printed sentence says how): FnBytes: ifaces, laid · FnExactTakeNumber: ifaces, laid · FnExactTakeEvent: ifaces, laid · FnExactTakeLog: ifaces, laid · FnExactTakeMost: ifaces, laid.
  DERIVED. THE GIVEN ROWS OF THIS SEAT. 5 by the template 'for every input the law returns true; each argument reads behind the call as it read before'; 0 by the template 'total and deterministic' (their statements: YtcgmeindiaaokaaDoorTotals.lean).
  GIVEN WITH THE SEED: the statements are not yours to turn. If you find one false, say at which input.
  Laid BY PROGRAM, IN A SANDBOX (cutbox-rows.mjs): the forced cells as the released guide's own fill.sh prints them over the translation fcd6f8bf7f626959… (all of the seat's roots in one cut). By AI agents, Wed Nov 11 2026. No macro, syntax, notation, axiom, sorry.
-/
import Derived.Test.YtcgmeindiaaokaaDoorChecked
import GoSem.Claim
import GoSem.ClaimJoined
import GoSem.ClaimMapViews
import Derived.JoinedTies
import Derived.KernelRfl
namespace Go.Proofs.YtcgmeindiaaokaaDoor
/- THE CELL 'sum', in the pinned program and in every row, IS THE sha256 OF THE DUMP (.gsa) THAT YtcgmeindiaaokaaDoorProg.lean LOADS. Nothing in Lean hashes anything: it is a label: what it is worth is what the hold of that sum in a sandbox is worth. -/
noncomputable def Tryd.pinned : Pinned := { name := "ytcgmeindiaaokaadoor", sum := "fcd6f8bf7f62695996fb974480dc6b1f2c9b397e7f28c45dfefbfd90595eee20", checked := Tryd.checked }
namespace Rows
def none {H : Type} : Left H := { results := [], args := [] }

/- WHAT THE LISTED PACKAGE-LEVEL VARIABLES READ AS WHEN THE CALL BEGINS. Each datum BY PROGRAM (the guide's laid-datum.mjs) off the statement by which the dump's own 'gosem.cut.vars' lays the variable. In a bare row this is a premise. The card (YtcgmeindiaaokaaDoorCards.lean) ties it to the program's text. -/
def laid_loop_example_g00722_impl_errAtEnd {H : Type} : DataW H := .iface "*errors.errorString" (.ptr (.agg [.lit (.string [116, 104, 101, 32, 114, 111, 119, 32, 101, 110, 100, 115, 32, 104, 101, 114, 101])]))
def laid_loop_example_g00722_impl_errNone {H : Type} : DataW H := .iface "*errors.errorString" (.ptr (.agg [.lit (.string [110, 111, 116, 104, 105, 110, 103, 32, 105, 115, 32, 101, 110, 99, 111, 100, 101, 100, 32, 104, 101, 114, 101])]))
def laid_loop_example_g00722_impl_errFull {H : Type} : DataW H := .iface "*errors.errorString" (.ptr (.agg [.lit (.string [116, 104, 101, 114, 101, 32, 105, 115, 32, 116, 111, 111, 32, 109, 117, 99, 104, 32, 102, 111, 114, 32, 97, 32, 108, 111, 103])]))

/-- 'laws.FnBytes': WHATEVER THE INPUT: true; the input reads as it did. -/
def fnBytesSpec : ChangeSpec := { name := "fnBytes", vars := ["loop.example/g00722/impl.errAtEnd", "loop.example/g00722/impl.errFull", "loop.example/g00722/impl.errNone"], fn := fun _ => fun
  | [d, g1, g2, g3] => { results := [.lit (.bool true)], args := [d], vars := [g1, g2, g3] }
  | _ => none }
def fnBytesRow : OpenClaim := { program := "ytcgmeindiaaokaadoor", sum := "fcd6f8bf7f62695996fb974480dc6b1f2c9b397e7f28c45dfefbfd90595eee20", func := "loop.example/g00722/laws.FnBytes", spec := "fnBytes", inPlace := ["internal/reflectlite.TypeOf"], unfollowed := true, recurses := true, named := ["loop.example/g00722/impl.errAtEnd", "loop.example/g00722/impl.errFull", "loop.example/g00722/impl.errNone"], ifaces := true, apart := false, laid := [("loop.example/g00722/impl.errAtEnd", laid_loop_example_g00722_impl_errAtEnd), ("loop.example/g00722/impl.errNone", laid_loop_example_g00722_impl_errNone), ("loop.example/g00722/impl.errFull", laid_loop_example_g00722_impl_errFull)] }
def FnBytesSaid : Prop := fnBytesRow.holds Tryd.pinned (OpenSpec.ofChange fnBytesSpec)

/-- ITS FALSE NEIGHBOUR: 'it returns false'. Refute it at one input. -/
def fnBytesWrong : ChangeSpec := { name := "fnBytes", vars := ["loop.example/g00722/impl.errAtEnd", "loop.example/g00722/impl.errFull", "loop.example/g00722/impl.errNone"], fn := fun _ => fun
  | [d, g1, g2, g3] => { results := [.lit (.bool false)], args := [d], vars := [g1, g2, g3] }
  | _ => none }
def FnBytesWrongFalsely : Prop := fnBytesRow.holds Tryd.pinned (OpenSpec.ofChange fnBytesWrong)

/-- 'laws.FnExactTakeNumber': WHATEVER THE INPUT: true; the input reads as it did. -/
def fnExactTakeNumberSpec : ChangeSpec := { name := "fnExactTakeNumber", vars := ["loop.example/g00722/impl.errNone"], fn := fun _ => fun
  | [d1, d2, g1] => { results := [.lit (.bool true)], args := [d1, d2], vars := [g1] }
  | _ => none }
def fnExactTakeNumberRow : OpenClaim := { program := "ytcgmeindiaaokaadoor", sum := "fcd6f8bf7f62695996fb974480dc6b1f2c9b397e7f28c45dfefbfd90595eee20", func := "loop.example/g00722/laws.FnExactTakeNumber", spec := "fnExactTakeNumber", unfollowed := true, recurses := true, named := ["loop.example/g00722/impl.errNone"], ifaces := true, apart := false, laid := [("loop.example/g00722/impl.errNone", laid_loop_example_g00722_impl_errNone)] }
def FnExactTakeNumberSaid : Prop := fnExactTakeNumberRow.holds Tryd.pinned (OpenSpec.ofChange fnExactTakeNumberSpec)

/-- ITS FALSE NEIGHBOUR: 'it returns false'. Refute it at one input. -/
def fnExactTakeNumberWrong : ChangeSpec := { name := "fnExactTakeNumber", vars := ["loop.example/g00722/impl.errNone"], fn := fun _ => fun
  | [d1, d2, g1] => { results := [.lit (.bool false)], args := [d1, d2], vars := [g1] }
  | _ => none }
def FnExactTakeNumberWrongFalsely : Prop := fnExactTakeNumberRow.holds Tryd.pinned (OpenSpec.ofChange fnExactTakeNumberWrong)

/-- 'laws.FnExactTakeEvent': WHATEVER THE INPUT: true; the input reads as it did. -/
def fnExactTakeEventSpec : ChangeSpec := { name := "fnExactTakeEvent", vars := ["loop.example/g00722/impl.errAtEnd", "loop.example/g00722/impl.errNone"], fn := fun _ => fun
  | [d1, d2, g1, g2] => { results := [.lit (.bool true)], args := [d1, d2], vars := [g1, g2] }
  | _ => none }
def fnExactTakeEventRow : OpenClaim := { program := "ytcgmeindiaaokaadoor", sum := "fcd6f8bf7f62695996fb974480dc6b1f2c9b397e7f28c45dfefbfd90595eee20", func := "loop.example/g00722/laws.FnExactTakeEvent", spec := "fnExactTakeEvent", unfollowed := true, recurses := true, named := ["loop.example/g00722/impl.errAtEnd", "loop.example/g00722/impl.errNone"], ifaces := true, apart := false, laid := [("loop.example/g00722/impl.errAtEnd", laid_loop_example_g00722_impl_errAtEnd), ("loop.example/g00722/impl.errNone", laid_loop_example_g00722_impl_errNone)] }
def FnExactTakeEventSaid : Prop := fnExactTakeEventRow.holds Tryd.pinned (OpenSpec.ofChange fnExactTakeEventSpec)

/-- ITS FALSE NEIGHBOUR: 'it returns false'. Refute it at one input. -/
def fnExactTakeEventWrong : ChangeSpec := { name := "fnExactTakeEvent", vars := ["loop.example/g00722/impl.errAtEnd", "loop.example/g00722/impl.errNone"], fn := fun _ => fun
  | [d1, d2, g1, g2] => { results := [.lit (.bool false)], args := [d1, d2], vars := [g1, g2] }
  | _ => none }
def FnExactTakeEventWrongFalsely : Prop := fnExactTakeEventRow.holds Tryd.pinned (OpenSpec.ofChange fnExactTakeEventWrong)

/-- 'laws.FnExactTakeLog': WHATEVER THE INPUT: true; the input reads as it did. -/
def fnExactTakeLogSpec : ChangeSpec := { name := "fnExactTakeLog", vars := ["loop.example/g00722/impl.errAtEnd", "loop.example/g00722/impl.errFull", "loop.example/g00722/impl.errNone"], fn := fun _ => fun
  | [d, g1, g2, g3] => { results := [.lit (.bool true)], args := [d], vars := [g1, g2, g3] }
  | _ => none }
def fnExactTakeLogRow : OpenClaim := { program := "ytcgmeindiaaokaadoor", sum := "fcd6f8bf7f62695996fb974480dc6b1f2c9b397e7f28c45dfefbfd90595eee20", func := "loop.example/g00722/laws.FnExactTakeLog", spec := "fnExactTakeLog", inPlace := ["internal/reflectlite.TypeOf"], unfollowed := true, recurses := true, named := ["loop.example/g00722/impl.errAtEnd", "loop.example/g00722/impl.errFull", "loop.example/g00722/impl.errNone"], ifaces := true, apart := false, laid := [("loop.example/g00722/impl.errAtEnd", laid_loop_example_g00722_impl_errAtEnd), ("loop.example/g00722/impl.errNone", laid_loop_example_g00722_impl_errNone), ("loop.example/g00722/impl.errFull", laid_loop_example_g00722_impl_errFull)] }
def FnExactTakeLogSaid : Prop := fnExactTakeLogRow.holds Tryd.pinned (OpenSpec.ofChange fnExactTakeLogSpec)

/-- ITS FALSE NEIGHBOUR: 'it returns false'. Refute it at one input. -/
def fnExactTakeLogWrong : ChangeSpec := { name := "fnExactTakeLog", vars := ["loop.example/g00722/impl.errAtEnd", "loop.example/g00722/impl.errFull", "loop.example/g00722/impl.errNone"], fn := fun _ => fun
  | [d, g1, g2, g3] => { results := [.lit (.bool false)], args := [d], vars := [g1, g2, g3] }
  | _ => none }
def FnExactTakeLogWrongFalsely : Prop := fnExactTakeLogRow.holds Tryd.pinned (OpenSpec.ofChange fnExactTakeLogWrong)

/-- 'laws.FnExactTakeMost': WHATEVER THE INPUT: true; the input reads as it did. -/
def fnExactTakeMostSpec : ChangeSpec := { name := "fnExactTakeMost", vars := ["loop.example/g00722/impl.errFull", "loop.example/g00722/impl.errAtEnd", "loop.example/g00722/impl.errNone"], fn := fun _ => fun
  | [d, g1, g2, g3] => { results := [.lit (.bool true)], args := [d], vars := [g1, g2, g3] }
  | _ => none }
def fnExactTakeMostRow : OpenClaim := { program := "ytcgmeindiaaokaadoor", sum := "fcd6f8bf7f62695996fb974480dc6b1f2c9b397e7f28c45dfefbfd90595eee20", func := "loop.example/g00722/laws.FnExactTakeMost", spec := "fnExactTakeMost", unfollowed := true, recurses := true, named := ["loop.example/g00722/impl.errFull", "loop.example/g00722/impl.errAtEnd", "loop.example/g00722/impl.errNone"], ifaces := true, apart := false, laid := [("loop.example/g00722/impl.errAtEnd", laid_loop_example_g00722_impl_errAtEnd), ("loop.example/g00722/impl.errNone", laid_loop_example_g00722_impl_errNone), ("loop.example/g00722/impl.errFull", laid_loop_example_g00722_impl_errFull)] }
def FnExactTakeMostSaid : Prop := fnExactTakeMostRow.holds Tryd.pinned (OpenSpec.ofChange fnExactTakeMostSpec)

/-- ITS FALSE NEIGHBOUR: 'it returns false'. Refute it at one input. -/
def fnExactTakeMostWrong : ChangeSpec := { name := "fnExactTakeMost", vars := ["loop.example/g00722/impl.errFull", "loop.example/g00722/impl.errAtEnd", "loop.example/g00722/impl.errNone"], fn := fun _ => fun
  | [d, g1, g2, g3] => { results := [.lit (.bool false)], args := [d], vars := [g1, g2, g3] }
  | _ => none }
def FnExactTakeMostWrongFalsely : Prop := fnExactTakeMostRow.holds Tryd.pinned (OpenSpec.ofChange fnExactTakeMostWrong)

/- THE SECOND FORM. 'bulk': how many values and letters a reading holds, each counted each time it is reached (what is shared counts as often as it is met; a slice's spare places count too). A statement '..UptoSaid' is the law's where the arguments, and the package variables that the reading takes, are together of bulk at most 1048576: NARROWER than '..Said'. Prove '..Said' where nothing that the law and all that it calls make is longer than what came in: it says more and counts as full. Else prove '..UptoSaid'. A law counts once. -/
mutual
def uptoBulk {H : Type} : DataW H → Nat
  | .lit (.string bytes) => bytes.length + 1
  | .lit _ => 1
  | .nil => 1
  | .ptr d => uptoBulk d + 1
  | .slice elems spare => uptoBulkAll elems + uptoBulkAll spare + 1
  | .agg parts => uptoBulkAll parts + 1
  | .iface _ d => uptoBulk d + 1
  | .map entries => uptoBulkEntries entries + 1
  | .held _ => 1
def uptoBulkAll {H : Type} : List (DataW H) → Nat
  | [] => 0
  | d :: r => uptoBulk d + uptoBulkAll r
def uptoBulkEntries {H : Type} : List (Lit × DataW H) → Nat
  | [] => 0
  | x :: r => uptoBulkEntry x + uptoBulkEntries r
def uptoBulkEntry {H : Type} : Lit × DataW H → Nat
  | (.string bytes, d) => bytes.length + uptoBulk d + 1
  | (_, d) => uptoBulk d + 1
 end
def uptoSmall : (H : Type) → List (DataW H) → Bool := fun _ ds => decide (uptoBulkAll ds ≤ 1048576)
def OpenSpec.upto (s : _root_.Go.ChangeSpec) : _root_.Go.OpenSpec := { _root_.Go.OpenSpec.ofChange s with cond := some uptoSmall }

/-- 'laws.FnBytes', WHERE WHAT IT READS IS OF BULK AT MOST 1048576: true; the input reads as it did. -/
def fnBytesUptoRow : OpenClaim := { program := "ytcgmeindiaaokaadoor", sum := "fcd6f8bf7f62695996fb974480dc6b1f2c9b397e7f28c45dfefbfd90595eee20", func := "loop.example/g00722/laws.FnBytes", spec := "fnBytes", inPlace := ["internal/reflectlite.TypeOf"], unfollowed := true, recurses := true, named := ["loop.example/g00722/impl.errAtEnd", "loop.example/g00722/impl.errFull", "loop.example/g00722/impl.errNone"], ifaces := true, apart := false, laid := [("loop.example/g00722/impl.errAtEnd", laid_loop_example_g00722_impl_errAtEnd), ("loop.example/g00722/impl.errNone", laid_loop_example_g00722_impl_errNone), ("loop.example/g00722/impl.errFull", laid_loop_example_g00722_impl_errFull)], narrowed := true }
def FnBytesUptoSaid : Prop := fnBytesUptoRow.holds Tryd.pinned (OpenSpec.upto fnBytesSpec)

/-- 'laws.FnExactTakeNumber', WHERE WHAT IT READS IS OF BULK AT MOST 1048576: true; the input reads as it did. -/
def fnExactTakeNumberUptoRow : OpenClaim := { program := "ytcgmeindiaaokaadoor", sum := "fcd6f8bf7f62695996fb974480dc6b1f2c9b397e7f28c45dfefbfd90595eee20", func := "loop.example/g00722/laws.FnExactTakeNumber", spec := "fnExactTakeNumber", unfollowed := true, recurses := true, named := ["loop.example/g00722/impl.errNone"], ifaces := true, apart := false, laid := [("loop.example/g00722/impl.errNone", laid_loop_example_g00722_impl_errNone)], narrowed := true }
def FnExactTakeNumberUptoSaid : Prop := fnExactTakeNumberUptoRow.holds Tryd.pinned (OpenSpec.upto fnExactTakeNumberSpec)

/-- 'laws.FnExactTakeEvent', WHERE WHAT IT READS IS OF BULK AT MOST 1048576: true; the input reads as it did. -/
def fnExactTakeEventUptoRow : OpenClaim := { program := "ytcgmeindiaaokaadoor", sum := "fcd6f8bf7f62695996fb974480dc6b1f2c9b397e7f28c45dfefbfd90595eee20", func := "loop.example/g00722/laws.FnExactTakeEvent", spec := "fnExactTakeEvent", unfollowed := true, recurses := true, named := ["loop.example/g00722/impl.errAtEnd", "loop.example/g00722/impl.errNone"], ifaces := true, apart := false, laid := [("loop.example/g00722/impl.errAtEnd", laid_loop_example_g00722_impl_errAtEnd), ("loop.example/g00722/impl.errNone", laid_loop_example_g00722_impl_errNone)], narrowed := true }
def FnExactTakeEventUptoSaid : Prop := fnExactTakeEventUptoRow.holds Tryd.pinned (OpenSpec.upto fnExactTakeEventSpec)

/-- 'laws.FnExactTakeLog', WHERE WHAT IT READS IS OF BULK AT MOST 1048576: true; the input reads as it did. -/
def fnExactTakeLogUptoRow : OpenClaim := { program := "ytcgmeindiaaokaadoor", sum := "fcd6f8bf7f62695996fb974480dc6b1f2c9b397e7f28c45dfefbfd90595eee20", func := "loop.example/g00722/laws.FnExactTakeLog", spec := "fnExactTakeLog", inPlace := ["internal/reflectlite.TypeOf"], unfollowed := true, recurses := true, named := ["loop.example/g00722/impl.errAtEnd", "loop.example/g00722/impl.errFull", "loop.example/g00722/impl.errNone"], ifaces := true, apart := false, laid := [("loop.example/g00722/impl.errAtEnd", laid_loop_example_g00722_impl_errAtEnd), ("loop.example/g00722/impl.errNone", laid_loop_example_g00722_impl_errNone), ("loop.example/g00722/impl.errFull", laid_loop_example_g00722_impl_errFull)], narrowed := true }
def FnExactTakeLogUptoSaid : Prop := fnExactTakeLogUptoRow.holds Tryd.pinned (OpenSpec.upto fnExactTakeLogSpec)

/-- 'laws.FnExactTakeMost', WHERE WHAT IT READS IS OF BULK AT MOST 1048576: true; the input reads as it did. -/
def fnExactTakeMostUptoRow : OpenClaim := { program := "ytcgmeindiaaokaadoor", sum := "fcd6f8bf7f62695996fb974480dc6b1f2c9b397e7f28c45dfefbfd90595eee20", func := "loop.example/g00722/laws.FnExactTakeMost", spec := "fnExactTakeMost", unfollowed := true, recurses := true, named := ["loop.example/g00722/impl.errFull", "loop.example/g00722/impl.errAtEnd", "loop.example/g00722/impl.errNone"], ifaces := true, apart := false, laid := [("loop.example/g00722/impl.errAtEnd", laid_loop_example_g00722_impl_errAtEnd), ("loop.example/g00722/impl.errNone", laid_loop_example_g00722_impl_errNone), ("loop.example/g00722/impl.errFull", laid_loop_example_g00722_impl_errFull)], narrowed := true }
def FnExactTakeMostUptoSaid : Prop := fnExactTakeMostUptoRow.holds Tryd.pinned (OpenSpec.upto fnExactTakeMostSpec)

end Rows
end Go.Proofs.YtcgmeindiaaokaaDoor
