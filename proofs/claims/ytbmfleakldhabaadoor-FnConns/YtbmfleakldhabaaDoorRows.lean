/-
  NARROWER THAN 'FOR EVERY INPUT', by the rows' own cells (each row's printed sentence says how): FnConns: ifaces, laid · FnExactStepConn: ifaces, laid · FnExactPlayConn: ifaces, laid · FnExactConnText: laid.
  DERIVED. THE GIVEN ROWS OF THIS SEAT. 4 by the template 'for every input the law returns true; each argument reads behind the call as it read before'; 0 by the template 'total and deterministic' (their statements: YtbmfleakldhabaaDoorTotals.lean).
  GIVEN WITH THE SEED: the statements are not yours to turn. If you find one false, say at which input.
  Laid BY PROGRAM, IN A SANDBOX (cutbox-rows.mjs): the forced cells as the released guide's own fill.sh prints them over the translation fa2479d0c7b7f0f9… (all of the seat's roots in one cut). By AI agents, Wed Nov 11 2026. No macro, syntax, notation, axiom, sorry.
-/
import Derived.Test.YtbmfleakldhabaaDoorChecked
import GoSem.Claim
import GoSem.ClaimJoined
import GoSem.ClaimMapViews
import Derived.JoinedTies
import Derived.KernelRfl
namespace Go.Proofs.YtbmfleakldhabaaDoor
/- THE CELL 'sum', in the pinned program and in every row, IS THE sha256 OF THE DUMP (.gsa) THAT YtbmfleakldhabaaDoorProg.lean LOADS. Nothing in Lean hashes anything: it is a label: what it is worth is what the hold of that sum in a sandbox is worth. -/
noncomputable def Tryd.pinned : Pinned := { name := "ytbmfleakldhabaadoor", sum := "fa2479d0c7b7f0f9af74b392d7a8d8a4bc6377b328ace0d787420ee64bedc332", checked := Tryd.checked }
namespace Rows
def none {H : Type} : Left H := { results := [], args := [] }

/- WHAT THE LISTED PACKAGE-LEVEL VARIABLES READ AS WHEN THE CALL BEGINS. Each datum BY PROGRAM (the guide's laid-datum.mjs) off the statement by which the dump's own 'gosem.cut.vars' lays the variable. In a bare row this is a premise. The card (YtbmfleakldhabaaDoorCards.lean) ties it to the program's text. -/
def laid_loop_example_g00722_impl_errStepRefused {H : Type} : DataW H := .iface "*errors.errorString" (.ptr (.agg [.lit (.string [116, 104, 101, 32, 99, 111, 110, 110, 101, 99, 116, 105, 111, 110, 32, 114, 101, 102, 117, 115, 101, 115, 32, 116, 104, 101, 32, 115, 116, 101, 112])]))
def laid_math_bits_deBruijn32tab {H : Type} : DataW H := .agg [.lit (.int .u8 0), .lit (.int .u8 1), .lit (.int .u8 28), .lit (.int .u8 2), .lit (.int .u8 29), .lit (.int .u8 14), .lit (.int .u8 24), .lit (.int .u8 3), .lit (.int .u8 30), .lit (.int .u8 22), .lit (.int .u8 20), .lit (.int .u8 15), .lit (.int .u8 25), .lit (.int .u8 17), .lit (.int .u8 4), .lit (.int .u8 8), .lit (.int .u8 31), .lit (.int .u8 27), .lit (.int .u8 13), .lit (.int .u8 23), .lit (.int .u8 21), .lit (.int .u8 19), .lit (.int .u8 16), .lit (.int .u8 7), .lit (.int .u8 26), .lit (.int .u8 12), .lit (.int .u8 18), .lit (.int .u8 6), .lit (.int .u8 11), .lit (.int .u8 5), .lit (.int .u8 10), .lit (.int .u8 9)]
def laid_math_bits_deBruijn64tab {H : Type} : DataW H := .agg [.lit (.int .u8 0), .lit (.int .u8 1), .lit (.int .u8 56), .lit (.int .u8 2), .lit (.int .u8 57), .lit (.int .u8 49), .lit (.int .u8 28), .lit (.int .u8 3), .lit (.int .u8 61), .lit (.int .u8 58), .lit (.int .u8 42), .lit (.int .u8 50), .lit (.int .u8 38), .lit (.int .u8 29), .lit (.int .u8 17), .lit (.int .u8 4), .lit (.int .u8 62), .lit (.int .u8 47), .lit (.int .u8 59), .lit (.int .u8 36), .lit (.int .u8 45), .lit (.int .u8 43), .lit (.int .u8 51), .lit (.int .u8 22), .lit (.int .u8 53), .lit (.int .u8 39), .lit (.int .u8 33), .lit (.int .u8 30), .lit (.int .u8 24), .lit (.int .u8 18), .lit (.int .u8 12), .lit (.int .u8 5), .lit (.int .u8 63), .lit (.int .u8 55), .lit (.int .u8 48), .lit (.int .u8 27), .lit (.int .u8 60), .lit (.int .u8 41), .lit (.int .u8 37), .lit (.int .u8 16), .lit (.int .u8 46), .lit (.int .u8 35), .lit (.int .u8 44), .lit (.int .u8 21), .lit (.int .u8 52), .lit (.int .u8 32), .lit (.int .u8 23), .lit (.int .u8 11), .lit (.int .u8 54), .lit (.int .u8 26), .lit (.int .u8 40), .lit (.int .u8 15), .lit (.int .u8 34), .lit (.int .u8 20), .lit (.int .u8 31), .lit (.int .u8 10), .lit (.int .u8 25), .lit (.int .u8 14), .lit (.int .u8 19), .lit (.int .u8 9), .lit (.int .u8 13), .lit (.int .u8 8), .lit (.int .u8 7), .lit (.int .u8 6)]
def laid_internal_strconv_uint64pow10 {H : Type} : DataW H := .agg [.lit (.int .u64 1), .lit (.int .u64 10), .lit (.int .u64 100), .lit (.int .u64 1000), .lit (.int .u64 10000), .lit (.int .u64 100000), .lit (.int .u64 1000000), .lit (.int .u64 10000000), .lit (.int .u64 100000000), .lit (.int .u64 1000000000), .lit (.int .u64 10000000000), .lit (.int .u64 100000000000), .lit (.int .u64 1000000000000), .lit (.int .u64 10000000000000), .lit (.int .u64 100000000000000), .lit (.int .u64 1000000000000000), .lit (.int .u64 10000000000000000), .lit (.int .u64 100000000000000000), .lit (.int .u64 1000000000000000000), .lit (.int .u64 10000000000000000000)]
def laid_loop_example_g00722_impl_connNames {H : Type} : DataW H := .agg [.lit (.string [100, 105, 97, 108, 105, 110, 103]), .lit (.string [105, 100, 108, 101]), .lit (.string [112, 114, 111, 98, 105, 110, 103]), .lit (.string [104, 101, 108, 100]), .lit (.string [99, 108, 111, 115, 101, 100])]

/-- 'laws.FnConns': WHATEVER THE INPUT: true; the input reads as it did. -/
def fnConnsSpec : ChangeSpec := { name := "fnConns", vars := ["loop.example/g00722/impl.errStepRefused"], fn := fun _ => fun
  | [d, g1] => { results := [.lit (.bool true)], args := [d], vars := [g1] }
  | _ => none }
def fnConnsRow : OpenClaim := { program := "ytbmfleakldhabaadoor", sum := "fa2479d0c7b7f0f9af74b392d7a8d8a4bc6377b328ace0d787420ee64bedc332", func := "loop.example/g00722/laws.FnConns", spec := "fnConns", unfollowed := true, recurses := true, named := ["loop.example/g00722/impl.errStepRefused"], ifaces := true, apart := false, laid := [("loop.example/g00722/impl.errStepRefused", laid_loop_example_g00722_impl_errStepRefused)] }
def FnConnsSaid : Prop := fnConnsRow.holds Tryd.pinned (OpenSpec.ofChange fnConnsSpec)

/-- ITS FALSE NEIGHBOUR: 'it returns false'. Refute it at one input. -/
def fnConnsWrong : ChangeSpec := { name := "fnConns", vars := ["loop.example/g00722/impl.errStepRefused"], fn := fun _ => fun
  | [d, g1] => { results := [.lit (.bool false)], args := [d], vars := [g1] }
  | _ => none }
def FnConnsWrongFalsely : Prop := fnConnsRow.holds Tryd.pinned (OpenSpec.ofChange fnConnsWrong)

/-- 'laws.FnExactStepConn': WHATEVER THE INPUT: true; the input reads as it did. -/
def fnExactStepConnSpec : ChangeSpec := { name := "fnExactStepConn", vars := ["loop.example/g00722/impl.errStepRefused"], fn := fun _ => fun
  | [d1, d2, d3, d4, g1] => { results := [.lit (.bool true)], args := [d1, d2, d3, d4], vars := [g1] }
  | _ => none }
def fnExactStepConnRow : OpenClaim := { program := "ytbmfleakldhabaadoor", sum := "fa2479d0c7b7f0f9af74b392d7a8d8a4bc6377b328ace0d787420ee64bedc332", func := "loop.example/g00722/laws.FnExactStepConn", spec := "fnExactStepConn", unfollowed := true, recurses := true, named := ["loop.example/g00722/impl.errStepRefused"], ifaces := true, apart := false, laid := [("loop.example/g00722/impl.errStepRefused", laid_loop_example_g00722_impl_errStepRefused)] }
def FnExactStepConnSaid : Prop := fnExactStepConnRow.holds Tryd.pinned (OpenSpec.ofChange fnExactStepConnSpec)

/-- ITS FALSE NEIGHBOUR: 'it returns false'. Refute it at one input. -/
def fnExactStepConnWrong : ChangeSpec := { name := "fnExactStepConn", vars := ["loop.example/g00722/impl.errStepRefused"], fn := fun _ => fun
  | [d1, d2, d3, d4, g1] => { results := [.lit (.bool false)], args := [d1, d2, d3, d4], vars := [g1] }
  | _ => none }
def FnExactStepConnWrongFalsely : Prop := fnExactStepConnRow.holds Tryd.pinned (OpenSpec.ofChange fnExactStepConnWrong)

/-- 'laws.FnExactPlayConn': WHATEVER THE INPUT: true; the input reads as it did. -/
def fnExactPlayConnSpec : ChangeSpec := { name := "fnExactPlayConn", vars := ["loop.example/g00722/impl.errStepRefused"], fn := fun _ => fun
  | [d1, d2, g1] => { results := [.lit (.bool true)], args := [d1, d2], vars := [g1] }
  | _ => none }
def fnExactPlayConnRow : OpenClaim := { program := "ytbmfleakldhabaadoor", sum := "fa2479d0c7b7f0f9af74b392d7a8d8a4bc6377b328ace0d787420ee64bedc332", func := "loop.example/g00722/laws.FnExactPlayConn", spec := "fnExactPlayConn", unfollowed := true, recurses := true, named := ["loop.example/g00722/impl.errStepRefused"], ifaces := true, apart := false, laid := [("loop.example/g00722/impl.errStepRefused", laid_loop_example_g00722_impl_errStepRefused)] }
def FnExactPlayConnSaid : Prop := fnExactPlayConnRow.holds Tryd.pinned (OpenSpec.ofChange fnExactPlayConnSpec)

/-- ITS FALSE NEIGHBOUR: 'it returns false'. Refute it at one input. -/
def fnExactPlayConnWrong : ChangeSpec := { name := "fnExactPlayConn", vars := ["loop.example/g00722/impl.errStepRefused"], fn := fun _ => fun
  | [d1, d2, g1] => { results := [.lit (.bool false)], args := [d1, d2], vars := [g1] }
  | _ => none }
def FnExactPlayConnWrongFalsely : Prop := fnExactPlayConnRow.holds Tryd.pinned (OpenSpec.ofChange fnExactPlayConnWrong)

/-- 'laws.FnExactConnText': WHATEVER THE INPUT: true; the input reads as it did. -/
def fnExactConnTextSpec : ChangeSpec := { name := "fnExactConnText", vars := ["loop.example/g00722/impl.connNames"], fn := fun _ => fun
  | [d, g1] => { results := [.lit (.bool true)], args := [d], vars := [g1] }
  | _ => none }
def fnExactConnTextRow : OpenClaim := { program := "ytbmfleakldhabaadoor", sum := "fa2479d0c7b7f0f9af74b392d7a8d8a4bc6377b328ace0d787420ee64bedc332", func := "loop.example/g00722/laws.FnExactConnText", spec := "fnExactConnText", inPlace := ["internal/abi.NoEscape", "internal/bytealg.MakeNoZero"], named := ["loop.example/g00722/impl.connNames", "internal/strconv.uint64pow10", "math/bits.deBruijn32tab", "math/bits.deBruijn64tab"], apart := false, laid := [("math/bits.deBruijn32tab", laid_math_bits_deBruijn32tab), ("math/bits.deBruijn64tab", laid_math_bits_deBruijn64tab), ("internal/strconv.uint64pow10", laid_internal_strconv_uint64pow10), ("loop.example/g00722/impl.connNames", laid_loop_example_g00722_impl_connNames)] }
def FnExactConnTextSaid : Prop := fnExactConnTextRow.holds Tryd.pinned (OpenSpec.ofChange fnExactConnTextSpec)

/-- ITS FALSE NEIGHBOUR: 'it returns false'. Refute it at one input. -/
def fnExactConnTextWrong : ChangeSpec := { name := "fnExactConnText", vars := ["loop.example/g00722/impl.connNames"], fn := fun _ => fun
  | [d, g1] => { results := [.lit (.bool false)], args := [d], vars := [g1] }
  | _ => none }
def FnExactConnTextWrongFalsely : Prop := fnExactConnTextRow.holds Tryd.pinned (OpenSpec.ofChange fnExactConnTextWrong)

/- THE SECOND FORM. 'bulk': how many values and letters a reading holds, each counted each time it is reached (what is shared counts as often as it is met; a slice's spare places count too). A statement '..UptoSaid' is the law's where the arguments, and the package variables that the reading takes, are together of bulk at most 1048576: NARROWER than '..Said'. Prove '..Said' where nothing that the law and all that it calls make is longer than what came in: it says more and counts as full. Else prove '..UptoSaid'. A law counts once. -/
mutual
def uptoBulk {H : Type} : DataW H → Nat
  | .lit (.string bytes) => bytes.length + 1
  | .lit _ => 1
  | .nil => 1
  | .ptr d => uptoBulk d + 1
  | .slice elems spare => uptoBulkAll elems + uptoBulkAll spare + 1
  | .agg parts => uptoBulkAll parts + 1
  | .iface _ d => uptoBulk d + 1
  | .map entries => uptoBulkEntries entries + 1
  | .held _ => 1
def uptoBulkAll {H : Type} : List (DataW H) → Nat
  | [] => 0
  | d :: r => uptoBulk d + uptoBulkAll r
def uptoBulkEntries {H : Type} : List (Lit × DataW H) → Nat
  | [] => 0
  | x :: r => uptoBulkEntry x + uptoBulkEntries r
def uptoBulkEntry {H : Type} : Lit × DataW H → Nat
  | (.string bytes, d) => bytes.length + uptoBulk d + 1
  | (_, d) => uptoBulk d + 1
 end
def uptoSmall : (H : Type) → List (DataW H) → Bool := fun _ ds => decide (uptoBulkAll ds ≤ 1048576)
def OpenSpec.upto (s : _root_.Go.ChangeSpec) : _root_.Go.OpenSpec := { _root_.Go.OpenSpec.ofChange s with cond := some uptoSmall }

/-- 'laws.FnConns', WHERE WHAT IT READS IS OF BULK AT MOST 1048576: true; the input reads as it did. -/
def fnConnsUptoRow : OpenClaim := { program := "ytbmfleakldhabaadoor", sum := "fa2479d0c7b7f0f9af74b392d7a8d8a4bc6377b328ace0d787420ee64bedc332", func := "loop.example/g00722/laws.FnConns", spec := "fnConns", unfollowed := true, recurses := true, named := ["loop.example/g00722/impl.errStepRefused"], ifaces := true, apart := false, laid := [("loop.example/g00722/impl.errStepRefused", laid_loop_example_g00722_impl_errStepRefused)], narrowed := true }
def FnConnsUptoSaid : Prop := fnConnsUptoRow.holds Tryd.pinned (OpenSpec.upto fnConnsSpec)

/-- 'laws.FnExactStepConn', WHERE WHAT IT READS IS OF BULK AT MOST 1048576: true; the input reads as it did. -/
def fnExactStepConnUptoRow : OpenClaim := { program := "ytbmfleakldhabaadoor", sum := "fa2479d0c7b7f0f9af74b392d7a8d8a4bc6377b328ace0d787420ee64bedc332", func := "loop.example/g00722/laws.FnExactStepConn", spec := "fnExactStepConn", unfollowed := true, recurses := true, named := ["loop.example/g00722/impl.errStepRefused"], ifaces := true, apart := false, laid := [("loop.example/g00722/impl.errStepRefused", laid_loop_example_g00722_impl_errStepRefused)], narrowed := true }
def FnExactStepConnUptoSaid : Prop := fnExactStepConnUptoRow.holds Tryd.pinned (OpenSpec.upto fnExactStepConnSpec)

/-- 'laws.FnExactPlayConn', WHERE WHAT IT READS IS OF BULK AT MOST 1048576: true; the input reads as it did. -/
def fnExactPlayConnUptoRow : OpenClaim := { program := "ytbmfleakldhabaadoor", sum := "fa2479d0c7b7f0f9af74b392d7a8d8a4bc6377b328ace0d787420ee64bedc332", func := "loop.example/g00722/laws.FnExactPlayConn", spec := "fnExactPlayConn", unfollowed := true, recurses := true, named := ["loop.example/g00722/impl.errStepRefused"], ifaces := true, apart := false, laid := [("loop.example/g00722/impl.errStepRefused", laid_loop_example_g00722_impl_errStepRefused)], narrowed := true }
def FnExactPlayConnUptoSaid : Prop := fnExactPlayConnUptoRow.holds Tryd.pinned (OpenSpec.upto fnExactPlayConnSpec)

/-- 'laws.FnExactConnText', WHERE WHAT IT READS IS OF BULK AT MOST 1048576: true; the input reads as it did. -/
def fnExactConnTextUptoRow : OpenClaim := { program := "ytbmfleakldhabaadoor", sum := "fa2479d0c7b7f0f9af74b392d7a8d8a4bc6377b328ace0d787420ee64bedc332", func := "loop.example/g00722/laws.FnExactConnText", spec := "fnExactConnText", inPlace := ["internal/abi.NoEscape", "internal/bytealg.MakeNoZero"], named := ["loop.example/g00722/impl.connNames", "internal/strconv.uint64pow10", "math/bits.deBruijn32tab", "math/bits.deBruijn64tab"], apart := false, laid := [("math/bits.deBruijn32tab", laid_math_bits_deBruijn32tab), ("math/bits.deBruijn64tab", laid_math_bits_deBruijn64tab), ("internal/strconv.uint64pow10", laid_internal_strconv_uint64pow10), ("loop.example/g00722/impl.connNames", laid_loop_example_g00722_impl_connNames)], narrowed := true }
def FnExactConnTextUptoSaid : Prop := fnExactConnTextUptoRow.holds Tryd.pinned (OpenSpec.upto fnExactConnTextSpec)

end Rows
end Go.Proofs.YtbmfleakldhabaaDoor
