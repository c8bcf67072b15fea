/-
  NARROWER THAN 'FOR EVERY INPUT', by the rows' own cells (each row's printed sentence says how): FnChannels: laid · FnExactStepChannel: laid · FnExactPlayChannel: laid · FnExactChannelName: laid · FnExactCanReach: laid · FnExactShortestEvents: laid · FnExactWatched: laid.
  DERIVED. THE GIVEN ROWS OF THIS SEAT. 7 by the template 'for every input the law returns true; each argument reads behind the call as it read before'; 0 by the template 'total and deterministic' (their statements: YtoknjofdpnjioaaDoorTotals.lean).
  GIVEN WITH THE SEED: the statements are not yours to turn. If you find one false, say at which input.
  Laid BY PROGRAM, IN A SANDBOX (cutbox-rows.mjs): the forced cells as the released guide's own fill.sh prints them over the translation 445a862950b410a8… (all of the seat's roots in one cut). By AI agents, Wed Nov 11 2026. No macro, syntax, notation, axiom, sorry.
-/
import Derived.Test.YtoknjofdpnjioaaDoorChecked
import GoSem.Claim
import GoSem.ClaimJoined
import GoSem.ClaimMapViews
import Derived.JoinedTies
import Derived.KernelRfl
namespace Go.Proofs.YtoknjofdpnjioaaDoor
/- THE CELL 'sum', in the pinned program and in every row, IS THE sha256 OF THE DUMP (.gsa) THAT YtoknjofdpnjioaaDoorProg.lean LOADS. Nothing in Lean hashes anything: it is a label: what it is worth is what the hold of that sum in a sandbox is worth. -/
noncomputable def Tryd.pinned : Pinned := { name := "ytoknjofdpnjioaadoor", sum := "445a862950b410a82dc366cc857ef58a952e5f15eaac8ef5e51a49804ed74698", checked := Tryd.checked }
namespace Rows
def none {H : Type} : Left H := { results := [], args := [] }

/- WHAT THE LISTED PACKAGE-LEVEL VARIABLES READ AS WHEN THE CALL BEGINS. Each datum BY PROGRAM (the guide's laid-datum.mjs) off the statement by which the dump's own 'gosem.cut.vars' lays the variable. In a bare row this is a premise. The card (YtoknjofdpnjioaaDoorCards.lean) ties it to the program's text. -/
def laid_loop_example_g00722_impl_channelMoves {H : Type} : DataW H := .agg [.agg [.lit (.int .i64 0), .lit (.int .i64 0), .lit (.int .i64 1)], .agg [.lit (.int .i64 1), .lit (.int .i64 1), .lit (.int .i64 2)], .agg [.lit (.int .i64 1), .lit (.int .i64 3), .lit (.int .i64 2)], .agg [.lit (.int .i64 2), .lit (.int .i64 1), .lit (.int .i64 3)], .agg [.lit (.int .i64 3), .lit (.int .i64 3), .lit (.int .i64 1)], .agg [.lit (.int .i64 4), .lit (.int .i64 2), .lit (.int .i64 0)], .agg [.lit (.int .i64 5), .lit (.int .i64 2), .lit (.int .i64 0)], .agg [.lit (.int .i64 5), .lit (.int .i64 1), .lit (.int .i64 0)], .agg [.lit (.int .i64 5), .lit (.int .i64 3), .lit (.int .i64 0)], .agg [.lit (.int .i64 6), .lit (.int .i64 0), .lit (.int .i64 4)], .agg [.lit (.int .i64 6), .lit (.int .i64 1), .lit (.int .i64 4)], .agg [.lit (.int .i64 6), .lit (.int .i64 2), .lit (.int .i64 4)], .agg [.lit (.int .i64 6), .lit (.int .i64 3), .lit (.int .i64 4)]]
def laid_loop_example_g00722_impl_channelNames {H : Type} : DataW H := .agg [.lit (.string [105, 100, 108, 101]), .lit (.string [99, 111, 110, 110, 101, 99, 116, 105, 110, 103]), .lit (.string [114, 101, 97, 100, 121]), .lit (.string [102, 97, 105, 108, 105, 110, 103]), .lit (.string [115, 104, 117, 116])]

/-- 'laws.FnChannels': WHATEVER THE INPUT: true; the input reads as it did. -/
def fnChannelsSpec : ChangeSpec := { name := "fnChannels", vars := ["loop.example/g00722/impl.channelMoves"], fn := fun _ => fun
  | [d, g1] => { results := [.lit (.bool true)], args := [d], vars := [g1] }
  | _ => none }
def fnChannelsRow : OpenClaim := { program := "ytoknjofdpnjioaadoor", sum := "445a862950b410a82dc366cc857ef58a952e5f15eaac8ef5e51a49804ed74698", func := "loop.example/g00722/laws.FnChannels", spec := "fnChannels", inPlace := ["sync/atomic.LoadUint32", "(*internal/sync.Mutex).Lock", "internal/race.Disable", "sync/atomic.CompareAndSwapInt32", "internal/race.Enable", "internal/race.Acquire", "(*internal/sync.Mutex).lockSlow", "internal/sync.runtime_canSpin", "internal/sync.runtime_doSpin", "internal/sync.throw", "internal/sync.runtime_nanotime", "internal/sync.runtime_SemacquireMutex", "sync/atomic.AddInt32", "(*internal/sync.Mutex).Unlock", "internal/race.ReleaseMerge", "(*internal/sync.Mutex).unlockSlow", "internal/sync.fatal", "internal/sync.runtime_Semrelease", "sync/atomic.StoreUint32"], unfollowed := true, recurses := true, named := ["loop.example/g00722/impl.channelMoves"], apart := false, laid := [("loop.example/g00722/impl.channelMoves", laid_loop_example_g00722_impl_channelMoves)] }
def FnChannelsSaid : Prop := fnChannelsRow.holds Tryd.pinned (OpenSpec.ofChange fnChannelsSpec)

/-- ITS FALSE NEIGHBOUR: 'it returns false'. Refute it at one input. -/
def fnChannelsWrong : ChangeSpec := { name := "fnChannels", vars := ["loop.example/g00722/impl.channelMoves"], fn := fun _ => fun
  | [d, g1] => { results := [.lit (.bool false)], args := [d], vars := [g1] }
  | _ => none }
def FnChannelsWrongFalsely : Prop := fnChannelsRow.holds Tryd.pinned (OpenSpec.ofChange fnChannelsWrong)

/-- 'laws.FnExactStepChannel': WHATEVER THE INPUT: true; the input reads as it did. -/
def fnExactStepChannelSpec : ChangeSpec := { name := "fnExactStepChannel", vars := ["loop.example/g00722/impl.channelMoves"], fn := fun _ => fun
  | [d1, d2, g1] => { results := [.lit (.bool true)], args := [d1, d2], vars := [g1] }
  | _ => none }
def fnExactStepChannelRow : OpenClaim := { program := "ytoknjofdpnjioaadoor", sum := "445a862950b410a82dc366cc857ef58a952e5f15eaac8ef5e51a49804ed74698", func := "loop.example/g00722/laws.FnExactStepChannel", spec := "fnExactStepChannel", inPlace := ["sync/atomic.LoadUint32", "(*internal/sync.Mutex).Lock", "internal/race.Disable", "sync/atomic.CompareAndSwapInt32", "internal/race.Enable", "internal/race.Acquire", "(*internal/sync.Mutex).lockSlow", "internal/sync.runtime_canSpin", "internal/sync.runtime_doSpin", "internal/sync.throw", "internal/sync.runtime_nanotime", "internal/sync.runtime_SemacquireMutex", "sync/atomic.AddInt32", "(*internal/sync.Mutex).Unlock", "internal/race.ReleaseMerge", "(*internal/sync.Mutex).unlockSlow", "internal/sync.fatal", "internal/sync.runtime_Semrelease", "sync/atomic.StoreUint32"], unfollowed := true, recurses := true, named := ["loop.example/g00722/impl.channelMoves"], apart := false, laid := [("loop.example/g00722/impl.channelMoves", laid_loop_example_g00722_impl_channelMoves)] }
def FnExactStepChannelSaid : Prop := fnExactStepChannelRow.holds Tryd.pinned (OpenSpec.ofChange fnExactStepChannelSpec)

/-- ITS FALSE NEIGHBOUR: 'it returns false'. Refute it at one input. -/
def fnExactStepChannelWrong : ChangeSpec := { name := "fnExactStepChannel", vars := ["loop.example/g00722/impl.channelMoves"], fn := fun _ => fun
  | [d1, d2, g1] => { results := [.lit (.bool false)], args := [d1, d2], vars := [g1] }
  | _ => none }
def FnExactStepChannelWrongFalsely : Prop := fnExactStepChannelRow.holds Tryd.pinned (OpenSpec.ofChange fnExactStepChannelWrong)

/-- 'laws.FnExactPlayChannel': WHATEVER THE INPUT: true; the input reads as it did. -/
def fnExactPlayChannelSpec : ChangeSpec := { name := "fnExactPlayChannel", vars := ["loop.example/g00722/impl.channelMoves"], fn := fun _ => fun
  | [d, g1] => { results := [.lit (.bool true)], args := [d], vars := [g1] }
  | _ => none }
def fnExactPlayChannelRow : OpenClaim := { program := "ytoknjofdpnjioaadoor", sum := "445a862950b410a82dc366cc857ef58a952e5f15eaac8ef5e51a49804ed74698", func := "loop.example/g00722/laws.FnExactPlayChannel", spec := "fnExactPlayChannel", inPlace := ["sync/atomic.LoadUint32", "(*internal/sync.Mutex).Lock", "internal/race.Disable", "sync/atomic.CompareAndSwapInt32", "internal/race.Enable", "internal/race.Acquire", "(*internal/sync.Mutex).lockSlow", "internal/sync.runtime_canSpin", "internal/sync.runtime_doSpin", "internal/sync.throw", "internal/sync.runtime_nanotime", "internal/sync.runtime_SemacquireMutex", "sync/atomic.AddInt32", "(*internal/sync.Mutex).Unlock", "internal/race.ReleaseMerge", "(*internal/sync.Mutex).unlockSlow", "internal/sync.fatal", "internal/sync.runtime_Semrelease", "sync/atomic.StoreUint32"], unfollowed := true, recurses := true, named := ["loop.example/g00722/impl.channelMoves"], apart := false, laid := [("loop.example/g00722/impl.channelMoves", laid_loop_example_g00722_impl_channelMoves)] }
def FnExactPlayChannelSaid : Prop := fnExactPlayChannelRow.holds Tryd.pinned (OpenSpec.ofChange fnExactPlayChannelSpec)

/-- ITS FALSE NEIGHBOUR: 'it returns false'. Refute it at one input. -/
def fnExactPlayChannelWrong : ChangeSpec := { name := "fnExactPlayChannel", vars := ["loop.example/g00722/impl.channelMoves"], fn := fun _ => fun
  | [d, g1] => { results := [.lit (.bool false)], args := [d], vars := [g1] }
  | _ => none }
def FnExactPlayChannelWrongFalsely : Prop := fnExactPlayChannelRow.holds Tryd.pinned (OpenSpec.ofChange fnExactPlayChannelWrong)

/-- 'laws.FnExactChannelName': WHATEVER THE INPUT: true; the input reads as it did. -/
def fnExactChannelNameSpec : ChangeSpec := { name := "fnExactChannelName", vars := ["loop.example/g00722/impl.channelNames"], fn := fun _ => fun
  | [d, g1] => { results := [.lit (.bool true)], args := [d], vars := [g1] }
  | _ => none }
def fnExactChannelNameRow : OpenClaim := { program := "ytoknjofdpnjioaadoor", sum := "445a862950b410a82dc366cc857ef58a952e5f15eaac8ef5e51a49804ed74698", func := "loop.example/g00722/laws.FnExactChannelName", spec := "fnExactChannelName", named := ["loop.example/g00722/impl.channelNames"], apart := false, laid := [("loop.example/g00722/impl.channelNames", laid_loop_example_g00722_impl_channelNames)] }
def FnExactChannelNameSaid : Prop := fnExactChannelNameRow.holds Tryd.pinned (OpenSpec.ofChange fnExactChannelNameSpec)

/-- ITS FALSE NEIGHBOUR: 'it returns false'. Refute it at one input. -/
def fnExactChannelNameWrong : ChangeSpec := { name := "fnExactChannelName", vars := ["loop.example/g00722/impl.channelNames"], fn := fun _ => fun
  | [d, g1] => { results := [.lit (.bool false)], args := [d], vars := [g1] }
  | _ => none }
def FnExactChannelNameWrongFalsely : Prop := fnExactChannelNameRow.holds Tryd.pinned (OpenSpec.ofChange fnExactChannelNameWrong)

/-- 'laws.FnExactCanReach': WHATEVER THE INPUT: true; the input reads as it did. -/
def fnExactCanReachSpec : ChangeSpec := { name := "fnExactCanReach", vars := ["loop.example/g00722/impl.channelMoves"], fn := fun _ => fun
  | [d1, d2, g1] => { results := [.lit (.bool true)], args := [d1, d2], vars := [g1] }
  | _ => none }
def fnExactCanReachRow : OpenClaim := { program := "ytoknjofdpnjioaadoor", sum := "445a862950b410a82dc366cc857ef58a952e5f15eaac8ef5e51a49804ed74698", func := "loop.example/g00722/laws.FnExactCanReach", spec := "fnExactCanReach", inPlace := ["sync/atomic.LoadUint32", "(*internal/sync.Mutex).Lock", "internal/race.Disable", "sync/atomic.CompareAndSwapInt32", "internal/race.Enable", "internal/race.Acquire", "(*internal/sync.Mutex).lockSlow", "internal/sync.runtime_canSpin", "internal/sync.runtime_doSpin", "internal/sync.throw", "internal/sync.runtime_nanotime", "internal/sync.runtime_SemacquireMutex", "sync/atomic.AddInt32", "(*internal/sync.Mutex).Unlock", "internal/race.ReleaseMerge", "(*internal/sync.Mutex).unlockSlow", "internal/sync.fatal", "internal/sync.runtime_Semrelease", "sync/atomic.StoreUint32"], unfollowed := true, recurses := true, named := ["loop.example/g00722/impl.channelMoves"], apart := false, laid := [("loop.example/g00722/impl.channelMoves", laid_loop_example_g00722_impl_channelMoves)] }
def FnExactCanReachSaid : Prop := fnExactCanReachRow.holds Tryd.pinned (OpenSpec.ofChange fnExactCanReachSpec)

/-- ITS FALSE NEIGHBOUR: 'it returns false'. Refute it at one input. -/
def fnExactCanReachWrong : ChangeSpec := { name := "fnExactCanReach", vars := ["loop.example/g00722/impl.channelMoves"], fn := fun _ => fun
  | [d1, d2, g1] => { results := [.lit (.bool false)], args := [d1, d2], vars := [g1] }
  | _ => none }
def FnExactCanReachWrongFalsely : Prop := fnExactCanReachRow.holds Tryd.pinned (OpenSpec.ofChange fnExactCanReachWrong)

/-- 'laws.FnExactShortestEvents': WHATEVER THE INPUT: true; the input reads as it did. -/
def fnExactShortestEventsSpec : ChangeSpec := { name := "fnExactShortestEvents", vars := ["loop.example/g00722/impl.channelMoves"], fn := fun _ => fun
  | [d1, d2, g1] => { results := [.lit (.bool true)], args := [d1, d2], vars := [g1] }
  | _ => none }
def fnExactShortestEventsRow : OpenClaim := { program := "ytoknjofdpnjioaadoor", sum := "445a862950b410a82dc366cc857ef58a952e5f15eaac8ef5e51a49804ed74698", func := "loop.example/g00722/laws.FnExactShortestEvents", spec := "fnExactShortestEvents", inPlace := ["sync/atomic.LoadUint32", "(*internal/sync.Mutex).Lock", "internal/race.Disable", "sync/atomic.CompareAndSwapInt32", "internal/race.Enable", "internal/race.Acquire", "(*internal/sync.Mutex).lockSlow", "internal/sync.runtime_canSpin", "internal/sync.runtime_doSpin", "internal/sync.throw", "internal/sync.runtime_nanotime", "internal/sync.runtime_SemacquireMutex", "sync/atomic.AddInt32", "(*internal/sync.Mutex).Unlock", "internal/race.ReleaseMerge", "(*internal/sync.Mutex).unlockSlow", "internal/sync.fatal", "internal/sync.runtime_Semrelease", "sync/atomic.StoreUint32"], unfollowed := true, recurses := true, named := ["loop.example/g00722/impl.channelMoves"], apart := false, laid := [("loop.example/g00722/impl.channelMoves", laid_loop_example_g00722_impl_channelMoves)] }
def FnExactShortestEventsSaid : Prop := fnExactShortestEventsRow.holds Tryd.pinned (OpenSpec.ofChange fnExactShortestEventsSpec)

/-- ITS FALSE NEIGHBOUR: 'it returns false'. Refute it at one input. -/
def fnExactShortestEventsWrong : ChangeSpec := { name := "fnExactShortestEvents", vars := ["loop.example/g00722/impl.channelMoves"], fn := fun _ => fun
  | [d1, d2, g1] => { results := [.lit (.bool false)], args := [d1, d2], vars := [g1] }
  | _ => none }
def FnExactShortestEventsWrongFalsely : Prop := fnExactShortestEventsRow.holds Tryd.pinned (OpenSpec.ofChange fnExactShortestEventsWrong)

/-- 'laws.FnExactWatched': WHATEVER THE INPUT: true; the input reads as it did. -/
def fnExactWatchedSpec : ChangeSpec := { name := "fnExactWatched", vars := ["loop.example/g00722/impl.channelMoves"], fn := fun _ => fun
  | [d1, d2, g1] => { results := [.lit (.bool true)], args := [d1, d2], vars := [g1] }
  | _ => none }
def fnExactWatchedRow : OpenClaim := { program := "ytoknjofdpnjioaadoor", sum := "445a862950b410a82dc366cc857ef58a952e5f15eaac8ef5e51a49804ed74698", func := "loop.example/g00722/laws.FnExactWatched", spec := "fnExactWatched", inPlace := ["sync/atomic.LoadUint32", "(*internal/sync.Mutex).Lock", "internal/race.Disable", "sync/atomic.CompareAndSwapInt32", "internal/race.Enable", "internal/race.Acquire", "(*internal/sync.Mutex).lockSlow", "internal/sync.runtime_canSpin", "internal/sync.runtime_doSpin", "internal/sync.throw", "internal/sync.runtime_nanotime", "internal/sync.runtime_SemacquireMutex", "sync/atomic.AddInt32", "(*internal/sync.Mutex).Unlock", "internal/race.ReleaseMerge", "(*internal/sync.Mutex).unlockSlow", "internal/sync.fatal", "internal/sync.runtime_Semrelease", "sync/atomic.StoreUint32"], unfollowed := true, recurses := true, named := ["loop.example/g00722/impl.channelMoves"], apart := false, laid := [("loop.example/g00722/impl.channelMoves", laid_loop_example_g00722_impl_channelMoves)] }
def FnExactWatchedSaid : Prop := fnExactWatchedRow.holds Tryd.pinned (OpenSpec.ofChange fnExactWatchedSpec)

/-- ITS FALSE NEIGHBOUR: 'it returns false'. Refute it at one input. -/
def fnExactWatchedWrong : ChangeSpec := { name := "fnExactWatched", vars := ["loop.example/g00722/impl.channelMoves"], fn := fun _ => fun
  | [d1, d2, g1] => { results := [.lit (.bool false)], args := [d1, d2], vars := [g1] }
  | _ => none }
def FnExactWatchedWrongFalsely : Prop := fnExactWatchedRow.holds Tryd.pinned (OpenSpec.ofChange fnExactWatchedWrong)

/- THE SECOND FORM. 'bulk': how many values and letters a reading holds, each counted each time it is reached (what is shared counts as often as it is met; a slice's spare places count too). A statement '..UptoSaid' is the law's where the arguments, and the package variables that the reading takes, are together of bulk at most 1048576: NARROWER than '..Said'. Prove '..Said' where nothing that the law and all that it calls make is longer than what came in: it says more and counts as full. Else prove '..UptoSaid'. A law counts once. -/
mutual
def uptoBulk {H : Type} : DataW H → Nat
  | .lit (.string bytes) => bytes.length + 1
  | .lit _ => 1
  | .nil => 1
  | .ptr d => uptoBulk d + 1
  | .slice elems spare => uptoBulkAll elems + uptoBulkAll spare + 1
  | .agg parts => uptoBulkAll parts + 1
  | .iface _ d => uptoBulk d + 1
  | .map entries => uptoBulkEntries entries + 1
  | .held _ => 1
def uptoBulkAll {H : Type} : List (DataW H) → Nat
  | [] => 0
  | d :: r => uptoBulk d + uptoBulkAll r
def uptoBulkEntries {H : Type} : List (Lit × DataW H) → Nat
  | [] => 0
  | x :: r => uptoBulkEntry x + uptoBulkEntries r
def uptoBulkEntry {H : Type} : Lit × DataW H → Nat
  | (.string bytes, d) => bytes.length + uptoBulk d + 1
  | (_, d) => uptoBulk d + 1
 end
def uptoSmall : (H : Type) → List (DataW H) → Bool := fun _ ds => decide (uptoBulkAll ds ≤ 1048576)
def OpenSpec.upto (s : _root_.Go.ChangeSpec) : _root_.Go.OpenSpec := { _root_.Go.OpenSpec.ofChange s with cond := some uptoSmall }

/-- 'laws.FnChannels', WHERE WHAT IT READS IS OF BULK AT MOST 1048576: true; the input reads as it did. -/
def fnChannelsUptoRow : OpenClaim := { program := "ytoknjofdpnjioaadoor", sum := "445a862950b410a82dc366cc857ef58a952e5f15eaac8ef5e51a49804ed74698", func := "loop.example/g00722/laws.FnChannels", spec := "fnChannels", inPlace := ["sync/atomic.LoadUint32", "(*internal/sync.Mutex).Lock", "internal/race.Disable", "sync/atomic.CompareAndSwapInt32", "internal/race.Enable", "internal/race.Acquire", "(*internal/sync.Mutex).lockSlow", "internal/sync.runtime_canSpin", "internal/sync.runtime_doSpin", "internal/sync.throw", "internal/sync.runtime_nanotime", "internal/sync.runtime_SemacquireMutex", "sync/atomic.AddInt32", "(*internal/sync.Mutex).Unlock", "internal/race.ReleaseMerge", "(*internal/sync.Mutex).unlockSlow", "internal/sync.fatal", "internal/sync.runtime_Semrelease", "sync/atomic.StoreUint32"], unfollowed := true, recurses := true, named := ["loop.example/g00722/impl.channelMoves"], apart := false, laid := [("loop.example/g00722/impl.channelMoves", laid_loop_example_g00722_impl_channelMoves)], narrowed := true }
def FnChannelsUptoSaid : Prop := fnChannelsUptoRow.holds Tryd.pinned (OpenSpec.upto fnChannelsSpec)

/-- 'laws.FnExactStepChannel', WHERE WHAT IT READS IS OF BULK AT MOST 1048576: true; the input reads as it did. -/
def fnExactStepChannelUptoRow : OpenClaim := { program := "ytoknjofdpnjioaadoor", sum := "445a862950b410a82dc366cc857ef58a952e5f15eaac8ef5e51a49804ed74698", func := "loop.example/g00722/laws.FnExactStepChannel", spec := "fnExactStepChannel", inPlace := ["sync/atomic.LoadUint32", "(*internal/sync.Mutex).Lock", "internal/race.Disable", "sync/atomic.CompareAndSwapInt32", "internal/race.Enable", "internal/race.Acquire", "(*internal/sync.Mutex).lockSlow", "internal/sync.runtime_canSpin", "internal/sync.runtime_doSpin", "internal/sync.throw", "internal/sync.runtime_nanotime", "internal/sync.runtime_SemacquireMutex", "sync/atomic.AddInt32", "(*internal/sync.Mutex).Unlock", "internal/race.ReleaseMerge", "(*internal/sync.Mutex).unlockSlow", "internal/sync.fatal", "internal/sync.runtime_Semrelease", "sync/atomic.StoreUint32"], unfollowed := true, recurses := true, named := ["loop.example/g00722/impl.channelMoves"], apart := false, laid := [("loop.example/g00722/impl.channelMoves", laid_loop_example_g00722_impl_channelMoves)], narrowed := true }
def FnExactStepChannelUptoSaid : Prop := fnExactStepChannelUptoRow.holds Tryd.pinned (OpenSpec.upto fnExactStepChannelSpec)

/-- 'laws.FnExactPlayChannel', WHERE WHAT IT READS IS OF BULK AT MOST 1048576: true; the input reads as it did. -/
def fnExactPlayChannelUptoRow : OpenClaim := { program := "ytoknjofdpnjioaadoor", sum := "445a862950b410a82dc366cc857ef58a952e5f15eaac8ef5e51a49804ed74698", func := "loop.example/g00722/laws.FnExactPlayChannel", spec := "fnExactPlayChannel", inPlace := ["sync/atomic.LoadUint32", "(*internal/sync.Mutex).Lock", "internal/race.Disable", "sync/atomic.CompareAndSwapInt32", "internal/race.Enable", "internal/race.Acquire", "(*internal/sync.Mutex).lockSlow", "internal/sync.runtime_canSpin", "internal/sync.runtime_doSpin", "internal/sync.throw", "internal/sync.runtime_nanotime", "internal/sync.runtime_SemacquireMutex", "sync/atomic.AddInt32", "(*internal/sync.Mutex).Unlock", "internal/race.ReleaseMerge", "(*internal/sync.Mutex).unlockSlow", "internal/sync.fatal", "internal/sync.runtime_Semrelease", "sync/atomic.StoreUint32"], unfollowed := true, recurses := true, named := ["loop.example/g00722/impl.channelMoves"], apart := false, laid := [("loop.example/g00722/impl.channelMoves", laid_loop_example_g00722_impl_channelMoves)], narrowed := true }
def FnExactPlayChannelUptoSaid : Prop := fnExactPlayChannelUptoRow.holds Tryd.pinned (OpenSpec.upto fnExactPlayChannelSpec)

/-- 'laws.FnExactChannelName', WHERE WHAT IT READS IS OF BULK AT MOST 1048576: true; the input reads as it did. -/
def fnExactChannelNameUptoRow : OpenClaim := { program := "ytoknjofdpnjioaadoor", sum := "445a862950b410a82dc366cc857ef58a952e5f15eaac8ef5e51a49804ed74698", func := "loop.example/g00722/laws.FnExactChannelName", spec := "fnExactChannelName", named := ["loop.example/g00722/impl.channelNames"], apart := false, laid := [("loop.example/g00722/impl.channelNames", laid_loop_example_g00722_impl_channelNames)], narrowed := true }
def FnExactChannelNameUptoSaid : Prop := fnExactChannelNameUptoRow.holds Tryd.pinned (OpenSpec.upto fnExactChannelNameSpec)

/-- 'laws.FnExactCanReach', WHERE WHAT IT READS IS OF BULK AT MOST 1048576: true; the input reads as it did. -/
def fnExactCanReachUptoRow : OpenClaim := { program := "ytoknjofdpnjioaadoor", sum := "445a862950b410a82dc366cc857ef58a952e5f15eaac8ef5e51a49804ed74698", func := "loop.example/g00722/laws.FnExactCanReach", spec := "fnExactCanReach", inPlace := ["sync/atomic.LoadUint32", "(*internal/sync.Mutex).Lock", "internal/race.Disable", "sync/atomic.CompareAndSwapInt32", "internal/race.Enable", "internal/race.Acquire", "(*internal/sync.Mutex).lockSlow", "internal/sync.runtime_canSpin", "internal/sync.runtime_doSpin", "internal/sync.throw", "internal/sync.runtime_nanotime", "internal/sync.runtime_SemacquireMutex", "sync/atomic.AddInt32", "(*internal/sync.Mutex).Unlock", "internal/race.ReleaseMerge", "(*internal/sync.Mutex).unlockSlow", "internal/sync.fatal", "internal/sync.runtime_Semrelease", "sync/atomic.StoreUint32"], unfollowed := true, recurses := true, named := ["loop.example/g00722/impl.channelMoves"], apart := false, laid := [("loop.example/g00722/impl.channelMoves", laid_loop_example_g00722_impl_channelMoves)], narrowed := true }
def FnExactCanReachUptoSaid : Prop := fnExactCanReachUptoRow.holds Tryd.pinned (OpenSpec.upto fnExactCanReachSpec)

/-- 'laws.FnExactShortestEvents', WHERE WHAT IT READS IS OF BULK AT MOST 1048576: true; the input reads as it did. -/
def fnExactShortestEventsUptoRow : OpenClaim := { program := "ytoknjofdpnjioaadoor", sum := "445a862950b410a82dc366cc857ef58a952e5f15eaac8ef5e51a49804ed74698", func := "loop.example/g00722/laws.FnExactShortestEvents", spec := "fnExactShortestEvents", inPlace := ["sync/atomic.LoadUint32", "(*internal/sync.Mutex).Lock", "internal/race.Disable", "sync/atomic.CompareAndSwapInt32", "internal/race.Enable", "internal/race.Acquire", "(*internal/sync.Mutex).lockSlow", "internal/sync.runtime_canSpin", "internal/sync.runtime_doSpin", "internal/sync.throw", "internal/sync.runtime_nanotime", "internal/sync.runtime_SemacquireMutex", "sync/atomic.AddInt32", "(*internal/sync.Mutex).Unlock", "internal/race.ReleaseMerge", "(*internal/sync.Mutex).unlockSlow", "internal/sync.fatal", "internal/sync.runtime_Semrelease", "sync/atomic.StoreUint32"], unfollowed := true, recurses := true, named := ["loop.example/g00722/impl.channelMoves"], apart := false, laid := [("loop.example/g00722/impl.channelMoves", laid_loop_example_g00722_impl_channelMoves)], narrowed := true }
def FnExactShortestEventsUptoSaid : Prop := fnExactShortestEventsUptoRow.holds Tryd.pinned (OpenSpec.upto fnExactShortestEventsSpec)

/-- 'laws.FnExactWatched', WHERE WHAT IT READS IS OF BULK AT MOST 1048576: true; the input reads as it did. -/
def fnExactWatchedUptoRow : OpenClaim := { program := "ytoknjofdpnjioaadoor", sum := "445a862950b410a82dc366cc857ef58a952e5f15eaac8ef5e51a49804ed74698", func := "loop.example/g00722/laws.FnExactWatched", spec := "fnExactWatched", inPlace := ["sync/atomic.LoadUint32", "(*internal/sync.Mutex).Lock", "internal/race.Disable", "sync/atomic.CompareAndSwapInt32", "internal/race.Enable", "internal/race.Acquire", "(*internal/sync.Mutex).lockSlow", "internal/sync.runtime_canSpin", "internal/sync.runtime_doSpin", "internal/sync.throw", "internal/sync.runtime_nanotime", "internal/sync.runtime_SemacquireMutex", "sync/atomic.AddInt32", "(*internal/sync.Mutex).Unlock", "internal/race.ReleaseMerge", "(*internal/sync.Mutex).unlockSlow", "internal/sync.fatal", "internal/sync.runtime_Semrelease", "sync/atomic.StoreUint32"], unfollowed := true, recurses := true, named := ["loop.example/g00722/impl.channelMoves"], apart := false, laid := [("loop.example/g00722/impl.channelMoves", laid_loop_example_g00722_impl_channelMoves)], narrowed := true }
def FnExactWatchedUptoSaid : Prop := fnExactWatchedUptoRow.holds Tryd.pinned (OpenSpec.upto fnExactWatchedSpec)

end Rows
end Go.Proofs.YtoknjofdpnjioaaDoor
