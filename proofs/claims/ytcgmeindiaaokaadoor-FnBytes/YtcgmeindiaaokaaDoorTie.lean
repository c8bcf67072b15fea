/-
  DERIVED. GIVEN WITH THE SEED: THE PROGRAM's TIES (one call each: nine closed facts by the kernel) AND EACH ROW's TIE, after the 31st guide's Derived/Test/Toyas{Tie, Card}.lean. No idea stands in it: it is a product of the set-up. Laid BY PROGRAM, IN A SANDBOX (cutbox-door.mjs). By AI agents, Wed Nov 11 2026. No macro, syntax, notation, axiom, sorry.
-/
import Derived.Test.YtcgmeindiaaokaaDoorRows
import Derived.LaidByTextLater
import Derived.SevenTiedAt
import Derived.LaidSub
import Derived.LaidOnce
namespace Go.Proofs.YtcgmeindiaaokaaDoor
open Go
set_option maxRecDepth 100000
theorem seatTie1 : Tryd.prog.laidByTextLater [("loop.example/g00722/impl.errAtEnd", Rows.laid_loop_example_g00722_impl_errAtEnd), ("loop.example/g00722/impl.errNone", Rows.laid_loop_example_g00722_impl_errNone), ("loop.example/g00722/impl.errFull", Rows.laid_loop_example_g00722_impl_errFull)] [.sentinel, .sentinel, .sentinel] true :=
  Program.laidByTextLater_by_one 66 8 2 (by kernel_rfl) (by kernel_rfl) (by kernel_rfl) (by kernel_rfl) (by kernel_rfl) (by kernel_rfl) (fun _ _ => by kernel_rfl)
theorem noOwnUnsafe : Tryd.pinned.checked.prog.headLifts.contains "ownunsafe" = false := by kernel_rfl
theorem tie : Tryd.prog.laidByTextLater [("loop.example/g00722/impl.errAtEnd", Rows.laid_loop_example_g00722_impl_errAtEnd), ("loop.example/g00722/impl.errNone", Rows.laid_loop_example_g00722_impl_errNone), ("loop.example/g00722/impl.errFull", Rows.laid_loop_example_g00722_impl_errFull)] [.sentinel, .sentinel, .sentinel] true :=
  Program.laidByTextLater.sub seatTie1 ["loop.example/g00722/impl.errAtEnd", "loop.example/g00722/impl.errNone", "loop.example/g00722/impl.errFull"] (by kernel_rfl) (by kernel_rfl)
theorem fnBytes_row_tie : Rows.fnBytesRow.laidByTextAt .later Tryd.pinned [.sentinel, .sentinel, .sentinel] true :=
  OpenClaim.laidByTextAt_later rfl rfl tie noOwnUnsafe
theorem fnExactTakeLog_row_tie : Rows.fnExactTakeLogRow.laidByTextAt .later Tryd.pinned [.sentinel, .sentinel, .sentinel] true :=
  OpenClaim.laidByTextAt_later rfl rfl tie noOwnUnsafe
theorem fnExactTakeMost_row_tie : Rows.fnExactTakeMostRow.laidByTextAt .later Tryd.pinned [.sentinel, .sentinel, .sentinel] true :=
  OpenClaim.laidByTextAt_later rfl rfl tie noOwnUnsafe
theorem tie2 : Tryd.prog.laidByTextLater [("loop.example/g00722/impl.errNone", Rows.laid_loop_example_g00722_impl_errNone)] [.sentinel] true :=
  Program.laidByTextLater.sub seatTie1 ["loop.example/g00722/impl.errNone"] (by kernel_rfl) (by kernel_rfl)
theorem fnExactTakeNumber_row_tie : Rows.fnExactTakeNumberRow.laidByTextAt .later Tryd.pinned [.sentinel] true :=
  OpenClaim.laidByTextAt_later rfl rfl tie2 noOwnUnsafe
theorem tie3 : Tryd.prog.laidByTextLater [("loop.example/g00722/impl.errAtEnd", Rows.laid_loop_example_g00722_impl_errAtEnd), ("loop.example/g00722/impl.errNone", Rows.laid_loop_example_g00722_impl_errNone)] [.sentinel, .sentinel] true :=
  Program.laidByTextLater.sub seatTie1 ["loop.example/g00722/impl.errAtEnd", "loop.example/g00722/impl.errNone"] (by kernel_rfl) (by kernel_rfl)
theorem fnExactTakeEvent_row_tie : Rows.fnExactTakeEventRow.laidByTextAt .later Tryd.pinned [.sentinel, .sentinel] true :=
  OpenClaim.laidByTextAt_later rfl rfl tie3 noOwnUnsafe
theorem fnBytesUpto_row_tie : Rows.fnBytesUptoRow.laidByTextAt .later Tryd.pinned [.sentinel, .sentinel, .sentinel] true :=
  OpenClaim.laidByTextAt_later rfl rfl tie noOwnUnsafe
theorem fnExactTakeNumberUpto_row_tie : Rows.fnExactTakeNumberUptoRow.laidByTextAt .later Tryd.pinned [.sentinel] true :=
  OpenClaim.laidByTextAt_later rfl rfl tie2 noOwnUnsafe
theorem fnExactTakeEventUpto_row_tie : Rows.fnExactTakeEventUptoRow.laidByTextAt .later Tryd.pinned [.sentinel, .sentinel] true :=
  OpenClaim.laidByTextAt_later rfl rfl tie3 noOwnUnsafe
theorem fnExactTakeLogUpto_row_tie : Rows.fnExactTakeLogUptoRow.laidByTextAt .later Tryd.pinned [.sentinel, .sentinel, .sentinel] true :=
  OpenClaim.laidByTextAt_later rfl rfl tie noOwnUnsafe
theorem fnExactTakeMostUpto_row_tie : Rows.fnExactTakeMostUptoRow.laidByTextAt .later Tryd.pinned [.sentinel, .sentinel, .sentinel] true :=
  OpenClaim.laidByTextAt_later rfl rfl tie noOwnUnsafe
end Go.Proofs.YtcgmeindiaaokaaDoor
