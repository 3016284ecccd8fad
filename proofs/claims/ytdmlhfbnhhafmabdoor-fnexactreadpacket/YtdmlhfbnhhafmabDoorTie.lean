/-
  DERIVED. GIVEN WITH THE SEED: THE PROGRAM's TIES (one call each: nine closed facts by the kernel) AND EACH ROW's TIE, after the 31st guide's Derived/Test/Toyas{Tie, Card}.lean. No idea stands in it: it is a product of the set-up. Laid BY PROGRAM, IN A SANDBOX (cutbox-door.mjs). By AI agents, Wed Nov 11 2026. No macro, syntax, notation, axiom, sorry.
-/
import Derived.Test.YtdmlhfbnhhafmabDoorRows
import Derived.LaidByTextLater
import Derived.SevenTiedAt
import Derived.LaidSub
import Derived.LaidOnce
namespace Go.Proofs.YtdmlhfbnhhafmabDoor
open Go
set_option maxRecDepth 100000
theorem seatTie1 : Tryd.prog.laidByTextLater [("errors.errorType", Rows.laid_errors_errorType), ("loop.example/kilnwind/impl.errSeal", Rows.laid_loop_example_kilnwind_impl_errSeal), ("loop.example/kilnwind/impl.errShort", Rows.laid_loop_example_kilnwind_impl_errShort), ("loop.example/kilnwind/impl.errSize", Rows.laid_loop_example_kilnwind_impl_errSize), ("loop.example/kilnwind/impl.errTag", Rows.laid_loop_example_kilnwind_impl_errTag), ("loop.example/kilnwind/impl.errMark", Rows.laid_loop_example_kilnwind_impl_errMark), ("loop.example/kilnwind/impl.errRange", Rows.laid_loop_example_kilnwind_impl_errRange)] [.handle, .sentinel, .sentinel, .sentinel, .sentinel, .sentinel, .sentinel] true :=
  Program.laidByTextLater_by_one 130 8 2 (by kernel_rfl) (by kernel_rfl) (by kernel_rfl) (by kernel_rfl) (by kernel_rfl) (by kernel_rfl) (fun _ _ => by kernel_rfl)
theorem noOwnUnsafe : Tryd.pinned.checked.prog.headLifts.contains "ownunsafe" = false := by kernel_rfl
theorem tie : Tryd.prog.laidByTextLater [("errors.errorType", Rows.laid_errors_errorType), ("loop.example/kilnwind/impl.errSeal", Rows.laid_loop_example_kilnwind_impl_errSeal), ("loop.example/kilnwind/impl.errShort", Rows.laid_loop_example_kilnwind_impl_errShort), ("loop.example/kilnwind/impl.errSize", Rows.laid_loop_example_kilnwind_impl_errSize), ("loop.example/kilnwind/impl.errTag", Rows.laid_loop_example_kilnwind_impl_errTag), ("loop.example/kilnwind/impl.errMark", Rows.laid_loop_example_kilnwind_impl_errMark), ("loop.example/kilnwind/impl.errRange", Rows.laid_loop_example_kilnwind_impl_errRange)] [.handle, .sentinel, .sentinel, .sentinel, .sentinel, .sentinel, .sentinel] true :=
  Program.laidByTextLater.sub seatTie1 ["errors.errorType", "loop.example/kilnwind/impl.errSeal", "loop.example/kilnwind/impl.errShort", "loop.example/kilnwind/impl.errSize", "loop.example/kilnwind/impl.errTag", "loop.example/kilnwind/impl.errMark", "loop.example/kilnwind/impl.errRange"] (by kernel_rfl) (by kernel_rfl)
theorem fnExactReadPacket_row_tie : Rows.fnExactReadPacketRow.laidByTextAt .later Tryd.pinned [.handle, .sentinel, .sentinel, .sentinel, .sentinel, .sentinel, .sentinel] true :=
  OpenClaim.laidByTextAt_later rfl rfl tie noOwnUnsafe
theorem fnExactReadPacketUpto_row_tie : Rows.fnExactReadPacketUptoRow.laidByTextAt .later Tryd.pinned [.handle, .sentinel, .sentinel, .sentinel, .sentinel, .sentinel, .sentinel] true :=
  OpenClaim.laidByTextAt_later rfl rfl tie noOwnUnsafe
end Go.Proofs.YtdmlhfbnhhafmabDoor
