/-
  DERIVED. GIVEN WITH THE SEED: THE PROGRAM's TIES (one call each: nine closed facts by the kernel) AND EACH ROW's TIE, after the 31st guide's Derived/Test/Toyas{Tie, Card}.lean. No idea stands in it: it is a product of the set-up. Laid BY PROGRAM, IN A SANDBOX (cutbox-door.mjs). By AI agents, Wed Nov 11 2026. No macro, syntax, notation, axiom, sorry.
-/
import Derived.Test.YtedmdilabbolaaaGreatDoorRows
import Derived.LaidByTextLater
import Derived.SevenTiedAt
import Derived.LaidSub
import Derived.LaidOnce
namespace Go.Proofs.YtedmdilabbolaaaGreatDoor
open Go
set_option maxRecDepth 100000
theorem seatTie1 : Tryz.prog.laidByTextLater [("loop.example/g00360/impl.halfSums", Rows.laid_loop_example_g00360_impl_halfSums), ("loop.example/g00360/impl.errFrameShort", Rows.laid_loop_example_g00360_impl_errFrameShort), ("loop.example/g00360/impl.errFrameLength", Rows.laid_loop_example_g00360_impl_errFrameLength), ("loop.example/g00360/impl.errFrameSum", Rows.laid_loop_example_g00360_impl_errFrameSum)] [.data, .sentinel, .sentinel, .sentinel] true :=
  Program.laidByTextLater_by_one 71 8 17 (by kernel_rfl) (by kernel_rfl) (by kernel_rfl) (by kernel_rfl) (by kernel_rfl) (by kernel_rfl) (fun _ _ => by kernel_rfl)
theorem noOwnUnsafe : Tryz.pinned.checked.prog.headLifts.contains "ownunsafe" = false := by kernel_rfl
theorem tie : Tryz.prog.laidByTextLater [("loop.example/g00360/impl.halfSums", Rows.laid_loop_example_g00360_impl_halfSums), ("loop.example/g00360/impl.errFrameShort", Rows.laid_loop_example_g00360_impl_errFrameShort), ("loop.example/g00360/impl.errFrameLength", Rows.laid_loop_example_g00360_impl_errFrameLength), ("loop.example/g00360/impl.errFrameSum", Rows.laid_loop_example_g00360_impl_errFrameSum)] [.data, .sentinel, .sentinel, .sentinel] true :=
  Program.laidByTextLater.sub seatTie1 ["loop.example/g00360/impl.halfSums", "loop.example/g00360/impl.errFrameShort", "loop.example/g00360/impl.errFrameLength", "loop.example/g00360/impl.errFrameSum"] (by kernel_rfl) (by kernel_rfl)
theorem fnExactRouterOk_row_tie : Rows.fnExactRouterOkRow.laidByTextAt .later Tryz.pinned [.data, .sentinel, .sentinel, .sentinel] true :=
  OpenClaim.laidByTextAt_later rfl rfl tie noOwnUnsafe
theorem fnExactRouterSay_row_tie : Rows.fnExactRouterSayRow.laidByTextAt .later Tryz.pinned [.data, .sentinel, .sentinel, .sentinel] true :=
  OpenClaim.laidByTextAt_later rfl rfl tie noOwnUnsafe
theorem fnCalled_row_tie : Rows.fnCalledRow.laidByTextAt .later Tryz.pinned [.data, .sentinel, .sentinel, .sentinel] true :=
  OpenClaim.laidByTextAt_later rfl rfl tie noOwnUnsafe
theorem fnExactRouterOkUpto_row_tie : Rows.fnExactRouterOkUptoRow.laidByTextAt .later Tryz.pinned [.data, .sentinel, .sentinel, .sentinel] true :=
  OpenClaim.laidByTextAt_later rfl rfl tie noOwnUnsafe
theorem fnExactRouterSayUpto_row_tie : Rows.fnExactRouterSayUptoRow.laidByTextAt .later Tryz.pinned [.data, .sentinel, .sentinel, .sentinel] true :=
  OpenClaim.laidByTextAt_later rfl rfl tie noOwnUnsafe
theorem fnCalledUpto_row_tie : Rows.fnCalledUptoRow.laidByTextAt .later Tryz.pinned [.data, .sentinel, .sentinel, .sentinel] true :=
  OpenClaim.laidByTextAt_later rfl rfl tie noOwnUnsafe
end Go.Proofs.YtedmdilabbolaaaGreatDoor
