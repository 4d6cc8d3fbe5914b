/-
  DERIVED. GIVEN WITH THE SEED: THE PROGRAM's TIES (one call each: nine closed facts by the kernel) AND EACH ROW's TIE, after the 31st guide's Derived/Test/Toyas{Tie, Card}.lean. No idea stands in it: it is a product of the set-up. Laid BY PROGRAM, IN A SANDBOX (cutbox-door.mjs). By AI agents, Wed Nov 11 2026. No macro, syntax, notation, axiom, sorry.
-/
import Derived.Test.YtiekejplgoomfabDoorRows
import Derived.LaidByTextLater
import Derived.SevenTiedAt
import Derived.LaidSub
import Derived.LaidOnce
namespace Go.Proofs.YtiekejplgoomfabDoor
open Go
set_option maxRecDepth 100000
theorem seatTie1 : Tryd.prog.laidByTextLater [("loop.example/g00076/impl.opForms", Rows.laid_loop_example_g00076_impl_opForms), ("loop.example/g00076/impl.opWrites", Rows.laid_loop_example_g00076_impl_opWrites), ("loop.example/g00076/impl.opReads", Rows.laid_loop_example_g00076_impl_opReads)] [.data, .data, .data] true :=
  Program.laidByTextLater_by_one 24 8 34 (by kernel_rfl) (by kernel_rfl) (by kernel_rfl) (by kernel_rfl) (by kernel_rfl) (by kernel_rfl) (fun _ _ => by kernel_rfl)
theorem noOwnUnsafe : Tryd.pinned.checked.prog.headLifts.contains "ownunsafe" = false := by kernel_rfl
theorem tie : Tryd.prog.laidByTextLater [("loop.example/g00076/impl.opForms", Rows.laid_loop_example_g00076_impl_opForms), ("loop.example/g00076/impl.opWrites", Rows.laid_loop_example_g00076_impl_opWrites)] [.data, .data] true :=
  Program.laidByTextLater.sub seatTie1 ["loop.example/g00076/impl.opForms", "loop.example/g00076/impl.opWrites"] (by kernel_rfl) (by kernel_rfl)
theorem fnExactWrites_row_tie : Rows.fnExactWritesRow.laidByTextAt .later Tryd.pinned [.data, .data] true :=
  OpenClaim.laidByTextAt_later rfl rfl tie noOwnUnsafe
theorem tie2 : Tryd.prog.laidByTextLater [("loop.example/g00076/impl.opForms", Rows.laid_loop_example_g00076_impl_opForms), ("loop.example/g00076/impl.opReads", Rows.laid_loop_example_g00076_impl_opReads)] [.data, .data] true :=
  Program.laidByTextLater.sub seatTie1 ["loop.example/g00076/impl.opForms", "loop.example/g00076/impl.opReads"] (by kernel_rfl) (by kernel_rfl)
theorem fnExactReads_row_tie : Rows.fnExactReadsRow.laidByTextAt .later Tryd.pinned [.data, .data] true :=
  OpenClaim.laidByTextAt_later rfl rfl tie2 noOwnUnsafe
theorem fnExactWritesUpto_row_tie : Rows.fnExactWritesUptoRow.laidByTextAt .later Tryd.pinned [.data, .data] true :=
  OpenClaim.laidByTextAt_later rfl rfl tie noOwnUnsafe
theorem fnExactReadsUpto_row_tie : Rows.fnExactReadsUptoRow.laidByTextAt .later Tryd.pinned [.data, .data] true :=
  OpenClaim.laidByTextAt_later rfl rfl tie2 noOwnUnsafe
end Go.Proofs.YtiekejplgoomfabDoor
