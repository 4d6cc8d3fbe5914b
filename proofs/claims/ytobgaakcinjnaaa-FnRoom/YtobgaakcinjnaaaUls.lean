
/-
  What the laws' helpers on lists of words do: the measure, a copy, whether two read alike, the marks. Conditions: the lists read as words; a list that is marked is the call's own; lengths are at most 1048576.
-/
import Derived.Test.YtobgaakcinjnaaaProg
import Derived.Test.YtobgaakcinjnaaaBys
import Derived.Deep.RegionHeld3
import Derived.Deep.QuietTactic
import Derived.BigQuiet
namespace Go.Proofs.Ytobgaakcinjnaaa
open Go.ChangeShapes Go.WideShapes Go.ChangeAt Go.RowKit Go.Deep
set_option linter.unusedVariables false

theorem infoU : (Try.prog.info? 33).map (fun i => (i.zero, i.size, i.bytes)) = some (some (.int .u32 0), 1, 4) := by kernel_rfl
theorem run_make_regs (n : Nat) (hn : n ≤ 1048576) (w : World) : (Instr.makeSlice 26 (.int .i64 (n : Int)) (.int .i64 (n : Int))).run Try.prog w = .ok (.slice (some ⟨w.heap.size, 0, none⟩) n n) (w.alloc (.cells (madeCells #[.int .u32 0] n) 33)) :=
  run_make_row' (P := Try.prog) 26 33 (.int .u32 0) 4 Try.underlying26 infoU rfl .i64 .i64 n (by omega) (by omega) w
end Go.Proofs.Ytobgaakcinjnaaa
