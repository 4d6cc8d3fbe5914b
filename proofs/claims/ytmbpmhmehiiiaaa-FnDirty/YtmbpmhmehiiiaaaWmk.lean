
/-
  The marks that are laid into rows of the call's own, and how they are looked up. Conditions: the ways are at most 1048576 together, the first mark is at most 1000.
-/
import Derived.Test.YtmbpmhmehiiiaaaRows
import Derived.Test.YtmbpmhmehiiiaaaWpb
import Derived.Test.YtmbpmhmehiiiaaaWeq
namespace Go.Proofs.Ytmbpmhmehiiiaaa
open Go.ChangeShapes Go.WideShapes Go.ChangeAt Go.RowKit Go.Deep
set_option linter.unusedVariables false

theorem rem3 (K : Nat) : (((K : Nat) : Int) % 3 == 0) = decide (K % 3 = 0) := by
  by_cases h : K % 3 = 0
  · rw [decide_eq_true h]; simp; omega
  · rw [decide_eq_false h]; simp; omega
theorem markD_len (k : Nat) (D : Nat → List Wy) (i : Nat) : (markD k D i).length = (D i).length := by simp [markD, markWs_len]
end Go.Proofs.Ytmbpmhmehiiiaaa
