
/-
  Whether a cache is right: the specification's own function tells it. Conditions: the rows and their ways are at most 1048576 together.
-/
import Derived.Test.YtmbpmhmehiiiaaaRows
import Derived.Test.YtmbpmhmehiiiaaaWeq
import Derived.Deep.QuietTactic
import Derived.BigQuiet
namespace Go.Proofs.Ytmbpmhmehiiiaaa
open Go.ChangeShapes Go.WideShapes Go.ChangeAt Go.RowKit Go.Deep
set_option linter.unusedVariables false

abbrev tg (ws : List Wy) (i : Nat) : Int := (ws.getD i wd).1
def rowGood (ws : List Wy) (i : Nat) : Prop := (0 ≤ tg ws i ∧ tg ws i ≤ 65535) ∧ ∀ k, k < i → tg ws k ≠ tg ws i
def RowOk (y : Int) (ws : List Wy) : Prop := (ws.length : Int) ≤ y ∧ ∀ i, i < ws.length → rowGood ws i
def CacheOkP (s y l : Int) (n : Nat) (D : Nat → List Wy) : Prop := shapeOk s y l = true ∧ (n : Int) = s ∧ ∀ i, i < n → RowOk y (D i)
theorem told (P : Prop) : ∃ q : Bool, q = true ↔ P := by
  by_cases h : P
  · exact ⟨true, by simp [h]⟩
  · exact ⟨false, by simp [h]⟩
theorem told_no {P : Prop} {q : Bool} (hq : q = true ↔ P) (h : ¬ P) : false = q := by
  cases q
  · rfl
  · exact absurd (hq.1 rfl) h
theorem told_yes {P : Prop} {q : Bool} (hq : q = true ↔ P) (h : P) : true = q := (hq.2 h).symm
end Go.Proofs.Ytmbpmhmehiiiaaa
