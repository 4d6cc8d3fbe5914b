
/-
  The empty cache of a shape, right or not, as both sides lay it. No conditions.
-/
import Derived.Test.YtmbpmhmehiiiaaaCem
namespace Go.Proofs.Ytmbpmhmehiiiaaa
open Go.ChangeShapes Go.WideShapes Go.ChangeAt Go.RowKit Go.Deep
set_option linter.unusedVariables false

theorem rows_zero (w : World) (lo hi : Nat) (a : Option Addr) (D : Nat → List Wy) : ORows w lo hi a 0 D :=
  ⟨0, 0, fun _ => none, fun _ => 0, fun _ => 0, fun h => absurd h (by omega), ⟨fun i hi => absurd hi (by omega), fun i hi => absurd hi (by omega), fun i hi => absurd hi (by omega), fun i hi => absurd hi (by omega), fun i j hi => absurd hi (by omega)⟩⟩
/-- A cache is handed back that reads so, in memory of the call's own. -/
def CPost (X : World) (s y l : Int) (n : Nat) (D : Nat → List Wy) (e : Ending) (w' : World) : Prop :=
  ∃ a cap, e = .returned (cch s y l (.slice a n cap)) ∧ Below X.heap.size X w' ∧ ORows w' X.heap.size w'.heap.size a n D
theorem cem_alike (s y l : Int) : ∃ (s1 y1 l1 : Int) (n1 : Nat), n1 ≤ 16 ∧ (∀ X, Calls Try.prog 23 #[shp s y l] X (CPost X s1 y1 l1 n1 noD)) ∧ (∀ X, Calls Try.prog 8 #[shp s y l] X (CPost X s1 y1 l1 n1 noD)) := by
  by_cases hsh : shapeOk s y l = true
  · have hp := shapeOk_parts hsh
    obtain ⟨n, rfl⟩ : ∃ n : Nat, s = (n : Int) := ⟨s.toNat, by omega⟩
    refine ⟨n, y, l, n, by omega, fun X => ?_, fun X => ?_⟩
    · exact (spec_cem n y l X hsh).mono fun e w' h => h
    · refine (impl_cem n y l X hsh).mono fun e w' h => ?_
      obtain ⟨B, h1, h2, h3, h4⟩ := h
      exact ⟨_, _, h1, h2, rows_empty h3 h4⟩
  · have hsh' : shapeOk s y l = false := by simpa using hsh
    exact ⟨0, 0, 0, 0, by omega, fun X => (spec_cem_no s y l X hsh').mono fun e w' h => ⟨_, _, h.1, h.2, rows_zero _ _ _ _ _⟩, fun X => (impl_cem_no s y l X hsh').mono fun e w' h => ⟨_, _, h.1, h.2, rows_zero _ _ _ _ _⟩⟩
end Go.Proofs.Ytmbpmhmehiiiaaa
