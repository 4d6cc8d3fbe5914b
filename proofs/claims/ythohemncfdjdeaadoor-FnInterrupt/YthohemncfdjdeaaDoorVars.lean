/-
  What the library's laid table gives a walk, and that it reads as before behind one: plain facts on the variable. Condition: the variable reads as its text lays it.
-/
import Derived.Test.YthohemncfdjdeaaDoorVdu
import Derived.ProofKit
import Derived.LaidMore
import Derived.OpenShut
import Derived.Stop.Joined
import Derived.Stop.LaidErr
import Derived.SevenTiedAt
import Derived.Lib.LaidTab
import Derived.ChangeVars
namespace Go.Proofs.YthohemncfdjdeaaDoor
open Go.ChangeShapes Go.WideShapes Go.ChangeAt Go.WideMaps Go.WideElems Go.RowKit
set_option linter.unusedVariables false

theorem own : ownKnob Tryd.prog.godebug = none := by kernel_rfl
abbrev laidF : List (String × DataW Unit) := Rows.fnExactDueRow.laid
def dbt : List Int := [0, 1, 28, 2, 29, 14, 24, 3, 30, 22, 20, 15, 25, 17, 4, 8, 31, 27, 13, 23, 21, 19, 16, 7, 26, 12, 18, 6, 11, 5, 10, 9]
theorem dbt_at : ∀ i, i < 32 → dbt.getD i 0 = ((Lib.deBruijn32tab.getD i 0 : Nat) : Int) := by decide +kernel
theorem gForms : Tryd.prog.globalNamed "math/bits.deBruijn32tab" = some 0 := by kernel_rfl
theorem tForms : (Tryd.prog.globals[0]?).map (·.type) = some 60 := by kernel_rfl
theorem forms_met (os : Os) (args : Array Value) : laidMetH Tryd.prog laidF ((World.doorLaid Tryd.prog 40 os).forCall (fun _ _ => 0) ⟨#[], args, []⟩).memory :=
  laidMetH_of_parts3 (fuel := 8) (laidMet_of_run' 8 (by kernel_rfl) (by kernel_rfl)) (by kernel_rfl) (by kernel_rfl)
theorem forms_of_laid {W : World} (h : laidMetH Tryd.prog laidF W) : Lib.TabIs Tryd.prog W "math/bits.deBruijn32tab" .u8 dbt := by
  rw [MakeChecks.laidMetH_plain _ _ _ (by kernel_rfl)] at h
  have h2 : laidMet Tryd.prog (("math/bits.deBruijn32tab", Lib.tabData .u8 dbt) :: []) W := h
  exact Lib.tabIs_of_head (g := 0) (t := 60) (e := 5) (n := 32) (by kernel_rfl) (by kernel_rfl) Tryd.underlying60 Tryd.underlying5 (by kernel_rfl) (by kernel_rfl) h2
theorem tab_of {W : World} (h : Lib.TabIs Tryd.prog W "math/bits.deBruijn32tab" .u8 dbt) : TabB W := fun i hi => by
  have := World.var?_cell gForms h i
  have hl : i < dbt.length := hi
  rw [← dbt_at i hi, this]
  simp [hl]
end Go.Proofs.YthohemncfdjdeaaDoor
