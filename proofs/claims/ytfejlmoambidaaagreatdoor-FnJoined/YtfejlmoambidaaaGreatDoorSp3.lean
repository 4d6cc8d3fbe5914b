/-
  The numbers of tables: the specification's own function. No conditions.
  A partition that is right: the specification's own function. Conditions: its name and its windows are at most 1048576.
  Partitions that are right, one and all: the specification's own function. Conditions: names and windows are at most 1048576.
-/
import Derived.Test.YtfejlmoambidaaaGreatDoorBas
import Derived.Test.YtfejlmoambidaaaGreatDoorRul
import Derived.BigQuiet
import Derived.Test.YtfejlmoambidaaaGreatDoorPev
import Derived.Test.YtfejlmoambidaaaGreatDoorClo3
namespace Go.Proofs.YtfejlmoambidaaaGreatDoor
open Go.ChangeShapes Go.WideShapes Go.ChangeAt Go.RowKit Go.Deep Go.Joins
set_option linter.unusedVariables false

/-- The rules on numbers. -/
def HeadP (t : Tb) : Prop := (64 ≤ t.mem ∧ t.mem ≤ 2048) ∧ t.mem % 4 = 0 ∧ shapeOk t.s1 t.s2 t.s3 = true ∧ (1 ≤ t.tlb ∧ t.tlb ≤ 8) ∧ costsOk t.c1 t.c2 t.c3 t.c4 t.c5 t.c6 t.c7 = true ∧ (1 ≤ t.pad ∧ t.pad ≤ 5000) ∧ (1 ≤ t.grd ∧ t.grd ≤ 5000) ∧ (1 ≤ t.maj ∧ t.maj ≤ 5000) ∧ worstStep t.c1 t.c2 t.c3 t.c4 t.c5 t.c6 t.c7 ≤ t.grd
end Go.Proofs.YtfejlmoambidaaaGreatDoor
namespace Go.Proofs.YtfejlmoambidaaaGreatDoor
open Go.ChangeShapes Go.WideShapes Go.ChangeAt Go.RowKit Go.Deep Go.Joins
set_option linter.unusedVariables false

def PartP (p : Pt) (mem : Int) : Prop := Lab.nok (Tx.nums p.nm) = true ∧ polOk p.kd p.ms = true ∧ (1 ≤ p.ws.length ∧ p.ws.length ≤ 4) ∧ (∀ j, j < p.ws.length → WOk (p.ws.getD j wi0) ∧ (p.ws.getD j wi0).1 + (p.ws.getD j wi0).2.1 ≤ mem) ∧ (∃ j, j < p.ws.length ∧ Has (p.ws.getD j wi0) p.en ∧ 4 ≤ (p.ws.getD j wi0).2.2) ∧ p.en % 4 = 0
theorem div4 (x : Int) (h : 1 ≤ x ∧ x ≤ 7) : (Int.tdiv x 4 == 1) = decide (4 ≤ x) ∧ (x / 4 == 1) = decide (4 ≤ x) ∧ (wrap64 (Int.tdiv x 4) == 1) = decide (4 ≤ x) := by
  have : x = 1 ∨ x = 2 ∨ x = 3 ∨ x = 4 ∨ x = 5 ∨ x = 6 ∨ x = 7 := by omega
  rcases this with rfl | rfl | rfl | rfl | rfl | rfl | rfl <;> decide +kernel
end Go.Proofs.YtfejlmoambidaaaGreatDoor
namespace Go.Proofs.YtfejlmoambidaaaGreatDoor
open Go.ChangeShapes Go.WideShapes Go.ChangeAt Go.RowKit Go.Deep Go.Joins
set_option linter.unusedVariables false

def Meet (x y : wiT) : Prop := x.1 < y.1 + y.2.1 ∧ y.1 < x.1 + x.2.1
def PartsP (ps : List Pt) (mem : Int) : Prop := (1 ≤ ps.length ∧ ps.length ≤ 6) ∧ (∀ i, i < ps.length → PartP (ps.getD i pt0) mem ∧ ∀ j, j < i → (ps.getD j pt0).nm ≠ (ps.getD i pt0).nm) ∧ ∀ i, i < (allW ps).length → ∀ j, j < i → ¬ Meet ((allW ps).getD j wi0) ((allW ps).getD i wi0)
def strEq (x y : ByteArray) : Bool := x.toList == y.toList
theorem strEq_iff {x y : ByteArray} : strEq x y = true ↔ x = y := by
  unfold strEq
  rw [ByteArray.toList_eq, ByteArray.toList_eq]
  constructor
  · intro h
    have : x.data.toList = y.data.toList := by simpa using h
    exact ByteArray.ext (by simpa using congrArg List.toArray this)
  · intro h
    subst h
    simp
end Go.Proofs.YtfejlmoambidaaaGreatDoor
