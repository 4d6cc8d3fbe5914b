
/-
  Lists of events in memory: copies, likeness, the measure; how a list that came in is read. Conditions: lengths are at most 1048576 where a copy is made.
-/
import Derived.Test.YthlapikcjiajgaaDoorBas
import Derived.Test.YthlapikcjiajgaaDoorGen
import Derived.Test.YthlapikcjiajgaaDoorAlk
import Derived.Deep.RegionHeld3
import Derived.Deep.RegionHeldLaw
import Derived.Deep.QuietTactic
import Derived.BigQuiet
import Derived.Deep.SlicePairs
import Derived.OwnWalk
import Derived.Lib.SmallJoins
namespace Go.Proofs.YthlapikcjiajgaaDoor
open Go.ChangeShapes Go.WideShapes Go.ChangeAt Go.RowKit Go.Deep Go.Joins
set_option linter.unusedVariables false

abbrev evT := Int × Int × Int × Int × Int × Int × Int
abbrev ev0 : evT := (0, 0, 0, 0, 0, 0, 0)
def evL (x : evT) : List Value := [.int .i64 x.1, .int .i64 x.2.1, .int .u32 x.2.2.1, .int .i64 x.2.2.2.1, .int .i64 x.2.2.2.2.1, .int .i64 x.2.2.2.2.2.1, .int .u32 x.2.2.2.2.2.2]
def evX (xs : List evT) : Nat → List Value := fun i => evL (xs.getD i ev0)
abbrev evV (x : evT) : Value := .agg #[.int .i64 x.1, .int .i64 x.2.1, .int .u32 x.2.2.1, .int .i64 x.2.2.2.1, .int .i64 x.2.2.2.2.1, .int .i64 x.2.2.2.2.2.1, .int .u32 x.2.2.2.2.2.2]
theorem ev_list7 {α : Type} {cs : List α} (h : cs.length = 7) : ∃ c0 c1 c2 c3 c4 c5 c6, cs = [c0, c1, c2, c3, c4, c5, c6] := by
  match cs, h with
  | [c0, c1, c2, c3, c4, c5, c6], _ => exact ⟨c0, c1, c2, c3, c4, c5, c6, rfl⟩
theorem to_ev (x1 x2 x3 x4 x5 x6 x7 : Int) (w : World) : Calls Tryd.prog 7 #[.agg #[.int .i64 x1, .int .i64 x2, .int .u32 x3, .int .i64 x4, .int .i64 x5, .int .i64 x6, .int .u32 x7]] w fun x w' => x = .returned (.agg #[.int .i64 x1, .int .i64 x2, .int .u32 x3, .int .i64 x4, .int .i64 x5, .int .i64 x6, .int .u32 x7]) ∧ Below w.heap.size w w' := by
  go_enter Tryd.func7, Tryd.ntmps7
  go_wp2
  exact bodyPost_ret (v := .agg #[.int .i64 x1, .int .i64 x2, .int .u32 x3, .int .i64 x4, .int .i64 x5, .int .i64 x6, .int .u32 x7]) (by simp [results, Tryd.results7, go_sem]) rfl ⟨rfl, (((Below.refl _ _).alloc (Nat.le_refl _) _).alloc (by simp) _).alloc (by simp; omega) _⟩
theorem ev_eq1 (x : evT) (w : World) : Calls Tryd.prog 11 #[evV x, evV x] w fun e w' => e = .returned (.bool true) ∧ Below w.heap.size w w' := by
  obtain ⟨x1, x2, x3, x4, x5, x6, x7⟩ := x
  simp only [evV]
  go_enter Tryd.func11, Tryd.ntmps11
  go_wp2
  go_ret
  exact ⟨rfl, ((Below.refl _ _).alloc (Nat.le_refl _) _).alloc (by simp) _⟩
theorem ev_cells {w : World} {b o : Nat} {x : evT} (h : CellsAt w b o (evL x)) : w.cell? ⟨b, o, none⟩ = some (.int .i64 x.1) ∧ w.cell? ⟨b, o + 1, none⟩ = some (.int .i64 x.2.1) ∧ w.cell? ⟨b, o + 2, none⟩ = some (.int .u32 x.2.2.1) ∧ w.cell? ⟨b, o + 3, none⟩ = some (.int .i64 x.2.2.2.1) ∧ w.cell? ⟨b, o + 4, none⟩ = some (.int .i64 x.2.2.2.2.1) ∧ w.cell? ⟨b, o + 5, none⟩ = some (.int .i64 x.2.2.2.2.2.1) ∧ w.cell? ⟨b, o + 6, none⟩ = some (.int .u32 x.2.2.2.2.2.2) :=
  ⟨h 0 _ rfl, h 1 _ rfl, h 2 _ rfl, h 3 _ rfl, h 4 _ rfl, h 5 _ rfl, h 6 _ rfl⟩
theorem ev_info : (Tryd.prog.info? 26).map (fun i => (i.zero, i.size, i.bytes)) = some (some (.agg #[.int .i64 0, .int .i64 0, .int .u32 0, .int .i64 0, .int .i64 0, .int .i64 0, .int .u32 0]), 7, 56) := by kernel_rfl
theorem ev_lcells : Tryd.prog.cellsOf 24 = 7 := by kernel_rfl
theorem ev_cellsU : Tryd.prog.cellsOf 22 = 1 := by kernel_rfl
end Go.Proofs.YthlapikcjiajgaaDoor
