
/-
  What the laid table of extras gives a walk, and that it reads as before behind one: plain facts on the program's variable. Condition: the variable reads as the program's text lays it.
-/
import Derived.Test.YtlomcdgfcocmmaaGreatDoorWst
import Derived.Test.YtlomcdgfcocmmaaGreatDoorBas
import Derived.Test.YtlomcdgfcocmmaaGreatDoorRows
import Derived.ProofKit
import Derived.LaidMore
import Derived.OpenShut
import Derived.Stop.Joined
import Derived.Stop.LaidErr
import Derived.SevenTiedAt
import Derived.Lib.LaidTab
import Derived.ChangeVars
namespace Go.Proofs.YtlomcdgfcocmmaaGreatDoor
open Go.ChangeShapes Go.WideShapes Go.ChangeAt Go.WideMaps Go.WideElems Go.RowKit
set_option linter.unusedVariables false

theorem own : ownKnob Tryz.prog.godebug = none := by kernel_rfl
abbrev laidF : List (String × DataW Unit) := Rows.fnSpansRow.laid
theorem gForms : Tryz.prog.globalNamed "loop.example/g00076/impl.opExtras" = some 0 := by kernel_rfl
theorem tForms : (Tryz.prog.globals[0]?).map (·.type) = some 169 := by kernel_rfl
theorem forms_met (os : Os) (args : Array Value) : laidMetH Tryz.prog laidF ((World.doorLaid Tryz.prog 40 os).forCall (fun _ _ => 0) ⟨#[], args, []⟩).memory :=
  laidMetH_of_parts3 (fuel := 8) (laidMet_of_run' 8 (by kernel_rfl) (by kernel_rfl)) (by kernel_rfl) (by kernel_rfl)
theorem forms_of_laid {W : World} (h : laidMetH Tryz.prog laidF W) : Lib.TabIs Tryz.prog W "loop.example/g00076/impl.opExtras" .i64 ext := by
  rw [MakeChecks.laidMetH_plain _ _ _ (by kernel_rfl)] at h
  have h2 : laidMet Tryz.prog (("loop.example/g00076/impl.opExtras", Lib.tabData .i64 ext) :: []) W := h
  exact Lib.tabIs_of_head (g := 0) (t := 169) (e := 3) (n := 33) (by kernel_rfl) (by kernel_rfl) Tryz.underlying169 Tryz.underlying3 (by kernel_rfl) (by kernel_rfl) h2
theorem tab_of {W : World} (h : Lib.TabIs Tryz.prog W "loop.example/g00076/impl.opExtras" .i64 ext) : TabE W := fun i hi => by
  have := World.var?_cell gForms h i
  rw [this]
  have hl : i < ext.length := hi
  simp [hl]
abbrev cellsF : Array Value := (ext.map fun z => Value.int .i64 z).toArray
theorem reads_forms {H : Type} (enc : TypeId × Value → H) (W : World) (sp : Nat → Bool) : DataW.trod enc Tryz.prog W 0 sp true 3 169 cellsF.toList = some (Rows.laid_loop_example_g00076_impl_opExtras, []) := by kernel_rfl
theorem var_below {P : Program} {W W' : World} {n : String} {g : Nat} {cs : Array Value} (hg : P.globalNamed n = some g) (h : W.var? P n = some cs) (hlt : g < W.heap.size) (hb : Below W.heap.size W W') : W'.var? P n = some cs := by
  simp only [World.var?, hg, Option.bind_some] at h ⊢
  rw [hb.block g hlt]
  exact h
/-- The variable's reading, opened; and shut again behind a walk that leaves the blocks that were there alone. -/
theorem vars_forms {H : Type} {enc : TypeId × Value → H} {W : World} {gs : List (DataW H)} {q : List MemPlace} (h : Lib.TabIs Tryz.prog W "loop.example/g00076/impl.opExtras" .i64 ext)
    (hV : DataW.TrodVars enc Tryz.prog W (fun _ => true) ["loop.example/g00076/impl.opExtras"] gs q) :
    gs = [Rows.laid_loop_example_g00076_impl_opExtras] ∧ ∀ W' sp, Below W.heap.size W W' → DataW.TrodVars enc Tryz.prog W' sp ["loop.example/g00076/impl.opExtras"] [Rows.laid_loop_example_g00076_impl_opExtras] (MemPlace.row ⟨0, 0, none⟩ cellsF.size ++ [] ++ []) := by
  obtain ⟨g, t, cs, fuel, d, p', rfl, hg, ht, hvar, hd, rfl⟩ := trodVars_one hV
  obtain rfl := Option.some.inj (gForms.symm.trans hg)
  obtain rfl := Option.some.inj (tForms.symm.trans ht)
  obtain rfl : cs = cellsF := Option.some.inj (hvar.symm.trans h)
  obtain ⟨rfl, rfl⟩ := DataW.Trod.unique (v := .agg cellsF) ⟨fuel, hd⟩ ⟨3, reads_forms enc W _⟩
  refine ⟨rfl, fun W' sp hb => ⟨0, 169, cellsF, 3, [], [], hg, ht, ?_, reads_forms enc W' sp, rfl, rfl⟩⟩
  exact var_below hg hvar (World.block_lt_of_cell? W _ (tab_of h 0 (by omega))) hb
set_option maxRecDepth 100000 in
theorem jf_mr : mapsRowed Tryz.prog = true := by kernel_rfl
end Go.Proofs.YtlomcdgfcocmmaaGreatDoor
