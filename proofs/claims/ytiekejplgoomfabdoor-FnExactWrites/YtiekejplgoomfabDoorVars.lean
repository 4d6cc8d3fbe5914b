/-
  What the laid tables of forms, writes and reads give a walk, and that they read as before behind one: plain facts on the program's variables. Condition: the variables read as the program's text lays them.
-/
import Derived.Test.YtiekejplgoomfabDoorRegset
import Derived.ProofKit
import Derived.LaidMore
import Derived.OpenShut
import Derived.Stop.Joined
import Derived.Stop.LaidErr
import Derived.SevenTiedAt
import Derived.Lib.LaidTab
import Derived.ChangeVars
namespace Go.Proofs.YtiekejplgoomfabDoor
open Go.ChangeShapes Go.WideShapes Go.ChangeAt Go.WideMaps Go.WideElems Go.RowKit
set_option linter.unusedVariables false

theorem own : ownKnob Tryd.prog.godebug = none := by kernel_rfl
theorem gForms : Tryd.prog.globalNamed "loop.example/g00076/impl.opForms" = some 2 := by kernel_rfl
theorem tForms : (Tryd.prog.globals[2]?).map (·.type) = some 35 := by kernel_rfl
abbrev cellsF : Array Value := (forms.map fun z => Value.int .i64 z).toArray
theorem reads_forms {H : Type} (enc : TypeId × Value → H) (W : World) (sp : Nat → Bool) : DataW.trod enc Tryd.prog W 0 sp true 3 35 cellsF.toList = some (Rows.laid_loop_example_g00076_impl_opForms, []) := by kernel_rfl
theorem var_below {P : Program} {W W' : World} {n : String} {g : Nat} {cs : Array Value} (hg : P.globalNamed n = some g) (h : W.var? P n = some cs) (hlt : g < W.heap.size) (hb : Below W.heap.size W W') : W'.var? P n = some cs := by
  simp only [World.var?, hg, Option.bind_some] at h ⊢
  rw [hb.block g hlt]
  exact h

/-! ### Writes -/
abbrev laidW : List (String × DataW Unit) := Rows.fnExactWritesRow.laid
theorem gWrites : Tryd.prog.globalNamed "loop.example/g00076/impl.opWrites" = some 0 := by kernel_rfl
theorem tWrites : (Tryd.prog.globals[0]?).map (·.type) = some 35 := by kernel_rfl
theorem writes2_met (os : Os) (args : Array Value) : laidMetH Tryd.prog laidW ((World.doorLaid Tryd.prog 40 os).forCall (fun _ _ => 0) ⟨#[], args, []⟩).memory :=
  laidMetH_of_parts3 (fuel := 8) (laidMet_of_run' 8 (by kernel_rfl) (by kernel_rfl)) (by kernel_rfl) (by kernel_rfl)
def WritesIs (W : World) : Prop := Lib.TabIs Tryd.prog W "loop.example/g00076/impl.opForms" .i64 forms ∧ Lib.TabIs Tryd.prog W "loop.example/g00076/impl.opWrites" .i64 wr
theorem writes2_of_laid {W : World} (h : laidMetH Tryd.prog laidW W) : WritesIs W := by
  rw [MakeChecks.laidMetH_plain _ _ _ (by kernel_rfl)] at h
  have h2 : laidMet Tryd.prog (("loop.example/g00076/impl.opForms", Lib.tabData .i64 forms) :: ("loop.example/g00076/impl.opWrites", Lib.tabData .i64 wr) :: []) W := h
  exact ⟨Lib.tabIs_of_head (g := 2) (t := 35) (e := 3) (n := 33) (by kernel_rfl) (by kernel_rfl) Tryd.underlying35 Tryd.underlying3 (by kernel_rfl) (by kernel_rfl) h2,
    Lib.tabIs_of_head (g := 0) (t := 35) (e := 3) (n := 33) (by kernel_rfl) (by kernel_rfl) Tryd.underlying35 Tryd.underlying3 (by kernel_rfl) (by kernel_rfl) (laidMet.tail h2)⟩
theorem tab_of_writes2 {W : World} (h : WritesIs W) : Tab W ∧ TabW W :=
  ⟨fun i hi => h.1.cell gForms i hi, fun i hi => h.2.cell gWrites i hi⟩
abbrev cellsW : Array Value := (wr.map fun z => Value.int .i64 z).toArray
theorem reads_writes {H : Type} (enc : TypeId × Value → H) (W : World) (sp : Nat → Bool) : DataW.trod enc Tryd.prog W 0 sp true 3 35 cellsW.toList = some (Rows.laid_loop_example_g00076_impl_opWrites, []) := by kernel_rfl
theorem vars_writes2 {H : Type} {enc : TypeId × Value → H} {W : World} {gs : List (DataW H)} {q : List MemPlace} (h : WritesIs W)
    (hV : DataW.TrodVars enc Tryd.prog W (fun _ => true) ["loop.example/g00076/impl.opWrites", "loop.example/g00076/impl.opForms"] gs q) :
    gs = [Rows.laid_loop_example_g00076_impl_opWrites, Rows.laid_loop_example_g00076_impl_opForms] ∧ ∀ W' sp, Below W.heap.size W W' → DataW.TrodVars enc Tryd.prog W' sp ["loop.example/g00076/impl.opWrites", "loop.example/g00076/impl.opForms"] [Rows.laid_loop_example_g00076_impl_opWrites, Rows.laid_loop_example_g00076_impl_opForms] (MemPlace.row ⟨0, 0, none⟩ cellsW.size ++ [] ++ (MemPlace.row ⟨2, 0, none⟩ cellsF.size ++ [] ++ [])) := by
  obtain ⟨g, t, cs, fuel, d, p', g', t', cs', fuel', d', p'', rfl, hg, ht, hvar, hd, hg', ht', hvar', hd', rfl⟩ := trodVars_two hV
  obtain rfl := Option.some.inj (gWrites.symm.trans hg)
  obtain rfl := Option.some.inj (tWrites.symm.trans ht)
  obtain rfl := Option.some.inj (gForms.symm.trans hg')
  obtain rfl := Option.some.inj (tForms.symm.trans ht')
  obtain rfl : cs = cellsW := Option.some.inj (hvar.symm.trans h.2)
  obtain rfl : cs' = cellsF := Option.some.inj (hvar'.symm.trans h.1)
  obtain ⟨rfl, rfl⟩ := DataW.Trod.unique (v := .agg cellsW) ⟨fuel, hd⟩ ⟨3, reads_writes enc W _⟩
  obtain ⟨rfl, rfl⟩ := DataW.Trod.unique (v := .agg cellsF) ⟨fuel', hd'⟩ ⟨3, reads_forms enc W _⟩
  have hT := tab_of_writes2 h
  refine ⟨rfl, fun W' sp hb => ⟨0, 35, cellsW, 3, [], _, hg, ht, ?_, reads_writes enc W' sp, ⟨2, 35, cellsF, 3, [], [], hg', ht', ?_, reads_forms enc W' sp, rfl, rfl⟩, rfl⟩⟩
  · exact var_below hg hvar (World.block_lt_of_cell? W _ (hT.2 0 (by omega))) hb
  · exact var_below hg' hvar' (World.block_lt_of_cell? W _ (hT.1 0 (by omega))) hb

/-! ### Reads -/
abbrev laidR : List (String × DataW Unit) := Rows.fnExactReadsRow.laid
theorem gReads : Tryd.prog.globalNamed "loop.example/g00076/impl.opReads" = some 1 := by kernel_rfl
theorem tReads : (Tryd.prog.globals[1]?).map (·.type) = some 35 := by kernel_rfl
theorem reads2_met (os : Os) (args : Array Value) : laidMetH Tryd.prog laidR ((World.doorLaid Tryd.prog 40 os).forCall (fun _ _ => 0) ⟨#[], args, []⟩).memory :=
  laidMetH_of_parts3 (fuel := 8) (laidMet_of_run' 8 (by kernel_rfl) (by kernel_rfl)) (by kernel_rfl) (by kernel_rfl)
def ReadsIs (W : World) : Prop := Lib.TabIs Tryd.prog W "loop.example/g00076/impl.opForms" .i64 forms ∧ Lib.TabIs Tryd.prog W "loop.example/g00076/impl.opReads" .i64 rd
theorem reads2_of_laid {W : World} (h : laidMetH Tryd.prog laidR W) : ReadsIs W := by
  rw [MakeChecks.laidMetH_plain _ _ _ (by kernel_rfl)] at h
  have h2 : laidMet Tryd.prog (("loop.example/g00076/impl.opForms", Lib.tabData .i64 forms) :: ("loop.example/g00076/impl.opReads", Lib.tabData .i64 rd) :: []) W := h
  exact ⟨Lib.tabIs_of_head (g := 2) (t := 35) (e := 3) (n := 33) (by kernel_rfl) (by kernel_rfl) Tryd.underlying35 Tryd.underlying3 (by kernel_rfl) (by kernel_rfl) h2,
    Lib.tabIs_of_head (g := 1) (t := 35) (e := 3) (n := 33) (by kernel_rfl) (by kernel_rfl) Tryd.underlying35 Tryd.underlying3 (by kernel_rfl) (by kernel_rfl) (laidMet.tail h2)⟩
theorem tab_of_reads2 {W : World} (h : ReadsIs W) : Tab W ∧ TabR W :=
  ⟨fun i hi => h.1.cell gForms i hi, fun i hi => h.2.cell gReads i hi⟩
abbrev cellsR : Array Value := (rd.map fun z => Value.int .i64 z).toArray
theorem reads_reads {H : Type} (enc : TypeId × Value → H) (W : World) (sp : Nat → Bool) : DataW.trod enc Tryd.prog W 0 sp true 3 35 cellsR.toList = some (Rows.laid_loop_example_g00076_impl_opReads, []) := by kernel_rfl
theorem vars_reads2 {H : Type} {enc : TypeId × Value → H} {W : World} {gs : List (DataW H)} {q : List MemPlace} (h : ReadsIs W)
    (hV : DataW.TrodVars enc Tryd.prog W (fun _ => true) ["loop.example/g00076/impl.opReads", "loop.example/g00076/impl.opForms"] gs q) :
    gs = [Rows.laid_loop_example_g00076_impl_opReads, Rows.laid_loop_example_g00076_impl_opForms] ∧ ∀ W' sp, Below W.heap.size W W' → DataW.TrodVars enc Tryd.prog W' sp ["loop.example/g00076/impl.opReads", "loop.example/g00076/impl.opForms"] [Rows.laid_loop_example_g00076_impl_opReads, Rows.laid_loop_example_g00076_impl_opForms] (MemPlace.row ⟨1, 0, none⟩ cellsR.size ++ [] ++ (MemPlace.row ⟨2, 0, none⟩ cellsF.size ++ [] ++ [])) := by
  obtain ⟨g, t, cs, fuel, d, p', g', t', cs', fuel', d', p'', rfl, hg, ht, hvar, hd, hg', ht', hvar', hd', rfl⟩ := trodVars_two hV
  obtain rfl := Option.some.inj (gReads.symm.trans hg)
  obtain rfl := Option.some.inj (tReads.symm.trans ht)
  obtain rfl := Option.some.inj (gForms.symm.trans hg')
  obtain rfl := Option.some.inj (tForms.symm.trans ht')
  obtain rfl : cs = cellsR := Option.some.inj (hvar.symm.trans h.2)
  obtain rfl : cs' = cellsF := Option.some.inj (hvar'.symm.trans h.1)
  obtain ⟨rfl, rfl⟩ := DataW.Trod.unique (v := .agg cellsR) ⟨fuel, hd⟩ ⟨3, reads_reads enc W _⟩
  obtain ⟨rfl, rfl⟩ := DataW.Trod.unique (v := .agg cellsF) ⟨fuel', hd'⟩ ⟨3, reads_forms enc W _⟩
  have hT := tab_of_reads2 h
  refine ⟨rfl, fun W' sp hb => ⟨1, 35, cellsR, 3, [], _, hg, ht, ?_, reads_reads enc W' sp, ⟨2, 35, cellsF, 3, [], [], hg', ht', ?_, reads_forms enc W' sp, rfl, rfl⟩, rfl⟩⟩
  · exact var_below hg hvar (World.block_lt_of_cell? W _ (hT.2 0 (by omega))) hb
  · exact var_below hg' hvar' (World.block_lt_of_cell? W _ (hT.1 0 (by omega))) hb
end Go.Proofs.YtiekejplgoomfabDoor
