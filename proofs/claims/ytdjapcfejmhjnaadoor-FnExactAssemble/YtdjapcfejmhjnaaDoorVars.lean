/-
  What the laid tables give a walk, and that they read as before behind one: plain facts on the program's variables. Condition: the variables read as the program's text lays them.
-/
import Derived.Test.YtdjapcfejmhjnaaDoorRows
import Derived.Test.YtdjapcfejmhjnaaDoorShow
import Derived.ProofKit
import Derived.LaidMore
import Derived.OpenShut
import Derived.Stop.Joined
import Derived.Stop.LaidErr
import Derived.SevenTiedAt
import Derived.Lib.LaidTab
import Derived.ChangeVars
namespace Go.Proofs.YtdjapcfejmhjnaaDoor
open Go.ChangeShapes Go.WideShapes Go.ChangeAt Go.WideMaps Go.WideElems Go.RowKit
set_option linter.unusedVariables false
set_option maxRecDepth 100000

theorem own : ownKnob Tryd.prog.godebug = none := by kernel_rfl
theorem gForms : Tryd.prog.globalNamed "loop.example/g00076/impl.opForms" = some 0 := by kernel_rfl
theorem tForms : (Tryd.prog.globals[0]?).map (·.type) = some 70 := by kernel_rfl
theorem gNames : Tryd.prog.globalNamed "loop.example/g00076/impl.opNames" = some 1 := by kernel_rfl
theorem tNames : (Tryd.prog.globals[1]?).map (·.type) = some 71 := by kernel_rfl
abbrev cellsF : Array Value := (forms.map fun z => Value.int .i64 z).toArray
abbrev cellsN : Array Value := (strs names).toArray
theorem reads_forms {H : Type} (enc : TypeId × Value → H) (W : World) (sp : Nat → Bool) : DataW.trod enc Tryd.prog W 0 sp true 3 70 cellsF.toList = some (Rows.laid_loop_example_g00076_impl_opForms, []) := by kernel_rfl
theorem reads_names {H : Type} (enc : TypeId × Value → H) (W : World) (sp : Nat → Bool) : DataW.trod enc Tryd.prog W 0 sp true 3 71 cellsN.toList = some (Rows.laid_loop_example_g00076_impl_opNames, []) := by kernel_rfl
theorem var_below {P : Program} {W W' : World} {n : String} {g : Nat} {cs : Array Value} (hg : P.globalNamed n = some g) (h : W.var? P n = some cs) (hlt : g < W.heap.size) (hb : Below W.heap.size W W') : W'.var? P n = some cs := by
  simp only [World.var?, hg, Option.bind_some] at h ⊢
  rw [hb.block g hlt]
  exact h
def FormsIs (W : World) : Prop := Lib.TabIs Tryd.prog W "loop.example/g00076/impl.opForms" .i64 forms
def NamesIs (W : World) : Prop := W.var? Tryd.prog "loop.example/g00076/impl.opNames" = some cellsN
theorem tab_forms {W : World} (h : FormsIs W) : Tab W := fun i hi => h.cell gForms i hi
theorem tab_names {W : World} (h : NamesIs W) : TabN W := fun i hi => by
  have := World.var?_cell gNames h i
  rw [this]
  have hl : i < names.length := hi
  simp [nm, hl]
theorem forms_head {W : World} {r : List (String × DataW Unit)} (h : laidMet Tryd.prog (("loop.example/g00076/impl.opForms", Lib.tabData .i64 forms) :: r) W) : FormsIs W :=
  Lib.tabIs_of_head (g := 0) (t := 70) (e := 3) (n := 33) (by kernel_rfl) (by kernel_rfl) Tryd.underlying70 Tryd.underlying3 (by kernel_rfl) (by kernel_rfl) h
theorem names_head {W : World} {r : List (String × DataW Unit)} (h : laidMet Tryd.prog (("loop.example/g00076/impl.opNames", Rows.laid_loop_example_g00076_impl_opNames) :: r) W) : NamesIs W := by
  obtain ⟨ps, ⟨g', t', cs, fuel, p, q, hg', ht', hvar, hd, _, _⟩, _⟩ := h
  obtain rfl := Option.some.inj (gNames.symm.trans hg')
  obtain rfl := Option.some.inj (tNames.symm.trans ht')
  unfold NamesIs
  rw [hvar]
  have := cells_of_strs (zs := names) (n := 33) (e := 9) Tryd.underlying71 Tryd.underlying9 (by kernel_rfl) (by kernel_rfl) hd
  rw [cellsN, ← this]
theorem pow_head {W : World} {r : List (String × DataW Unit)} (h : laidMet Tryd.prog (("internal/strconv.uint64pow10", Lib.tabData .u64 Lib.pow10Tab) :: r) W) : TabP W :=
  Lib.tabIs_of_head (g := 6) (t := 181) (e := 142) (n := 20) (by kernel_rfl) (by kernel_rfl) Tryd.underlying181 Tryd.underlying142 (by kernel_rfl) (by kernel_rfl) h

/-! ### The laws that show -/
abbrev laidS : List (String × DataW Unit) := Rows.fnExactShowInstrRow.laid
theorem show_met (os : Os) (args : Array Value) : laidMetH Tryd.prog laidS ((World.doorLaid Tryd.prog 80 os).forCall (fun _ _ => 0) ⟨#[], args, []⟩).memory :=
  laidMetH_of_parts3 (fuel := 8) (laidMet_of_run' 8 (by kernel_rfl) (by kernel_rfl)) (by kernel_rfl) (by kernel_rfl)
def ShowIs (W : World) : Prop := FormsIs W ∧ NamesIs W ∧ TabP W
theorem show_of_laid {W : World} (h : laidMetH Tryd.prog laidS W) : ShowIs W := by
  rw [MakeChecks.laidMetH_plain _ _ _ (by kernel_rfl)] at h
  have h2 : laidMet Tryd.prog (("internal/strconv.uint64pow10", Lib.tabData .u64 Lib.pow10Tab) :: ("loop.example/g00076/impl.opForms", Lib.tabData .i64 forms) :: ("loop.example/g00076/impl.opNames", Rows.laid_loop_example_g00076_impl_opNames) :: []) W := laidMet.tail (laidMet.tail h)
  exact ⟨forms_head (laidMet.tail h2), names_head (laidMet.tail (laidMet.tail h2)), pow_head h2⟩
theorem tab_of_show {W : World} (h : ShowIs W) : Tab W ∧ TabN W ∧ TabP W := ⟨tab_forms h.1, tab_names h.2.1, h.2.2⟩
theorem vars_fn {H : Type} {enc : TypeId × Value → H} {W : World} {gs : List (DataW H)} {q : List MemPlace} (hF : FormsIs W) (hN : NamesIs W)
    (hV : DataW.TrodVars enc Tryd.prog W (fun _ => true) ["loop.example/g00076/impl.opForms", "loop.example/g00076/impl.opNames"] gs q) :
    gs = [Rows.laid_loop_example_g00076_impl_opForms, Rows.laid_loop_example_g00076_impl_opNames] ∧ ∀ W' sp, Below W.heap.size W W' → DataW.TrodVars enc Tryd.prog W' sp ["loop.example/g00076/impl.opForms", "loop.example/g00076/impl.opNames"] [Rows.laid_loop_example_g00076_impl_opForms, Rows.laid_loop_example_g00076_impl_opNames] (MemPlace.row ⟨0, 0, none⟩ cellsF.size ++ [] ++ (MemPlace.row ⟨1, 0, none⟩ cellsN.size ++ [] ++ [])) := by
  obtain ⟨g, t, cs, fuel, d, p', g', t', cs', fuel', d', p'', rfl, hg, ht, hvar, hd, hg', ht', hvar', hd', rfl⟩ := trodVars_two hV
  obtain rfl := Option.some.inj (gForms.symm.trans hg)
  obtain rfl := Option.some.inj (tForms.symm.trans ht)
  obtain rfl := Option.some.inj (gNames.symm.trans hg')
  obtain rfl := Option.some.inj (tNames.symm.trans ht')
  obtain rfl : cs = cellsF := Option.some.inj (hvar.symm.trans hF)
  obtain rfl : cs' = cellsN := Option.some.inj (hvar'.symm.trans hN)
  obtain ⟨rfl, rfl⟩ := DataW.Trod.unique (v := .agg cellsF) ⟨fuel, hd⟩ ⟨3, reads_forms enc W _⟩
  obtain ⟨rfl, rfl⟩ := DataW.Trod.unique (v := .agg cellsN) ⟨fuel', hd'⟩ ⟨3, reads_names enc W _⟩
  refine ⟨rfl, fun W' sp hb => ⟨0, 70, cellsF, 3, [], _, hg, ht, ?_, reads_forms enc W' sp, ⟨1, 71, cellsN, 3, [], [], hg', ht', ?_, reads_names enc W' sp, rfl, rfl⟩, rfl⟩⟩
  · exact var_below hg hvar (World.block_lt_of_cell? W _ (tab_forms hF 0 (by omega))) hb
  · exact var_below hg' hvar' (World.block_lt_of_cell? W _ (tab_names hN 0 (by omega))) hb
theorem vars_nf {H : Type} {enc : TypeId × Value → H} {W : World} {gs : List (DataW H)} {q : List MemPlace} (hF : FormsIs W) (hN : NamesIs W)
    (hV : DataW.TrodVars enc Tryd.prog W (fun _ => true) ["loop.example/g00076/impl.opNames", "loop.example/g00076/impl.opForms"] gs q) :
    gs = [Rows.laid_loop_example_g00076_impl_opNames, Rows.laid_loop_example_g00076_impl_opForms] ∧ ∀ W' sp, Below W.heap.size W W' → DataW.TrodVars enc Tryd.prog W' sp ["loop.example/g00076/impl.opNames", "loop.example/g00076/impl.opForms"] [Rows.laid_loop_example_g00076_impl_opNames, Rows.laid_loop_example_g00076_impl_opForms] (MemPlace.row ⟨1, 0, none⟩ cellsN.size ++ [] ++ (MemPlace.row ⟨0, 0, none⟩ cellsF.size ++ [] ++ [])) := by
  obtain ⟨g, t, cs, fuel, d, p', g', t', cs', fuel', d', p'', rfl, hg, ht, hvar, hd, hg', ht', hvar', hd', rfl⟩ := trodVars_two hV
  obtain rfl := Option.some.inj (gNames.symm.trans hg)
  obtain rfl := Option.some.inj (tNames.symm.trans ht)
  obtain rfl := Option.some.inj (gForms.symm.trans hg')
  obtain rfl := Option.some.inj (tForms.symm.trans ht')
  obtain rfl : cs = cellsN := Option.some.inj (hvar.symm.trans hN)
  obtain rfl : cs' = cellsF := Option.some.inj (hvar'.symm.trans hF)
  obtain ⟨rfl, rfl⟩ := DataW.Trod.unique (v := .agg cellsN) ⟨fuel, hd⟩ ⟨3, reads_names enc W _⟩
  obtain ⟨rfl, rfl⟩ := DataW.Trod.unique (v := .agg cellsF) ⟨fuel', hd'⟩ ⟨3, reads_forms enc W _⟩
  refine ⟨rfl, fun W' sp hb => ⟨1, 71, cellsN, 3, [], _, hg, ht, ?_, reads_names enc W' sp, ⟨0, 70, cellsF, 3, [], [], hg', ht', ?_, reads_forms enc W' sp, rfl, rfl⟩, rfl⟩⟩
  · exact var_below hg hvar (World.block_lt_of_cell? W _ (tab_names hN 0 (by omega))) hb
  · exact var_below hg' hvar' (World.block_lt_of_cell? W _ (tab_forms hF 0 (by omega))) hb
theorem vars_show {H : Type} {enc : TypeId × Value → H} {W : World} {gs : List (DataW H)} {q : List MemPlace} (h : ShowIs W)
    (hV : DataW.TrodVars enc Tryd.prog W (fun _ => true) ["loop.example/g00076/impl.opForms", "loop.example/g00076/impl.opNames"] gs q) :
    gs = [Rows.laid_loop_example_g00076_impl_opForms, Rows.laid_loop_example_g00076_impl_opNames] ∧ ∀ W' sp, Below W.heap.size W W' → DataW.TrodVars enc Tryd.prog W' sp ["loop.example/g00076/impl.opForms", "loop.example/g00076/impl.opNames"] [Rows.laid_loop_example_g00076_impl_opForms, Rows.laid_loop_example_g00076_impl_opNames] (MemPlace.row ⟨0, 0, none⟩ cellsF.size ++ [] ++ (MemPlace.row ⟨1, 0, none⟩ cellsN.size ++ [] ++ [])) :=
  vars_fn h.1 h.2.1 hV
end Go.Proofs.YtdjapcfejmhjnaaDoor
