/-
  What the laid tables give a walk, and that they read as before behind one: plain facts on the program's variables. Condition: the variables read as the program's text lays them.
  What the laid tables give the walk of a line, and a row's wrap that hands on the world's shape. Condition: the variables read as the program's text lays them.
-/
import Derived.Test.YtdjapcfejmhjnaaGreatDoorRows
import Derived.Test.YtdjapcfejmhjnaaGreatDoorShow
import Derived.ProofKit
import Derived.LaidMore
import Derived.OpenShut
import Derived.Stop.Joined
import Derived.Stop.LaidErr
import Derived.SevenTiedAt
import Derived.Lib.LaidTab
import Derived.ChangeVars
import Derived.Test.YtdjapcfejmhjnaaGreatDoorRdx
namespace Go.Proofs.YtdjapcfejmhjnaaGreatDoor
open Go.ChangeShapes Go.WideShapes Go.ChangeAt Go.WideMaps Go.WideElems Go.RowKit
set_option linter.unusedVariables false
set_option maxRecDepth 100000

theorem own : ownKnob Tryz.prog.godebug = none := by kernel_rfl
theorem gForms : Tryz.prog.globalNamed "loop.example/g00076/impl.opForms" = some 1 := by kernel_rfl
theorem tForms : (Tryz.prog.globals[1]?).map (·.type) = some 124 := by kernel_rfl
theorem gNames : Tryz.prog.globalNamed "loop.example/g00076/impl.opNames" = some 2 := by kernel_rfl
theorem tNames : (Tryz.prog.globals[2]?).map (·.type) = some 125 := by kernel_rfl
abbrev cellsF : Array Value := (forms.map fun z => Value.int .i64 z).toArray
abbrev cellsN : Array Value := (strs names).toArray
theorem reads_forms {H : Type} (enc : TypeId × Value → H) (W : World) (sp : Nat → Bool) : DataW.trod enc Tryz.prog W 0 sp true 3 124 cellsF.toList = some (Rows.laid_loop_example_g00076_impl_opForms, []) := by kernel_rfl
theorem reads_names {H : Type} (enc : TypeId × Value → H) (W : World) (sp : Nat → Bool) : DataW.trod enc Tryz.prog W 0 sp true 3 125 cellsN.toList = some (Rows.laid_loop_example_g00076_impl_opNames, []) := by kernel_rfl
theorem var_below {P : Program} {W W' : World} {n : String} {g : Nat} {cs : Array Value} (hg : P.globalNamed n = some g) (h : W.var? P n = some cs) (hlt : g < W.heap.size) (hb : Below W.heap.size W W') : W'.var? P n = some cs := by
  simp only [World.var?, hg, Option.bind_some] at h ⊢
  rw [hb.block g hlt]
  exact h
def FormsIs (W : World) : Prop := Lib.TabIs Tryz.prog W "loop.example/g00076/impl.opForms" .i64 forms
def NamesIs (W : World) : Prop := W.var? Tryz.prog "loop.example/g00076/impl.opNames" = some cellsN
theorem tab_forms {W : World} (h : FormsIs W) : Tab W := fun i hi => h.cell gForms i hi
theorem tab_names {W : World} (h : NamesIs W) : TabN W := fun i hi => by
  have := World.var?_cell gNames h i
  rw [this]
  have hl : i < names.length := hi
  simp [nm, hl]
theorem forms_head {W : World} {r : List (String × DataW Unit)} (h : laidMet Tryz.prog (("loop.example/g00076/impl.opForms", Lib.tabData .i64 forms) :: r) W) : FormsIs W :=
  Lib.tabIs_of_head (g := 1) (t := 124) (e := 3) (n := 33) (by kernel_rfl) (by kernel_rfl) Tryz.underlying124 Tryz.underlying3 (by kernel_rfl) (by kernel_rfl) h
theorem names_head {W : World} {r : List (String × DataW Unit)} (h : laidMet Tryz.prog (("loop.example/g00076/impl.opNames", Rows.laid_loop_example_g00076_impl_opNames) :: r) W) : NamesIs W := by
  obtain ⟨ps, ⟨g', t', cs, fuel, p, q, hg', ht', hvar, hd, _, _⟩, _⟩ := h
  obtain rfl := Option.some.inj (gNames.symm.trans hg')
  obtain rfl := Option.some.inj (tNames.symm.trans ht')
  unfold NamesIs
  rw [hvar]
  have := cells_of_strs (zs := names) (n := 33) (e := 9) Tryz.underlying125 Tryz.underlying9 (by kernel_rfl) (by kernel_rfl) hd
  rw [cellsN, ← this]
theorem pow_head {W : World} {r : List (String × DataW Unit)} (h : laidMet Tryz.prog (("internal/strconv.uint64pow10", Lib.tabData .u64 Lib.pow10Tab) :: r) W) : TabP W :=
  Lib.tabIs_of_head (g := 4) (t := 196) (e := 174) (n := 20) (by kernel_rfl) (by kernel_rfl) Tryz.underlying196 Tryz.underlying174 (by kernel_rfl) (by kernel_rfl) h

theorem vars_fn {H : Type} {enc : TypeId × Value → H} {W : World} {gs : List (DataW H)} {q : List MemPlace} (hF : FormsIs W) (hN : NamesIs W)
    (hV : DataW.TrodVars enc Tryz.prog W (fun _ => true) ["loop.example/g00076/impl.opForms", "loop.example/g00076/impl.opNames"] gs q) :
    gs = [Rows.laid_loop_example_g00076_impl_opForms, Rows.laid_loop_example_g00076_impl_opNames] ∧ ∀ W' sp, Below W.heap.size W W' → DataW.TrodVars enc Tryz.prog W' sp ["loop.example/g00076/impl.opForms", "loop.example/g00076/impl.opNames"] [Rows.laid_loop_example_g00076_impl_opForms, Rows.laid_loop_example_g00076_impl_opNames] (MemPlace.row ⟨1, 0, none⟩ cellsF.size ++ [] ++ (MemPlace.row ⟨2, 0, none⟩ cellsN.size ++ [] ++ [])) := by
  obtain ⟨g, t, cs, fuel, d, p', g', t', cs', fuel', d', p'', rfl, hg, ht, hvar, hd, hg', ht', hvar', hd', rfl⟩ := trodVars_two hV
  obtain rfl := Option.some.inj (gForms.symm.trans hg)
  obtain rfl := Option.some.inj (tForms.symm.trans ht)
  obtain rfl := Option.some.inj (gNames.symm.trans hg')
  obtain rfl := Option.some.inj (tNames.symm.trans ht')
  obtain rfl : cs = cellsF := Option.some.inj (hvar.symm.trans hF)
  obtain rfl : cs' = cellsN := Option.some.inj (hvar'.symm.trans hN)
  obtain ⟨rfl, rfl⟩ := DataW.Trod.unique (v := .agg cellsF) ⟨fuel, hd⟩ ⟨3, reads_forms enc W _⟩
  obtain ⟨rfl, rfl⟩ := DataW.Trod.unique (v := .agg cellsN) ⟨fuel', hd'⟩ ⟨3, reads_names enc W _⟩
  refine ⟨rfl, fun W' sp hb => ⟨1, 124, cellsF, 3, [], _, hg, ht, ?_, reads_forms enc W' sp, ⟨2, 125, cellsN, 3, [], [], hg', ht', ?_, reads_names enc W' sp, rfl, rfl⟩, rfl⟩⟩
  · exact var_below hg hvar (World.block_lt_of_cell? W _ (tab_forms hF 0 (by omega))) hb
  · exact var_below hg' hvar' (World.block_lt_of_cell? W _ (tab_names hN 0 (by omega))) hb
theorem vars_nf {H : Type} {enc : TypeId × Value → H} {W : World} {gs : List (DataW H)} {q : List MemPlace} (hF : FormsIs W) (hN : NamesIs W)
    (hV : DataW.TrodVars enc Tryz.prog W (fun _ => true) ["loop.example/g00076/impl.opNames", "loop.example/g00076/impl.opForms"] gs q) :
    gs = [Rows.laid_loop_example_g00076_impl_opNames, Rows.laid_loop_example_g00076_impl_opForms] ∧ ∀ W' sp, Below W.heap.size W W' → DataW.TrodVars enc Tryz.prog W' sp ["loop.example/g00076/impl.opNames", "loop.example/g00076/impl.opForms"] [Rows.laid_loop_example_g00076_impl_opNames, Rows.laid_loop_example_g00076_impl_opForms] (MemPlace.row ⟨2, 0, none⟩ cellsN.size ++ [] ++ (MemPlace.row ⟨1, 0, none⟩ cellsF.size ++ [] ++ [])) := by
  obtain ⟨g, t, cs, fuel, d, p', g', t', cs', fuel', d', p'', rfl, hg, ht, hvar, hd, hg', ht', hvar', hd', rfl⟩ := trodVars_two hV
  obtain rfl := Option.some.inj (gNames.symm.trans hg)
  obtain rfl := Option.some.inj (tNames.symm.trans ht)
  obtain rfl := Option.some.inj (gForms.symm.trans hg')
  obtain rfl := Option.some.inj (tForms.symm.trans ht')
  obtain rfl : cs = cellsN := Option.some.inj (hvar.symm.trans hN)
  obtain rfl : cs' = cellsF := Option.some.inj (hvar'.symm.trans hF)
  obtain ⟨rfl, rfl⟩ := DataW.Trod.unique (v := .agg cellsN) ⟨fuel, hd⟩ ⟨3, reads_names enc W _⟩
  obtain ⟨rfl, rfl⟩ := DataW.Trod.unique (v := .agg cellsF) ⟨fuel', hd'⟩ ⟨3, reads_forms enc W _⟩
  refine ⟨rfl, fun W' sp hb => ⟨2, 125, cellsN, 3, [], _, hg, ht, ?_, reads_names enc W' sp, ⟨1, 124, cellsF, 3, [], [], hg', ht', ?_, reads_forms enc W' sp, rfl, rfl⟩, rfl⟩⟩
  · exact var_below hg hvar (World.block_lt_of_cell? W _ (tab_names hN 0 (by omega))) hb
  · exact var_below hg' hvar' (World.block_lt_of_cell? W _ (tab_forms hF 0 (by omega))) hb
end Go.Proofs.YtdjapcfejmhjnaaGreatDoor
namespace Go.Proofs.YtdjapcfejmhjnaaGreatDoor
open Go.ChangeShapes Go.WideShapes Go.ChangeAt Go.WideMaps Go.WideElems Go.RowKit
set_option linter.unusedVariables false
set_option maxRecDepth 100000

theorem returns_shaped {H : Type} {enc : TypeId × Value → H} {a : Assume} {C : Checked} {os : Os} {f : FuncId} {fn : Func} {s : ChangeSpec} {conds : List PathCond} {apart fresh handsOn again : Bool} {X : World → Array Value → Prop}
    (hX : ∀ (w w' : World) (args : Array Value), w.heap = w'.heap → X w args → X w' args)
    (own : ownKnob C.prog.godebug = none) (started : os.Started) (noInit : C.prog.inits.idxOf? f = none) (hfn : C.prog.funcs[f]? = some fn)
    (witness : ∃ (w : World) (tape : Tape) (i : Input), w.os = os ∧ (w.forCall tape i).Shaped C.prog ∧ i.vars = [] ∧ Input.okWide C.prog (w.forCall tape i) .any w.heap.size f i ∧
      ((s.pre enc C.prog fn conds apart (w.forCall tape i).memory i.args ∧ X (w.forCall tape i).memory i.args) ∧ sizedMet enc C.prog fn (OpenSpec.ofChange s) apart (w.forCall tape i).memory i.args) ∧ a.holds C.prog (lone (Frame.enter C.prog f i.args .normal) [] (w.forCall tape i)))
    (contract : ∀ (W : World) (base : Nat) (args : Array Value) (ds gs : List (DataW H)) (before : List MemPlace),
      (∀ (j : Nat) t v, fn.params[j]? = some t → args[j]? = some v → Value.okWide C.prog W .any base t v) →
      DataW.Whole enc C.prog fn.params.toList s.vars apart W args.toList ds gs before →
      conds.all (PathCond.test C.prog ⟨fn.params.toList, ds, s.plain.varTypes C.prog, gs⟩) = true →
      (DataW.weightsEach C.prog (fn.params.toList ++ s.plain.varTypes C.prog) (ds ++ gs)).all (· ≤ reachBytes) = true → X W args →
      W.ShapedOpen C.prog →
      Calls C.prog f args W fun e W' => ∃ v, e = .returned v ∧ s.post enc C.prog fn apart fresh handsOn again W args v W') :
    ReturnsInHanded a C os f .any (fun w args => (s.pre enc C.prog fn conds apart w args ∧ X w args) ∧ sizedMet enc C.prog fn (OpenSpec.ofChange s) apart w args) (s.post enc C.prog fn apart fresh handsOn again) := by
  refine returnsInHanded_of_calls own started noInit witness ?_
  intro w tape i _ hsh _ hok hpre hholds
  obtain ⟨_, _, _, fn', hfn', _, _, _, _, hval⟩ := hok
  obtain rfl : fn' = fn := Option.some.inj (hfn'.symm.trans hfn)
  obtain ⟨⟨⟨ds, gs, before, hw, hc⟩, hx⟩, hz⟩ := hpre
  refine (contract (w.forCall tape i) w.heap.size i.args ds gs before hval (DataW.Whole.of_heap (w' := w.forCall tape i) (by rfl) hw) hc (hz.weights hw) (hX _ _ _ (by rfl) hx) hsh).mono fun e W' ⟨v, he, hp⟩ => ?_
  subst he
  exact ChangeSpec.post_blind hp
theorem tab_shape {W : World} (h : W.ShapedOpen Tryz.prog) : TabM W := Tryz.laysM146.s1_3 W h
/-- The great table laid where its variable lies. -/
def lay4 (h : Array Obj) : Array Obj := h.modify 7 fun o => match o with
  | .cells _ t fr => .cells ((Go.Pinned.utf8FirstZ.map fun (n : Nat) => Value.int .u8 (n : Int)).toArray) t fr
  | o => o
abbrev laidL : List (String × DataW Unit) := Rows.fnExactLabelsOfRow.laid
theorem line_met (os : Os) (args : Array Value) : laidMetH Tryz.prog laidL (({ World.doorLaid Tryz.prog 80 os with heap := lay4 (World.doorLaid Tryz.prog 80 os).heap } : World).forCall (fun _ _ => 0) ⟨#[], args, []⟩).memory :=
  laidMetH_of_parts3 (fuel := 8) (laidMet_of_run' 8 (by kernel_rfl) (by kernel_rfl)) (by kernel_rfl) (by kernel_rfl)
def LineIs (W : World) : Prop := FormsIs W ∧ NamesIs W
theorem line_of_laid {W : World} (h : laidMetH Tryz.prog laidL W) : LineIs W := by
  rw [MakeChecks.laidMetH_plain _ _ _ (by kernel_rfl)] at h
  have h2 : laidMet Tryz.prog (("loop.example/g00076/impl.opForms", Lib.tabData .i64 forms) :: ("loop.example/g00076/impl.opNames", Rows.laid_loop_example_g00076_impl_opNames) :: ("unicode/utf8.first", Rows.laid_unicode_utf8_first) :: []) W := laidMet.tail h
  exact ⟨forms_head h2, names_head (laidMet.tail h2)⟩
theorem tab_of_line {W : World} (h : LineIs W) : Tab W ∧ TabN W := ⟨tab_forms h.1, tab_names h.2⟩
theorem vars_line {H : Type} {enc : TypeId × Value → H} {W : World} {gs : List (DataW H)} {q : List MemPlace} (h : LineIs W)
    (hV : DataW.TrodVars enc Tryz.prog W (fun _ => true) ["loop.example/g00076/impl.opNames", "loop.example/g00076/impl.opForms"] gs q) :
    gs = [Rows.laid_loop_example_g00076_impl_opNames, Rows.laid_loop_example_g00076_impl_opForms] ∧ ∀ W' sp, Below W.heap.size W W' → DataW.TrodVars enc Tryz.prog W' sp ["loop.example/g00076/impl.opNames", "loop.example/g00076/impl.opForms"] [Rows.laid_loop_example_g00076_impl_opNames, Rows.laid_loop_example_g00076_impl_opForms] (MemPlace.row ⟨2, 0, none⟩ cellsN.size ++ [] ++ (MemPlace.row ⟨1, 0, none⟩ cellsF.size ++ [] ++ [])) :=
  vars_nf h.1 h.2 hV
end Go.Proofs.YtdjapcfejmhjnaaGreatDoor
