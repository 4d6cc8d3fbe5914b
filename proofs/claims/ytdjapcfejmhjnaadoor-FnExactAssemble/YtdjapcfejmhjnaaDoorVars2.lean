/-
  What the laid tables give the walk of a line, and a row's wrap that hands on the world's shape. Condition: the variables read as the program's text lays them.
-/
import Derived.Test.YtdjapcfejmhjnaaDoorVars
import Derived.Test.YtdjapcfejmhjnaaDoorRdx
namespace Go.Proofs.YtdjapcfejmhjnaaDoor
open Go.ChangeShapes Go.WideShapes Go.ChangeAt Go.WideMaps Go.WideElems Go.RowKit
set_option linter.unusedVariables false
set_option maxRecDepth 100000

theorem returns_shaped {H : Type} {enc : TypeId × Value → H} {a : Assume} {C : Checked} {os : Os} {f : FuncId} {fn : Func} {s : ChangeSpec} {conds : List PathCond} {apart fresh handsOn again : Bool} {X : World → Array Value → Prop}
    (hX : ∀ (w w' : World) (args : Array Value), w.heap = w'.heap → X w args → X w' args)
    (own : ownKnob C.prog.godebug = none) (started : os.Started) (noInit : C.prog.inits.idxOf? f = none) (hfn : C.prog.funcs[f]? = some fn)
    (witness : ∃ (w : World) (tape : Tape) (i : Input), w.os = os ∧ (w.forCall tape i).Shaped C.prog ∧ i.vars = [] ∧ Input.okWide C.prog (w.forCall tape i) .any w.heap.size f i ∧
      ((s.pre enc C.prog fn conds apart (w.forCall tape i).memory i.args ∧ X (w.forCall tape i).memory i.args) ∧ sizedMet enc C.prog fn (OpenSpec.ofChange s) apart (w.forCall tape i).memory i.args) ∧ a.holds C.prog (lone (Frame.enter C.prog f i.args .normal) [] (w.forCall tape i)))
    (contract : ∀ (W : World) (base : Nat) (args : Array Value) (ds gs : List (DataW H)) (before : List MemPlace),
      (∀ (j : Nat) t v, fn.params[j]? = some t → args[j]? = some v → Value.okWide C.prog W .any base t v) →
      DataW.Whole enc C.prog fn.params.toList s.vars apart W args.toList ds gs before →
      conds.all (PathCond.test C.prog ⟨fn.params.toList, ds, s.plain.varTypes C.prog, gs⟩) = true →
      (DataW.weightsEach C.prog (fn.params.toList ++ s.plain.varTypes C.prog) (ds ++ gs)).all (· ≤ reachBytes) = true → X W args →
      W.ShapedOpen C.prog →
      Calls C.prog f args W fun e W' => ∃ v, e = .returned v ∧ s.post enc C.prog fn apart fresh handsOn again W args v W') :
    ReturnsInHanded a C os f .any (fun w args => (s.pre enc C.prog fn conds apart w args ∧ X w args) ∧ sizedMet enc C.prog fn (OpenSpec.ofChange s) apart w args) (s.post enc C.prog fn apart fresh handsOn again) := by
  refine returnsInHanded_of_calls own started noInit witness ?_
  intro w tape i _ hsh _ hok hpre hholds
  obtain ⟨_, _, _, fn', hfn', _, _, _, _, hval⟩ := hok
  obtain rfl : fn' = fn := Option.some.inj (hfn'.symm.trans hfn)
  obtain ⟨⟨⟨ds, gs, before, hw, hc⟩, hx⟩, hz⟩ := hpre
  refine (contract (w.forCall tape i) w.heap.size i.args ds gs before hval (DataW.Whole.of_heap (w' := w.forCall tape i) (by rfl) hw) hc (hz.weights hw) (hX _ _ _ (by rfl) hx) hsh).mono fun e W' ⟨v, he, hp⟩ => ?_
  subst he
  exact ChangeSpec.post_blind hp
theorem tab_shape {W : World} (h : W.ShapedOpen Tryd.prog) : TabM W := Tryd.laysM146.s1_3 W h
/-- The great table laid where its variable lies. -/
def lay4 (h : Array Obj) : Array Obj := h.modify 4 fun o => match o with
  | .cells _ t fr => .cells ((Go.Pinned.utf8FirstZ.map fun (n : Nat) => Value.int .u8 (n : Int)).toArray) t fr
  | o => o
abbrev laidL : List (String × DataW Unit) := Rows.fnExactReadLineRow.laid
theorem line_met (os : Os) (args : Array Value) : laidMetH Tryd.prog laidL (({ World.doorLaid Tryd.prog 80 os with heap := lay4 (World.doorLaid Tryd.prog 80 os).heap } : World).forCall (fun _ _ => 0) ⟨#[], args, []⟩).memory :=
  laidMetH_of_parts3 (fuel := 8) (laidMet_of_run' 8 (by kernel_rfl) (by kernel_rfl)) (by kernel_rfl) (by kernel_rfl)
def LineIs (W : World) : Prop := FormsIs W ∧ NamesIs W
theorem line_of_laid {W : World} (h : laidMetH Tryd.prog laidL W) : LineIs W := by
  rw [MakeChecks.laidMetH_plain _ _ _ (by kernel_rfl)] at h
  have h2 : laidMet Tryd.prog (("loop.example/g00076/impl.opForms", Lib.tabData .i64 forms) :: ("loop.example/g00076/impl.opNames", Rows.laid_loop_example_g00076_impl_opNames) :: ("unicode/utf8.first", Rows.laid_unicode_utf8_first) :: []) W := laidMet.tail h
  exact ⟨forms_head h2, names_head (laidMet.tail h2)⟩
theorem tab_of_line {W : World} (h : LineIs W) : Tab W ∧ TabN W := ⟨tab_forms h.1, tab_names h.2⟩
theorem vars_line {H : Type} {enc : TypeId × Value → H} {W : World} {gs : List (DataW H)} {q : List MemPlace} (h : LineIs W)
    (hV : DataW.TrodVars enc Tryd.prog W (fun _ => true) ["loop.example/g00076/impl.opNames", "loop.example/g00076/impl.opForms"] gs q) :
    gs = [Rows.laid_loop_example_g00076_impl_opNames, Rows.laid_loop_example_g00076_impl_opForms] ∧ ∀ W' sp, Below W.heap.size W W' → DataW.TrodVars enc Tryd.prog W' sp ["loop.example/g00076/impl.opNames", "loop.example/g00076/impl.opForms"] [Rows.laid_loop_example_g00076_impl_opNames, Rows.laid_loop_example_g00076_impl_opForms] (MemPlace.row ⟨1, 0, none⟩ cellsN.size ++ [] ++ (MemPlace.row ⟨0, 0, none⟩ cellsF.size ++ [] ++ [])) :=
  vars_nf h.1 h.2 hV
end Go.Proofs.YtdjapcfejmhjnaaDoor
