/-
  What the laid tables give the walk of the assembler's law. Condition: the variables read as the program's text lays them.
  At every text Assemble answers as its model: the law FnExactAssemble returns true and its argument reads as before; the tied card. Condition: the tables hold what the text lays (the card ties them to it).
  Built over the program of the commit that COMMIT names.
-/
import Derived.Test.YtdjapcfejmhjnaaDoorVars2
import Derived.Test.YtdjapcfejmhjnaaDoorAsx
import Derived.LaidHandle
import Derived.Test.YtdjapcfejmhjnaaDoorRows
import Derived.Test.YtdjapcfejmhjnaaDoorTie
import Derived.Test.YtdjapcfejmhjnaaDoorCards
namespace Go.Proofs.YtdjapcfejmhjnaaDoor
open Go.ChangeShapes Go.WideShapes Go.ChangeAt Go.WideMaps Go.WideElems Go.RowKit
set_option linter.unusedVariables false
set_option maxRecDepth 100000

/-- The great table and the handle laid where their variables lie. -/
def lay5 (h : Array Obj) : Array Obj := (lay4 h).modify 2 fun o => match o with
  | .cells _ t fr => .cells #[.iface 152 (.agg #[.pointer (some ⟨9, 84, none⟩)])] t fr
  | o => o
abbrev laidA : List (String × DataW Unit) := Rows.fnExactAssembleRow.laid
theorem asm_met (os : Os) (args : Array Value) : laidMetH Tryd.prog laidA (({ World.doorLaid Tryd.prog 80 os with heap := lay5 (World.doorLaid Tryd.prog 80 os).heap } : World).forCall (fun _ _ => 0) ⟨#[], args, []⟩).memory :=
  laidMetH_of_parts3 (fuel := 8) (laidMet_of_run' 8 (by kernel_rfl) (by kernel_rfl)) (by kernel_rfl) (by kernel_rfl)
theorem gErr : Tryd.prog.globalNamed "errors.errorType" = some 2 := by kernel_rfl
theorem rtErr : (Tryd.prog.cutTypes.find? (·.1 == "internal/reflectlite.rtype")).map (·.2) = some 152 := by kernel_rfl
theorem oneErr : ((List.range Tryd.prog.types.size).filter fun t => Tryd.prog.rowNamed t [101, 114, 114, 111, 114]) = [84] := by kernel_rfl
theorem handleErr : typeHandle Tryd.prog 84 = .pointer (some ⟨9, 84, none⟩) := by kernel_rfl
def AsmIs (W : World) : Prop := FormsIs W ∧ NamesIs W ∧ TabT W
theorem asm_of_laid {W : World} (h : laidMetH Tryd.prog laidA W) : AsmIs W := by
  have h' : laidMet Tryd.prog (("unicode/utf8.acceptRanges", Rows.laid_unicode_utf8_acceptRanges) :: ("loop.example/g00076/impl.opForms", Lib.tabData .i64 forms) :: ("loop.example/g00076/impl.opNames", Rows.laid_loop_example_g00076_impl_opNames) :: ("unicode/utf8.first", Rows.laid_unicode_utf8_first) :: []) W ∧ handlesMet Tryd.prog [("errors.errorType", Rows.laid_errors_errorType)] W := h
  have h2 := laidMet.tail h'.1
  refine ⟨forms_head h2, names_head (laidMet.tail h2), ?_⟩
  obtain ⟨name, u, ty, e1, e2, e3, e4, e5⟩ := h'.2 _ (List.mem_singleton.2 rfl)
  have en : name = [101, 114, 114, 111, 114] := (Option.some.inj e1).symm
  subst en
  obtain rfl := Option.some.inj (rtErr.symm.trans e2)
  have hm : ty ∈ (List.range Tryd.prog.types.size).filter fun t => Tryd.prog.rowNamed t [101, 114, 114, 111, 114] := List.mem_filter.2 ⟨List.mem_range.2 e3, e4⟩
  rw [oneErr] at hm
  obtain rfl := List.mem_singleton.1 hm
  rw [handleErr] at e5
  have := World.var?_cell gErr e5 0
  simpa [TabT] using this
theorem tab_of_asm {W : World} (h : AsmIs W) : Tab W ∧ TabN W ∧ TabT W := ⟨tab_forms h.1, tab_names h.2.1, h.2.2⟩
theorem vars_asm {H : Type} {enc : TypeId × Value → H} {W : World} {gs : List (DataW H)} {q : List MemPlace} (h : AsmIs W)
    (hV : DataW.TrodVars enc Tryd.prog W (fun _ => true) ["loop.example/g00076/impl.opNames", "loop.example/g00076/impl.opForms"] gs q) :
    gs = [Rows.laid_loop_example_g00076_impl_opNames, Rows.laid_loop_example_g00076_impl_opForms] ∧ ∀ W' sp, Below W.heap.size W W' → DataW.TrodVars enc Tryd.prog W' sp ["loop.example/g00076/impl.opNames", "loop.example/g00076/impl.opForms"] [Rows.laid_loop_example_g00076_impl_opNames, Rows.laid_loop_example_g00076_impl_opForms] (MemPlace.row ⟨1, 0, none⟩ cellsN.size ++ [] ++ (MemPlace.row ⟨0, 0, none⟩ cellsF.size ++ [] ++ [])) :=
  vars_nf h.1 h.2.1 hV
end Go.Proofs.YtdjapcfejmhjnaaDoor
namespace Go.Proofs.YtdjapcfejmhjnaaDoor.Assemble
open Go.ChangeShapes Go.WideShapes Go.ChangeAt Go.WideMaps Go.WideElems Go.RowKit
open Go.ChangeMaps (open_string shut_string)
set_option linter.unusedVariables false

theorem walk (s : ByteArray) (w0 : s.size ≤ maxLen) (w : World) (hT : Tab w ∧ TabN w ∧ TabT w) (hM : TabM w) : Calls Tryd.prog 5 #[.string s] w fun e w' => e = .returned (.bool true) ∧ Below w.heap.size w w' :=
  asm_law s w hM hT.1 hT.2.1 hT.2.2

set_option maxRecDepth 100000 in
theorem lifted (os : Os) (started : os.Started) (H : Type) (enc : TypeId × Value → H) :
    ReturnsInHanded {} Tryd.checked os 5 .any (fun w args => (Rows.fnExactAssembleSpec.pre enc Tryd.prog Tryd.f5 [] false w args ∧ laidMetH Tryd.prog laidA w) ∧ sizedMet enc Tryd.prog Tryd.f5 (OpenSpec.ofChange Rows.fnExactAssembleSpec) false w args)
      (Rows.fnExactAssembleSpec.post enc Tryd.prog Tryd.f5 false true false false) := by
  refine returns_shaped (C := Tryd.checked) (X := fun w _ => laidMetH Tryd.prog laidA w) (fun _ _ _ hh h => h.of_heap hh) own started (by kernel_rfl) Tryd.func5
    (ChangeSpec.witness_shaped (enc := enc) (C := Tryd.checked) (os := os) (X := fun w _ => laidMetH Tryd.prog laidA w) false ({ World.doorLaid Tryd.prog 80 os with heap := lay5 (World.doorLaid Tryd.prog 80 os).heap } : World) #[.string ⟨#[]⟩] 8 rfl (World.shaped_of_RefB (by kernel_rfl) (by kernel_rfl)) (by kernel_rfl) (by kernel_rfl) (by kernel_rfl) (asm_met os _)) ?_
  intro W base args ds gs before hval0 hW _ _ hL hsh
  have hval : ∀ (j : Nat) t v, Tryd.f5.params[j]? = some t → args[j]? = some v → Value.okWide Tryd.prog W .any base t v := hval0
  have hW' := hW
  obtain ⟨p, q, hA0, hV, rfl, hfz, hnd⟩ := hW
  have hA : DataW.TrodAll enc Tryd.prog W 0 (fun _ => true) true Tryd.f5.params.toList args.toList ds p := hA0
  rw [Tryd.params5] at hA hval
  obtain ⟨v0, d0, rfl, rfl, h0⟩ := trodAll_one hA
  have htab := asm_of_laid hL
  obtain ⟨rfl, hvars⟩ := vars_asm htab hV
  obtain ⟨s, rfl, rfl, rfl, w0⟩ := open_string Tryd.underlying9 (hval 0 9 v0 rfl rfl) h0
  clear hA0 hval0
  refine (walk s w0 W (tab_of_asm htab) (tab_shape hsh)).mono fun e W' ⟨he, bel⟩ => ?_
  subst he
  exact ⟨_, rfl, _, _, _, [], [], _, hW', (trodAll_mk1 (shut_bool Tryd.underlying4 _)), (trodAll_mk1 (shut_string Tryd.underlying9 w0)), hvars W' _ bel, bel.frame _, fun h => by cases h⟩
theorem row_holds : Rows.FnExactAssembleSaid :=
  OpenClaim.holds_of_wide 5 Tryd.f5 rfl rfl rfl rfl rfl rfl rfl ⟨rfl, rfl, rfl, rfl, rfl⟩ rfl rfl rfl rfl rfl (by kernel_rfl) Tryd.func5 (by kernel_rfl)
    (of_decide_eq_true (by kernel_rfl)) (by unfold Func.isWrapper; first | (rw [if_pos (by decide +kernel)]; kernel_rfl) | (rw [if_neg (by decide +kernel)]; exact ⟨rfl, rfl⟩))
    (fun os started H enc _ => lifted os started H enc)
end Go.Proofs.YtdjapcfejmhjnaaDoor.Assemble
namespace Go.Proofs.YtdjapcfejmhjnaaDoor
theorem FnExactAssemble_holds : Rows.FnExactAssembleCardSaid :=
  Claim7.holds_tied_plain_at .later [] [.data, .handle, .data, .data, .pinned] true (true, "0e9a5867fcfba9d3e7e5da597f9d221a76d5b1c8bce492a4ebc560dd9f53807d") true
    Assemble.row_holds (fun _ h => by cases h) (by kernel_rfl) (fun _ h => by cases h) fnExactAssemble_row_tie rfl ⟨rfl, rfl⟩ (by kernel_rfl) rfl
    (fun f fn hf hfn => by
      obtain rfl : f = 5 := Option.some.inj ((show Tryd.prog.funcNamed "loop.example/g00076/laws.FnExactAssemble" = some 5 by kernel_rfl).symm.trans hf) |>.symm
      obtain rfl : fn = Tryd.f5 := (Option.some.inj (Tryd.func5.symm.trans hfn)).symm
      exact ⟨by kernel_rfl, fun j t ht => by
        rw [Tryd.params5] at ht
        have hm : t ∈ [9] := by simpa using Array.mem_of_getElem? ht
        have hall : ([9].all fun u => !Tryd.prog.wantsStandIn u) = true := by kernel_rfl
        exact (show Tryd.prog.wantsStandIn t = false by simpa using List.all_eq_true.1 hall t hm)⟩)
    (by kernel_rfl)

end Go.Proofs.YtdjapcfejmhjnaaDoor
