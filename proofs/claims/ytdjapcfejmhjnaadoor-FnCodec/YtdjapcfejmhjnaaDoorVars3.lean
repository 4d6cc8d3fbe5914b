/-
  What the laid tables give the walk of FnCodec. Condition: the variables read as the program's text lays them.
-/
import Derived.Test.YtdjapcfejmhjnaaDoorVars2
import Derived.Test.YtdjapcfejmhjnaaDoorFc
namespace Go.Proofs.YtdjapcfejmhjnaaDoor
open Go.ChangeShapes Go.WideShapes Go.ChangeAt Go.WideMaps Go.WideElems Go.RowKit
set_option linter.unusedVariables false
set_option maxRecDepth 100000

abbrev laidC : List (String × DataW Unit) := Rows.fnCodecRow.laid
theorem codec_met (os : Os) (args : Array Value) : laidMetH Tryd.prog laidC (({ World.doorLaid Tryd.prog 80 os with heap := lay4 (World.doorLaid Tryd.prog 80 os).heap } : World).forCall (fun _ _ => 0) ⟨#[], args, []⟩).memory :=
  laidMetH_of_parts3 (fuel := 8) (laidMet_of_run' 8 (by kernel_rfl) (by kernel_rfl)) (by kernel_rfl) (by kernel_rfl)
theorem codec_of_laid {W : World} (h : laidMetH Tryd.prog laidC W) : ShowIs W := by
  rw [MakeChecks.laidMetH_plain _ _ _ (by kernel_rfl)] at h
  have h2 : laidMet Tryd.prog (("internal/strconv.uint64pow10", Lib.tabData .u64 Lib.pow10Tab) :: ("unicode/utf8.acceptRanges", Rows.laid_unicode_utf8_acceptRanges) :: ("loop.example/g00076/impl.opForms", Lib.tabData .i64 forms) :: ("loop.example/g00076/impl.opNames", Rows.laid_loop_example_g00076_impl_opNames) :: ("unicode/utf8.first", Rows.laid_unicode_utf8_first) :: []) W := laidMet.tail (laidMet.tail h)
  exact ⟨forms_head (laidMet.tail (laidMet.tail h2)), names_head (laidMet.tail (laidMet.tail (laidMet.tail h2))), pow_head h2⟩
theorem tab_of_codec {W : World} (h : ShowIs W) : Tab W ∧ TabN W ∧ TabP W := tab_of_show h
theorem vars_codec {H : Type} {enc : TypeId × Value → H} {W : World} {gs : List (DataW H)} {q : List MemPlace} (h : ShowIs W)
    (hV : DataW.TrodVars enc Tryd.prog W (fun _ => true) ["loop.example/g00076/impl.opForms", "loop.example/g00076/impl.opNames"] gs q) :
    gs = [Rows.laid_loop_example_g00076_impl_opForms, Rows.laid_loop_example_g00076_impl_opNames] ∧ ∀ W' sp, Below W.heap.size W W' → DataW.TrodVars enc Tryd.prog W' sp ["loop.example/g00076/impl.opForms", "loop.example/g00076/impl.opNames"] [Rows.laid_loop_example_g00076_impl_opForms, Rows.laid_loop_example_g00076_impl_opNames] (MemPlace.row ⟨0, 0, none⟩ cellsF.size ++ [] ++ (MemPlace.row ⟨1, 0, none⟩ cellsN.size ++ [] ++ [])) :=
  vars_fn h.1 h.2.1 hV
end Go.Proofs.YtdjapcfejmhjnaaDoor
