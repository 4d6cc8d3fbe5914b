
/-
  Many uses of a cache, one after another: the program's own function. Conditions: the shape is right, there are at most 2000 uses, which read as such.
-/
import Derived.Test.YtmbpmhmehiiiaaaRows
import Derived.Test.YtmbpmhmehiiiaaaCri
namespace Go.Proofs.Ytmbpmhmehiiiaaa
open Go.ChangeShapes Go.WideShapes Go.ChangeAt Go.RowKit Go.Deep
set_option linter.unusedVariables false

theorem CV.free_cell {w W : World} {Rb lo n : Nat} {M L : Int} {D : Nat → List Wy} {hd : Nat → Nat} {bs : Nat → List Nat} {v : Value} {xs : List Ac} (h : CV w W Rb lo n M L D hd bs v xs) : w.heap.size < W.heap.size := h.box.lt
end Go.Proofs.Ytmbpmhmehiiiaaa
