
/-
  The laws' own measure of rows and caches: below 0, or what is left of it. Conditions: lengths are lengths of slices.
-/
import Derived.Test.YtmbpmhmehiiiaaaRows
import Derived.Test.YtmbpmhmehiiiaaaWeq
namespace Go.Proofs.Ytmbpmhmehiiiaaa
open Go.ChangeShapes Go.WideShapes Go.ChangeAt Go.RowKit Go.Deep
set_option linter.unusedVariables false

end Go.Proofs.Ytmbpmhmehiiiaaa
