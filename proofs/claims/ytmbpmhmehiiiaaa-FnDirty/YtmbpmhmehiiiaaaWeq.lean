
/-
  Two ways, rows, caches that read alike are told to be alike. Conditions: their lengths are at most 1048576.
-/
import Derived.Test.YtmbpmhmehiiiaaaRows
import Derived.Test.YtmbpmhmehiiiaaaShp
import Derived.Test.YtmbpmhmehiiiaaaWys
import Derived.Deep.RegionHeld3
import Derived.Deep.QuietTactic
import Derived.BigQuiet
namespace Go.Proofs.Ytmbpmhmehiiiaaa
open Go.ChangeShapes Go.WideShapes Go.ChangeAt Go.RowKit Go.Deep
set_option linter.unusedVariables false

abbrev cch (s y l : Int) (v : Value) : Value := .agg #[.int .i64 s, .int .i64 y, .int .i64 l, v]
theorem cell_alloc_l {w : World} {p : Addr} {v : Value} (o : Obj) (h : w.cell? p = some v) : (w.alloc o).cell? p = some v := kept_cell ((Below.refl _ _).alloc (Nat.le_refl _) _) h
end Go.Proofs.Ytmbpmhmehiiiaaa
