
/-
  A guest's memory, copied by the specification: rows of the call's own that read as those that came in. Conditions: rows and bytes are at most 1048576 together.
-/
import Derived.Test.YtanffdedignegaaBas
import Derived.Test.YtanffdedignegaaProg
import Derived.Test.YtanffdedignegaaGcp
namespace Go.Proofs.Ytanffdedignegaa
open Go.ChangeShapes Go.WideShapes Go.ChangeAt Go.RowKit Go.Deep
set_option linter.unusedVariables false

theorem bla_start (w : World) (D : Nat → List Int) (A : Nat → Option Addr) (C R : Nat → Nat) : Bla (w.alloc (.cells #[] 22)) w.heap.size (w.heap.size + 1) (.slice (some ⟨w.heap.size, 0, none⟩) 0 0) 0 D A C R :=
  ⟨by simp, own_empty w 22 w.heap.size rfl, fun g h => by simp [Value.ownBlock] at h; omega, fun i hi => absurd hi (by omega), fun i hi => absurd hi (by omega), fun i hi => absurd hi (by omega), fun i j hi => absurd hi (by omega)⟩
end Go.Proofs.Ytanffdedignegaa
