
/-
  What the laws' helpers on lists of rows of bytes do: their measure, their copies, whether two read alike, the marks that are laid and looked up. Conditions: rows and bytes are at most 1048576 together.
-/
import Derived.Test.YtanffdedignegaaBas
import Derived.Test.YtanffdedignegaaProg
import Derived.Test.YtanffdedignegaaGnm
namespace Go.Proofs.Ytanffdedignegaa
open Go.ChangeShapes Go.WideShapes Go.ChangeAt Go.RowKit Go.Deep
set_option linter.unusedVariables false

theorem Bsb.made (w : World) (n : Nat) (T : TypeId) (D : Nat → List Int) : Bsb (w.alloc (.cells (madeCells #[.slice none 0 0] n) T)) w.heap.size (w.heap.size + 1) w.heap.size n 0 D := by
  refine ⟨by omega, by simp, Nat.le_refl _, fun j => by simp, fun i hi => ⟨_, (World.rowIs_made w (.slice none 0 0) n T).cell hi⟩, fun _ => none, fun _ => 0, fun _ => 0, ⟨fun i hi => absurd hi (by omega), fun i hi => absurd hi (by omega), fun i hi => absurd hi (by omega), fun i hi => absurd hi (by omega), fun i j hi => absurd hi (by omega)⟩⟩
theorem bmarkD_len (k : Nat) (D : Nat → List Int) (i : Nat) : (bmarkD k D i).length = (D i).length := by simp [bmarkD, marksM_len]
end Go.Proofs.Ytanffdedignegaa
