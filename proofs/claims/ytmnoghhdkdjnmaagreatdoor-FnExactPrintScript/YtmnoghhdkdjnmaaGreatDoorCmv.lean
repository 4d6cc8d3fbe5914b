
/-
  Lists of commands that come in as an argument. No conditions.
-/
import Derived.Test.YtmnoghhdkdjnmaaGreatDoorBas
import Derived.Test.YtmnoghhdkdjnmaaGreatDoorProg
import Derived.Test.YtmnoghhdkdjnmaaGreatDoorCms
import Derived.Test.YtmnoghhdkdjnmaaGreatDoorOpn
import Derived.ChangeSlices
import Derived.OpenShut
namespace Go.Proofs.YtmnoghhdkdjnmaaGreatDoor
open Go.ChangeShapes Go.WideShapes Go.ChangeAt Go.RowKit Go.Joins Go.Deep
set_option linter.unusedVariables false

set_option maxRecDepth 100000 in
theorem cmds_arg {H : Type} {enc : TypeId × Value → H} {W : World} {r : Reach} {b0 base : Nat} {held : Bool} {v : Value} {d : DataW H} {p : List MemPlace}
    (hv : Value.okWide Tryz.prog W r b0 32 v) (h : DataW.Trod enc Tryz.prog W base (fun _ => true) held 32 v d p) :
    ∃ a n c xs, v = .slice a n c ∧ GSeg 3 W a n (cmX xs) ∧ n ≤ 9223372036854775807 := by
  obtain ⟨a, len, cap, rfl⟩ := okWide_slice Tryz.underlying32 hv
  obtain ⟨fuel, hf⟩ := h
  obtain ⟨a', n, c, xs, e, hs, _, hn⟩ := cm_open hf
  simp [Value.cells] at e
  obtain ⟨rfl, rfl, rfl⟩ := e
  exact ⟨_, _, _, xs, rfl, hs, hn⟩
end Go.Proofs.YtmnoghhdkdjnmaaGreatDoor
