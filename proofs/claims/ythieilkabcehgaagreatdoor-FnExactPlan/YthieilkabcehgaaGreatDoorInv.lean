
/-
  Lists of integers that come in as an argument. No conditions.
-/
import Derived.Test.YthieilkabcehgaaGreatDoorBas
import Derived.Test.YthieilkabcehgaaGreatDoorProg
import Derived.Test.YthieilkabcehgaaGreatDoorIns
import Derived.Test.YthieilkabcehgaaGreatDoorOpn
import Derived.ChangeSlices
import Derived.OpenShut
namespace Go.Proofs.YthieilkabcehgaaGreatDoor
open Go.ChangeShapes Go.WideShapes Go.ChangeAt Go.RowKit Go.Joins Go.Deep
set_option linter.unusedVariables false

set_option maxRecDepth 100000 in
theorem ints_arg {H : Type} {enc : TypeId × Value → H} {W : World} {r : Reach} {b0 base : Nat} {held : Bool} {v : Value} {d : DataW H} {p : List MemPlace}
    (hv : Value.okWide Tryz.prog W r b0 27 v) (h : DataW.Trod enc Tryz.prog W base (fun _ => true) held 27 v d p) :
    ∃ a n c zs, v = .slice a n c ∧ GSeg 1 W a n (inX zs) ∧ zs.length = n ∧ n ≤ 9223372036854775807 := by
  obtain ⟨a, len, cap, rfl⟩ := okWide_slice Tryz.underlying27 hv
  obtain ⟨fuel, hf⟩ := h
  obtain ⟨a', n, c, zs, e, hs, hl, hn⟩ := in_open hf
  simp [Value.cells] at e
  obtain ⟨rfl, rfl, rfl⟩ := e
  exact ⟨_, _, _, zs, rfl, hs, hl, hn⟩
end Go.Proofs.YthieilkabcehgaaGreatDoor
