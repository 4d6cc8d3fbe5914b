/-
  A list of integers that came in, and how it is read. No function of the program in sight; no conditions.
-/
import Derived.Test.YtpecihkkbfjahaaRows
import Derived.Test.YtpecihkkbfjahaaTin
namespace Go.Proofs.Ytpecihkkbfjahaa
open Go.ChangeShapes Go.WideShapes Go.ChangeAt Go.RowKit Go.Deep
set_option linter.unusedVariables false

theorem ints_arg {H : Type} {enc : TypeId × Value → H} {W : World} {r : Reach} {b0 base : Nat} {spare : Nat → Bool} {held : Bool} {v : Value} {d : DataW H} {p : List MemPlace}
    (hv : Value.okWide Try.prog W r b0 22 v) (h : DataW.Trod enc Try.prog W base spare held 22 v d p) :
    ∃ a zs c, v = .slice a (List.length zs) c ∧ Seg .i64 W a zs ∧ zs.length ≤ 9223372036854775807 := by
  obtain ⟨a, len, cap, rfl⟩ := okWide_slice Try.underlying22 hv
  obtain ⟨fuel, hf⟩ := h
  obtain ⟨a', zs, c, e, hs, h1, _⟩ := ints_open hf
  simp [Value.cells] at e
  obtain ⟨rfl, rfl, rfl⟩ := e
  exact ⟨_, zs, _, rfl, hs, h1⟩
end Go.Proofs.Ytpecihkkbfjahaa
