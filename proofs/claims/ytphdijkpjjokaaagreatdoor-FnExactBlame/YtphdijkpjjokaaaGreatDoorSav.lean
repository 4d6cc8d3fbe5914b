
/-
  Lists of spans that come in as an argument. No conditions.
-/
import Derived.Test.YtphdijkpjjokaaaGreatDoorBas
import Derived.Test.YtphdijkpjjokaaaGreatDoorProg
import Derived.Test.YtphdijkpjjokaaaGreatDoorSps
import Derived.Test.YtphdijkpjjokaaaGreatDoorOpn
import Derived.ChangeSlices
import Derived.OpenShut
namespace Go.Proofs.YtphdijkpjjokaaaGreatDoor
open Go.ChangeShapes Go.WideShapes Go.ChangeAt Go.RowKit Go.Joins Go.Deep
set_option linter.unusedVariables false

set_option maxRecDepth 100000 in
theorem spans_arg {H : Type} {enc : TypeId × Value → H} {W : World} {r : Reach} {b0 base : Nat} {held : Bool} {v : Value} {d : DataW H} {p : List MemPlace}
    (hv : Value.okWide Tryz.prog W r b0 48 v) (h : DataW.Trod enc Tryz.prog W base (fun _ => true) held 48 v d p) :
    ∃ a n c xs, v = .slice a n c ∧ GSeg 4 W a n (saX xs) ∧ xs.length = n ∧ n ≤ 9223372036854775807 := by
  obtain ⟨a, len, cap, rfl⟩ := okWide_slice Tryz.underlying48 hv
  obtain ⟨fuel, hf⟩ := h
  obtain ⟨a', n, c, xs, e, hs, hl, hn⟩ := sa_open hf
  simp [Value.cells] at e
  obtain ⟨rfl, rfl, rfl⟩ := e
  exact ⟨_, _, _, xs, rfl, hs, hl, hn⟩
end Go.Proofs.YtphdijkpjjokaaaGreatDoor
