/-
  Shapes that come in, and how they are read. No function of the program in sight; no conditions but those that each fact names.
-/
import Derived.Test.YtifgmgehnbkbjaaShp
import Derived.Lib.SmallJoins
import Derived.ProofKit
import Derived.OpenShut
namespace Go.Proofs.Ytifgmgehnbkbjaa
open Go.ChangeShapes Go.WideShapes Go.ChangeAt Go.RowKit Go.Joins
set_option linter.unusedVariables false

theorem array3 {α : Type} {cs : Array α} (h : cs.size = 3) : ∃ c0 c1 c2, cs = #[c0, c1, c2] := by
  obtain ⟨l⟩ := cs
  match l, h with
  | [c0, c1, c2], _ => exact ⟨c0, c1, c2, rfl⟩
theorem list3 {α : Type} {cs : List α} (h : cs.length = 3) : ∃ c0 c1 c2, cs = [c0, c1, c2] := by
  match cs, h with
  | [c0, c1, c2], _ => exact ⟨c0, c1, c2, rfl⟩
theorem laidOut : laidOutB Try.prog = true := by kernel_rfl
theorem cells3 : Try.prog.cellsOf 3 = 1 := by kernel_rfl
theorem cells4 : Try.prog.cellsOf 4 = 1 := by kernel_rfl
theorem cellsSL : Try.prog.cellsOf 37 = 3 := by kernel_rfl
set_option maxRecDepth 100000 in
theorem shp_open {H : Type} {enc : TypeId × Value → H} {W : World} {r : Reach} {b0 base : Nat} {spare : Nat → Bool} {held : Bool} {v : Value} {d : DataW H} {p : List MemPlace}
    (hv : Value.okWide Try.prog W r b0 37 v) (h : DataW.Trod enc Try.prog W base spare held 37 v d p) :
    ∃ s y l, v = shp s y l := by
  obtain ⟨cs, rfl, hsz⟩ := okWide_struct Try.underlying37 hv
  obtain ⟨v0, v1, v2, rfl⟩ := array3 (hsz.trans cellsSL)
  obtain ⟨fuel, hf⟩ := h
  obtain ⟨xs, n, _, hx, _, hl, hfs⟩ := DataW.trod_struct Try.underlying37 hf
  obtain ⟨y0, y1, y2, rfl⟩ := list3 hl
  have g0 := hfs 0 _ rfl
  have g1 := hfs 1 _ rfl
  have g2 := hfs 2 _ rfl
  simp only [Value.cells] at g0 g1 g2
  obtain ⟨b, e0, rfl, w0⟩ := DataW.trod_int Try.underlying3 g0
  obtain ⟨m, e1, rfl, w1⟩ := DataW.trod_int Try.underlying3 g1
  obtain ⟨e, e2, rfl, w2⟩ := DataW.trod_int Try.underlying3 g2
  simp [cells3] at e0 e1 e2
  subst e0 e1 e2
  exact ⟨b, m, e, rfl⟩
end Go.Proofs.Ytifgmgehnbkbjaa
