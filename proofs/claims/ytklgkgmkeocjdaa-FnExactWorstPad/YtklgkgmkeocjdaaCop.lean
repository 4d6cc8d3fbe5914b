
/-
  Costs and accesses that come in, and how they are read. No function of the program in sight; no conditions but those that each fact names.
-/
import Derived.Test.YtklgkgmkeocjdaaBas
import Derived.Test.YtklgkgmkeocjdaaCost
import Derived.Lib.SmallJoins
import Derived.ProofKit
import Derived.OpenShut
namespace Go.Proofs.Ytklgkgmkeocjdaa
open Go.ChangeShapes Go.WideShapes Go.ChangeAt Go.RowKit Go.Joins
set_option linter.unusedVariables false

theorem array7 {α : Type} {cs : Array α} (h : cs.size = 7) : ∃ c0 c1 c2 c3 c4 c5 c6, cs = #[c0, c1, c2, c3, c4, c5, c6] := by
  obtain ⟨l⟩ := cs
  match l, h with
  | [c0, c1, c2, c3, c4, c5, c6], _ => exact ⟨c0, c1, c2, c3, c4, c5, c6, rfl⟩
theorem list7 {α : Type} {cs : List α} (h : cs.length = 7) : ∃ c0 c1 c2 c3 c4 c5 c6, cs = [c0, c1, c2, c3, c4, c5, c6] := by
  match cs, h with
  | [c0, c1, c2, c3, c4, c5, c6], _ => exact ⟨c0, c1, c2, c3, c4, c5, c6, rfl⟩
abbrev cstD {H : Type} (b m e s k t l : Int) : DataW H := .agg [.lit (.int .i64 b), .lit (.int .i64 m), .lit (.int .i64 e), .lit (.int .i64 s), .lit (.int .i64 k), .lit (.int .i64 t), .lit (.int .i64 l)]
abbrev cstW (b m e s k t l : Int) : Prop := (Lit.int .i64 b).wf = true ∧ (Lit.int .i64 m).wf = true ∧ (Lit.int .i64 e).wf = true ∧ (Lit.int .i64 s).wf = true ∧ (Lit.int .i64 k).wf = true ∧ (Lit.int .i64 t).wf = true ∧ (Lit.int .i64 l).wf = true
theorem cellsC : Try.prog.cellsOf 29 = 7 := by kernel_rfl
theorem cst_open {H : Type} {enc : TypeId × Value → H} {W : World} {r : Reach} {b0 base : Nat} {spare : Nat → Bool} {held : Bool} {v : Value} {d : DataW H} {p : List MemPlace}
    (hv : Value.okWide Try.prog W r b0 29 v) (h : DataW.Trod enc Try.prog W base spare held 29 v d p) :
    ∃ b m e s k t l, v = cst b m e s k t l ∧ d = cstD b m e s k t l ∧ p = [] ∧ cstW b m e s k t l := by
  obtain ⟨cs, rfl, hsz⟩ := okWide_struct Try.underlying29 hv
  obtain ⟨v0, v1, v2, v3, v4, v5, v6, rfl⟩ := array7 (hsz.trans cellsC)
  obtain ⟨fuel, hf⟩ := h
  obtain ⟨xs, n, _, hx, _, hl, hfs⟩ := DataW.trod_struct Try.underlying29 hf
  obtain ⟨y0, y1, y2, y3, y4, y5, y6, rfl⟩ := list7 hl
  have g0 := hfs 0 _ rfl
  have g1 := hfs 1 _ rfl
  have g2 := hfs 2 _ rfl
  have g3 := hfs 3 _ rfl
  have g4 := hfs 4 _ rfl
  have g5 := hfs 5 _ rfl
  have g6 := hfs 6 _ rfl
  simp only [Value.cells] at g0 g1 g2 g3 g4 g5 g6
  obtain ⟨b, e0, rfl, w0⟩ := DataW.trod_int Try.underlying3 g0
  obtain ⟨m, e1, rfl, w1⟩ := DataW.trod_int Try.underlying3 g1
  obtain ⟨e, e2, rfl, w2⟩ := DataW.trod_int Try.underlying3 g2
  obtain ⟨s, e3, rfl, w3⟩ := DataW.trod_int Try.underlying3 g3
  obtain ⟨k, e4, rfl, w4⟩ := DataW.trod_int Try.underlying3 g4
  obtain ⟨t, e5, rfl, w5⟩ := DataW.trod_int Try.underlying3 g5
  obtain ⟨l, e6, rfl, w6⟩ := DataW.trod_int Try.underlying3 g6
  simp [cells3] at e0 e1 e2 e3 e4 e5 e6
  subst e0 e1 e2 e3 e4 e5 e6
  simp at hx
  exact ⟨b, m, e, s, k, t, l, rfl, hx.1, hx.2, w0, w1, w2, w3, w4, w5, w6⟩
theorem cst_reads {H : Type} {enc : TypeId × Value → H} {W : World} {base : Nat} {spare : Nat → Bool} {held : Bool} {b m e s k t l : Int}
    (h : cstW b m e s k t l) : DataW.Trod enc Try.prog W base spare held 29 (cst b m e s k t l) (cstD b m e s k t l) [] := by
  obtain ⟨w0, w1, w2, w3, w4, w5, w6⟩ := h
  refine ⟨2, ?_⟩
  have := trod_struct_mk (enc := enc) (w := W) (base := base) (spare := spare) (held := held) (n := 1) (cs := [.int .i64 b, .int .i64 m, .int .i64 e, .int .i64 s, .int .i64 k, .int .i64 t, .int .i64 l])
    (xs := [(.lit (.int .i64 b), []), (.lit (.int .i64 m), []), (.lit (.int .i64 e), []), (.lit (.int .i64 s), []), (.lit (.int .i64 k), []), (.lit (.int .i64 t), []), (.lit (.int .i64 l), [])]) Try.underlying29 (by rw [cellsC]; rfl)
    (by simp [cells3, DataW.trod, Try.underlying3, w0, w1, w2, w3, w4, w5, w6])
  simpa [Value.cells] using this
end Go.Proofs.Ytklgkgmkeocjdaa
