
/-
  Policies and health as values of two and four fields: how they come in, are read, turned into the program's own and held against one another. No conditions but those that each fact names.
-/
import Derived.Test.YtnjjjcmomjcmfaaRows
import Derived.Test.YtnjjjcmomjcmfaaSegs
import Derived.Below
import Derived.Lib.SmallJoins
import Derived.ProofKit
import Derived.OpenShut
import Derived.Deep.RegionWith
import Derived.BigRegion
import Derived.BigQuiet
namespace Go.Proofs.Ytnjjjcmomjcmfaa
open Go.ChangeShapes Go.WideShapes Go.ChangeAt Go.RowKit Go.Joins
set_option linter.unusedVariables false

abbrev pol (k m : Int) : Value := .agg #[.int .i64 k, .int .i64 m]
abbrev prow (k m : Int) : Array Value := #[.int .i64 k, .int .i64 m]
abbrev hlt (f r l : Int) (h : Bool) : Value := .agg #[.int .i64 f, .int .i64 r, .int .i64 l, .bool h]
abbrev hrow (f r l : Int) (h : Bool) : Array Value := #[.int .i64 f, .int .i64 r, .int .i64 l, .bool h]
theorem new_cell (w : World) (cs : Array Value) (t : TypeId) (i : Nat) (v : Value) (h : cs[i]? = some v) : (w.alloc (.cells cs t)).cell? ⟨w.heap.size, i, none⟩ = some v := by
  simp [h]
/-- The block 'B' holds this policy. -/
structure PC (w : World) (B : Nat) (k m : Int) : Prop where
  c0 : w.cell? ⟨B, 0, none⟩ = some (.int .i64 k)
  c1 : w.cell? ⟨B, 1, none⟩ = some (.int .i64 m)
theorem PC.new (w : World) (T : TypeId) (k m : Int) : PC (w.alloc (.cells (prow k m) T)) w.heap.size k m := ⟨new_cell _ _ _ 0 _ rfl, new_cell _ _ _ 1 _ rfl⟩
theorem PC.kept {w w' : World} {m B : Nat} {k n : Int} (h : PC w B k n) (hb : Below m w w') (hB : B < m) : PC w' B k n :=
  ⟨(hb.cell (p := ⟨B, 0, none⟩) hB).trans h.c0, (hb.cell (p := ⟨B, 1, none⟩) hB).trans h.c1⟩
theorem PC.lt {w : World} {B : Nat} {k m : Int} (h : PC w B k m) : B < w.heap.size := World.block_lt_of_cell? w _ h.c0
/-- The block 'B' holds this health. -/
structure HC (w : World) (B : Nat) (f r l : Int) (h : Bool) : Prop where
  c0 : w.cell? ⟨B, 0, none⟩ = some (.int .i64 f)
  c1 : w.cell? ⟨B, 1, none⟩ = some (.int .i64 r)
  c2 : w.cell? ⟨B, 2, none⟩ = some (.int .i64 l)
  c3 : w.cell? ⟨B, 3, none⟩ = some (.bool h)
theorem HC.new (w : World) (T : TypeId) (f r l : Int) (h : Bool) : HC (w.alloc (.cells (hrow f r l h) T)) w.heap.size f r l h :=
  ⟨new_cell _ _ _ 0 _ rfl, new_cell _ _ _ 1 _ rfl, new_cell _ _ _ 2 _ rfl, new_cell _ _ _ 3 _ rfl⟩
theorem HC.kept {w w' : World} {m B : Nat} {f r l : Int} {h : Bool} (g : HC w B f r l h) (hb : Below m w w') (hB : B < m) : HC w' B f r l h :=
  ⟨(hb.cell (p := ⟨B, 0, none⟩) hB).trans g.c0, (hb.cell (p := ⟨B, 1, none⟩) hB).trans g.c1, (hb.cell (p := ⟨B, 2, none⟩) hB).trans g.c2, (hb.cell (p := ⟨B, 3, none⟩) hB).trans g.c3⟩
theorem HC.lt {w : World} {B : Nat} {f r l : Int} {h : Bool} (g : HC w B f r l h) : B < w.heap.size := World.block_lt_of_cell? w _ g.c0

theorem array4 {α : Type} {cs : Array α} (h : cs.size = 4) : ∃ c0 c1 c2 c3, cs = #[c0, c1, c2, c3] := by
  obtain ⟨l⟩ := cs
  match l, h with
  | [c0, c1, c2, c3], _ => exact ⟨c0, c1, c2, c3, rfl⟩
theorem list4 {α : Type} {cs : List α} (h : cs.length = 4) : ∃ c0 c1 c2 c3, cs = [c0, c1, c2, c3] := by
  match cs, h with
  | [c0, c1, c2, c3], _ => exact ⟨c0, c1, c2, c3, rfl⟩
theorem array2 {α : Type} {cs : Array α} (h : cs.size = 2) : ∃ c0 c1, cs = #[c0, c1] := by
  obtain ⟨l⟩ := cs
  match l, h with
  | [c0, c1], _ => exact ⟨c0, c1, rfl⟩
theorem list2 {α : Type} {cs : List α} (h : cs.length = 2) : ∃ c0 c1, cs = [c0, c1] := by
  match cs, h with
  | [c0, c1], _ => exact ⟨c0, c1, rfl⟩
abbrev polD {H : Type} (k m : Int) : DataW H := .agg [.lit (.int .i64 k), .lit (.int .i64 m)]
abbrev polW (k m : Int) : Prop := (Lit.int .i64 k).wf = true ∧ (Lit.int .i64 m).wf = true
abbrev hltD {H : Type} (f r l : Int) (h : Bool) : DataW H := .agg [.lit (.int .i64 f), .lit (.int .i64 r), .lit (.int .i64 l), .lit (.bool h)]
abbrev hltW (f r l : Int) : Prop := (Lit.int .i64 f).wf = true ∧ (Lit.int .i64 r).wf = true ∧ (Lit.int .i64 l).wf = true
theorem cells4 : Try.prog.cellsOf 4 = 1 := by kernel_rfl
theorem cells3 : Try.prog.cellsOf 3 = 1 := by kernel_rfl
theorem cellsP : Try.prog.cellsOf 23 = 2 := by kernel_rfl
theorem cellsH : Try.prog.cellsOf 29 = 4 := by kernel_rfl
theorem pol_open {H : Type} {enc : TypeId × Value → H} {W : World} {r : Reach} {b0 base : Nat} {spare : Nat → Bool} {held : Bool} {x : Value} {d : DataW H} {q : List MemPlace}
    (hv : Value.okWide Try.prog W r b0 23 x) (h : DataW.Trod enc Try.prog W base spare held 23 x d q) :
    ∃ k m, x = pol k m ∧ d = polD k m ∧ q = [] ∧ polW k m := by
  obtain ⟨cs, rfl, hsz⟩ := okWide_struct Try.underlying23 hv
  obtain ⟨v0, v1, rfl⟩ := array2 (hsz.trans cellsP)
  obtain ⟨fuel, hf⟩ := h
  obtain ⟨xs, m, _, hx, _, hl, hfs⟩ := DataW.trod_struct Try.underlying23 hf
  obtain ⟨y0, y1, rfl⟩ := list2 hl
  have g0 := hfs 0 _ rfl
  have g1 := hfs 1 _ rfl
  simp only [Value.cells] at g0 g1
  obtain ⟨k, e0, rfl, w0⟩ := DataW.trod_int Try.underlying3 g0
  obtain ⟨m, e1, rfl, w1⟩ := DataW.trod_int Try.underlying3 g1
  simp [cells3] at e0 e1
  subst e0 e1
  simp at hx
  exact ⟨k, m, rfl, hx.1, hx.2, w0, w1⟩
theorem pol_reads {H : Type} {enc : TypeId × Value → H} {W : World} {base : Nat} {spare : Nat → Bool} {held : Bool} {k m : Int}
    (h : polW k m) : DataW.Trod enc Try.prog W base spare held 23 (pol k m) (polD k m) [] := by
  obtain ⟨w1, w2⟩ := h
  refine ⟨2, ?_⟩
  have := trod_struct_mk (enc := enc) (w := W) (base := base) (spare := spare) (held := held) (n := 1) (cs := [.int .i64 k, .int .i64 m])
    (xs := [(.lit (.int .i64 k), []), (.lit (.int .i64 m), [])]) Try.underlying23 (by rw [cellsP]; rfl)
    (by simp [cells3, DataW.trod, Try.underlying3, w1, w2])
  simpa [Value.cells] using this
theorem hlt_open {H : Type} {enc : TypeId × Value → H} {W : World} {r : Reach} {b0 base : Nat} {spare : Nat → Bool} {held : Bool} {x : Value} {d : DataW H} {q : List MemPlace}
    (hv : Value.okWide Try.prog W r b0 29 x) (h : DataW.Trod enc Try.prog W base spare held 29 x d q) :
    ∃ f r l h, x = hlt f r l h ∧ d = hltD f r l h ∧ q = [] ∧ hltW f r l := by
  obtain ⟨cs, rfl, hsz⟩ := okWide_struct Try.underlying29 hv
  obtain ⟨v0, v1, v2, v3, rfl⟩ := array4 (hsz.trans cellsH)
  obtain ⟨fuel, hf⟩ := h
  obtain ⟨xs, m, _, hx, _, hl, hfs⟩ := DataW.trod_struct Try.underlying29 hf
  obtain ⟨y0, y1, y2, y3, rfl⟩ := list4 hl
  have g0 := hfs 0 _ rfl
  have g1 := hfs 1 _ rfl
  have g2 := hfs 2 _ rfl
  have g3 := hfs 3 _ rfl
  simp only [Value.cells] at g0 g1 g2 g3
  obtain ⟨f, e0, rfl, w0⟩ := DataW.trod_int Try.underlying3 g0
  obtain ⟨r, e1, rfl, w1⟩ := DataW.trod_int Try.underlying3 g1
  obtain ⟨l, e2, rfl, w2⟩ := DataW.trod_int Try.underlying3 g2
  obtain ⟨h, e3, rfl⟩ := DataW.trod_bool Try.underlying4 g3
  simp [cells3, cells4] at e0 e1 e2 e3
  subst e0 e1 e2 e3
  simp at hx
  exact ⟨f, r, l, h, rfl, hx.1, hx.2, w0, w1, w2⟩
theorem hlt_reads {H : Type} {enc : TypeId × Value → H} {W : World} {base : Nat} {spare : Nat → Bool} {held : Bool} {f r l : Int} {h : Bool}
    (g : hltW f r l) : DataW.Trod enc Try.prog W base spare held 29 (hlt f r l h) (hltD f r l h) [] := by
  obtain ⟨w1, w2, w3⟩ := g
  refine ⟨2, ?_⟩
  have := trod_struct_mk (enc := enc) (w := W) (base := base) (spare := spare) (held := held) (n := 1) (cs := [.int .i64 f, .int .i64 r, .int .i64 l, .bool h])
    (xs := [(.lit (.int .i64 f), []), (.lit (.int .i64 r), []), (.lit (.int .i64 l), []), (.lit (.bool h), [])]) Try.underlying29 (by rw [cellsH]; rfl)
    (by simp [cells3, cells4, DataW.trod, Try.underlying3, Try.underlying4, w1, w2, w3])
  simpa [Value.cells] using this

set_option maxHeartbeats 400000 in
theorem to_policy (k m : Int) (w : World) : Calls Try.prog 10 #[pol k m] w fun x w' => x = .returned (pol k m) ∧ Below w.heap.size w w' := by
  go_enter Try.func10, Try.ntmps10
  go_wp2
  exact bodyPost_ret (v := pol k m) (by simp [results, Try.results10, go_sem]) rfl ⟨rfl, (((Below.refl _ _).alloc (Nat.le_refl _) _).alloc (by simp) _).alloc (by simp; omega) _⟩
set_option maxHeartbeats 400000 in
theorem to_health (f r l : Int) (h : Bool) (w : World) : Calls Try.prog 13 #[hlt f r l h] w fun x w' => x = .returned (hlt f r l h) ∧ Below w.heap.size w w' := by
  go_enter Try.func13, Try.ntmps13
  go_wp2
  exact bodyPost_ret (v := hlt f r l h) (by simp [results, Try.results13, go_sem]) rfl ⟨rfl, (((Below.refl _ _).alloc (Nat.le_refl _) _).alloc (by simp) _).alloc (by simp; omega) _⟩
set_option maxHeartbeats 400000 in
theorem eq_health (f r l : Int) (h : Bool) (w : World) : Calls Try.prog 17 #[hlt f r l h, hlt f r l h] w fun x w' => x = .returned (.bool true) ∧ Below w.heap.size w w' := by
  go_enter Try.func17, Try.ntmps17
  go_wp2
  go_ret
  exact ⟨rfl, ((Below.refl _ _).alloc (Nat.le_refl _) _).alloc (by simp) _⟩
end Go.Proofs.Ytnjjjcmomjcmfaa
