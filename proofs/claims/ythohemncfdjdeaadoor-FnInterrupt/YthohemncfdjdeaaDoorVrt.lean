
/-
  Virtual registers as a value of eight fields: how they come in, are read, turned into the program's own and held against one another. No conditions but those that each fact names.
-/
import Derived.Test.YthohemncfdjdeaaDoorRows
import Derived.Test.YthohemncfdjdeaaDoorSegs
import Derived.Below
import Derived.Lib.SmallJoins
import Derived.ProofKit
import Derived.OpenShut
import Derived.Deep.RegionWith
import Derived.BigRegion
import Derived.BigQuiet
namespace Go.Proofs.YthohemncfdjdeaaDoor
open Go.ChangeShapes Go.WideShapes Go.ChangeAt Go.RowKit Go.Joins
set_option linter.unusedVariables false

abbrev vrt (o : Bool) (v s c k : Int) (t n : Bool) (p : Int) : Value := .agg #[.bool o, .int .u32 v, .int .u32 s, .int .u32 c, .int .u32 k, .bool t, .bool n, .int .u32 p]
abbrev vrow (o : Bool) (v s c k : Int) (t n : Bool) (p : Int) : Array Value := #[.bool o, .int .u32 v, .int .u32 s, .int .u32 c, .int .u32 k, .bool t, .bool n, .int .u32 p]
theorem new_cell (w : World) (cs : Array Value) (t : TypeId) (i : Nat) (v : Value) (h : cs[i]? = some v) : (w.alloc (.cells cs t)).cell? ⟨w.heap.size, i, none⟩ = some v := by
  simp [h]
/-- The block 'B' holds these registers. -/
structure VC (w : World) (B : Nat) (o : Bool) (v s c k : Int) (t n : Bool) (p : Int) : Prop where
  c0 : w.cell? ⟨B, 0, none⟩ = some (.bool o)
  c1 : w.cell? ⟨B, 1, none⟩ = some (.int .u32 v)
  c2 : w.cell? ⟨B, 2, none⟩ = some (.int .u32 s)
  c3 : w.cell? ⟨B, 3, none⟩ = some (.int .u32 c)
  c4 : w.cell? ⟨B, 4, none⟩ = some (.int .u32 k)
  c5 : w.cell? ⟨B, 5, none⟩ = some (.bool t)
  c6 : w.cell? ⟨B, 6, none⟩ = some (.bool n)
  c7 : w.cell? ⟨B, 7, none⟩ = some (.int .u32 p)
theorem VC.new (w : World) (T : TypeId) (o : Bool) (v s c k : Int) (t n : Bool) (p : Int) : VC (w.alloc (.cells (vrow o v s c k t n p) T)) w.heap.size o v s c k t n p :=
  ⟨new_cell _ _ _ 0 _ rfl, new_cell _ _ _ 1 _ rfl, new_cell _ _ _ 2 _ rfl, new_cell _ _ _ 3 _ rfl, new_cell _ _ _ 4 _ rfl, new_cell _ _ _ 5 _ rfl, new_cell _ _ _ 6 _ rfl, new_cell _ _ _ 7 _ rfl⟩
theorem VC.kept {w w' : World} {m B : Nat} {o : Bool} {v s c k : Int} {t n : Bool} {p : Int} (h : VC w B o v s c k t n p) (hb : Below m w w') (hB : B < m) : VC w' B o v s c k t n p :=
  ⟨(hb.cell (p := ⟨B, 0, none⟩) hB).trans h.c0, (hb.cell (p := ⟨B, 1, none⟩) hB).trans h.c1, (hb.cell (p := ⟨B, 2, none⟩) hB).trans h.c2, (hb.cell (p := ⟨B, 3, none⟩) hB).trans h.c3,
   (hb.cell (p := ⟨B, 4, none⟩) hB).trans h.c4, (hb.cell (p := ⟨B, 5, none⟩) hB).trans h.c5, (hb.cell (p := ⟨B, 6, none⟩) hB).trans h.c6, (hb.cell (p := ⟨B, 7, none⟩) hB).trans h.c7⟩
theorem VC.lt {w : World} {B : Nat} {o : Bool} {v s c k : Int} {t n : Bool} {p : Int} (h : VC w B o v s c k t n p) : B < w.heap.size :=
  World.block_lt_of_cell? w _ h.c0

theorem array8 {α : Type} {cs : Array α} (h : cs.size = 8) : ∃ c0 c1 c2 c3 c4 c5 c6 c7, cs = #[c0, c1, c2, c3, c4, c5, c6, c7] := by
  obtain ⟨l⟩ := cs
  match l, h with
  | [c0, c1, c2, c3, c4, c5, c6, c7], _ => exact ⟨c0, c1, c2, c3, c4, c5, c6, c7, rfl⟩
theorem list8 {α : Type} {cs : List α} (h : cs.length = 8) : ∃ c0 c1 c2 c3 c4 c5 c6 c7, cs = [c0, c1, c2, c3, c4, c5, c6, c7] := by
  match cs, h with
  | [c0, c1, c2, c3, c4, c5, c6, c7], _ => exact ⟨c0, c1, c2, c3, c4, c5, c6, c7, rfl⟩
abbrev vrtD {H : Type} (o : Bool) (v s c k : Int) (t n : Bool) (p : Int) : DataW H := .agg [.lit (.bool o), .lit (.int .u32 v), .lit (.int .u32 s), .lit (.int .u32 c), .lit (.int .u32 k), .lit (.bool t), .lit (.bool n), .lit (.int .u32 p)]
abbrev vrtW (v s c k p : Int) : Prop := (Lit.int .u32 v).wf = true ∧ (Lit.int .u32 s).wf = true ∧ (Lit.int .u32 c).wf = true ∧ (Lit.int .u32 k).wf = true ∧ (Lit.int .u32 p).wf = true
theorem cells4 : Tryd.prog.cellsOf 4 = 1 := by kernel_rfl
theorem cellsU : Tryd.prog.cellsOf 22 = 1 := by kernel_rfl
theorem cellsV : Tryd.prog.cellsOf 24 = 8 := by kernel_rfl
theorem vrt_open {H : Type} {enc : TypeId × Value → H} {W : World} {r : Reach} {b0 base : Nat} {spare : Nat → Bool} {held : Bool} {x : Value} {d : DataW H} {q : List MemPlace}
    (hv : Value.okWide Tryd.prog W r b0 24 x) (h : DataW.Trod enc Tryd.prog W base spare held 24 x d q) :
    ∃ o v s c k t n p, x = vrt o v s c k t n p ∧ d = vrtD o v s c k t n p ∧ q = [] ∧ vrtW v s c k p := by
  obtain ⟨cs, rfl, hsz⟩ := okWide_struct Tryd.underlying24 hv
  obtain ⟨v0, v1, v2, v3, v4, v5, v6, v7, rfl⟩ := array8 (hsz.trans cellsV)
  obtain ⟨fuel, hf⟩ := h
  obtain ⟨xs, m, _, hx, _, hl, hfs⟩ := DataW.trod_struct Tryd.underlying24 hf
  obtain ⟨y0, y1, y2, y3, y4, y5, y6, y7, rfl⟩ := list8 hl
  have g0 := hfs 0 _ rfl
  have g1 := hfs 1 _ rfl
  have g2 := hfs 2 _ rfl
  have g3 := hfs 3 _ rfl
  have g4 := hfs 4 _ rfl
  have g5 := hfs 5 _ rfl
  have g6 := hfs 6 _ rfl
  have g7 := hfs 7 _ rfl
  simp only [Value.cells] at g0 g1 g2 g3 g4 g5 g6 g7
  obtain ⟨o, e0, rfl⟩ := DataW.trod_bool Tryd.underlying4 g0
  obtain ⟨v, e1, rfl, w1⟩ := DataW.trod_int Tryd.underlying22 g1
  obtain ⟨s, e2, rfl, w2⟩ := DataW.trod_int Tryd.underlying22 g2
  obtain ⟨c, e3, rfl, w3⟩ := DataW.trod_int Tryd.underlying22 g3
  obtain ⟨k, e4, rfl, w4⟩ := DataW.trod_int Tryd.underlying22 g4
  obtain ⟨t, e5, rfl⟩ := DataW.trod_bool Tryd.underlying4 g5
  obtain ⟨n, e6, rfl⟩ := DataW.trod_bool Tryd.underlying4 g6
  obtain ⟨p, e7, rfl, w7⟩ := DataW.trod_int Tryd.underlying22 g7
  simp [cells4, cellsU] at e0 e1 e2 e3 e4 e5 e6 e7
  subst e0 e1 e2 e3 e4 e5 e6 e7
  simp at hx
  exact ⟨o, v, s, c, k, t, n, p, rfl, hx.1, hx.2, w1, w2, w3, w4, w7⟩
theorem vrt_reads {H : Type} {enc : TypeId × Value → H} {W : World} {base : Nat} {spare : Nat → Bool} {held : Bool} {o : Bool} {v s c k : Int} {t n : Bool} {p : Int}
    (h : vrtW v s c k p) : DataW.Trod enc Tryd.prog W base spare held 24 (vrt o v s c k t n p) (vrtD o v s c k t n p) [] := by
  obtain ⟨w1, w2, w3, w4, w7⟩ := h
  refine ⟨2, ?_⟩
  have := trod_struct_mk (enc := enc) (w := W) (base := base) (spare := spare) (held := held) (n := 1) (cs := [.bool o, .int .u32 v, .int .u32 s, .int .u32 c, .int .u32 k, .bool t, .bool n, .int .u32 p])
    (xs := [(.lit (.bool o), []), (.lit (.int .u32 v), []), (.lit (.int .u32 s), []), (.lit (.int .u32 c), []), (.lit (.int .u32 k), []), (.lit (.bool t), []), (.lit (.bool n), []), (.lit (.int .u32 p), [])]) Tryd.underlying24 (by rw [cellsV]; rfl)
    (by simp [cells4, cellsU, DataW.trod, Tryd.underlying4, Tryd.underlying22, w1, w2, w3, w4, w7])
  simpa [Value.cells] using this

set_option maxHeartbeats 400000 in
theorem to_virt (o : Bool) (v s c k : Int) (t n : Bool) (p : Int) (w : World) : Calls Tryd.prog 7 #[vrt o v s c k t n p] w fun x w' => x = .returned (vrt o v s c k t n p) ∧ Below w.heap.size w w' := by
  go_enter Tryd.func7, Tryd.ntmps7
  go_wp2
  exact bodyPost_ret (v := vrt o v s c k t n p) (by simp [results, Tryd.results7, go_sem]) rfl ⟨rfl, (((Below.refl _ _).alloc (Nat.le_refl _) _).alloc (by simp) _).alloc (by simp; omega) _⟩
end Go.Proofs.YthohemncfdjdeaaDoor
