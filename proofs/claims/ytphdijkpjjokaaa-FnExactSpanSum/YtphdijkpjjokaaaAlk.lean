
/-
  A region that draws its order, whose operations only read and whose callees only make new memory: one walk, in the order of the text, serves every order. No function of the program in sight; no conditions but those that each fact names.
-/
import Derived.Test.YtphdijkpjjokaaaBas
import Derived.Test.YtphdijkpjjokaaaSegs
import Derived.BigQuiet
namespace Go.Proofs.Ytphdijkpjjokaaa
open Go.ChangeShapes Go.WideShapes Go.ChangeAt Go.RowKit Go.Deep
set_option linter.unusedVariables false

/-- A world in which all that lay in 'W0' lies as it lay. -/
structure Gr (W0 : World) where
  w : World
  h : Below W0.heap.size W0 w
theorem gr_some (W0 : World) : Nonempty (Gr W0) := ⟨⟨W0, Below.refl _ _⟩⟩
theorem region_alike {P : Program} {id : Nat} {Q : Exit → Act → World → Prop} {a : Act} {W0 : World} {l : List Oper} (hm : P.follows .mixedOrders = true) (hB : Region.lexB .any l.toArray = true)
    (h : wpQuiet P l.toArray (fun w' => ∃ x : Gr W0, w' = x.w) (fun a' => ∀ w', (∃ x : Gr W0, w' = x.w) → Q .normal a' w') l a) : (Code.region id l.toArray true).wp P Q a W0 :=
  wp_region_quiet (C := fun w' => ∃ x : Gr W0, w' = x.w) hm hB ⟨⟨_, (Below.refl _ _).drew⟩, rfl⟩ (by simpa using h)
theorem gr_call {P : Program} {f : FuncId} {args : Array Value} {W0 : World} {x : Gr W0} {v : Value} (h : Calls P f args x.w fun e w' => e = .returned v ∧ Below x.w.heap.size x.w w') :
    Calls P f args x.w fun e w'' => e = .returned v ∧ ∃ y : Gr W0, w'' = y.w :=
  h.mono fun e w' ⟨he, hb⟩ => ⟨he, ⟨w', x.h.trans (hb.mono x.h.size)⟩, rfl⟩
theorem gr_same {P : Program} {f : FuncId} {args : Array Value} {W0 : World} {x : Gr W0} {v : Value} (h : Calls P f args x.w fun e w' => e = .returned v ∧ w' = x.w) :
    Calls P f args x.w fun e w'' => e = .returned v ∧ ∃ y : Gr W0, w'' = y.w :=
  h.mono fun e w' ⟨he, hb⟩ => ⟨he, x, hb⟩
theorem gr_cell {W0 : World} {p : Addr} {v : Value} (h : W0.cell? p = some v) (x : Gr W0) : x.w.cell? p = some v :=
  (x.h.cell (World.block_lt_of_cell? W0 _ h)).trans h
end Go.Proofs.Ytphdijkpjjokaaa
