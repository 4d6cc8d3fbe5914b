
/-
  What the walks of the laws on devices need: cells through calls. No function of the program in sight; no conditions but those that each fact names.
-/
import Derived.Test.YthfmggfohegpnaaDvv
import Derived.Deep.RegionHeldLaw
namespace Go.Proofs.Ythfmggfohegpnaa
open Go.ChangeShapes Go.WideShapes Go.ChangeAt Go.RowKit Go.Deep
set_option linter.unusedVariables false

theorem kept_c {w w' : World} {p : Addr} {v : Value} (hb : Below w.heap.size w w') (h : w.cell? p = some v) : w'.cell? p = some v :=
  (hb.cell (p := p) (World.block_lt_of_cell? w _ h)).trans h
theorem al_c {w : World} {p : Addr} {v : Value} (o : Obj) (h : w.cell? p = some v) : (w.alloc o).cell? p = some v := kept_c ((Below.refl _ _).alloc (Nat.le_refl _) _) h
theorem dr_c {w : World} {p : Addr} {v : Value} (h : w.cell? p = some v) : w.drew.cell? p = some v := h
theorem st1 {w : World} {b c i j : Nat} {v u : Value} (hne : b ≠ c) (h : w.cell? ⟨b, i, none⟩ = some v) : (w.setCell ⟨c, j, none⟩ u).cell? ⟨b, i, none⟩ = some v := by
  rw [World.cell?_setCell_other _ _ _ _ (by intro c'; injection c' with c1 c2 c3; exact hne c1.symm)]; exact h
theorem st2 {w : World} {b k i : Nat} {v a0 a1 : Value} (hn : b ≠ k) (h : w.cell? ⟨b, i, none⟩ = some v) : ((w.setCell ⟨k, 0, none⟩ a0).setCell ⟨k, 1, none⟩ a1).cell? ⟨b, i, none⟩ = some v := st1 hn (st1 hn h)
theorem oe_kept {w w' : World} {lo hi : Nat} {a : Option Addr} {zs : List Int} (hb : Below w.heap.size w w') (h : OE w lo hi a zs) : OE w' lo hi a zs := h.below hb
theorem bk_kept {w w' : World} {b : Nat} {cs : Array Value} (hb : Below w.heap.size w w') (h : Bk w b cs) : Bk w' b cs := h.below hb
end Go.Proofs.Ythfmggfohegpnaa
