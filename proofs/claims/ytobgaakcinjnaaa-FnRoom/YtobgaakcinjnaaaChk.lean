
/-
  What the walks of the laws on channels need: cells through calls, variables that hold an end. No function of the program in sight; no conditions but those that each fact names.
-/
import Derived.Test.YtobgaakcinjnaaaChv
import Derived.Deep.RegionHeldLaw
namespace Go.Proofs.Ytobgaakcinjnaaa
open Go.ChangeShapes Go.WideShapes Go.ChangeAt Go.RowKit Go.Deep
set_option linter.unusedVariables false

theorem kept_c {w w' : World} {p : Addr} {v : Value} (hb : Below w.heap.size w w') (h : w.cell? p = some v) : w'.cell? p = some v :=
  (hb.cell (p := p) (World.block_lt_of_cell? w _ h)).trans h
theorem al_c {w : World} {p : Addr} {v : Value} (o : Obj) (h : w.cell? p = some v) : (w.alloc o).cell? p = some v := kept_c ((Below.refl _ _).alloc (Nat.le_refl _) _) h
theorem dr_c {w : World} {p : Addr} {v : Value} (h : w.cell? p = some v) : w.drew.cell? p = some v := h
theorem st1 {w : World} {b c i j : Nat} {v u : Value} (hne : b ≠ c) (h : w.cell? ⟨b, i, none⟩ = some v) : (w.setCell ⟨c, j, none⟩ u).cell? ⟨b, i, none⟩ = some v := by
  rw [World.cell?_setCell_other _ _ _ _ (by intro c'; injection c' with c1 c2 c3; exact hne c1.symm)]; exact h
theorem st2 {w : World} {b k i : Nat} {v a0 a1 : Value} (hn : b ≠ k) (h : w.cell? ⟨b, i, none⟩ = some v) : ((w.setCell ⟨k, 0, none⟩ a0).setCell ⟨k, 1, none⟩ a1).cell? ⟨b, i, none⟩ = some v := st1 hn (st1 hn h)
theorem oe_kept {w w' : World} {lo hi : Nat} {a : Option Addr} {zs : List Int} (hb : Below w.heap.size w w') (h : OE w lo hi a zs) : OE w' lo hi a zs := h.below hb
theorem bk_kept {w w' : World} {b : Nat} {cs : Array Value} (hb : Below w.heap.size w w') (h : Bk w b cs) : Bk w' b cs := h.below hb
/-- An end in a variable of its own, its words apart from it. -/
def EF (w1 V : World) (k : Nat) (row : Array Value) (a : Option Addr) (ys : List Int) : Prop :=
  Below w1.heap.size w1 V ∧ Bk V k row ∧ w1.heap.size ≤ k ∧ ∃ lo hi, OE V lo hi a ys ∧ w1.heap.size ≤ lo ∧ lo ≤ hi ∧ hi ≤ V.heap.size ∧ (k < lo ∨ hi ≤ k)
theorem ef_new {w1 w7 : World} {lo : Nat} {a : Option Addr} {ys : List Int} (row : Array Value) (T : TypeId) (hb : Below w1.heap.size w1 w7) (ho : OE w7 lo w7.heap.size a ys) (hlo : w1.heap.size ≤ lo) (hl7 : lo ≤ w7.heap.size) : EF w1 (w7.alloc (.cells row T)) w7.heap.size row a ys :=
  ⟨hb.alloc hb.size _, Bk.new _ _ _ _ rfl, hb.size, lo, w7.heap.size, ho.below ((Below.refl _ _).alloc (Nat.le_refl _) _), hlo, hl7, by simp, .inr (Nat.le_refl _)⟩
theorem ef_set2 {w1 w7 : World} {k lo : Nat} {a : Option Addr} {ys : List Int} {x0 x1 v0 v1 : Value} (hb : Below w1.heap.size w1 w7) (hV : Bk w7 k #[x0, x1]) (hk : w1.heap.size ≤ k) (ho : OE w7 lo w7.heap.size a ys) (hlo : k < lo) (hl7 : lo ≤ w7.heap.size) :
    EF w1 ((w7.setCell ⟨k, 0, none⟩ v0).setCell ⟨k, 1, none⟩ v1) k #[v0, v1] a ys := by
  have hbt := ((Betw.refl k (k + 1) w7).setCell (p := ⟨k, 0, none⟩) (Nat.le_refl _) (Nat.lt_succ_self _) v0).setCell (p := ⟨k, 1, none⟩) (Nat.le_refl _) (Nat.lt_succ_self _) v1
  exact ⟨hb.trans (hbt.below hk hb.size), (hV.set 0 v0 (by simp) (cs' := #[v0, x1]) rfl).set 1 v1 (by simp) rfl, hk, lo, w7.heap.size, ho.betw hbt (.inr hlo), by omega, hl7, by simp, .inl hlo⟩
theorem ef_set1 {w1 w7 : World} {k lo : Nat} {a : Option Addr} {ys : List Int} {x0 v0 : Value} (hb : Below w1.heap.size w1 w7) (hV : Bk w7 k #[x0]) (hk : w1.heap.size ≤ k) (ho : OE w7 lo w7.heap.size a ys) (hlo : k < lo) (hl7 : lo ≤ w7.heap.size) :
    EF w1 (w7.setCell ⟨k, 0, none⟩ v0) k #[v0] a ys := by
  have hbt := (Betw.refl k (k + 1) w7).setCell (p := ⟨k, 0, none⟩) (Nat.le_refl _) (Nat.lt_succ_self _) v0
  exact ⟨hb.trans (hbt.below hk hb.size), hV.set 0 v0 (by simp) rfl, hk, lo, w7.heap.size, ho.betw hbt (.inr hlo), by omega, hl7, by simp, .inl hlo⟩
end Go.Proofs.Ytobgaakcinjnaaa
