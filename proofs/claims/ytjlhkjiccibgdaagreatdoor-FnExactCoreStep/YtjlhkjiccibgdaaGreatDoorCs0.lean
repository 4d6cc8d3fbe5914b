
/-
  What the walks of the specification's step need: a step's row written field by field, and what stays. No function of the program in sight; no conditions but those that each fact names.
-/
import Derived.Test.YtjlhkjiccibgdaaGreatDoorCsp
namespace Go.Proofs.YtjlhkjiccibgdaaGreatDoor
open Go.ChangeShapes Go.WideShapes Go.ChangeAt Go.RowKit Go.Deep
set_option linter.unusedVariables false

theorem betw_new {lo hi : Nat} {w0 W : World} (h : Betw lo hi w0 W) {b : Nat} (hb : w0.heap.size ≤ b) (j : Nat) (v : Value) : Betw lo hi w0 (W.setCell ⟨b, j, none⟩ v) :=
  ⟨h.os, h.tape, h.output, by simpa [World.setCell] using h.size, fun k hk ho => (Below.heap_setCell _ _ _ _ (by show k ≠ b; omega)).trans (h.block k hk ho)⟩
theorem sep_new {W : World} {lo hi : Nat} {ra ma : Option Addr} {rs : List Int} {n : Nat} {D : Nat → List Int} (h : Sep W lo hi ra ma rs n D) {b : Nat} (hb : hi ≤ b) (j : Nat) (v : Value) : Sep (W.setCell ⟨b, j, none⟩ v) lo hi ra ma rs n D :=
  Sep.betw h ((Betw.refl b (b + 1) W).setCell (p := ⟨b, j, none⟩) (Nat.le_refl _) (Nat.lt_succ_self _) v) (.inl hb)
/-- The two facts that the walk's end needs, through one store. -/
def BS (w0 W : World) (lo hi : Nat) (ra ma : Option Addr) (rs : List Int) (n : Nat) (D : Nat → List Int) : Prop := Betw lo hi w0 W ∧ Sep W lo hi ra ma rs n D
theorem BS.set {w0 W : World} {lo hi : Nat} {ra ma : Option Addr} {rs : List Int} {n : Nat} {D : Nat → List Int} (h : BS w0 W lo hi ra ma rs n D) (hh : hi ≤ w0.heap.size) {b : Nat} (hb : w0.heap.size ≤ b) (j : Nat) (v : Value) : BS w0 (W.setCell ⟨b, j, none⟩ v) lo hi ra ma rs n D :=
  ⟨betw_new h.1 hb j v, sep_new h.2 (Nat.le_trans hh hb) j v⟩
theorem BS.set8 {w0 W : World} {lo hi : Nat} {ra ma : Option Addr} {rs : List Int} {n : Nat} {D : Nat → List Int} (h : BS w0 W lo hi ra ma rs n D) (hh : hi ≤ w0.heap.size) {b : Nat} (hb : w0.heap.size ≤ b) (a0 a1 a2 a3 a4 a5 a6 a7 : Value) :
    BS w0 ((((((((W.setCell ⟨b, 0, none⟩ a0).setCell ⟨b, 1, none⟩ a1).setCell ⟨b, 2, none⟩ a2).setCell ⟨b, 3, none⟩ a3).setCell ⟨b, 4, none⟩ a4).setCell ⟨b, 5, none⟩ a5).setCell ⟨b, 6, none⟩ a6).setCell ⟨b, 7, none⟩ a7) lo hi ra ma rs n D := by
  have g0 := h.set hh hb 0 a0
  have g1 := g0.set hh hb 1 a1
  have g2 := g1.set hh hb 2 a2
  have g3 := g2.set hh hb 3 a3
  have g4 := g3.set hh hb 4 a4
  have g5 := g4.set hh hb 5 a5
  have g6 := g5.set hh hb 6 a6
  exact g6.set hh hb 7 a7
theorem bk8 {W : World} {b : Nat} {x0 x1 x2 x3 x4 x5 x6 x7 : Value} (h : Bk W b #[x0, x1, x2, x3, x4, x5, x6, x7]) (a0 a1 a2 a3 a4 a5 a6 a7 : Value) :
    Bk ((((((((W.setCell ⟨b, 0, none⟩ a0).setCell ⟨b, 1, none⟩ a1).setCell ⟨b, 2, none⟩ a2).setCell ⟨b, 3, none⟩ a3).setCell ⟨b, 4, none⟩ a4).setCell ⟨b, 5, none⟩ a5).setCell ⟨b, 6, none⟩ a6).setCell ⟨b, 7, none⟩ a7) b #[a0, a1, a2, a3, a4, a5, a6, a7] := by
  have g0 := h.set 0 a0 (by simp) (cs' := #[a0, x1, x2, x3, x4, x5, x6, x7]) rfl
  have g1 := g0.set 1 a1 (by simp) (cs' := #[a0, a1, x2, x3, x4, x5, x6, x7]) rfl
  have g2 := g1.set 2 a2 (by simp) (cs' := #[a0, a1, a2, x3, x4, x5, x6, x7]) rfl
  have g3 := g2.set 3 a3 (by simp) (cs' := #[a0, a1, a2, a3, x4, x5, x6, x7]) rfl
  have g4 := g3.set 4 a4 (by simp) (cs' := #[a0, a1, a2, a3, a4, x5, x6, x7]) rfl
  have g5 := g4.set 5 a5 (by simp) (cs' := #[a0, a1, a2, a3, a4, a5, x6, x7]) rfl
  have g6 := g5.set 6 a6 (by simp) (cs' := #[a0, a1, a2, a3, a4, a5, a6, x7]) rfl
  exact g6.set 7 a7 (by simp) (cs' := #[a0, a1, a2, a3, a4, a5, a6, a7]) rfl
theorem stp_pc {ra ma : Option Addr} {rl rc n mc : Nat} {X Y fa op to : Int} {wr ca : Bool} (h : X = Y) : Ending.returned (stp ra rl rc X ma n mc fa op to wr ca) = .returned (stp ra rl rc Y ma n mc fa op to wr ca) := by rw [h]
end Go.Proofs.YtjlhkjiccibgdaaGreatDoor
