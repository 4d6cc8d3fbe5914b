
/-
  A guest's copy, by the specification: a guest of the call's own that reads as the one that came in. Conditions: registers, rows and bytes are at most 1048576 together.
-/
import Derived.Test.YtanffdedignegaaBas
import Derived.Test.YtanffdedignegaaProg
import Derived.Test.YtanffdedignegaaGrm
namespace Go.Proofs.Ytanffdedignegaa
open Go.ChangeShapes Go.WideShapes Go.ChangeAt Go.RowKit Go.Deep
set_option linter.unusedVariables false

theorem st1 {w : World} {b c i j : Nat} {v u : Value} (hne : b ≠ c) (h : w.cell? ⟨b, i, none⟩ = some v) : (w.setCell ⟨c, j, none⟩ u).cell? ⟨b, i, none⟩ = some v := by
  rw [World.cell?_setCell_other _ _ _ _ (by intro c'; injection c' with c1 c2 c3; exact hne c1.symm)]; exact h
/-- A guest of the call's own, its registers apart from its memory. -/
def Sep (w : World) (lo hi : Nat) (ra ma : Option Addr) (rs : List Int) (n : Nat) (D : Nat → List Int) : Prop :=
  ∃ l2 h2, lo ≤ l2 ∧ h2 ≤ hi ∧ BRows w l2 h2 ma n D ∧ ∃ R, ON .u32 w lo hi ra rs R ∧ (0 < rs.length → R < l2 ∨ h2 ≤ R)
theorem OGst.sep {w : World} {lo m hi : Nat} {ra ma : Option Addr} {rs : List Int} {n : Nat} {D : Nat → List Int} (h : OGst w lo m hi ra ma rs n D) (h1 : lo ≤ m) (h2 : m ≤ hi) : Sep w lo hi ra ma rs n D := by
  obtain ⟨⟨R, hr⟩, hm⟩ := h
  exact ⟨m, hi, h1, Nat.le_refl _, hm, R, hr.wide (Nat.le_refl _) h2, fun h0 => .inl (hr.range h0).2⟩
theorem Sep.seg {w : World} {lo hi : Nat} {ra ma : Option Addr} {rs : List Int} {n : Nat} {D : Nat → List Int} (h : Sep w lo hi ra ma rs n D) : XGSeg w ra ma rs n D := by
  obtain ⟨l2, h2, _, _, hm, R, hr, _⟩ := h
  exact ⟨hr.seg, hm.seg⟩
theorem Sep.below {w w' : World} {lo hi : Nat} {ra ma : Option Addr} {rs : List Int} {n : Nat} {D : Nat → List Int} (h : Sep w lo hi ra ma rs n D) (hb : Below w.heap.size w w') : Sep w' lo hi ra ma rs n D := by
  obtain ⟨l2, h2, g1, g2, hm, R, hr, g3⟩ := h
  exact ⟨l2, h2, g1, g2, hm.below hb, R, hr.below hb, g3⟩
theorem Sep.betw {w w' : World} {lo hi l' h' : Nat} {ra ma : Option Addr} {rs : List Int} {n : Nat} {D : Nat → List Int} (h : Sep w lo hi ra ma rs n D) (hb : Betw l' h' w w') (ho : hi ≤ l' ∨ h' ≤ lo) : Sep w' lo hi ra ma rs n D := by
  obtain ⟨l2, h2, g1, g2, hm, R, hr, g3⟩ := h
  exact ⟨l2, h2, g1, g2, hm.betw hb (by omega), R, hr.betw hb (fun h0 => by have := hr.range h0; omega), g3⟩
theorem Sep.wide {w : World} {lo hi l' h' : Nat} {ra ma : Option Addr} {rs : List Int} {n : Nat} {D : Nat → List Int} (h : Sep w lo hi ra ma rs n D) (k1 : l' ≤ lo) (k2 : hi ≤ h') : Sep w l' h' ra ma rs n D := by
  obtain ⟨l2, h2, g1, g2, hm, R, hr, g3⟩ := h
  exact ⟨l2, h2, by omega, by omega, hm, R, hr.wide k1 k2, g3⟩
theorem drew_lt {w : World} {k : Nat} (h : k < w.heap.size) : k < w.drew.heap.size := h
/-- What is known in the specification's copy: the guest that came in lies in a block, the answer in the next. -/
def LC (w X : World) (cs : Array Value) : Prop := Bk X w.heap.size cs ∧ Bk X (w.heap.size + 1) #[.slice none 0 0, .int .u32 0, .slice none 0 0] ∧ Below w.heap.size w X
theorem LC.next {w X Y : World} {cs : Array Value} (h : LC w X cs) (hb : Below X.heap.size X Y) : LC w Y cs := ⟨h.1.below hb, h.2.1.below hb, h.2.2.trans (hb.mono h.2.2.size)⟩
theorem LC.drew {w X : World} {cs : Array Value} (h : LC w X cs) : LC w X.drew cs := h.next (Below.refl _ _).drew
theorem LC.alloc {w X : World} {cs : Array Value} (h : LC w X cs) (o : Obj) : LC w (X.alloc o) cs := h.next ((Below.refl _ _).alloc (Nat.le_refl _) _)
theorem LC.betw {w X Y : World} {cs : Array Value} {B : Nat} (h : LC w X cs) (hb : Betw B (B + 1) X Y) (hB : w.heap.size + 1 < B) : LC w Y cs := ⟨h.1.betw hb (.inl (by omega)), h.2.1.betw hb (.inl (by omega)), h.2.2.trans (hb.below (by omega) h.2.2.size)⟩
theorem lc_next {w X Y : World} {cs : Array Value} (hb : Below X.heap.size X Y) (h : LC w X cs) : LC w Y cs := h.next hb
theorem lc_betw {w X Y : World} {cs : Array Value} {B : Nat} (hb : Betw B (B + 1) X Y) (h : LC w X cs) (hB : w.heap.size + 1 < B) : LC w Y cs := h.betw hb hB
theorem own_next {X Y : World} {e : TypeId} {B : Nat} {v : Value} (hb : Below X.heap.size X Y) (h : X.ownsRow B e 1 v 0 []) : Y.ownsRow B e 1 v 0 [] := ownsRow_below h hb
theorem on_next {k : IntKind} {X Y : World} {lo hi : Nat} {a : Option Addr} {zs : List Int} {R : Nat} (hb : Below X.heap.size X Y) (h : ON k X lo hi a zs R) : ON k Y lo hi a zs R := h.below hb
end Go.Proofs.Ytanffdedignegaa
