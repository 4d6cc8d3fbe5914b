
/-
  What the laws' helpers on guests do: their measure, their copies, whether two read alike, the marks that are laid and looked up. Conditions: registers, rows and bytes are at most 1048576 together.
-/
import Derived.Test.YtanffdedignegaaBas
import Derived.Test.YtanffdedignegaaProg
import Derived.Test.YtanffdedignegaaGrw
import Derived.Test.YtanffdedignegaaWnd
namespace Go.Proofs.Ytanffdedignegaa
open Go.ChangeShapes Go.WideShapes Go.ChangeAt Go.RowKit Go.Deep
set_option linter.unusedVariables false

abbrev gst (ra : Option Addr) (rl rc : Nat) (pc : Int) (ma : Option Addr) (ml mc : Nat) : Value := .agg #[.slice ra rl rc, .int .u32 pc, .slice ma ml mc]
/-- A guest whose registers begin at 'ra' and whose memory begins at 'ma' reads as 'rs' and 'n' rows 'D'. -/
def XGSeg (w : World) (ra ma : Option Addr) (rs : List Int) (n : Nat) (D : Nat → List Int) : Prop := Seg .u32 w ra rs ∧ BSeg w ma n D
/-- Such a guest lies in blocks of its own: registers from 'lo' on and below 'm', memory from 'm' on and below 'hi'. -/
def OGst (w : World) (lo m hi : Nat) (ra ma : Option Addr) (rs : List Int) (n : Nat) (D : Nat → List Int) : Prop := (∃ R, ON .u32 w lo m ra rs R) ∧ BRows w m hi ma n D
theorem XGSeg.below {w w' : World} {ra ma : Option Addr} {rs : List Int} {n : Nat} {D : Nat → List Int} (h : XGSeg w ra ma rs n D) (hb : Below w.heap.size w w') : XGSeg w' ra ma rs n D := ⟨h.1.below hb, h.2.below hb⟩
theorem OGst.seg {w : World} {lo m hi : Nat} {ra ma : Option Addr} {rs : List Int} {n : Nat} {D : Nat → List Int} (h : OGst w lo m hi ra ma rs n D) : XGSeg w ra ma rs n D := by
  obtain ⟨⟨R, h1⟩, h2⟩ := h
  exact ⟨h1.seg, h2.seg⟩
theorem ON.range {k : IntKind} {w : World} {lo hi : Nat} {a : Option Addr} {ws : List Int} {R : Nat} (h : ON k w lo hi a ws R) (h0 : 0 < ws.length) : lo ≤ R ∧ R < hi := by
  obtain ⟨_, _, h1, h2, _⟩ := h h0
  exact ⟨h1, h2⟩
theorem OGst.betw {w w' : World} {lo m hi l' h' : Nat} {ra ma : Option Addr} {rs : List Int} {n : Nat} {D : Nat → List Int} (h : OGst w lo m hi ra ma rs n D) (hb : Betw l' h' w w') (ho : hi ≤ l' ∨ h' ≤ lo) (h1 : lo ≤ m) (h2 : m ≤ hi) : OGst w' lo m hi ra ma rs n D := by
  obtain ⟨⟨R, hr⟩, hm⟩ := h
  exact ⟨⟨R, hr.betw hb (fun h0 => by have := hr.range h0; omega)⟩, hm.betw hb (by omega)⟩
theorem OGst.below {w w' : World} {lo m hi : Nat} {ra ma : Option Addr} {rs : List Int} {n : Nat} {D : Nat → List Int} (h : OGst w lo m hi ra ma rs n D) (hb : Below w.heap.size w w') : OGst w' lo m hi ra ma rs n D := by
  obtain ⟨⟨R, hr⟩, hm⟩ := h
  exact ⟨⟨R, hr.below hb⟩, hm.below hb⟩
theorem OGst.wide {w : World} {lo m hi l' h' : Nat} {ra ma : Option Addr} {rs : List Int} {n : Nat} {D : Nat → List Int} (h : OGst w lo m hi ra ma rs n D) (g1 : l' ≤ lo) (g2 : hi ≤ h') : OGst w l' m h' ra ma rs n D := by
  obtain ⟨⟨R, hr⟩, hm⟩ := h
  exact ⟨⟨R, hr.wide g1 (Nat.le_refl _)⟩, hm.wide (Nat.le_refl _) g2⟩
theorem cell_alloc_l {w : World} {p : Addr} {v : Value} (o : Obj) (h : w.cell? p = some v) : (w.alloc o).cell? p = some v := kept_cell ((Below.refl _ _).alloc (Nat.le_refl _) _) h
end Go.Proofs.Ytanffdedignegaa
