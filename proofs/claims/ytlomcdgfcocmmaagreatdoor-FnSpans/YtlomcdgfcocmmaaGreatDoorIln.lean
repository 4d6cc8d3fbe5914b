
/-
  What the laws' helpers on lists of integers do: whether two lists read alike, the marks that are laid into a list and looked up. Conditions: the lists read as integers; a list that is marked is the call's own; lengths are at most 1048576.
-/
import Derived.Test.YtlomcdgfcocmmaaGreatDoorBas
import Derived.Test.YtlomcdgfcocmmaaGreatDoorProg
import Derived.Deep.QuietTactic
import Derived.BigQuiet
namespace Go.Proofs.YtlomcdgfcocmmaaGreatDoor
open Go.ChangeShapes Go.WideShapes Go.ChangeAt Go.RowKit Go.Deep
set_option linter.unusedVariables false

/-- A list that lies in a block from 'lo' on and below 'hi' that may be written. -/
def OI (w : World) (lo hi : Nat) (a : Option Addr) (zs : List Int) : Prop :=
  0 < zs.length → ∃ B off, a = some ⟨B, off, none⟩ ∧ lo ≤ B ∧ B < hi ∧ B < w.heap.size ∧ (∀ i, i < zs.length → w.cell? ⟨B, off + i, none⟩ = some (.int .i64 (zs.getD i 0))) ∧ ∀ i, i < zs.length → w.frozen? ⟨B, off + i, none⟩ = false
theorem OI.seg {w : World} {lo hi : Nat} {a : Option Addr} {zs : List Int} (h : OI w lo hi a zs) : Seg .i64 w a zs := fun h0 => by
  obtain ⟨B, off, e, _, _, hlt, hc, _⟩ := h h0
  exact ⟨B, off, e, hlt, hc⟩
theorem OI.betw {w w' : World} {lo hi l' h' : Nat} {a : Option Addr} {zs : List Int} (h : OI w lo hi a zs) (hb : Betw l' h' w w') (ho : hi ≤ l' ∨ h' ≤ lo) : OI w' lo hi a zs := fun h0 => by
  obtain ⟨B, off, e, h1, h2, hlt, hc, hf⟩ := h h0
  exact ⟨B, off, e, h1, h2, Nat.lt_of_lt_of_le hlt hb.size, fun i hi => (hb.cell (p := ⟨B, off + i, none⟩) hlt (by simp; omega)).trans (hc i hi), fun i hi => (hb.frozen (p := ⟨B, off + i, none⟩) hlt (by simp; omega)).trans (hf i hi)⟩
theorem OI.below {w w' : World} {lo hi : Nat} {a : Option Addr} {zs : List Int} (h : OI w lo hi a zs) (hb : Below w.heap.size w w') : OI w' lo hi a zs :=
  OI.betw (l' := 0) (h' := 0) h (Below.betw hb) (.inr (Nat.zero_le _))
theorem OI.wide {w : World} {lo hi l' h' : Nat} {a : Option Addr} {zs : List Int} (h : OI w lo hi a zs) (g1 : l' ≤ lo) (g2 : hi ≤ h') : OI w l' h' a zs := fun h0 => by
  obtain ⟨B, off, e, h1, h2, r⟩ := h h0
  exact ⟨B, off, e, by omega, by omega, r⟩
def marks (k n : Nat) : List Int := (List.range n).map fun (i : Nat) => ((k + i : Nat) : Int)
theorem marks_len (k n : Nat) : (marks k n).length = n := by simp [marks]
theorem marks_at (k n i : Nat) (hi : i < n) : (marks k n).getD i 0 = ((k + i : Nat) : Int) := by simp [marks, hi, List.getD]
end Go.Proofs.YtlomcdgfcocmmaaGreatDoor
