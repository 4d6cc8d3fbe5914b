
/-
  The specification's Border: what the plain functions say, in memory of its own. Conditions: the words read as words, at most 1048576 of either and no more than the capacity.
-/
import Derived.Test.YtobgaakcinjnaaaProg
import Derived.Test.YtobgaakcinjnaaaChr
namespace Go.Proofs.Ytobgaakcinjnaaa
open Go.ChangeShapes Go.WideShapes Go.ChangeAt Go.RowKit Go.Deep
set_option linter.unusedVariables false

/-- Border is right: both ends are, and no more is ready than held. -/
def borOk (k f t d h n m : Int) : Bool := outOk k f t d h n && inOk k f t d m && !(k == 1 && decide (h < m))
/-- What Border answers: Held, the words ready, the words that crossed. -/
def borF (k f t d h n m : Int) (zs rs : List Int) : Int × List Int × List Int :=
  if borOk k f t d h n m = true then (if k = 0 then (if n = 0 then (0, rs, []) else (0, zs, zs)) else (m + n, rs ++ zs, zs)) else (0, [], [])
/-- Two lists of one answer, each its own. -/
def OE2 (w : World) (base : Nat) (a1 : Option Addr) (ys : List Int) (a2 : Option Addr) (xs : List Int) : Prop :=
  ∃ l1 u1 l2 u2, OE w l1 u1 a1 ys ∧ OE w l2 u2 a2 xs ∧ base ≤ l1 ∧ l1 ≤ u1 ∧ u1 ≤ w.heap.size ∧ base ≤ l2 ∧ l2 ≤ u2 ∧ u2 ≤ w.heap.size ∧ (u1 ≤ l2 ∨ u2 ≤ l1)
theorem OE2.empty (w : World) (base : Nat) (a1 a2 : Option Addr) (h : base ≤ w.heap.size) : OE2 w base a1 [] a2 [] :=
  ⟨base, base, base, w.heap.size, OE.nil _ _ _ _, OE.nil _ _ _ _, Nat.le_refl _, Nat.le_refl _, h, Nat.le_refl _, h, Nat.le_refl _, .inl (Nat.le_refl _)⟩
theorem OE2.one {w : World} {base mid : Nat} {a1 a2 : Option Addr} {ys : List Int} (h : OE w base mid a1 ys) (h1 : base ≤ mid) (h2 : mid ≤ w.heap.size) : OE2 w base a1 ys a2 [] :=
  ⟨base, mid, mid, w.heap.size, h, OE.nil _ _ _ _, Nat.le_refl _, h1, h2, h1, h2, Nat.le_refl _, .inl (Nat.le_refl _)⟩
end Go.Proofs.Ytobgaakcinjnaaa
