/-
  One more line appended to the others: plain facts on worlds. No conditions but those that each fact names.
-/
import Derived.Test.YtifgmgehnbkbjaaCli
namespace Go.Proofs.Ytifgmgehnbkbjaa
open Go.ChangeShapes Go.WideShapes Go.ChangeAt Go.RowKit Go.Deep
set_option linter.unusedVariables false

theorem own_row {W : World} {base g m cp : Nat} {zs : List Int} (ho : OwnL W base (.slice (some ⟨g, 0, none⟩) m cp) zs) (hl : zs.length = m) : W.ownsRow base 3 1 (.slice (some ⟨g, 0, none⟩) m cp) m (zs.map (Value.int .i64)) := by
  subst hl; exact ho
theorem own_push {W W' : World} {base g m cp gg c1 : Nat} {zs : List Int} {r : Int} {o : Obj} (ho : OwnL W base (.slice (some ⟨g, 0, none⟩) m cp) zs) (hl : zs.length = m) (hB : base ≤ W.heap.size)
    (h1 : W'.ownsRow base 3 1 (.slice (some ⟨gg, 0, none⟩) (m + 1) c1) (m + 1) (zs.map (Value.int .i64) ++ [.int .i64 r])) (hg : (W.alloc o).grownBy W' (Value.slice (some ⟨g, 0, none⟩) m cp).ownBlock) :
    OwnL W' base (.slice (some ⟨gg, 0, none⟩) (m + 1) c1) (zs ++ [r]) ∧ Below base W W' := by
  subst hl
  refine ⟨OwnL.snoc h1, Below.grown ((Below.refl _ _).alloc hB _) hg (by simp; omega) (fun k e => ?_)⟩
  rcases ho.2 with ⟨hv, _⟩ | ⟨g', c, cur, hv, hbs, _⟩
  · cases hv
  · cases hv
    simp [Value.ownBlock] at e
    omega
end Go.Proofs.Ytifgmgehnbkbjaa
