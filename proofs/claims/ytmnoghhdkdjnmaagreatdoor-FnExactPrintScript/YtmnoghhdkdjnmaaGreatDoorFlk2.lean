
/-
  Rows that a call owns, kept; a literal of numbers in memory. No conditions but those that each fact names.
-/
import Derived.Test.YtmnoghhdkdjnmaaGreatDoorBas
import Derived.Test.YtmnoghhdkdjnmaaGreatDoorIns
import Derived.OwnWalk
import Derived.Deep.AppendLies
import Derived.Deep.RegionHeldLaw
import Derived.Lib.SmallJoins
namespace Go.Proofs.YtmnoghhdkdjnmaaGreatDoor
open Go.ChangeShapes Go.WideShapes Go.ChangeAt Go.RowKit Go.Deep Go.Joins
set_option linter.unusedVariables false

theorem owns_keep {w w' : World} {base : Nat} {e : TypeId} {size : Nat} {v : Value} {n : Nat} {xs : List Value} (h : w.ownsRow base e size v n xs) (hk : ∀ k, v.ownBlock = some k → w'.heap[k]? = w.heap[k]?) : w'.ownsRow base e size v n xs := by
  refine ⟨h.1, ?_⟩
  rcases h.2 with h0 | ⟨g, cap, cur, hv, hg, hh, r⟩
  · exact .inl h0
  · exact .inr ⟨g, cap, cur, hv, hg, (hk g (by rw [hv]; rfl)).trans hh, r⟩
theorem owns_lt {w : World} {base : Nat} {e : TypeId} {size : Nat} {v : Value} {n : Nat} {xs : List Value} (h : w.ownsRow base e size v n xs) : ∀ k, v.ownBlock = some k → base ≤ k ∧ k < w.heap.size := by
  intro k hk
  rcases h.2 with ⟨h0, h1⟩ | ⟨g, cap, cur, rfl, hb, hh, _⟩
  · rw [h0] at hk; cases hk
  · simp [Value.ownBlock] at hk
    subst hk
    refine ⟨hb, ?_⟩
    rcases Nat.lt_or_ge g w.heap.size with hlt | hge
    · exact hlt
    · rw [Array.getElem?_eq_none hge] at hh; cases hh
theorem set_block (w : World) (p : Addr) (v : Value) (k : Nat) (hk : k ≠ p.block) : (w.setCell p v).heap[k]? = w.heap[k]? := by
  rcases Nat.lt_or_ge k w.heap.size with g | g
  · exact ((Betw.refl p.block (p.block + 1) w).setCell (p := p) (Nat.le_refl _) (Nat.lt_succ_self _) v).block k g (by omega)
  · rw [Array.getElem?_eq_none g, Array.getElem?_eq_none (by simpa using g)]
theorem owns_below {w w' : World} {base : Nat} {e : TypeId} {size : Nat} {v : Value} {n : Nat} {xs : List Value} (h : w.ownsRow base e size v n xs) (hb : Below w.heap.size w w') : w'.ownsRow base e size v n xs :=
  owns_keep h fun k hk => hb.block k (owns_lt h k hk).2
/-- A literal of numbers. -/
theorem lit_ints (w : World) (zs : List Int) (B : Nat) (hB : B = w.heap.size) : GSeg 1 (w.alloc (.cells (zs.map (Value.int .i64)).toArray 3)) (some ⟨B, 0, none⟩) zs.length (inX zs) := fun _ =>
  ⟨B, 0, rfl, by subst hB; simp, fun i hi j v hj => by
    have hj0 : j = 0 := by
      have := (List.getElem?_eq_some_iff.1 hj).1
      simp [inX] at this
      exact this
    subst hj0
    simp [inX] at hj
    subst hj hB
    rw [show 0 + i * 1 + 0 = i by omega]
    refine new_cell w _ 3 i _ ?_
    simp [hi]⟩
end Go.Proofs.YtmnoghhdkdjnmaaGreatDoor
