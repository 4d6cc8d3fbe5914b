/-
  CacheRun beside its model, and beside itself with one way more. Conditions: at most 1048576 uses.
-/
import Derived.Test.YtifgmgehnbkbjaaUpw
import Derived.Test.YtifgmgehnbkbjaaCra
namespace Go.Proofs.Ytifgmgehnbkbjaa
open Go.ChangeShapes Go.WideShapes Go.ChangeAt Go.RowKit
set_option linter.unusedVariables false

theorem shapeOk_more {s y l : Int} (h : shapeOk s y l = true) (hy : y ≠ 4) : shapeOk s (y + 1) l = true := by
  have hp := shapeOk_parts h
  unfold shapeOk at h ⊢
  simp only [Bool.and_eq_true] at h ⊢
  exact ⟨h.1, h.2.1, by unfold inr; simp; omega⟩
theorem cr_ways (s y l : Int) (N : Nat) (us : List Wy) (hl : us.length = N) (hN : N ≤ 1048576) : ∃ xs : List Ac, xs.length ≤ 2000 ∧ (∀ X a cap, WSeg X a us → Calls Try.prog 17 #[shp s y l, .slice a N cap] X (APost X xs)) ∧ (∀ X a cap, WSeg X a us → Calls Try.prog 16 #[shp s y l, .slice a N cap] X (APost X xs)) ∧
    (xs.length ≠ 0 → y ≠ 4 → (1 ≤ y ∧ y ≤ 3) ∧ ∃ xs2 : List Ac, xs2.length = xs.length ∧ (∀ i, i < xs.length → (xs.getD i ad).1 = true → (xs2.getD i ad).1 = true) ∧ ∀ X a cap, WSeg X a us → Calls Try.prog 16 #[shp s (y + 1) l, .slice a N cap] X (APost X xs2)) := by
  by_cases h : shapeOk s y l = true ∧ N ≤ 2000
  · obtain ⟨hsh, hn2⟩ := h
    have hp := shapeOk_parts hsh
    obtain ⟨n, rfl⟩ : ∃ n : Nat, s = (n : Int) := ⟨s.toNat, by omega⟩
    obtain ⟨M, rfl⟩ : ∃ M : Nat, y = (M : Int) := ⟨y.toNat, by omega⟩
    obtain ⟨L, rfl⟩ : ∃ L : Nat, l = (L : Int) := ⟨l.toNat, by omega⟩
    by_cases hA : ∀ i, i < N → inr (us.getD i wd).1 0 65535 = true
    · refine ⟨accC n M L us N, by rw [accC_len]; exact hn2, fun X a cap hX => spec_crun n M L a cap N us X hX hl ⟨hsh, hn2, hA⟩, fun X a cap hX => impl_crun n M L a cap N us X hX hl hsh hn2 _ (fun _ => rfl) (fun g => absurd ⟨hsh, hn2, hA⟩ g), fun _ hy => ⟨by omega, ?_⟩⟩
      have hs2 : shapeOk (n : Int) ((M + 1 : Nat) : Int) (L : Int) = true := by
        have := shapeOk_more hsh hy
        rw [Int.natCast_add]; exact this
      refine ⟨accC n (M + 1) L us N, by rw [accC_len, accC_len], fun i hi => ?_, fun X a cap hX => ?_⟩
      · rw [accC_len] at hi
        rw [accC_get hi, accC_get hi]
        exact acc_more hsh hs2 (fun j hj => hA j (by omega))
      · have := impl_crun n (M + 1) L a cap N us X hX hl hs2 hn2 (accC n (M + 1) L us N) (fun _ => rfl) (fun g => absurd ⟨hs2, hn2, hA⟩ g)
        rw [Int.natCast_add] at this
        exact this
    · exact ⟨[], by simp, fun X a cap hX => spec_cr_bad n M L a cap N us X hX hl hsh hn2 hA, fun X a cap hX => impl_crun n M L a cap N us X hX hl hsh hn2 _ (fun g => absurd g.2.2 hA) (fun _ => rfl), fun g => absurd rfl g⟩
  · exact ⟨[], by simp, fun X a cap _ => spec_cr_no s y l a cap N X h hN, fun X a cap _ => impl_cr_no s y l a cap N X h hN, fun g => absurd rfl g⟩
end Go.Proofs.Ytifgmgehnbkbjaa
