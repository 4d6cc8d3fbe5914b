
/-
  What a run of faults keeps, step by step: counts, the halt, the acts; and the answer that both runs give, with its trace. Conditions: lists have at most 1048576.
-/
import Derived.Test.YtnjjjcmomjcmfaaRows
import Derived.Test.YtnjjjcmomjcmfaaHrs
import Derived.Test.YtnjjjcmomjcmfaaHri
namespace Go.Proofs.Ytnjjjcmomjcmfaa
open Go.ChangeShapes Go.WideShapes Go.ChangeAt Go.RowKit Go.Deep
set_option linter.unusedVariables false

/-- What is so of the health behind 'j' faults. -/
def Inv (k m : Int) (j : Nat) (s : St) : Prop :=
  (0 ≤ s.1 ∧ s.1 ≤ (j : Int)) ∧ (0 ≤ s.2.1 ∧ s.2.1 ≤ (j : Int)) ∧ (s.2.1 = 0 ∨ s.2.1 ≤ m) ∧ (s.2.2.2 = true → k ≠ 2) ∧ 0 ≤ s.2.2.1 ∧ s.2.2.1 ≤ 9
/-- One act and what it does to the counts and the halt. -/
def StepQ (s : St) (a : Int) (s' : St) : Prop :=
  (a = 0 ∧ s'.1 = s.1 ∧ s'.2.1 = s.2.1 ∧ s'.2.2.2 = s.2.2.2) ∨ (s.2.2.2 = false ∧ s'.1 = s.1 + 1 ∧ ((a = 2 ∧ s'.2.1 = s.2.1 + 1 ∧ s'.2.2.2 = false) ∨ (a = 1 ∧ s'.2.1 = s.2.1 ∧ s'.2.2.2 = true) ∨ (a = 3 ∧ s'.2.1 = s.2.1 ∧ s'.2.2.2 = false)))
theorem oneF_add {f : Int} (h : f ≤ 1001) : oneF f = f + 1 := by unfold oneF; split <;> omega
theorem inv_step {k m : Int} {j : Nat} {s : St} (x : Int) (h : Inv k m j s) (hj : j ≤ 1000) : Inv k m (j + 1) (onS k m s x).1 ∧ StepQ s (onS k m s x).2 (onS k m s x).1 := by
  obtain ⟨f, r, l, b⟩ := s
  obtain ⟨⟨f0, f1⟩, ⟨r0, r1⟩, hrm, hbk, l0, l1⟩ := h
  simp only at f0 f1 r0 r1 hrm hbk l0 l1
  have ho := oneF_add (f := f) (by omega)
  unfold onS
  simp only
  split
  · rename_i hc
    simp only [Bool.and_eq_true, Bool.not_eq_true'] at hc
    obtain ⟨_, _, hx, hb⟩ := hc
    have hx' := inr_iff.1 hx
    rw [ho]
    split
    · rename_i hk
      exact ⟨⟨⟨by simp only; omega, by simp only; omega⟩, ⟨by simp only; omega, by simp only; omega⟩, hrm, by simp, by simp only; omega, by simp only; omega⟩, .inr ⟨hb, rfl, .inr (.inr ⟨rfl, rfl, rfl⟩)⟩⟩
    · split
      · rename_i hk hk1
        exact ⟨⟨⟨by simp only; omega, by simp only; omega⟩, ⟨by simp only; omega, by simp only; omega⟩, .inr (by simp only; omega), by simp, by simp only; omega, by simp only; omega⟩, .inr ⟨hb, rfl, .inl ⟨rfl, rfl, rfl⟩⟩⟩
      · rename_i hk hk1
        exact ⟨⟨⟨by simp only; omega, by simp only; omega⟩, ⟨by simp only; omega, by simp only; omega⟩, hrm, fun _ => hk, by simp only; omega, by simp only; omega⟩, .inr ⟨hb, rfl, .inr (.inl ⟨rfl, rfl, rfl⟩)⟩⟩
  · exact ⟨⟨⟨by simp only; omega, by simp only; omega⟩, ⟨by simp only; omega, by simp only; omega⟩, hrm, hbk, by simp only; omega, by simp only; omega⟩, .inl ⟨rfl, rfl, rfl, rfl⟩⟩
theorem inv_all (k m : Int) (zs : List Int) : ∀ j, j ≤ 1001 → Inv k m j (stI k m zs j)
  | 0, _ => ⟨⟨by simp [stI], by simp [stI]⟩, ⟨by simp [stI], by simp [stI]⟩, .inl rfl, by simp [stI], by simp [stI], by simp [stI]⟩
  | j + 1, h => (inv_step (zs.getD j 0) (inv_all k m zs j (by omega)) (by omega)).1
/-- A trace from the zero health to 's', by the acts 'ys'. -/
def Tr (k m : Int) (ys : List Int) (y : Nat) (s : St) : Prop :=
  ∃ st : Nat → St, st 0 = (0, 0, 0, false) ∧ st y = s ∧ (∀ j, j < y → StepQ (st j) (ys.getD j 0) (st (j + 1))) ∧ ∀ j, j ≤ y → Inv k m j (st j)
theorem run_both (k m : Int) (zs : List Int) (n : Nat) (hl : zs.length = n) (hn : n ≤ 1048576) : ∃ (s : St) (ys : List Int) (y : Nat), ys.length = y ∧ y ≤ 1000 ∧ Tr k m ys y s ∧
    (∀ (X : World) a1 c1, Seg .i64 X a1 zs → Calls Try.prog 20 #[pol k m, .slice a1 n c1] X fun e w' => ∃ a' c', e = .returned (.tuple #[hltS s, .slice a' y c']) ∧ Below X.heap.size X w' ∧ OI w' X.heap.size w'.heap.size a' ys) ∧
    (∀ (X : World) a1 c1, Seg .i64 X a1 zs → Calls Try.prog 22 #[pol k m, .slice a1 n c1] X fun e w' => ∃ a' c', e = .returned (.tuple #[hltS s, .slice a' y c']) ∧ Below X.heap.size X w' ∧ OI w' X.heap.size w'.heap.size a' ys) := by
  by_cases h : RunP k m n
  · refine ⟨stI k m zs n, acts k m zs n, n, acts_len _ _ _ _, h.2, ⟨stI k m zs, rfl, rfl, fun j hj => ?_, fun j hj => inv_all k m zs j (by have := h.2; omega)⟩, fun X a1 c1 hs => ?_, fun X a1 c1 hs => ?_⟩
    · rw [acts_at k m zs n j hj]
      exact (inv_step (zs.getD j 0) (inv_all k m zs j (by have := h.2; omega)) (by have := h.2; omega)).2
    · have := spec_run k m a1 c1 n zs X hs hl hn _ _ (fun _ => ⟨rfl, rfl⟩) (fun g => absurd h g)
      unfold HPost at this; rw [acts_len] at this; exact this
    · have := impl_run k m a1 c1 n zs X hs hl hn _ _ (fun _ => ⟨rfl, rfl⟩) (fun g => absurd h g)
      unfold HPost at this; rw [acts_len] at this; exact this
  · refine ⟨(0, 0, 0, false), [], 0, rfl, by omega, ⟨fun _ => (0, 0, 0, false), rfl, rfl, fun j hj => absurd hj (by omega), fun j hj => ?_⟩, fun X a1 c1 hs => ?_, fun X a1 c1 hs => ?_⟩
    · exact ⟨⟨by simp, by simp⟩, ⟨by simp, by simp⟩, .inl rfl, by simp, by simp, by simp⟩
    · exact spec_run k m a1 c1 n zs X hs hl hn (0, 0, 0, false) [] (fun g => absurd g h) (fun _ => ⟨rfl, rfl⟩)
    · exact impl_run k m a1 c1 n zs X hs hl hn (0, 0, 0, false) [] (fun g => absurd g h) (fun _ => ⟨rfl, rfl⟩)
end Go.Proofs.Ytnjjjcmomjcmfaa
