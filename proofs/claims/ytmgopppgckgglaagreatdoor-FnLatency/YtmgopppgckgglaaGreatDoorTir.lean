
/-
  The next first cycle of a slot: both sides, and the law, walked. Conditions: the lists lie in memory; the program's table of extras holds what the program's text lays.
-/
import Derived.Test.YtmgopppgckgglaaGreatDoorBas
import Derived.Test.YtmgopppgckgglaaGreatDoorLsw
import Derived.Test.YtmgopppgckgglaaGreatDoorTih
import Derived.Test.YtmgopppgckgglaaGreatDoorTio
namespace Go.Proofs.YtmgopppgckgglaaGreatDoor
open Go.ChangeShapes Go.WideShapes Go.ChangeAt Go.RowKit Go.Deep Go.Joins
set_option linter.unusedVariables false

/-- Whose slot begins at a place, or -1. -/
def firF (ss : List slT) (p : Int) : Nat → Int
  | 0 => -1
  | k + 1 => if 0 ≤ firF ss p k then firF ss p k else if (ss.getD k sl0).2.1 = p then (ss.getD k sl0).1 else -1
def firV (t : Tb) (p : Int) : Int := firF t.ss p t.ss.length
theorem firF_cases {t : Tb} (h : Tm t) (p : Int) : ∀ k, k ≤ t.ss.length → (firF t.ss p k = -1 ∧ ∀ i, i < k → (t.ss.getD i sl0).2.1 ≠ p) ∨ ∃ i : Nat, i < k ∧ (t.ss.getD i sl0).2.1 = p ∧ firF t.ss p k = (t.ss.getD i sl0).1 := by
  intro k
  induction k with
  | zero => intro _; exact .inl ⟨rfl, fun i hi => by omega⟩
  | succ k ih =>
    intro hk
    rcases ih (by omega) with ⟨g, hn⟩ | ⟨i, hi, hp, he⟩
    · by_cases q : (t.ss.getD k sl0).2.1 = p
      · refine .inr ⟨k, by omega, q, ?_⟩
        simp only [firF]
        rw [g, if_neg (by omega), if_pos q]
      · refine .inl ⟨?_, fun i hi => ?_⟩
        · simp only [firF]
          rw [g, if_neg (by omega), if_neg q]
        · by_cases e : i = k
          · subst e; exact q
          · exact hn i (by omega)
    · refine .inr ⟨i, by omega, hp, ?_⟩
      have := (h.pt i (by omega)).1
      simp only [firF]
      rw [he, if_pos this]
theorem firV_cases {t : Tb} (h : Tm t) (p : Int) : (firV t p = -1 ∧ ∀ i, i < t.ss.length → (t.ss.getD i sl0).2.1 ≠ p) ∨ ∃ i : Nat, i < t.ss.length ∧ (t.ss.getD i sl0).2.1 = p ∧ firV t p = (t.ss.getD i sl0).1 := firF_cases h p _ (Nat.le_refl _)
theorem firF_yes {t : Tb} (h : Tm t) {p : Int} {k : Nat} (hk : firF t.ss p k = -1) (hp : (t.ss.getD k sl0).2.1 = p) {n : Nat} (hn : k < n) (hl : n ≤ t.ss.length) : firF t.ss p n = (t.ss.getD k sl0).1 := by
  have h0 := (h.pt k (by omega)).1
  induction n with
  | zero => omega
  | succ n ih =>
    simp only [firF]
    by_cases e : k = n
    · subst e
      rw [hk, if_neg (by omega), if_pos hp]
    · rw [ih (by omega) (by omega), if_pos h0]
theorem firF_no {ss : List slT} {p : Int} {k : Nat} (h : firF ss p k = -1) (hp : ¬ (ss.getD k sl0).2.1 = p) : firF ss p (k + 1) = -1 := by
  simp only [firF]
  rw [h, if_neg (by omega), if_neg hp]
/-- The answer of NextSwitch. -/
def NR (t : Tb) (c r : Int) : Prop := (¬ (Sd t ∧ IsC c) ∧ r = -1) ∨ ((Sd t ∧ IsC c) ∧ NX t c r)
theorem NR.unique {t : Tb} {c r s : Int} (h : NR t c r) (g : NR t c s) : r = s := by
  rcases h with ⟨h, rfl⟩ | ⟨h, h1⟩ <;> rcases g with ⟨g, rfl⟩ | ⟨g, g1⟩
  · rfl
  · exact absurd g h
  · exact absurd h g
  · exact h1.unique g1
end Go.Proofs.YtmgopppgckgglaaGreatDoor
