
/-
  Time as plain functions of sound tables: which slot has a place of a frame, its phase, who holds the core. No function of the program in sight; no conditions but those that each fact names.
-/
import Derived.Test.YtlomcdgfcocmmaaGreatDoorBas
import Derived.Test.YtlomcdgfcocmmaaGreatDoorRul
namespace Go.Proofs.YtlomcdgfcocmmaaGreatDoor
open Go.ChangeShapes Go.WideShapes Go.ChangeAt Go.RowKit Go.Deep Go.Joins
set_option linter.unusedVariables false

/-- What soundness says of time, in numbers. -/
structure Tm (t : Tb) : Prop where
  pad1 : 1 ≤ t.pad
  pad2 : t.pad ≤ 5000
  grd1 : 1 ≤ t.grd
  grd2 : t.grd ≤ 5000
  maj1 : 1 ≤ t.maj
  maj2 : t.maj ≤ 5000
  n1 : 1 ≤ t.ss.length
  n2 : t.ss.length ≤ 16
  st : ∀ i, i < t.ss.length → 0 ≤ (t.ss.getD i sl0).2.1
  ln : ∀ i, i < t.ss.length → t.pad + t.grd < (t.ss.getD i sl0).2.2
  en : ∀ i, i < t.ss.length → (t.ss.getD i sl0).2.1 + (t.ss.getD i sl0).2.2 ≤ t.maj
  od : ∀ i j, i < j → j < t.ss.length → (t.ss.getD i sl0).2.1 + (t.ss.getD i sl0).2.2 ≤ (t.ss.getD j sl0).2.1
  pt : ∀ i, i < t.ss.length → 0 ≤ (t.ss.getD i sl0).1 ∧ (t.ss.getD i sl0).1 < (t.ps.length : Int)
theorem sd_tm {t : Tb} (h : Sd t) : Tm t := by
  have h4 : 1 ≤ t.pad ∧ t.pad ≤ 5000 := h 4 (by omega)
  have h5 : 1 ≤ t.grd ∧ t.grd ≤ 5000 := h 5 (by omega)
  have h6 : 1 ≤ t.maj ∧ t.maj ≤ 5000 := h 6 (by omega)
  have h21 := h 21 (by omega)
  have h22 := h 22 (by omega)
  have h23 := h 23 (by omega)
  have h24 := h 24 (by omega)
  simp only [R] at h21 h22 h23 h24
  have hod : ∀ j i, i < j → j < t.ss.length → (t.ss.getD i sl0).2.1 + (t.ss.getD i sl0).2.2 ≤ (t.ss.getD j sl0).2.1 := by
    intro j
    induction j with
    | zero => intro i hi; omega
    | succ j ih =>
      intro i hi hj
      have g := (h24 (j + 1) hj).1
      have g' : (t.ss.getD j sl0).2.1 + (t.ss.getD j sl0).2.2 ≤ (t.ss.getD (j + 1) sl0).2.1 := g
      by_cases e : i = j
      · subst e; exact g'
      · have := ih i (by omega) (by omega)
        have := h23 j (by omega)
        omega
  have hst : ∀ i, i < t.ss.length → 0 ≤ (t.ss.getD i sl0).2.1 := by
    intro i hi
    have g0 : 0 ≤ (t.ss.getD 0 sl0).2.1 := (h24 0 (by omega)).1
    by_cases e : i = 0
    · subst e; exact g0
    · have := hod i 0 (by omega) hi
      have := h23 0 (by omega)
      omega
  exact ⟨h4.1, h4.2, h5.1, h5.2, h6.1, h6.2, h21.1, h21.2, hst, h23, fun i hi => (h24 i hi).2, fun i j => hod j i, h22⟩
/-- A slot has a place. -/
def HasP (y : slT) (p : Int) : Prop := y.2.1 ≤ p ∧ p < y.2.1 + y.2.2
instance (y : slT) (p : Int) : Decidable (HasP y p) := by unfold HasP; infer_instance
/-- The first of k slots that has a place, or -1. -/
def slotF (ss : List slT) (p : Int) : Nat → Int
  | 0 => -1
  | k + 1 => if 0 ≤ slotF ss p k then slotF ss p k else if HasP (ss.getD k sl0) p then (k : Int) else -1
def slotV (t : Tb) (p : Int) : Int := slotF t.ss p t.ss.length
theorem slotF_cases (ss : List slT) (p : Int) : ∀ k, (slotF ss p k = -1 ∧ ∀ i, i < k → ¬ HasP (ss.getD i sl0) p) ∨ ∃ i : Nat, i < k ∧ slotF ss p k = (i : Int) ∧ HasP (ss.getD i sl0) p ∧ ∀ j, j < i → ¬ HasP (ss.getD j sl0) p := by
  intro k
  induction k with
  | zero => exact .inl ⟨rfl, fun i hi => by omega⟩
  | succ k ih =>
    rcases ih with ⟨h, hn⟩ | ⟨i, hi, he, hp, hj⟩
    · by_cases g : HasP (ss.getD k sl0) p
      · refine .inr ⟨k, by omega, ?_, g, hn⟩
        simp only [slotF]
        rw [h, if_neg (by omega), if_pos g]
      · refine .inl ⟨?_, fun i hi => ?_⟩
        · simp only [slotF]
          rw [h, if_neg (by omega), if_neg g]
        · by_cases e : i = k
          · subst e; exact g
          · exact hn i (by omega)
    · refine .inr ⟨i, by omega, ?_, hp, hj⟩
      simp only [slotF]
      rw [he, if_pos (by omega)]
theorem slotV_cases (t : Tb) (p : Int) : (slotV t p = -1 ∧ ∀ i, i < t.ss.length → ¬ HasP (t.ss.getD i sl0) p) ∨ ∃ i : Nat, i < t.ss.length ∧ slotV t p = (i : Int) ∧ HasP (t.ss.getD i sl0) p := by
  rcases slotF_cases t.ss p t.ss.length with h | ⟨i, h1, h2, h3, _⟩
  · exact .inl h
  · exact .inr ⟨i, h1, h2, h3⟩
theorem slotV_at {t : Tb} (h : Tm t) {p : Int} {i : Nat} (hi : i < t.ss.length) (hp : HasP (t.ss.getD i sl0) p) : slotV t p = (i : Int) := by
  rcases slotV_cases t p with ⟨_, hn⟩ | ⟨j, hj, he, hq⟩
  · exact absurd hp (hn i hi)
  · have e : j = i := by
      unfold HasP at hp hq
      by_cases g : j < i
      · have := h.od j i g hi; omega
      · by_cases g2 : i < j
        · have := h.od i j g2 hj; omega
        · omega
    rw [he, e]
theorem slotV_none {t : Tb} {p : Int} (hn : ∀ i, i < t.ss.length → ¬ HasP (t.ss.getD i sl0) p) : slotV t p = -1 := by
  rcases slotV_cases t p with ⟨h, _⟩ | ⟨j, hj, he, hq⟩
  · exact h
  · exact absurd hq (hn j hj)
theorem slotF_yes {ss : List slT} {p : Int} {k : Nat} (h : slotF ss p k = -1) (hp : HasP (ss.getD k sl0) p) {n : Nat} (hn : k < n) : slotF ss p n = (k : Int) := by
  induction n with
  | zero => omega
  | succ n ih =>
    simp only [slotF]
    by_cases e : k = n
    · subst e
      rw [h, if_neg (by omega), if_pos hp]
    · rw [ih (by omega), if_pos (by omega)]
theorem slotF_no {ss : List slT} {p : Int} {k : Nat} (h : slotF ss p k = -1) (hp : ¬ HasP (ss.getD k sl0) p) : slotF ss p (k + 1) = -1 := by
  simp only [slotF]
  rw [h, if_neg (by omega), if_neg hp]
/-- The phase of a place. -/
def phaseV (t : Tb) (p : Int) : Int :=
  if slotV t p < 0 then 0
  else if p - (t.ss.getD (slotV t p).toNat sl0).2.1 < t.pad then 1
  else if (t.ss.getD (slotV t p).toNat sl0).2.2 - t.grd ≤ p - (t.ss.getD (slotV t p).toNat sl0).2.1 then 3
  else 2
theorem phaseV_free {t : Tb} {p : Int} (h : slotV t p = -1) : phaseV t p = 0 := by
  unfold phaseV
  rw [h, if_pos (by omega)]
theorem phaseV_at {t : Tb} {p : Int} {i : Nat} (h : slotV t p = (i : Int)) : phaseV t p = (if p - (t.ss.getD i sl0).2.1 < t.pad then 1 else if (t.ss.getD i sl0).2.2 - t.grd ≤ p - (t.ss.getD i sl0).2.1 then 3 else 2) := by
  unfold phaseV
  rw [h, if_neg (by omega)]
  rfl
theorem phaseV_cases (t : Tb) (p : Int) : phaseV t p = 0 ∨ phaseV t p = 1 ∨ phaseV t p = 2 ∨ phaseV t p = 3 := by
  unfold phaseV
  repeat' split
  all_goals omega
theorem phaseV_slot {t : Tb} {p : Int} (h : phaseV t p ≠ 0) : ∃ i : Nat, i < t.ss.length ∧ slotV t p = (i : Int) ∧ HasP (t.ss.getD i sl0) p := by
  rcases slotV_cases t p with ⟨g, _⟩ | g
  · exact absurd (phaseV_free g) h
  · exact g
/-- Who may begin a step at a place, and who holds the core. -/
def begV (t : Tb) (p : Int) : Int := if phaseV t p = 2 then (t.ss.getD (slotV t p).toNat sl0).1 else -1
def holdV (t : Tb) (p : Int) : Int := if phaseV t p = 2 ∨ phaseV t p = 3 then (t.ss.getD (slotV t p).toNat sl0).1 else -1
/-- The cycle is one. -/
def IsC (c : Int) : Prop := 0 ≤ c ∧ c ≤ 50000
instance (c : Int) : Decidable (IsC c) := by unfold IsC; infer_instance
/-- An answer of this chapter. -/
def TR (t : Tb) (c : Int) (f : Int) (r : Int) : Prop := (¬ (Sd t ∧ IsC c) ∧ r = -1) ∨ ((Sd t ∧ IsC c) ∧ r = f)
theorem TR.unique {t : Tb} {c f r s : Int} (h : TR t c f r) (g : TR t c f s) : r = s := by
  rcases h with ⟨h, rfl⟩ | ⟨h, h1⟩ <;> rcases g with ⟨g, rfl⟩ | ⟨g, g1⟩
  · rfl
  · exact absurd g h
  · exact absurd h g
  · rw [h1, g1]
/-- The least cycle, not before c, that is the first of a slot. -/
def NX (t : Tb) (c r : Int) : Prop := c ≤ r ∧ (∃ i, i < t.ss.length ∧ (t.ss.getD i sl0).2.1 = r % t.maj) ∧ ∀ d, c ≤ d → d < r → ∀ i, i < t.ss.length → (t.ss.getD i sl0).2.1 ≠ d % t.maj
theorem NX.unique {t : Tb} {c r s : Int} (h : NX t c r) (g : NX t c s) : r = s := by
  obtain ⟨h1, ⟨i, hi, he⟩, h3⟩ := h
  obtain ⟨g1, ⟨j, hj, ge⟩, g3⟩ := g
  by_cases e : r < s
  · exact absurd he (g3 r h1 e i hi)
  · by_cases e2 : s < r
    · exact absurd ge (h3 s g1 e2 j hj)
    · omega
theorem mod_lt {m c : Int} (hm : 1 ≤ m) : 0 ≤ c % m ∧ c % m < m := ⟨Int.emod_nonneg _ (by omega), Int.emod_lt_of_pos _ (by omega)⟩
theorem tmod_pos {c m : Int} (hc : 0 ≤ c) : Int.tmod c m = c % m := Int.tmod_eq_emod_of_nonneg hc
theorem tdiv_pos {c m : Int} (hc : 0 ≤ c) : Int.tdiv c m = c / m := Int.tdiv_eq_ediv_of_nonneg hc
end Go.Proofs.YtlomcdgfcocmmaaGreatDoor
