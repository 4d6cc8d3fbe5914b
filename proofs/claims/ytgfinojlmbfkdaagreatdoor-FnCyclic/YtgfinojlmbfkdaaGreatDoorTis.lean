
/-
  At how many cycles a partition may begin a step: counted one by one, and by frames and slots. No function of the program in sight; no conditions but those that each fact names.
-/
import Derived.Test.YtgfinojlmbfkdaaGreatDoorBas
import Derived.Test.YtgfinojlmbfkdaaGreatDoorTin
namespace Go.Proofs.YtgfinojlmbfkdaaGreatDoor
open Go.ChangeShapes Go.WideShapes Go.ChangeAt Go.RowKit Go.Deep Go.Joins
set_option linter.unusedVariables false

/-- How many of the first c cycles are such that x may begin a step. -/
def numB (t : Tb) (x : Int) : Nat → Int
  | 0 => 0
  | c + 1 => numB t x c + (if begV t ((c : Int) % t.maj) = x then 1 else 0)
/-- What the first k slots give x of the places ahead of p. -/
def runN (t : Tb) (x p : Int) : Nat → Int
  | 0 => 0
  | k + 1 => runN t x p k + (if (t.ss.getD k sl0).1 = x then max (min p ((t.ss.getD k sl0).2.1 + (t.ss.getD k sl0).2.2 - t.grd) - ((t.ss.getD k sl0).2.1 + t.pad)) 0 else 0)
def runV (t : Tb) (x p : Int) : Int := runN t x p t.ss.length
def aheadV (t : Tb) (x c : Int) : Int := c / t.maj * runV t x t.maj + runV t x (c % t.maj)
/-- Slot k lets x begin a step at place p. -/
def Lets (t : Tb) (x p : Int) (k : Nat) : Prop := (t.ss.getD k sl0).1 = x ∧ (t.ss.getD k sl0).2.1 + t.pad ≤ p ∧ p < (t.ss.getD k sl0).2.1 + (t.ss.getD k sl0).2.2 - t.grd
theorem lets_one {t : Tb} (h : Tm t) {x p : Int} {i j : Nat} (hi : i < t.ss.length) (hj : j < t.ss.length) (gi : Lets t x p i) (gj : Lets t x p j) : i = j := by
  unfold Lets at gi gj
  have h1 := h.pad1
  have h2 := h.grd1
  by_cases e : i < j
  · have := h.od i j e hj; omega
  · by_cases e2 : j < i
    · have := h.od j i e2 hi; omega
    · omega
theorem lets_beg {t : Tb} (h : Tm t) {x p : Int} {i : Nat} (hi : i < t.ss.length) (g : Lets t x p i) : begV t p = x := by
  unfold Lets at g
  have h1 := h.pad1
  have h2 := h.grd1
  have hs := slotV_at h hi (p := p) ⟨by omega, by omega⟩
  have hp := phaseV_at hs
  rw [if_neg (by omega), if_neg (by omega)] at hp
  unfold begV
  rw [if_pos hp, hs]
  exact g.1
theorem beg_lets {t : Tb} (h : Tm t) {x p : Int} (hx : 0 ≤ x) (g : begV t p = x) : ∃ i, i < t.ss.length ∧ Lets t x p i := by
  have hp : phaseV t p = 2 := by
    by_cases q : phaseV t p = 2
    · exact q
    · unfold begV at g; rw [if_neg q] at g; omega
  obtain ⟨i, hi, hs, hh⟩ := phaseV_slot (t := t) (p := p) (by omega)
  have h3 := phaseV_at hs
  unfold begV at g
  rw [if_pos hp, hs] at g
  rw [hp] at h3
  refine ⟨i, hi, g, ?_, ?_⟩
  · by_cases q : p - (t.ss.getD i sl0).2.1 < t.pad
    · rw [if_pos q] at h3; omega
    · omega
  · by_cases q : p - (t.ss.getD i sl0).2.1 < t.pad
    · rw [if_pos q] at h3; omega
    · rw [if_neg q] at h3
      by_cases q2 : (t.ss.getD i sl0).2.2 - t.grd ≤ p - (t.ss.getD i sl0).2.1
      · rw [if_pos q2] at h3; omega
      · omega
theorem run_none {t : Tb} (h : Tm t) {x p : Int} : ∀ k, k ≤ t.ss.length → (∀ i, i < k → ¬ Lets t x p i) → runN t x (p + 1) k = runN t x p k := by
  intro k
  induction k with
  | zero => intro _ _; rfl
  | succ k ih =>
    intro hk hn
    have h1 := h.ln k (by omega)
    have h2 := hn k (by omega)
    unfold Lets at h2
    simp only [runN]
    rw [ih (by omega) (fun i hi => hn i (by omega))]
    by_cases q : (t.ss.getD k sl0).1 = x
    · rw [if_pos q, if_pos q]
      have h3 : ¬ ((t.ss.getD k sl0).2.1 + t.pad ≤ p ∧ p < (t.ss.getD k sl0).2.1 + (t.ss.getD k sl0).2.2 - t.grd) := fun g => h2 ⟨q, g⟩
      omega
    · rw [if_neg q, if_neg q]
theorem run_some {t : Tb} (h : Tm t) {x p : Int} {j : Nat} (hj : Lets t x p j) : ∀ k, j < k → k ≤ t.ss.length → runN t x (p + 1) k = runN t x p k + 1 := by
  intro k
  induction k with
  | zero => intro g; omega
  | succ k ih =>
    intro hjk hk
    have h1 := h.ln k (by omega)
    simp only [runN]
    by_cases e : j = k
    · subst e
      rw [run_none h j (by omega) (fun i hi g => by have := lets_one h (by omega) (by omega) g hj; omega)]
      unfold Lets at hj
      rw [if_pos hj.1, if_pos hj.1]
      omega
    · rw [ih (by omega) (by omega)]
      have h2 : ¬ Lets t x p k := fun g => by have := lets_one h (by omega) (by omega) g hj; omega
      unfold Lets at h2
      by_cases q : (t.ss.getD k sl0).1 = x
      · rw [if_pos q, if_pos q]
        have h3 : ¬ ((t.ss.getD k sl0).2.1 + t.pad ≤ p ∧ p < (t.ss.getD k sl0).2.1 + (t.ss.getD k sl0).2.2 - t.grd) := fun g => h2 ⟨q, g⟩
        omega
      · rw [if_neg q, if_neg q]
        omega
theorem run_step {t : Tb} (h : Tm t) {x p : Int} (hx : 0 ≤ x) : runV t x (p + 1) = runV t x p + (if begV t p = x then 1 else 0) := by
  unfold runV
  by_cases g : begV t p = x
  · obtain ⟨i, hi, hl⟩ := beg_lets h hx g
    rw [if_pos g, run_some h hl _ hi (Nat.le_refl _)]
  · rw [if_neg g, run_none h _ (Nat.le_refl _) (fun i hi q => g (lets_beg h hi q))]
    omega
theorem run_zero {t : Tb} (h : Tm t) {x : Int} : runV t x 0 = 0 := by
  have : ∀ k, k ≤ t.ss.length → runN t x 0 k = 0 := by
    intro k
    induction k with
    | zero => intro _; rfl
    | succ k ih =>
      intro hk
      have h1 := h.st k (by omega)
      have h2 := h.pad1
      simp only [runN]
      rw [ih (by omega)]
      split <;> omega
  exact this _ (Nat.le_refl _)
theorem run_no {t : Tb} {x p : Int} (hn : ∀ i, i < t.ss.length → (t.ss.getD i sl0).1 ≠ x) : runV t x p = 0 := by
  have : ∀ k, k ≤ t.ss.length → runN t x p k = 0 := by
    intro k
    induction k with
    | zero => intro _; rfl
    | succ k ih =>
      intro hk
      simp only [runN]
      rw [ih (by omega), if_neg (hn k (by omega))]
      rfl
  exact this _ (Nat.le_refl _)
theorem runN_bound {t : Tb} (h : Tm t) {x p : Int} (hp : p ≤ 5000) : ∀ k, k ≤ t.ss.length → 0 ≤ runN t x p k ∧ runN t x p k ≤ 5000 * (k : Int) := by
  intro k
  induction k with
  | zero => intro _; exact ⟨Int.le_refl _, by simp [runN]⟩
  | succ k ih =>
    intro hk
    have h1 := h.st k (by omega)
    have h2 := h.pad1
    have h3 := ih (by omega)
    simp only [runN]
    by_cases q : (t.ss.getD k sl0).1 = x
    · rw [if_pos q]
      omega
    · rw [if_neg q]
      omega
theorem runV_bound {t : Tb} (h : Tm t) {x p : Int} (hp : p ≤ 5000) : 0 ≤ runV t x p ∧ runV t x p ≤ 80000 := by
  have h1 := runN_bound h (x := x) hp t.ss.length (Nat.le_refl _)
  have h2 := h.n2
  unfold runV
  omega
theorem ahead_num {t : Tb} (h : Tm t) {x : Int} (hx : 0 ≤ x) : ∀ c : Nat, aheadV t x (c : Int) = numB t x c := by
  have hm := h.maj1
  intro c
  induction c with
  | zero =>
    unfold aheadV
    rw [show ((0 : Nat) : Int) = 0 from rfl, Int.zero_ediv, Int.zero_emod, run_zero h]
    simp [numB]
  | succ c ih =>
    have hst := run_step h (x := x) (p := (c : Int) % t.maj) hx
    simp only [numB]
    rw [← ih]
    unfold aheadV
    have hp := mod_lt (c := (c : Int)) hm
    have hd := Int.mul_ediv_add_emod (c : Int) t.maj
    have hcc : ((c + 1 : Nat) : Int) = (c : Int) + 1 := by omega
    rw [hcc]
    generalize hq : (c : Int) / t.maj = q at *
    generalize hr : (c : Int) % t.maj = r at *
    by_cases g : r + 1 < t.maj
    · have e1 : ((c : Int) + 1) / t.maj = q := by
        rw [← hd, show t.maj * q + r + 1 = (r + 1) + t.maj * q by omega, Int.add_mul_ediv_left _ _ (by omega), Int.ediv_eq_zero_of_lt (by omega) g]
        omega
      have e2 : ((c : Int) + 1) % t.maj = r + 1 := by
        rw [← hd, show t.maj * q + r + 1 = (r + 1) + t.maj * q by omega, Int.add_mul_emod_self_left]
        exact Int.emod_eq_of_lt (by omega) g
      rw [e1, e2, hst]
      omega
    · have e0 : r + 1 = t.maj := by omega
      have e1 : ((c : Int) + 1) / t.maj = q + 1 := by
        rw [← hd, show t.maj * q + r + 1 = 0 + t.maj * (q + 1) by rw [Int.mul_add]; omega, Int.add_mul_ediv_left _ _ (by omega)]
        simp
      have e2 : ((c : Int) + 1) % t.maj = 0 := by
        rw [← hd, show t.maj * q + r + 1 = 0 + t.maj * (q + 1) by rw [Int.mul_add]; omega, Int.add_mul_emod_self_left]
        simp
      rw [e0] at hst
      rw [e1, e2, run_zero h, Int.add_mul, hst]
      omega
theorem numB_bound (t : Tb) (x : Int) (c : Nat) : 0 ≤ numB t x c ∧ numB t x c ≤ (c : Int) := by
  induction c with
  | zero => exact ⟨Int.le_refl _, Int.le_refl _⟩
  | succ c ih =>
    simp only [numB]
    split <;> omega
theorem numB_le (t : Tb) (x : Int) {c d : Nat} (h : c ≤ d) : numB t x c ≤ numB t x d := by
  induction d with
  | zero => have : c = 0 := by omega
            subst this; exact Int.le_refl _
  | succ d ih =>
    by_cases e : c = d + 1
    · subst e; exact Int.le_refl _
    · have := ih (by omega)
      simp only [numB]
      split <;> omega
/-- The answer of CyclesOf. -/
def CR (t : Tb) (x y z r : Int) : Prop := (¬ ((Sd t ∧ IsC y) ∧ IsC z ∧ y ≤ z ∧ 0 ≤ x ∧ x < (t.ps.length : Int)) ∧ r = 0) ∨ (((Sd t ∧ IsC y) ∧ IsC z ∧ y ≤ z ∧ 0 ≤ x ∧ x < (t.ps.length : Int)) ∧ r = numB t x z.toNat - numB t x y.toNat)
theorem CR.unique {t : Tb} {x y z r s : Int} (h : CR t x y z r) (g : CR t x y z s) : r = s := by
  rcases h with ⟨h, rfl⟩ | ⟨h, h1⟩ <;> rcases g with ⟨g, rfl⟩ | ⟨g, g1⟩
  · rfl
  · exact absurd g h
  · exact absurd h g
  · rw [h1, g1]
end Go.Proofs.YtgfinojlmbfkdaaGreatDoor
