
/-
  The spans of the cycles of sound tables, on plain numbers: the longest runs of cycles in one slot and one phase, found cycle by cycle or by their ends. No function of the program in sight; no conditions but those that each fact names.
-/
import Derived.Test.YtphdijkpjjokaaaGreatDoorBas
import Derived.Test.YtphdijkpjjokaaaGreatDoorTin
import Derived.Test.YtphdijkpjjokaaaGreatDoorSps
namespace Go.Proofs.YtphdijkpjjokaaaGreatDoor
open Go.ChangeShapes Go.WideShapes Go.ChangeAt Go.RowKit Go.Deep Go.Joins
set_option linter.unusedVariables false

/-- The partition of the slot that has a place, or -1. -/
def whoV (t : Tb) (p : Int) : Int := if slotV t p < 0 then -1 else (t.ss.getD (slotV t p).toNat sl0).1
/-- A cycle goes on with what the one before is in. -/
def Same (t : Tb) (d : Int) : Prop := d % t.maj ≠ 0 ∧ phaseV t (d % t.maj) = phaseV t ((d - 1) % t.maj) ∧ slotV t (d % t.maj) = slotV t ((d - 1) % t.maj)
instance (t : Tb) (d : Int) : Decidable (Same t d) := by unfold Same; infer_instance
/-- From cycle c on it stays the same up to the one before r, and no longer. -/
structure RT (t : Tb) (c r : Int) : Prop where
  lt : c < r
  le : r ≤ c + 5000
  go : ∀ d, c < d → d < r → Same t d
  en : ¬ Same t r
theorem rt_mk {t : Tb} (h : Tm t) {c e f s : Int} (hc : 0 ≤ c) (h1 : c % t.maj < e) (h2 : e ≤ t.maj) (hq : ∀ q, c % t.maj ≤ q → q < e → phaseV t q = f ∧ slotV t q = s) (he : e = t.maj ∨ (e < t.maj ∧ (phaseV t e ≠ f ∨ slotV t e ≠ s))) : RT t c (c - c % t.maj + e) := by
  have hp0 : 0 ≤ c % t.maj := Int.emod_nonneg _ (by have := h.maj1; omega)
  have hm1 := h.maj1
  have hm2 := h.maj2
  have hbm : (c - c % t.maj) % t.maj = 0 := border_mod
  obtain ⟨p, hp⟩ : ∃ p, c % t.maj = p := ⟨_, rfl⟩
  rw [hp] at h1 hq hp0 hbm ⊢
  have hpl : ∀ q, 0 ≤ q → q < t.maj → (c - p + q) % t.maj = q := fun q g1 g2 => place_border hm1 hbm g1 g2
  have hqe := hq (e - 1) (by omega) (by omega)
  refine ⟨by omega, by omega, fun d g1 g2 => ?_, fun g => ?_⟩
  · obtain ⟨q, rfl⟩ : ∃ q, d = c - p + q := ⟨d - (c - p), by omega⟩
    have e1 := hpl q (by omega) (by omega)
    have e2 := hpl (q - 1) (by omega) (by omega)
    rw [show c - p + (q - 1) = c - p + q - 1 by omega] at e2
    have k1 := hq q (by omega) (by omega)
    have k2 := hq (q - 1) (by omega) (by omega)
    refine ⟨by rw [e1]; omega, ?_, ?_⟩
    · rw [e1, e2, k1.1, k2.1]
    · rw [e1, e2, k1.2, k2.2]
  · rcases he with rfl | ⟨he1, he2⟩
    · exact g.1 (by rw [Int.add_emod_right]; exact hbm)
    · have e1 := hpl e (by omega) he1
      have e2 := hpl (e - 1) (by omega) (by omega)
      rw [show c - p + (e - 1) = c - p + e - 1 by omega] at e2
      have g2 := g.2
      rw [e1, e2, hqe.1, hqe.2] at g2
      rcases he2 with he2 | he2
      · exact he2 g2.1
      · exact he2 g2.2
theorem rt_free {t : Tb} (h : Tm t) {c r : Int} {i : Nat} (hc : 0 ≤ c) (hs : slotV t (c % t.maj) = -1) (hn : TN t c i r) : RT t c (min r (c - c % t.maj + t.maj)) := by
  obtain ⟨hi, hst, ⟨hcr, _, hno⟩, hrm⟩ := hn
  have hm1 := h.maj1
  have hp0 : 0 ≤ c % t.maj ∧ c % t.maj < t.maj := mod_lt hm1
  have hbm : (c - c % t.maj) % t.maj = 0 := border_mod
  obtain ⟨p, hp⟩ : ∃ p, c % t.maj = p := ⟨_, rfl⟩
  rw [hp] at hs hp0 hbm ⊢
  have hpl : ∀ q, 0 ≤ q → q < t.maj → (c - p + q) % t.maj = q := fun q g1 g2 => place_border hm1 hbm g1 g2
  have hnp : ∀ j, j < t.ss.length → ¬ HasP (t.ss.getD j sl0) p := fun j hj g => by
    have := slotV_at h hj g
    omega
  have hrc : c < r := by
    rcases Int.lt_or_eq_of_le hcr with g | g
    · exact g
    · exfalso
      rw [← g, hp] at hst
      have := h.ln i hi
      have := h.pad1
      have := h.grd1
      exact hnp i hi ⟨by omega, by omega⟩
  have hq : ∀ q, p ≤ q → q < min r (c - p + t.maj) - (c - p) → phaseV t q = 0 ∧ slotV t q = -1 := fun q g1 g2 => by
    have hsn : slotV t q = -1 := slotV_none (fun j hj g => by
      have k1 := h.st j hj
      have k2 := h.en j hj
      have g' := g
      unfold HasP at g'
      by_cases k : (t.ss.getD j sl0).2.1 ≤ p
      · exact hnp j hj ⟨k, by omega⟩
      · refine hno (c - p + (t.ss.getD j sl0).2.1) (by omega) (by omega) j hj ?_
        rw [hpl _ k1 (by omega)])
    exact ⟨phaseV_free hsn, hsn⟩
  have hE : min r (c - p + t.maj) = c - p + (min r (c - p + t.maj) - (c - p)) := by omega
  rw [hE]
  have := rt_mk h (c := c) (e := min r (c - p + t.maj) - (c - p)) (f := 0) (s := -1) hc (by rw [hp]; omega) (by omega) (by rw [hp]; exact hq) (by
    by_cases g : r - (c - p) < t.maj
    · refine .inr ⟨by omega, .inr ?_⟩
      have e1 : min r (c - p + t.maj) - (c - p) = r - (c - p) := by omega
      have e2 := hpl (r - (c - p)) (by omega) g
      rw [show c - p + (r - (c - p)) = r by omega] at e2
      rw [e2] at hst
      rw [e1]
      have := h.ln i hi
      have := h.pad1
      have := h.grd1
      rw [slotV_at h hi ⟨by omega, by omega⟩]
      omega
    · exact .inl (by omega))
  rw [hp] at this
  exact this
/-- The end of what a slot's cycle is in. -/
def rsV (t : Tb) (y : slT) (f : Int) : Int := if f = 1 then y.2.1 + t.pad else if f = 2 then y.2.1 + y.2.2 - t.grd else y.2.1 + y.2.2
theorem rt_slot {t : Tb} (h : Tm t) {c : Int} {i : Nat} (hc : 0 ≤ c) (hi : i < t.ss.length) (hs : slotV t (c % t.maj) = (i : Int)) : RT t c (c - c % t.maj + rsV t (t.ss.getD i sl0) (phaseV t (c % t.maj))) := by
  have hm1 := h.maj1
  have hp0 : 0 ≤ c % t.maj ∧ c % t.maj < t.maj := mod_lt hm1
  have hh : HasP (t.ss.getD i sl0) (c % t.maj) := by
    rcases slotV_cases t (c % t.maj) with ⟨g, _⟩ | ⟨j, hj, g, k⟩
    · omega
    · have : j = i := by omega
      subst this
      exact k
  have hpa := phaseV_at hs
  obtain ⟨p, hp⟩ : ∃ p, c % t.maj = p := ⟨_, rfl⟩
  have hst := h.st i hi
  have hln := h.ln i hi
  have hen := h.en i hi
  have hp1 := h.pad1
  have hg1 := h.grd1
  have hsl : ∀ q, HasP (t.ss.getD i sl0) q → slotV t q = (i : Int) ∧ phaseV t q = (if q - (t.ss.getD i sl0).2.1 < t.pad then 1 else if (t.ss.getD i sl0).2.2 - t.grd ≤ q - (t.ss.getD i sl0).2.1 then 3 else 2) := fun q g => ⟨slotV_at h hi g, phaseV_at (slotV_at h hi g)⟩
  have hsn : ∀ q, slotV t q = (i : Int) → HasP (t.ss.getD i sl0) q := fun q g => by
    rcases slotV_cases t q with ⟨g2, _⟩ | ⟨j, hj, g2, k⟩
    · omega
    · have : j = i := by omega
      subst this
      exact k
  rw [hp] at hpa hh hp0 hs
  unfold HasP at hh hsl hsn
  generalize t.ss.getD i sl0 = y at *
  by_cases g1 : p - y.2.1 < t.pad
  · rw [if_pos g1] at hpa
    rw [hp, hpa]
    have : rsV t y 1 = y.2.1 + t.pad := by unfold rsV; rw [if_pos rfl]
    rw [this, ← hp]
    refine rt_mk h hc (by omega) (by omega) (f := 1) (s := i) (fun q k1 k2 => ?_) (.inr ⟨by omega, .inl ?_⟩)
    · have := hsl q ⟨by omega, by omega⟩
      exact ⟨by rw [this.2, if_pos (by omega)], this.1⟩
    · rw [(hsl (y.2.1 + t.pad) ⟨by omega, by omega⟩).2, if_neg (by omega), if_neg (by omega)]
      decide
  rw [if_neg g1] at hpa
  by_cases g2 : y.2.2 - t.grd ≤ p - y.2.1
  · rw [if_pos g2] at hpa
    rw [hp, hpa]
    have : rsV t y 3 = y.2.1 + y.2.2 := by unfold rsV; rw [if_neg (by decide), if_neg (by decide)]
    rw [this, ← hp]
    refine rt_mk h hc (by omega) (by omega) (f := 3) (s := i) (fun q k1 k2 => ?_) ?_
    · have := hsl q ⟨by omega, by omega⟩
      exact ⟨by rw [this.2, if_neg (by omega), if_pos (by omega)], this.1⟩
    · by_cases g3 : y.2.1 + y.2.2 = t.maj
      · exact .inl g3
      · refine .inr ⟨by omega, .inr (fun k => ?_)⟩
        have := hsn _ k
        omega
  · rw [if_neg g2] at hpa
    rw [hp, hpa]
    have : rsV t y 2 = y.2.1 + y.2.2 - t.grd := by unfold rsV; rw [if_neg (by decide), if_pos rfl]
    rw [this, ← hp]
    refine rt_mk h hc (by omega) (by omega) (f := 2) (s := i) (fun q k1 k2 => ?_) (.inr ⟨by omega, .inl ?_⟩)
    · have := hsl q ⟨by omega, by omega⟩
      exact ⟨by rw [this.2, if_neg (by omega), if_neg (by omega)], this.1⟩
    · rw [(hsl (y.2.1 + y.2.2 - t.grd) ⟨by omega, by omega⟩).2, if_neg (by omega), if_pos (by omega)]
      decide
theorem rt_const {t : Tb} {c r : Int} (h : RT t c r) : ∀ (k : Nat), c + (k : Int) < r → phaseV t ((c + (k : Int)) % t.maj) = phaseV t (c % t.maj) ∧ slotV t ((c + (k : Int)) % t.maj) = slotV t (c % t.maj) := by
  intro k
  induction k with
  | zero => intro _; simp
  | succ k ih =>
    intro hk
    have g := ih (by omega)
    have s := h.go (c + ((k + 1 : Nat) : Int)) (by omega) hk
    have e : c + ((k + 1 : Nat) : Int) - 1 = c + (k : Int) := by omega
    have s2 := s.2
    rw [e] at s2
    exact ⟨s2.1.trans g.1, s2.2.trans g.2⟩
/-- The spans behind k cycles: those that are closed, and the open one. -/
def spDC (t : Tb) (f : Int) : Nat → List saT × saT
  | 0 => ([], sa0)
  | k + 1 => if k ≠ 0 ∧ Same t (f + (k : Int)) then ((spDC t f k).1, ((spDC t f k).2.1, f + (k : Int) + 1, (spDC t f k).2.2.2.1, (spDC t f k).2.2.2.2)) else (if k = 0 then [] else (spDC t f k).1 ++ [(spDC t f k).2], (f + (k : Int), f + (k : Int) + 1, whoV t ((f + (k : Int)) % t.maj), phaseV t ((f + (k : Int)) % t.maj)))
def spL (t : Tb) (f : Int) (k : Nat) : List saT := if k = 0 then [] else (spDC t f k).1 ++ [(spDC t f k).2]
theorem spL_some {t : Tb} {f : Int} {k : Nat} (h : k ≠ 0) : spL t f k = (spDC t f k).1 ++ [(spDC t f k).2] := by unfold spL; rw [if_neg h]
theorem spDC_new {t : Tb} {f : Int} {k : Nat} (h : ¬ (k ≠ 0 ∧ Same t (f + (k : Int)))) : spDC t f (k + 1) = (spL t f k, (f + (k : Int), f + (k : Int) + 1, whoV t ((f + (k : Int)) % t.maj), phaseV t ((f + (k : Int)) % t.maj))) := by
  rw [spDC, if_neg h]
  rfl
theorem spDC_on {t : Tb} {f : Int} {k : Nat} (h : k ≠ 0 ∧ Same t (f + (k : Int))) : spDC t f (k + 1) = ((spDC t f k).1, ((spDC t f k).2.1, f + (k : Int) + 1, (spDC t f k).2.2.2.1, (spDC t f k).2.2.2.2)) := by
  rw [spDC, if_pos h]
theorem spL_new {t : Tb} {f : Int} {k : Nat} (h : ¬ (k ≠ 0 ∧ Same t (f + (k : Int)))) : spL t f (k + 1) = spL t f k ++ [(f + (k : Int), f + (k : Int) + 1, whoV t ((f + (k : Int)) % t.maj), phaseV t ((f + (k : Int)) % t.maj))] := by
  rw [spL_some (by omega), spDC_new h]
theorem spL_len (t : Tb) (f : Int) : ∀ k, (spL t f k).length ≤ k ∧ (k ≠ 0 → (spDC t f k).1.length < k) := by
  intro k
  induction k with
  | zero => exact ⟨by simp [spL], fun h => absurd rfl h⟩
  | succ k ih =>
    have h2 : (spDC t f (k + 1)).1.length < k + 1 := by
      by_cases g : k ≠ 0 ∧ Same t (f + (k : Int))
      · rw [spDC_on g]
        have := ih.2 g.1
        show (spDC t f k).1.length < k + 1
        omega
      · rw [spDC_new g]
        have := ih.1
        show (spL t f k).length < k + 1
        omega
    refine ⟨?_, fun _ => h2⟩
    rw [spL_some (by omega), List.length_append]
    simp only [List.length_cons, List.length_nil]
    omega
theorem spDC_phase (t : Tb) (f : Int) (k : Nat) (hk : k ≠ 0) : (spDC t f k).2.2.2.2 = phaseV t ((f + (k : Int) - 1) % t.maj) := by
  induction k with
  | zero => exact absurd rfl hk
  | succ k ih =>
    have e : f + ((k + 1 : Nat) : Int) - 1 = f + (k : Int) := by omega
    rw [e]
    by_cases g : k ≠ 0 ∧ Same t (f + (k : Int))
    · rw [spDC_on g]
      show (spDC t f k).2.2.2.2 = _
      rw [ih g.1]
      exact g.2.2.1.symm
    · rw [spDC_new g]
theorem sp_run {t : Tb} {f : Int} {k : Nat} {r : Int} (h : RT t (f + (k : Int)) r) (hk : ¬ (k ≠ 0 ∧ Same t (f + (k : Int)))) : ∀ j : Nat, f + (k : Int) + ((j : Int) + 1) ≤ r → spDC t f (k + (j + 1)) = (spL t f k, (f + (k : Int), f + (k : Int) + ((j : Int) + 1), whoV t ((f + (k : Int)) % t.maj), phaseV t ((f + (k : Int)) % t.maj))) := by
  intro j
  induction j with
  | zero => intro _; rw [show k + (0 + 1) = k + 1 by omega, spDC_new hk]; simp
  | succ j ih =>
    intro hj
    have g := ih (by omega)
    have e : ((k + (j + 1) : Nat) : Int) = (k : Int) + ((j : Int) + 1) := by omega
    have s := h.go (f + ((k + (j + 1) : Nat) : Int)) (by omega) (by omega)
    rw [show k + (j + 1 + 1) = k + (j + 1) + 1 by omega, spDC_on ⟨by omega, s⟩, g]
    simp only [Prod.mk.injEq, true_and]
    refine ⟨?_, trivial⟩
    omega
theorem spL_run {t : Tb} {f : Int} {k : Nat} {r : Int} (h : RT t (f + (k : Int)) r) (hk : ¬ (k ≠ 0 ∧ Same t (f + (k : Int)))) (j : Nat) (hj : 1 ≤ j) (hj2 : f + (k : Int) + (j : Int) ≤ r) : spL t f (k + j) = spL t f k ++ [(f + (k : Int), f + (k : Int) + (j : Int), whoV t ((f + (k : Int)) % t.maj), phaseV t ((f + (k : Int)) % t.maj))] := by
  obtain ⟨i, rfl⟩ : ∃ i, j = i + 1 := ⟨j - 1, by omega⟩
  rw [spL_some (by omega), sp_run h hk i (by omega)]
  simp
end Go.Proofs.YtphdijkpjjokaaaGreatDoor
