
/-
  Events within the slots of a partition, on plain numbers. No function of the program in sight; no conditions but those that each fact names.
-/
import Derived.Test.YtiheojmknhgjfaaGreatDoorBas
import Derived.Test.YtiheojmknhgjfaaGreatDoorTim
import Derived.Test.YtiheojmknhgjfaaGreatDoorEvf
namespace Go.Proofs.YtiheojmknhgjfaaGreatDoor
open Go.ChangeShapes Go.WideShapes Go.ChangeAt Go.RowKit Go.Deep Go.Joins
set_option linter.unusedVariables false

def wsV (t : Tb) : Int := worstStep t.c1 t.c2 t.c3 t.c4 t.c5 t.c6 t.c7
def evIn (t : Tb) (p f : Int) (x : evT) : Prop := (f ≤ x.1 ∧ x.1 ≤ 50000) ∧ (1 ≤ x.2.1 ∧ x.2.1 ≤ wsV t) ∧ begV t (x.1 % t.maj) = p
def freeE (xs : List evT) : Nat → Int
  | 0 => 0
  | i + 1 => (xs.getD i ev0).1 + (xs.getD i ev0).2.1
def InSl (t : Tb) (p : Int) (xs : List evT) (n : Nat) : Prop := n ≤ 50000 ∧ (0 ≤ p ∧ p < (t.ps.length : Int)) ∧ ∀ i, i < n → evIn t p (freeE xs i) (xs.getD i ev0)
theorem sd_ws {t : Tb} (h : Sd t) : wsV t ≤ t.grd := h 7 (by omega)
theorem free_rng {t : Tb} {p : Int} {xs : List evT} (hs : Sd t) : ∀ m, (∀ i, i < m → evIn t p (freeE xs i) (xs.getD i ev0)) → 0 ≤ freeE xs m ∧ freeE xs m ≤ 55000 := by
  intro m
  have h1 := sd_ws hs
  have h2 := (sd_tm hs).grd2
  induction m with
  | zero => intro _; exact ⟨Int.le_refl _, by simp [freeE]⟩
  | succ m ih =>
    intro h
    have h3 := ih (fun i hi => h i (by omega))
    have h4 := h m (by omega)
    unfold evIn at h4
    simp only [freeE]
    omega
/-- A step that begins where it may lies whole within the slot. -/
theorem in_slot {t : Tb} {p c k : Int} (hs : Sd t) (hp : 0 ≤ p) (hb : begV t (c % t.maj) = p) (hk : k ≤ wsV t) : ∃ i : Nat, i < t.ss.length ∧ slotV t (c % t.maj) = (i : Int) ∧ HasP (t.ss.getD i sl0) (c % t.maj) ∧ c % t.maj + k ≤ (t.ss.getD i sl0).2.1 + (t.ss.getD i sl0).2.2 := by
  have h2 : phaseV t (c % t.maj) = 2 := by
    by_cases g : phaseV t (c % t.maj) = 2
    · exact g
    · unfold begV at hb
      rw [if_neg g] at hb
      omega
  obtain ⟨i, hi, hsv, hh⟩ := phaseV_slot (t := t) (p := c % t.maj) (by omega)
  refine ⟨i, hi, hsv, hh, ?_⟩
  rw [phaseV_at hsv] at h2
  have h3 := sd_ws hs
  split at h2
  · omega
  · split at h2
    · omega
    · omega
theorem slot_same {t : Tb} {p c k d : Int} (hs : Sd t) (hp : 0 ≤ p) (hb : begV t (c % t.maj) = p) (hk : k ≤ wsV t) (h1 : c ≤ d) (h2 : d < c + k) : slotV t (d % t.maj) = slotV t (c % t.maj) := by
  obtain ⟨i, hi, hsv, hh, he⟩ := in_slot hs hp hb hk
  have ht := sd_tm hs
  have hen := ht.en i hi
  have hq := mod_lt (m := t.maj) (c := c) ht.maj1
  have e : d % t.maj = c % t.maj + (d - c) := by
    have h5 : (c % t.maj + (d - c)) % t.maj = d % t.maj := by
      rw [Int.emod_add_emod]
      congr 1
      omega
    rw [← h5]
    exact Int.emod_eq_of_lt (by omega) (by omega)
  rw [hsv]
  refine slotV_at ht hi ?_
  unfold HasP at hh ⊢
  rw [e]
  omega
theorem insl_next {t : Tb} {p : Int} {xs : List evT} {m : Nat} (h : ∀ i, i < m → evIn t p (freeE xs i) (xs.getD i ev0)) (h2 : evIn t p (freeE xs m) (xs.getD m ev0)) : ∀ i, i < m + 1 → evIn t p (freeE xs i) (xs.getD i ev0) := fun i hi => by
  by_cases e : i = m
  · subst e; exact h2
  · exact h i (by omega)
end Go.Proofs.YtiheojmknhgjfaaGreatDoor
