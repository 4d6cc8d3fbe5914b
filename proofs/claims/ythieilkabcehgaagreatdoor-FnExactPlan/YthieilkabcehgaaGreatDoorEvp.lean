
/-
  Slots cut again and again: what is left, that it is sound, and where it ends. No conditions but those that each fact names.
-/
import Derived.Test.YthieilkabcehgaaGreatDoorBas
import Derived.Test.YthieilkabcehgaaGreatDoorSsp
namespace Go.Proofs.YthieilkabcehgaaGreatDoor
open Go.ChangeShapes Go.WideShapes Go.ChangeAt Go.RowKit Go.Deep Go.Joins
set_option linter.unusedVariables false

/-- What slots must be, beside what all else of tables must. -/
structure SlG (t : Tb) (ss : List slT) : Prop where
  n1 : 1 ≤ ss.length
  n2 : ss.length ≤ 16
  pt : ∀ i, i < ss.length → 0 ≤ (ss.getD i sl0).1 ∧ (ss.getD i sl0).1 < (t.ps.length : Int)
  ln : ∀ i, i < ss.length → t.pad + t.grd < (ss.getD i sl0).2.2
  fr : ∀ i, i < ss.length → freeN ss i ≤ (ss.getD i sl0).2.1 ∧ (ss.getD i sl0).2.1 + (ss.getD i sl0).2.2 ≤ t.maj
theorem sd_slots {t : Tb} {ss : List slT} (h : Sd t) (g : SlG t ss) : Sd { t with ss := ss } := fun i hi => by
  by_cases c : i < 21
  · have hr := h i hi
    have e : ∀ i, i < 21 → R { t with ss := ss } i = R t i := fun i hi => by
      match i, hi with
      | 0, _ => rfl | 1, _ => rfl | 2, _ => rfl | 3, _ => rfl | 4, _ => rfl | 5, _ => rfl | 6, _ => rfl | 7, _ => rfl | 8, _ => rfl | 9, _ => rfl | 10, _ => rfl
      | 11, _ => rfl | 12, _ => rfl | 13, _ => rfl | 14, _ => rfl | 15, _ => rfl | 16, _ => rfl | 17, _ => rfl | 18, _ => rfl | 19, _ => rfl | 20, _ => rfl
      | n + 21, h => omega
    rw [e i c]
    exact hr
  · have hc : i = 21 ∨ i = 22 ∨ i = 23 ∨ i = 24 := by omega
    rcases hc with rfl | rfl | rfl | rfl
    · exact ⟨g.n1, g.n2⟩
    · exact g.pt
    · exact g.ln
    · exact g.fr
theorem slots_sd {t : Tb} (h : Sd t) : SlG t t.ss := by
  have h21 := h 21 (by omega)
  exact ⟨h21.1, h21.2, h 22 (by omega), h 23 (by omega), h 24 (by omega)⟩
theorem splL_len {ss : List slT} {k : Nat} {f : Int} (hk : k < ss.length) : (splL ss k f).length = ss.length + 1 := by
  simp only [splL, List.length_append, List.length_take, List.length_drop, List.length_cons, List.length_nil]
  omega
theorem splL_get {ss : List slT} {k : Nat} {f : Int} (hk : k < ss.length) (j : Nat) : (splL ss k f).getD j sl0 = if j < k then ss.getD j sl0 else if j = k then ((ss.getD k sl0).1, (ss.getD k sl0).2.1, f) else if j = k + 1 then ((ss.getD k sl0).1, (ss.getD k sl0).2.1 + f, (ss.getD k sl0).2.2 - f) else ss.getD (j - 1) sl0 := by
  have hl : (ss.take k).length = k := by rw [List.length_take]; omega
  simp only [splL, List.getD_eq_getElem?_getD, List.append_assoc]
  by_cases c : j < k
  · rw [if_pos c, List.getElem?_append_left (by omega), List.getElem?_take, if_pos c]
  · rw [if_neg c, List.getElem?_append_right (by omega), hl]
    by_cases e : j = k
    · subst e
      rw [if_pos rfl, Nat.sub_self]
      rfl
    · rw [if_neg e]
      by_cases e2 : j = k + 1
      · subst e2
        rw [if_pos rfl, Nat.add_sub_cancel_left]
        rfl
      · rw [if_neg e2, List.getElem?_append_right (by simp; omega), List.getElem?_drop]
        congr 2
        simp
        omega
/-- Slot k of ss can be cut behind its first f cycles. -/
def CutP (t : Tb) (ss : List slT) (k : Nat) (f : Int) : Prop := k < ss.length ∧ ss.length < 16 ∧ t.pad + t.grd < f ∧ t.pad + t.grd < (ss.getD k sl0).2.2 - f
instance (t : Tb) (ss : List slT) (k : Nat) (f : Int) : Decidable (CutP t ss k f) := by unfold CutP; infer_instance
theorem splL_ok {t : Tb} {ss : List slT} {k : Nat} {f : Int} (g : SlG t ss) (h : CutP t ss k f) (hp : 0 ≤ t.pad + t.grd) : SlG t (splL ss k f) := by
  obtain ⟨hk, h16, h1, h2⟩ := h
  have hl := splL_len (f := f) hk
  have hpk := g.pt k hk
  have hlk := g.ln k hk
  have hfk := g.fr k hk
  refine ⟨by omega, by omega, fun i hi => ?_, fun i hi => ?_, fun i hi => ?_⟩
  · rw [splL_get hk]
    split
    · exact g.pt i (by omega)
    · split
      · exact hpk
      · split
        · exact hpk
        · exact g.pt (i - 1) (by omega)
  · rw [splL_get hk]
    split
    · exact g.ln i (by omega)
    · split
      · exact h1
      · split
        · exact h2
        · exact g.ln (i - 1) (by omega)
  · match i, hi with
    | 0, hi =>
      show (0 : Int) ≤ _ ∧ _
      have g0 : 0 ≤ (ss.getD 0 sl0).2.1 ∧ (ss.getD 0 sl0).2.1 + (ss.getD 0 sl0).2.2 ≤ t.maj := g.fr 0 (by omega)
      rw [splL_get hk]
      split
      · exact g0
      · have e : k = 0 := by omega
        subst e
        rw [if_pos rfl]
        exact ⟨g0.1, by show (ss.getD 0 sl0).2.1 + f ≤ t.maj; omega⟩
    | i + 1, hi =>
      show ((splL ss k f).getD i sl0).2.1 + ((splL ss k f).getD i sl0).2.2 ≤ _ ∧ _
      rw [splL_get hk, splL_get hk]
      by_cases c1 : i + 1 < k
      · have gi : (ss.getD i sl0).2.1 + (ss.getD i sl0).2.2 ≤ (ss.getD (i + 1) sl0).2.1 ∧ (ss.getD (i + 1) sl0).2.1 + (ss.getD (i + 1) sl0).2.2 ≤ t.maj := g.fr (i + 1) (by omega)
        rw [if_pos (by omega), if_pos c1]
        exact gi
      · by_cases c2 : i + 1 = k
        · subst c2
          have gi : (ss.getD i sl0).2.1 + (ss.getD i sl0).2.2 ≤ (ss.getD (i + 1) sl0).2.1 ∧ (ss.getD (i + 1) sl0).2.1 + (ss.getD (i + 1) sl0).2.2 ≤ t.maj := g.fr (i + 1) (by omega)
          rw [if_pos (by omega), if_neg (by omega), if_pos rfl]
          exact ⟨gi.1, by show (ss.getD (i + 1) sl0).2.1 + f ≤ t.maj; omega⟩
        · by_cases c3 : i = k
          · subst c3
            rw [if_neg (by omega), if_pos rfl, if_neg (by omega), if_neg (by omega), if_pos rfl]
            exact ⟨Int.le_refl _, by show (ss.getD i sl0).2.1 + f + ((ss.getD i sl0).2.2 - f) ≤ t.maj; omega⟩
          · have hi1 : i < ss.length := by omega
            rw [if_neg (by omega : ¬ i < k), if_neg (by omega : ¬ i = k), if_neg (by omega : ¬ i + 1 < k), if_neg (by omega : ¬ i + 1 = k), if_neg (by omega : ¬ i + 1 = k + 1), Nat.add_sub_cancel]
            by_cases c4 : i = k + 1
            · subst c4
              rw [if_pos rfl]
              have gi : (ss.getD k sl0).2.1 + (ss.getD k sl0).2.2 ≤ (ss.getD (k + 1) sl0).2.1 ∧ (ss.getD (k + 1) sl0).2.1 + (ss.getD (k + 1) sl0).2.2 ≤ t.maj := g.fr (k + 1) hi1
              exact ⟨by show (ss.getD k sl0).2.1 + f + ((ss.getD k sl0).2.2 - f) ≤ _; omega, gi.2⟩
            · rw [if_neg c4]
              obtain ⟨j, rfl⟩ : ∃ j, i = j + 1 := ⟨i - 1, by omega⟩
              exact g.fr (j + 1) hi1
/-- The slots behind a look at slot i. -/
def evS (t : Tb) (p f : Int) (i : Nat) (ss : List slT) : List slT := if (ss.getD i sl0).1 = p ∧ CutP t ss i f then splL ss i f else ss
/-- The slots behind n looks. -/
def evF (t : Tb) (p f : Int) : Nat → List slT
  | 0 => t.ss
  | n + 1 => evS t p f n (evF t p f n)
theorem evF_ok {t : Tb} (h : Sd t) (p f : Int) : ∀ n, SlG t (evF t p f n)
  | 0 => slots_sd h
  | n + 1 => by
    have ih := evF_ok h p f n
    have h4 : 1 ≤ t.pad ∧ t.pad ≤ 5000 := h 4 (by omega)
    have h5 : 1 ≤ t.grd ∧ t.grd ≤ 5000 := h 5 (by omega)
    show SlG t (evS t p f n (evF t p f n))
    unfold evS
    split
    · rename_i c
      exact splL_ok ih c.2 (by omega)
    · exact ih
theorem evF_sd {t : Tb} (h : Sd t) (p f : Int) (n : Nat) : Sd { t with ss := evF t p f n } := sd_slots h (evF_ok h p f n)
theorem evF_yes {t : Tb} {p f : Int} {n : Nat} (h1 : ((evF t p f n).getD n sl0).1 = p) (h2 : CutP t (evF t p f n) n f) : evF t p f (n + 1) = splL (evF t p f n) n f := if_pos ⟨h1, h2⟩
theorem evF_no {t : Tb} {p f : Int} {n : Nat} (h : ¬ (((evF t p f n).getD n sl0).1 = p ∧ CutP t (evF t p f n) n f)) : evF t p f (n + 1) = evF t p f n := if_neg h
theorem evF_stop {t : Tb} {p f : Int} {n : Nat} (h : (evF t p f n).length ≤ n) : ∀ m, n ≤ m → evF t p f m = evF t p f n := by
  intro m
  induction m with
  | zero => intro h0; obtain rfl : n = 0 := by omega
            rfl
  | succ m ih =>
    intro hm
    by_cases e : n = m + 1
    · subst e; rfl
    · have em := ih (by omega)
      have hn : evF t p f (m + 1) = evF t p f m := evF_no (fun c => by have := c.2.1; rw [em] at this; omega)
      rw [hn, em]
/-- What Even answers. -/
def EvA (t : Tb) (p f : Int) (R : Tb) (q : Bool) : Prop := (¬ (Sd t ∧ 0 ≤ p ∧ p < (t.ps.length : Int)) ∧ R = tz ∧ q = false) ∨ ((Sd t ∧ 0 ≤ p ∧ p < (t.ps.length : Int)) ∧ R = { t with ss := evF t p f 16 } ∧ q = true)
theorem EvA.uniq {t : Tb} {p f : Int} {R R' : Tb} {q q' : Bool} (h : EvA t p f R q) (g : EvA t p f R' q') : R = R' ∧ q = q' := by
  rcases h with ⟨h1, h2, h3⟩ | ⟨h1, h2, h3⟩ <;> rcases g with ⟨g1, g2, g3⟩ | ⟨g1, g2, g3⟩
  · exact ⟨h2.trans g2.symm, h3.trans g3.symm⟩
  · exact absurd g1 h1
  · exact absurd h1 g1
  · exact ⟨h2.trans g2.symm, h3.trans g3.symm⟩
end Go.Proofs.YthieilkabcehgaaGreatDoor
