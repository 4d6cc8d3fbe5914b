
/-
  Slots planned for what partitions need, as plain facts. No conditions but those that each fact names.
-/
import Derived.Test.YthieilkabcehgaaGreatDoorBas
import Derived.Test.YthieilkabcehgaaGreatDoorEvp
namespace Go.Proofs.YthieilkabcehgaaGreatDoor
open Go.ChangeShapes Go.WideShapes Go.ChangeAt Go.RowKit Go.Deep Go.Joins
set_option linter.unusedVariables false

/-- Where the first m needs end. -/
def plAt (t : Tb) (zs : List Int) : Nat → Int
  | 0 => 0
  | m + 1 => if 0 < zs.getD m 0 then plAt t zs m + (t.pad + t.grd + zs.getD m 0) else plAt t zs m
/-- The slots of the first m needs. -/
def plM (t : Tb) (zs : List Int) : Nat → List slT
  | 0 => []
  | m + 1 => if 0 < zs.getD m 0 then plM t zs m ++ [((m : Int), plAt t zs m, t.pad + t.grd + zs.getD m 0)] else plM t zs m
/-- What must hold. -/
def PlOK (t : Tb) (zs : List Int) : Prop := Sd t ∧ zs.length = t.ps.length ∧ (∀ i, i < zs.length → 0 ≤ zs.getD i 0 ∧ zs.getD i 0 ≤ 5000) ∧ 1 ≤ (plM t zs zs.length).length ∧ plAt t zs zs.length ≤ t.maj
/-- What Plan answers. -/
def PlA (t : Tb) (zs : List Int) (R : Tb) (q : Bool) : Prop := (¬ PlOK t zs ∧ R = tz ∧ q = false) ∨ (PlOK t zs ∧ R = { t with ss := plM t zs zs.length } ∧ q = true)
theorem PlA.uniq {t : Tb} {zs : List Int} {R R' : Tb} {q q' : Bool} (h : PlA t zs R q) (g : PlA t zs R' q') : R = R' ∧ q = q' := by
  rcases h with ⟨h1, h2, h3⟩ | ⟨h1, h2, h3⟩ <;> rcases g with ⟨g1, g2, g3⟩ | ⟨g1, g2, g3⟩
  · exact ⟨h2.trans g2.symm, h3.trans g3.symm⟩
  · exact absurd g1 h1
  · exact absurd h1 g1
  · exact ⟨h2.trans g2.symm, h3.trans g3.symm⟩
theorem plM_len (t : Tb) (zs : List Int) : ∀ m, (plM t zs m).length ≤ m
  | 0 => Nat.le_refl _
  | m + 1 => by
    have := plM_len t zs m
    rw [plM]
    split
    · rw [List.length_append]; show (plM t zs m).length + 1 ≤ m + 1; omega
    · omega
theorem plAt_rng {t : Tb} {zs : List Int} (hp : 1 ≤ t.pad ∧ t.pad ≤ 5000) (hg : 1 ≤ t.grd ∧ t.grd ≤ 5000) : ∀ m, (∀ i, i < m → 0 ≤ zs.getD i 0 ∧ zs.getD i 0 ≤ 5000) → 0 ≤ plAt t zs m ∧ plAt t zs m ≤ (m : Int) * 15000
  | 0, _ => ⟨Int.le_refl _, by simp [plAt]⟩
  | m + 1, h => by
    have ih := plAt_rng hp hg m (fun i hi => h i (by omega))
    have hz := h m (by omega)
    rw [plAt]
    split <;> omega
theorem plM_rng {t : Tb} {zs : List Int} (hp : 1 ≤ t.pad ∧ t.pad ≤ 5000) (hg : 1 ≤ t.grd ∧ t.grd ≤ 5000) : ∀ m, m ≤ 6 → (∀ i, i < m → 0 ≤ zs.getD i 0 ∧ zs.getD i 0 ≤ 5000) → ∀ i, i < (plM t zs m).length → ((plM t zs m).getD i sl0).2.1 ≤ 9223372036854775807 ∧ -9223372036854775808 ≤ ((plM t zs m).getD i sl0).2.1
  | 0, _, _, i, hi => absurd hi (by simp [plM])
  | m + 1, hm, h, i, hi => by
    have ih := plM_rng hp hg m (by omega) (fun i hi => h i (by omega))
    have ha := plAt_rng hp hg m (fun i hi => h i (by omega))
    rw [plM] at hi ⊢
    split at hi
    · rename_i c
      rw [if_pos c]
      by_cases e : i < (plM t zs m).length
      · have := ih i e
        rw [List.getD, List.getElem?_append_left e, ← List.getD]
        exact this
      · have e2 : i = (plM t zs m).length := by rw [List.length_append] at hi; have : i < (plM t zs m).length + 1 := hi; omega
        subst e2
        rw [List.getD, List.getElem?_append_right (Nat.le_refl _), Nat.sub_self]
        exact ⟨by show plAt t zs m ≤ _; omega, by show _ ≤ plAt t zs m; omega⟩
    · rename_i c
      rw [if_neg c]
      exact ih i hi
/-- The last slot ends where all needs end. -/
theorem plM_last {t : Tb} {zs : List Int} : ∀ m, (plM t zs m = [] ∧ plAt t zs m = 0) ∨ (0 < (plM t zs m).length ∧ ((plM t zs m).getD ((plM t zs m).length - 1) sl0).2.1 + ((plM t zs m).getD ((plM t zs m).length - 1) sl0).2.2 = plAt t zs m)
  | 0 => .inl ⟨rfl, rfl⟩
  | m + 1 => by
    by_cases c : 0 < zs.getD m 0
    · have e1 : plM t zs (m + 1) = plM t zs m ++ [((m : Int), plAt t zs m, t.pad + t.grd + zs.getD m 0)] := if_pos c
      have e2 : plAt t zs (m + 1) = plAt t zs m + (t.pad + t.grd + zs.getD m 0) := if_pos c
      rw [e1, e2]
      refine .inr ⟨by simp, ?_⟩
      rw [List.length_append, List.length_singleton, Nat.add_sub_cancel, List.getD, List.getElem?_append_right (Nat.le_refl _), Nat.sub_self]
      rfl
    · have e1 : plM t zs (m + 1) = plM t zs m := if_neg c
      have e2 : plAt t zs (m + 1) = plAt t zs m := if_neg c
      rw [e1, e2]
      exact plM_last m
/-- Each slot is right. -/
theorem plM_ok {t : Tb} {zs : List Int} (hp : 1 ≤ t.pad ∧ t.pad ≤ 5000) (hg : 1 ≤ t.grd ∧ t.grd ≤ 5000) : ∀ m, m ≤ t.ps.length → (∀ i, i < m → 0 ≤ zs.getD i 0 ∧ zs.getD i 0 ≤ 5000) →
    (∀ i, i < (plM t zs m).length → (0 ≤ ((plM t zs m).getD i sl0).1 ∧ ((plM t zs m).getD i sl0).1 < (t.ps.length : Int)) ∧ t.pad + t.grd < ((plM t zs m).getD i sl0).2.2 ∧ freeN (plM t zs m) i = ((plM t zs m).getD i sl0).2.1 ∧ 0 ≤ ((plM t zs m).getD i sl0).2.1 ∧ ((plM t zs m).getD i sl0).2.1 + ((plM t zs m).getD i sl0).2.2 ≤ plAt t zs m)
  | 0, _, _, i, hi => absurd hi (by simp [plM])
  | m + 1, hm, h, i, hi => by
    have ih := plM_ok hp hg m (by omega) (fun i hi => h i (by omega))
    have ha := plAt_rng hp hg m (fun i hi => h i (by omega))
    have hl := plM_last (t := t) (zs := zs) m
    by_cases c : 0 < zs.getD m 0
    · have e1 : plM t zs (m + 1) = plM t zs m ++ [((m : Int), plAt t zs m, t.pad + t.grd + zs.getD m 0)] := if_pos c
      have e2 : plAt t zs (m + 1) = plAt t zs m + (t.pad + t.grd + zs.getD m 0) := if_pos c
      rw [e1] at hi ⊢
      rw [e2]
      have hg1 : ∀ j, j < (plM t zs m).length → (plM t zs m ++ [((m : Int), plAt t zs m, t.pad + t.grd + zs.getD m 0)]).getD j sl0 = (plM t zs m).getD j sl0 := fun j hj => by
        rw [List.getD, List.getElem?_append_left hj, ← List.getD]
      have hfr : ∀ j, j ≤ (plM t zs m).length → freeN (plM t zs m ++ [((m : Int), plAt t zs m, t.pad + t.grd + zs.getD m 0)]) j = freeN (plM t zs m) j := fun j hj => by
        match j with
        | 0 => rfl
        | j + 1 => show ((plM t zs m ++ _).getD j sl0).2.1 + ((plM t zs m ++ _).getD j sl0).2.2 = _; rw [hg1 j (by omega)]; rfl
      by_cases e : i < (plM t zs m).length
      · have := ih i e
        rw [hg1 i e, hfr i (by omega)]
        exact ⟨this.1, this.2.1, this.2.2.1, this.2.2.2.1, by omega⟩
      · have e3 : i = (plM t zs m).length := by rw [List.length_append] at hi; have : i < (plM t zs m).length + 1 := hi; omega
        have eg : (plM t zs m ++ [((m : Int), plAt t zs m, t.pad + t.grd + zs.getD m 0)]).getD i sl0 = ((m : Int), plAt t zs m, t.pad + t.grd + zs.getD m 0) := by
          rw [e3, List.getD, List.getElem?_append_right (Nat.le_refl _), Nat.sub_self]
          rfl
        rw [eg, hfr i (by omega)]
        refine ⟨⟨by show 0 ≤ (m : Int); omega, by show (m : Int) < _; omega⟩, by show t.pad + t.grd < t.pad + t.grd + zs.getD m 0; omega, ?_, ha.1, by show plAt t zs m + (t.pad + t.grd + zs.getD m 0) ≤ _; omega⟩
        show freeN (plM t zs m) i = plAt t zs m
        rcases hl with ⟨h1, h2⟩ | ⟨h1, h2⟩
        · rw [h1] at e3
          rw [e3, h2]
          rfl
        · obtain ⟨j, hj⟩ : ∃ j, (plM t zs m).length = j + 1 := ⟨(plM t zs m).length - 1, by omega⟩
          rw [e3, hj]
          rw [hj] at h2
          exact h2
    · have e1 : plM t zs (m + 1) = plM t zs m := if_neg c
      have e2 : plAt t zs (m + 1) = plAt t zs m := if_neg c
      rw [e1] at hi ⊢
      rw [e2]
      exact ih i hi
/-- What is planned is sound. -/
theorem plan_sd {t : Tb} {zs : List Int} (h : PlOK t zs) : Sd { t with ss := plM t zs zs.length } := by
  obtain ⟨hd, hl, hz, h1, h2⟩ := h
  have h4 : 1 ≤ t.pad ∧ t.pad ≤ 5000 := hd 4 (by omega)
  have h5 : 1 ≤ t.grd ∧ t.grd ≤ 5000 := hd 5 (by omega)
  have h8 : 1 ≤ t.ps.length ∧ t.ps.length ≤ 6 := hd 8 (by omega)
  have hk := plM_ok h4 h5 zs.length (by omega) hz
  have hn := plM_len t zs zs.length
  exact sd_slots hd ⟨h1, by omega, fun i hi => (hk i hi).1, fun i hi => (hk i hi).2.1, fun i hi => ⟨by rw [(hk i hi).2.2.1]; exact Int.le_refl _, by have := (hk i hi).2.2.2.2; omega⟩⟩
end Go.Proofs.YthieilkabcehgaaGreatDoor
