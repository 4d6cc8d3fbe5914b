
/-
  Two slots merged: what can be, and the slots behind it. No conditions but those that each fact names.
-/
import Derived.Test.YthieilkabcehgaaGreatDoorSsp
namespace Go.Proofs.YthieilkabcehgaaGreatDoor
open Go.ChangeShapes Go.WideShapes Go.ChangeAt Go.RowKit Go.Deep Go.Joins
set_option linter.unusedVariables false

/-- Slot x and the next belong to one partition and meet. -/
def CanG (t : Tb) (x : Int) : Prop := Sd t ∧ (0 ≤ x ∧ x + 1 < (t.ss.length : Int)) ∧ (t.ss.getD x.toNat sl0).1 = (t.ss.getD (x.toNat + 1) sl0).1 ∧ (t.ss.getD x.toNat sl0).2.1 + (t.ss.getD x.toNat sl0).2.2 = (t.ss.getD (x.toNat + 1) sl0).2.1
/-- The slots behind the merge. -/
def mrgL (ss : List slT) (k : Nat) : List slT := ss.take k ++ [((ss.getD k sl0).1, (ss.getD k sl0).2.1, (ss.getD k sl0).2.2 + (ss.getD (k + 1) sl0).2.2)] ++ ss.drop (k + 2)
theorem mrgL_len {ss : List slT} {k : Nat} (hk : k + 1 < ss.length) : (mrgL ss k).length = ss.length - 1 := by
  simp only [mrgL, List.length_append, List.length_take, List.length_drop, List.length_cons, List.length_nil]
  omega
theorem sl_mem {ss : List slT} {i : Nat} (h : i < ss.length) : ss.getD i sl0 ∈ ss := by
  rw [List.getD_eq_getElem?_getD, List.getElem?_eq_getElem h]
  exact List.getElem_mem h
theorem mrgL_rng {t : Tb} (h : Tm t) {k : Nat} (hk : k + 1 < t.ss.length) : ∀ i, i < (mrgL t.ss k).length → 0 ≤ ((mrgL t.ss k).getD i sl0).2.1 ∧ ((mrgL t.ss k).getD i sl0).2.1 ≤ 10000 := by
  have hall : ∀ x ∈ t.ss, 0 ≤ x.2.1 ∧ x.2.1 ≤ 10000 := fun x hx => by
    obtain ⟨j, hj, e⟩ := List.getElem_of_mem hx
    have e2 : t.ss.getD j sl0 = x := by rw [List.getD_eq_getElem?_getD, List.getElem?_eq_getElem hj]; exact e
    have h1 := h.st j hj
    have h2 := h.en j hj
    have h3 := h.ln j hj
    have h4 := h.maj2
    have h5 := h.pad1
    have h6 := h.grd1
    rw [e2] at h1 h2 h3
    omega
  intro i hi
  have hm := sl_mem hi
  generalize (mrgL t.ss k).getD i sl0 = y at hm
  simp only [mrgL, List.mem_append, List.mem_singleton] at hm
  rcases hm with (hm | hm) | hm
  · exact hall y (List.mem_of_mem_take hm)
  · rw [hm]
    exact hall (t.ss.getD k sl0) (sl_mem (by omega))
  · exact hall y (List.mem_of_mem_drop hm)
/-- What Merge answers. -/
def MgA (t : Tb) (x : Int) (R : Tb) (q : Bool) : Prop := (¬ CanG t x ∧ R = tz ∧ q = false) ∨ (CanG t x ∧ R = { t with ss := mrgL t.ss x.toNat } ∧ q = true)
theorem MgA.uniq {t : Tb} {x : Int} {R R' : Tb} {q q' : Bool} (h : MgA t x R q) (g : MgA t x R' q') : R = R' ∧ q = q' := by
  rcases h with ⟨h1, h2, h3⟩ | ⟨h1, h2, h3⟩ <;> rcases g with ⟨g1, g2, g3⟩ | ⟨g1, g2, g3⟩
  · exact ⟨h2.trans g2.symm, h3.trans g3.symm⟩
  · exact absurd g1 h1
  · exact absurd h1 g1
  · exact ⟨h2.trans g2.symm, h3.trans g3.symm⟩
end Go.Proofs.YthieilkabcehgaaGreatDoor
