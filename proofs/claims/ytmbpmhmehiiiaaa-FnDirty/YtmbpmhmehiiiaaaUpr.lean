
/-
  Uses of a cache one after another, on lists: rows stay right. No function of the program in sight; no conditions but those that each fact names.
-/
import Derived.Test.YtmbpmhmehiiiaaaCua
import Derived.Test.YtmbpmhmehiiiaaaAcl
namespace Go.Proofs.Ytmbpmhmehiiiaaa
set_option linter.unusedVariables false

theorem rowOk_iff {y : Int} {ws : List Wy} : RowOk y ws ↔ (ws.length : Int) ≤ y ∧ (∀ x ∈ ws, 0 ≤ x.1 ∧ x.1 ≤ 65535) ∧ ws.Pairwise (fun a b => a.1 ≠ b.1) := by
  constructor
  · rintro ⟨h1, h2⟩
    refine ⟨h1, fun x hx => ?_, List.pairwise_iff_getElem.2 fun i j hi hj hij => ?_⟩
    · obtain ⟨i, hi, rfl⟩ := List.mem_iff_getElem.1 hx
      have := (h2 i hi).1
      simpa [tg, List.getD, hi] using this
    · have := (h2 j hj).2 i hij
      simpa [tg, List.getD, hi, hj] using this
  · rintro ⟨h1, h2, h3⟩
    refine ⟨h1, fun i hi => ⟨?_, fun k hk => ?_⟩⟩
    · have := h2 _ (List.getElem_mem hi)
      simpa [tg, List.getD, hi] using this
    · have hk' : k < ws.length := by omega
      have := List.pairwise_iff_getElem.1 h3 k i hk' hi hk
      simpa [tg, List.getD, hi, hk'] using this
theorem erase_ne {y : Int} {ws : List Wy} {t : Int} (h : RowOk y ws) : ∀ x ∈ ws.eraseIdx (posT ws t), x.1 ≠ t := fun x hx e => by
  obtain ⟨i, hi, rfl⟩ := List.mem_iff_getElem.1 hx
  rw [List.length_eraseIdx] at hi
  by_cases c : i < posT ws t
  · have hi' : i < ws.length := by split at hi <;> omega
    have h1 : (ws.eraseIdx (posT ws t))[i]'(by rw [List.length_eraseIdx]; exact hi) = ws[i] := by rw [List.getElem_eraseIdx]; rw [dif_pos c]
    rw [h1] at e
    have := pos_uniq h hi' (t := t) (by simpa [tg, List.getD, hi'] using e)
    omega
  · have hp : posT ws t < ws.length := by
      rcases Nat.lt_or_ge (posT ws t) ws.length with g | g
      · exact g
      · rw [if_neg (by omega)] at hi; omega
    rw [if_pos hp] at hi
    have hi' : i + 1 < ws.length := by omega
    have h1 : (ws.eraseIdx (posT ws t))[i]'(by rw [List.length_eraseIdx, if_pos hp]; exact hi) = ws[i + 1] := by rw [List.getElem_eraseIdx]; rw [dif_neg c]
    rw [h1] at e
    have := pos_uniq h hi' (t := t) (by simpa [tg, List.getD, hi'] using e)
    omega
theorem used_ok {M : Nat} {ws : List Wy} {t : Int} {wr : Bool} (hM : 1 ≤ M) (h : RowOk (M : Int) ws) (ht : 0 ≤ t ∧ t ≤ 65535) : RowOk (M : Int) (usedRow M ws t wr) := by
  obtain ⟨h1, h2, h3⟩ := rowOk_iff.1 h
  have hl := (used_len (t := t) (wr := wr) hM (by omega : ws.length ≤ M)).1
  have hsub : (usedRow M ws t wr).Sublist (usedFull ws t wr) := List.eraseIdx_sublist _ _
  have hs2 : (ws.eraseIdx (posT ws t)).Sublist ws := List.eraseIdx_sublist _ _
  refine rowOk_iff.2 ⟨by omega, fun x hx => ?_, ?_⟩
  · have := hsub.subset hx
    simp only [usedFull, List.mem_cons] at this
    rcases this with rfl | g
    · exact ht
    · exact h2 x (hs2.subset g)
  · refine List.Pairwise.sublist hsub ?_
    simp only [usedFull]
    exact List.pairwise_cons.2 ⟨fun x hx e => erase_ne h x hx e.symm, List.Pairwise.sublist hs2 h3⟩
def hhA (n L : Nat) (us : List Wy) (k : Nat) : Nat := ((us.getD k wd).1.toNat / L) % n
def ttA (n L : Nat) (us : List Wy) (k : Nat) : Int := (((us.getD k wd).1.toNat / L / n : Nat) : Int)
def runC (n M L : Nat) (us : List Wy) : Nat → (Nat → List Wy)
  | 0 => noD
  | k + 1 => useD (hhA n L us k) M (ttA n L us k) (us.getD k wd).2 (runC n M L us k)
def accAt (n M L : Nat) (us : List Wy) (j : Nat) : Ac := (usedHit (runC n M L us j (hhA n L us j)) (ttA n L us j), false, usedBack M (runC n M L us j (hhA n L us j)) (ttA n L us j) (us.getD j wd).2)
def accC (n M L : Nat) (us : List Wy) (k : Nat) : List Ac := (List.range k).map (accAt n M L us)
theorem accC_succ (n M L : Nat) (us : List Wy) (k : Nat) : accC n M L us (k + 1) = accC n M L us k ++ [accAt n M L us k] := by
  simp [accC, List.range_succ]
theorem accC_len (n M L : Nat) (us : List Wy) (k : Nat) : (accC n M L us k).length = k := by simp [accC]
theorem runC_ok {n M L : Nat} {us : List Wy} (hsh : shapeOk (n : Int) (M : Int) (L : Int) = true) {k : Nat} (hA : ∀ j, j < k → inr (us.getD j wd).1 0 65535 = true) : CacheOkP (n : Int) (M : Int) (L : Int) n (runC n M L us k) := by
  have hp := shapeOk_parts hsh
  induction k with
  | zero => exact ⟨hsh, rfl, fun i hi => ⟨by simp [runC, noD], fun j hj => absurd hj (by simp [runC, noD])⟩⟩
  | succ k ih =>
    have h1 := ih (fun j hj => hA j (by omega))
    have h2 := of_inr (hA k (by omega))
    have h3 : (us.getD k wd).1.toNat / L / n ≤ 65535 := Nat.le_trans (Nat.div_le_self _ _) (Nat.le_trans (Nat.div_le_self _ _) (by omega))
    refine ⟨hsh, rfl, fun i hi => ?_⟩
    show RowOk (M : Int) (useD (hhA n L us k) M (ttA n L us k) (us.getD k wd).2 (runC n M L us k) i)
    unfold useD
    split
    · refine used_ok (by omega) (h1.2.2 i hi) ?_
      unfold ttA
      exact ⟨Int.natCast_nonneg _, Int.ofNat_le.2 h3⟩
    · exact h1.2.2 i hi
def CRunP (n M L : Nat) (N : Nat) (us : List Wy) : Prop := shapeOk (n : Int) (M : Int) (L : Int) = true ∧ N ≤ 2000 ∧ ∀ i, i < N → inr (us.getD i wd).1 0 65535 = true
end Go.Proofs.Ytmbpmhmehiiiaaa
