
/-
  Dirty lines of a run of uses, counted, on lists: lines written back and lines dirty at the end are together at most the writes. No function of the program in sight; no conditions but those that each fact names.
-/
import Derived.Test.YtmbpmhmehiiiaaaUpr
import Derived.Test.YtmbpmhmehiiiaaaCfl
import Derived.Test.YtmbpmhmehiiiaaaCho
import Derived.Test.YtmbpmhmehiiiaaaWod
namespace Go.Proofs.Ytmbpmhmehiiiaaa
set_option linter.unusedVariables false

theorem dc_take (ws : List Wy) : ∀ i, i ≤ ws.length → dc ws i = (ws.take i).countP (·.2)
  | 0, _ => by simp [dc]
  | i + 1, h => by
    rw [dc, dc_take ws i (by omega), take_more (by omega : i < ws.length), List.countP_append]
    simp [List.countP_cons]
theorem dc_all (ws : List Wy) : dc ws ws.length = ws.countP (·.2) := by
  rw [dc_take ws _ (Nat.le_refl _), List.take_length]
theorem erase_count (l : List Wy) : ∀ i, l.countP (·.2) = (l.eraseIdx i).countP (·.2) + (if (l.getD i wd).2 = true then 1 else 0) := by
  induction l with
  | nil => intro i; simp [wd]
  | cons x l ih =>
    intro i
    cases i with
    | zero => simp [List.countP_cons]
    | succ i =>
      have := ih i
      simp only [List.eraseIdx_cons_succ, List.countP_cons, List.getD_cons_succ] at this ⊢
      omega
theorem used_count (M : Nat) (ws : List Wy) (t : Int) (q : Bool) : (usedRow M ws t q).countP (·.2) + (if usedBack M ws t q = true then 1 else 0) ≤ ws.countP (·.2) + (if q = true then 1 else 0) := by
  have e1 := erase_count (usedFull ws t q) M
  have e2 := erase_count ws (posT ws t)
  have hb : usedBack M ws t q = ((usedFull ws t q).getD M wd).2 := by
    unfold usedBack
    split
    · rfl
    · rename_i h
      simp [List.getD, Nat.not_lt.1 h]
  have ht : (usedT ws t).2 = (ws.getD (posT ws t) wd).2 := by
    unfold usedT
    split
    · rfl
    · rename_i h
      rw [List.getD, List.getElem?_eq_none (Nat.not_lt.1 h)]
      rfl
  have e3 : (usedFull ws t q).countP (·.2) = (ws.eraseIdx (posT ws t)).countP (·.2) + (if ((usedT ws t).2 || q) = true then 1 else 0) := by
    simp [usedFull, List.countP_cons]
  rw [hb]
  rw [ht] at e3
  show ((usedFull ws t q).eraseIdx M).countP (·.2) + _ ≤ _
  generalize (ws.getD (posT ws t) wd).2 = d at e2 e3
  generalize ((usedFull ws t q).getD M wd).2 = b at e1 ⊢
  cases d <;> cases q <;> cases b <;> simp_all <;> omega
theorem dt_use (h M : Nat) (t : Int) (q : Bool) (D : Nat → List Wy) : ∀ r, dt (useD h M t q D) r + (if h < r ∧ usedBack M (D h) t q = true then 1 else 0) ≤ dt D r + (if h < r ∧ q = true then 1 else 0)
  | 0 => by simp [dt]
  | r + 1 => by
    have ih := dt_use h M t q D r
    simp only [dt, dc_all]
    by_cases c : r = h
    · subst c
      have hu := used_count M (D r) t q
      have e : useD r M t q D r = usedRow M (D r) t q := by simp [useD]
      rw [e]
      simp only [Nat.lt_irrefl, false_and, if_false, Nat.add_zero] at ih
      have h1 : r < r + 1 := by omega
      simp only [h1, true_and]
      omega
    · have e : useD h M t q D r = D r := by simp [useD, c]
      rw [e]
      have h1 : h < r + 1 ↔ h < r := by omega
      simp only [h1]
      omega
theorem tot_most {D : Nat → List Wy} {M : Nat} : ∀ n, (∀ i, i < n → (D i).length ≤ M) → tot D n ≤ n * M
  | 0, _ => by simp [tot]
  | n + 1, h => by
    have := tot_most n (fun i hi => h i (by omega))
    have h2 := h n (by omega)
    simp only [tot]
    rw [Nat.add_mul]
    omega
theorem ok_tot {n M : Nat} {L : Int} {D : Nat → List Wy} (h : CacheOkP (n : Int) (M : Int) L n D) : tot D n ≤ n * M :=
  tot_most n (fun i hi => by have := (h.2.2 i hi).1; omega)
theorem used_has {M : Nat} {ws : List Wy} {t : Int} {q : Bool} (hM : 1 ≤ M) : hasT (usedRow M ws t q) t = true := by
  obtain ⟨m, rfl⟩ : ∃ m, M = m + 1 := ⟨M - 1, by omega⟩
  simp [hasT, usedRow, usedFull]
def wrs (us : List Wy) : Nat → Nat
  | 0 => 0
  | k + 1 => wrs us k + (if (us.getD k wd).2 = true then 1 else 0)
def bks (n M L : Nat) (us : List Wy) : Nat → Nat
  | 0 => 0
  | k + 1 => bks n M L us k + (if usedBack M (runC n M L us k (hhA n L us k)) (ttA n L us k) (us.getD k wd).2 = true then 1 else 0)
theorem wrs_le (us : List Wy) (k : Nat) : wrs us k ≤ k := by
  induction k with
  | zero => exact Nat.le_refl _
  | succ k ih => simp only [wrs]; split <;> omega
theorem dirty_le (n M L : Nat) (us : List Wy) (hn : 0 < n) (k : Nat) : dt (runC n M L us k) n + bks n M L us k ≤ wrs us k := by
  induction k with
  | zero =>
    have : ∀ r, dt noD r = 0 := fun r => by
      induction r with
      | zero => rfl
      | succ r ih => simp only [dt]; rw [ih]; rfl
    simp [runC, bks, wrs, this]
  | succ k ih =>
    have h1 := dt_use (hhA n L us k) M (ttA n L us k) (us.getD k wd).2 (runC n M L us k) n
    have h2 : hhA n L us k < n := Nat.mod_lt _ hn
    simp only [h2, true_and] at h1
    simp only [runC, bks, wrs]
    omega
/-- What a use of the k-th address leaves and tells. -/
theorem use_facts {n M L : Nat} {us : List Wy} (hsh : shapeOk (n : Int) (M : Int) (L : Int) = true) {k : Nat} (hA : ∀ j, j < k + 1 → inr (us.getD j wd).1 0 65535 = true) :
    (us.getD k wd).1.toNat ≤ 65535 ∧ ((us.getD k wd).1.toNat : Int) = (us.getD k wd).1 ∧ CacheOkP (n : Int) (M : Int) (L : Int) n (runC n M L us k) ∧ CacheOkP (n : Int) (M : Int) (L : Int) n (runC n M L us (k + 1)) ∧ HoldP (n : Int) (M : Int) (L : Int) n (runC n M L us (k + 1)) (us.getD k wd).1 := by
  have hp := shapeOk_parts hsh
  have h2 := of_inr (hA k (by omega))
  have h0 : ((us.getD k wd).1.toNat : Int) = (us.getD k wd).1 := by omega
  have c1 := runC_ok hsh (us := us) (k := k) (fun j hj => hA j (by omega))
  have c2 := runC_ok hsh (us := us) (k := k + 1) hA
  refine ⟨by omega, h0, c1, c2, ?_⟩
  have hx := (hold_iff c2 (A := (us.getD k wd).1.toNat) (by omega)).2 (by
    show hasT (useD (hhA n L us k) M (ttA n L us k) (us.getD k wd).2 (runC n M L us k) (hhA n L us k)) (ttA n L us k) = true
    simp only [useD]
    exact used_has (by omega))
  rw [h0] at hx
  exact hx
end Go.Proofs.Ytmbpmhmehiiiaaa
