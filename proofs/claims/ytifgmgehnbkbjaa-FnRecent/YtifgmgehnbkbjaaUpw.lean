/-
  The rows of a run are the first ways of one list, whatever the ways: with one way more a use that found its line finds it still, on lists. No function of the program in sight; no conditions but those that each fact names.
-/
import Derived.Test.YtifgmgehnbkbjaaUpr
namespace Go.Proofs.Ytifgmgehnbkbjaa
set_option linter.unusedVariables false

def tags (ws : List Wy) : List Int := ws.map (·.1)
theorem posT_tags (ws : List Wy) (t : Int) : posT ws t < ws.length ↔ t ∈ tags ws := by
  constructor
  · intro h
    have := posT_at h
    exact List.mem_map.2 ⟨ws[posT ws t], List.getElem_mem h, by simpa [tg, List.getD, h] using this⟩
  · intro h
    obtain ⟨x, hx, e⟩ := List.mem_map.1 h
    obtain ⟨i, hi, rfl⟩ := List.mem_iff_getElem.1 hx
    rcases Nat.lt_or_ge (posT ws t) ws.length with g | g
    · exact g
    · exact absurd (by simpa [tg, List.getD, hi] using e) (posT_lt (ws := ws) (t := t) (i := i) (by omega)).2
theorem usedHit_tags (ws : List Wy) (t : Int) : usedHit ws t = decide (t ∈ tags ws) := by
  unfold usedHit
  exact decide_eq_decide.2 (posT_tags ws t)
theorem erase_tags (ws : List Wy) (t : Int) : tags (ws.eraseIdx (posT ws t)) = (tags ws).erase t := by
  unfold posT tags
  induction ws with
  | nil => rfl
  | cons x ws ih =>
    by_cases c : x.1 = t
    · simp [List.findIdx_cons, c]
    · have c1 : (x.1 == t) = false := by simpa using c
      rw [List.findIdx_cons, c1]
      simp only [cond_false, List.eraseIdx_cons_succ, List.map_cons, List.erase_cons, c1, ih]
      simp
theorem cut_tags {M : Nat} {ws : List Wy} {t : Int} {wr : Bool} (hl : ws.length ≤ M) : tags (usedRow M ws t wr) = (t :: (tags ws).erase t).take M := by
  have h1 : tags (usedFull ws t wr) = t :: (tags ws).erase t := by
    show t :: tags (ws.eraseIdx (posT ws t)) = _
    rw [erase_tags]
  have h2 : (usedFull ws t wr).length ≤ M + 1 := by
    have := List.length_eraseIdx_le ws (posT ws t)
    show (ws.eraseIdx (posT ws t)).length + 1 ≤ _
    omega
  rw [← h1]
  unfold tags usedRow
  rw [← List.map_take]
  congr 1
  rw [List.eraseIdx_eq_take_drop_succ, List.drop_eq_nil_of_le h2, List.append_nil]
theorem take_erase (t : Int) : ∀ (B : List Int) (m : Nat), ((B.take (m + 1)).erase t).take m = (B.erase t).take m
  | [], _ => by simp
  | b :: B, m => by
    by_cases c : b = t
    · subst c
      simp [List.take_take]
    · have c1 : (b == t) = false := by simpa using c
      cases m with
      | zero => simp
      | succ k =>
        have := take_erase t B k
        simp only [List.take_succ_cons, List.erase_cons, c1] at this ⊢
        simp [this]
def stk (n L : Nat) (us : List Wy) : Nat → Nat → List Int
  | 0 => fun _ => []
  | k + 1 => fun h => if h = hhA n L us k then ttA n L us k :: (stk n L us k h).erase (ttA n L us k) else stk n L us k h
theorem runC_stk {n M L : Nat} {us : List Wy} (hsh : shapeOk (n : Int) (M : Int) (L : Int) = true) {k : Nat} (hA : ∀ j, j < k → inr (us.getD j wd).1 0 65535 = true) (h : Nat) (hh : h < n) : tags (runC n M L us k h) = (stk n L us k h).take M := by
  have hp := shapeOk_parts hsh
  induction k with
  | zero => simp [runC, noD, stk, tags]
  | succ k ih =>
    have h1 := ih (fun j hj => hA j (by omega))
    have h2 := (runC_ok hsh (us := us) (k := k) (fun j hj => hA j (by omega))).2.2 h hh
    obtain ⟨m, rfl⟩ : ∃ m, M = m + 1 := ⟨M - 1, by omega⟩
    show tags (useD (hhA n L us k) (m + 1) (ttA n L us k) (us.getD k wd).2 (runC n (m + 1) L us k) h) = _
    unfold useD stk
    by_cases c : h = hhA n L us k
    · rw [if_pos c, if_pos c]
      rw [cut_tags (by have := h2.1; omega), h1, List.take_succ_cons, List.take_succ_cons, take_erase]
    · rw [if_neg c, if_neg c]
      exact h1
theorem acc_stk {n M L : Nat} {us : List Wy} (hsh : shapeOk (n : Int) (M : Int) (L : Int) = true) {k : Nat} (hA : ∀ j, j < k → inr (us.getD j wd).1 0 65535 = true) : (accAt n M L us k).1 = decide (ttA n L us k ∈ (stk n L us k (hhA n L us k)).take M) := by
  have hp := shapeOk_parts hsh
  show usedHit _ _ = _
  rw [usedHit_tags, runC_stk hsh hA (hhA n L us k) (Nat.mod_lt _ (by omega))]
theorem acc_more {n M L : Nat} {us : List Wy} (hsh : shapeOk (n : Int) (M : Int) (L : Int) = true) (hs2 : shapeOk (n : Int) ((M + 1 : Nat) : Int) (L : Int) = true) {k : Nat} (hA : ∀ j, j < k → inr (us.getD j wd).1 0 65535 = true) (h : (accAt n M L us k).1 = true) : (accAt n (M + 1) L us k).1 = true := by
  rw [acc_stk hsh hA] at h
  rw [acc_stk hs2 hA]
  have h1 := of_decide_eq_true h
  exact decide_eq_true ((List.take_prefix_take_left (Nat.le_succ M)).subset h1)
theorem accC_get {n M L : Nat} {us : List Wy} {k i : Nat} (hi : i < k) : (accC n M L us k).getD i ad = accAt n M L us i := by
  simp [accC, List.getD, hi]
end Go.Proofs.Ytifgmgehnbkbjaa
