
/-
  A use of a row, on lists: what the specification's loop gathers is what a use leaves. Conditions: the row is right, the most is at least one.
-/
import Derived.Test.YtmbpmhmehiiiaaaRows
import Derived.Test.YtmbpmhmehiiiaaaCok
import Derived.Test.YtmbpmhmehiiiaaaLus
namespace Go.Proofs.Ytmbpmhmehiiiaaa
open Go.ChangeShapes Go.WideShapes Go.ChangeAt Go.RowKit Go.Deep
set_option linter.unusedVariables false

theorem pos_uniq {y : Int} {ws : List Wy} (h : RowOk y ws) {i : Nat} (hi : i < ws.length) {t : Int} (ht : tg ws i = t) : posT ws t = i := by
  have h1 : ¬ i < posT ws t := fun g => (posT_lt g).2 ht
  have h2 : posT ws t < ws.length := by omega
  have h3 := posT_at h2
  rcases Nat.lt_or_ge (posT ws t) i with g | g
  · exact absurd (h3.trans ht.symm) ((h.2 i hi).2 _ g)
  · omega
/-- What the loop has gathered behind i ways. -/
def restU (ws : List Wy) (t : Int) (i : Nat) : List Wy := (ws.take i).eraseIdx (posT ws t)
def hitU (ws : List Wy) (t : Int) (i : Nat) : Bool := decide (posT ws t < i)
def dirtU (ws : List Wy) (t : Int) (wr : Bool) (i : Nat) : Bool := if posT ws t < i then (wr || (ws.getD (posT ws t) wd).2) else wr
theorem restU_zero (ws : List Wy) (t : Int) : restU ws t 0 = [] := by simp [restU]
theorem hitU_zero (ws : List Wy) (t : Int) : hitU ws t 0 = false := by simp [hitU]
theorem dirtU_zero (ws : List Wy) (t : Int) (wr : Bool) : dirtU ws t wr 0 = wr := by simp [dirtU]
theorem take_more {ws : List Wy} {i : Nat} (hi : i < ws.length) : ws.take (i + 1) = ws.take i ++ [ws.getD i wd] := by
  rw [List.take_add_one]
  simp [List.getD, hi]
theorem restU_hit {ws : List Wy} {t : Int} {i : Nat} (hi : i < ws.length) (hp : posT ws t = i) : restU ws t (i + 1) = restU ws t i := by
  have hl : (ws.take i).length = i := by simp; omega
  have h2 : (ws.take i).eraseIdx i = ws.take i := List.eraseIdx_of_length_le (by omega)
  have h1 : (ws.take i ++ [ws.getD i wd]).eraseIdx i = ws.take i ++ [ws.getD i wd].eraseIdx (i - (ws.take i).length) := List.eraseIdx_append_of_length_le (by omega) _
  rw [restU, restU, hp, take_more hi, h2, h1, hl, Nat.sub_self]
  simp
theorem restU_miss {y : Int} {ws : List Wy} {t : Int} {i : Nat} (hi : i < ws.length) (hp : tg ws i ≠ t) : restU ws t (i + 1) = restU ws t i ++ [ws.getD i wd] := by
  have hl : (ws.take i).length = i := by simp; omega
  have hne : posT ws t ≠ i := fun g => by
    have h2 : posT ws t < ws.length := by omega
    have := posT_at h2
    rw [g] at this
    exact hp this
  rw [restU, restU, take_more hi]
  rcases Nat.lt_or_ge (posT ws t) i with g | g
  · rw [List.eraseIdx_append_of_lt_length (by omega)]
  · rw [List.eraseIdx_of_length_le (by simp; omega), List.eraseIdx_of_length_le (by omega)]
theorem hitU_hit {ws : List Wy} {t : Int} {i : Nat} (hp : posT ws t = i) : hitU ws t (i + 1) = true := by simp [hitU, hp]
theorem hitU_miss {ws : List Wy} {t : Int} {i : Nat} (hi : i < ws.length) (hp : tg ws i ≠ t) : hitU ws t (i + 1) = hitU ws t i := by
  have hne : posT ws t ≠ i := fun g => by
    have h2 : posT ws t < ws.length := by omega
    have := posT_at h2
    rw [g] at this
    exact hp this
  simp only [hitU]
  congr 1
  apply propext
  omega
theorem dirtU_hit {ws : List Wy} {t : Int} {wr : Bool} {i : Nat} (hp : posT ws t = i) : dirtU ws t wr (i + 1) = (wr || (ws.getD i wd).2) := by simp [dirtU, hp]
theorem dirtU_miss {ws : List Wy} {t : Int} {wr : Bool} {i : Nat} (hi : i < ws.length) (hp : tg ws i ≠ t) : dirtU ws t wr (i + 1) = dirtU ws t wr i := by
  have hne : posT ws t ≠ i := fun g => by
    have h2 : posT ws t < ws.length := by omega
    have := posT_at h2
    rw [g] at this
    exact hp this
  simp only [dirtU]
  by_cases h : posT ws t < i
  · rw [if_pos h, if_pos (by omega)]
  · rw [if_neg h, if_neg (by omega)]
theorem restU_len_le (ws : List Wy) (t : Int) (i : Nat) : (restU ws t i).length ≤ i := by
  simp only [restU, List.length_eraseIdx]
  split <;> simp <;> omega
theorem restU_all (ws : List Wy) (t : Int) : restU ws t ws.length = ws.eraseIdx (posT ws t) := by simp [restU]
theorem hitU_all (ws : List Wy) (t : Int) : hitU ws t ws.length = usedHit ws t := rfl
theorem dirtU_all (ws : List Wy) (t : Int) (wr : Bool) : dirtU ws t wr ws.length = ((usedT ws t).2 || wr) := by
  simp only [dirtU, usedT]
  split
  · exact Bool.or_comm _ _
  · simp
/-- The gathered row with its head, cut where it is full. -/
theorem used_full {M : Nat} {ws : List Wy} {t : Int} {wr : Bool} (hM : 1 ≤ M) (hf : (restU ws t ws.length).length = M) :
    usedRow M ws t wr = (t, dirtU ws t wr ws.length) :: (restU ws t ws.length).take (M - 1) ∧ usedBack M ws t wr = ((restU ws t ws.length).getD (M - 1) wd).2 := by
  rw [dirtU_all, restU_all] at *
  obtain ⟨m, rfl⟩ : ∃ m, M = m + 1 := ⟨M - 1, by omega⟩
  constructor
  · rw [usedRow, usedFull, List.eraseIdx_cons_succ, Nat.add_sub_cancel, List.eraseIdx_eq_take_drop_succ]
    simp [hf]
  · simp [usedBack, usedFull, hf]
theorem used_room {M : Nat} {ws : List Wy} {t : Int} {wr : Bool} (hl : ws.length ≤ M) (hf : (restU ws t ws.length).length ≠ M) :
    usedRow M ws t wr = (t, dirtU ws t wr ws.length) :: restU ws t ws.length ∧ usedBack M ws t wr = false := by
  have hle := restU_len_le ws t ws.length
  rw [dirtU_all]
  rw [restU_all] at *
  constructor
  · rw [usedRow, usedFull, List.eraseIdx_of_length_le (by simp only [List.length_cons]; omega)]
  · have hn : ¬ M < (usedFull ws t wr).length := by simp only [usedFull, List.length_cons]; omega
    simp [usedBack, hn, wd]
theorem used_len {M : Nat} {ws : List Wy} {t : Int} {wr : Bool} (hM : 1 ≤ M) (hl : ws.length ≤ M) : (usedRow M ws t wr).length ≤ M ∧ (usedRow M ws t wr).length ≤ ws.length + 1 := by
  have hle := restU_len_le ws t ws.length
  by_cases h : (restU ws t ws.length).length = M
  · rw [(used_full hM h).1]
    simp only [List.length_cons, List.length_take]; omega
  · rw [(used_room hl h).1]
    simp only [List.length_cons]; omega
end Go.Proofs.Ytmbpmhmehiiiaaa
