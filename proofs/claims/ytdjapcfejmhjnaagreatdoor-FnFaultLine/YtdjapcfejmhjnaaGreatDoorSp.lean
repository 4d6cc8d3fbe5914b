/-
  A text cut at each byte of a kind: plain facts. No function of the program in sight; no conditions but those that each fact names.
-/
import Derived.Lib.SplitLaws
namespace Go.Proofs.YtdjapcfejmhjnaaGreatDoor
namespace Sp
def glue (p : List UInt8) : List (List UInt8) → List (List UInt8)
  | [] => [p]
  | x :: r => (p ++ x) :: r
/-- What stands between the bytes c of a text. -/
def cut (c : UInt8) : List UInt8 → List (List UInt8)
  | [] => [[]]
  | b :: l => if b = c then [] :: cut c l else glue [b] (cut c l)
theorem cut_ne (c : UInt8) : ∀ l, cut c l ≠ []
  | [] => by simp [cut]
  | b :: l => by
    unfold cut
    split
    · simp
    · unfold glue
      split <;> simp
theorem glue_nil (R : List (List UInt8)) (h : R ≠ []) : glue [] R = R := by
  cases R with
  | nil => exact absurd rfl h
  | cons x r => rfl
theorem glue_glue (p q : List UInt8) (R : List (List UInt8)) : glue p (glue q R) = glue (p ++ q) R := by
  cases R <;> simp [glue]
theorem split_hit (c : UInt8) (l : List UInt8) : Lib.split (c :: l) [c] = [] :: Lib.split l [c] := by
  have hi : Lib.index (c :: l) [c] = ((0 : Nat) : Int) := by simp [Lib.index]
  unfold Lib.split
  rw [Lib.count_hit (by simp) hi, Nat.add_comm 1, Lib.splitK, if_neg (by rw [hi]; decide), hi]
  simp
theorem split_miss (b c : UInt8) (l : List UInt8) (h : b ≠ c) : Lib.split (b :: l) [c] = glue [b] (Lib.split l [c]) := by
  have hp : ([c].isPrefixOf (b :: l)) = false := by simp [List.isPrefixOf]; exact fun e => h e.symm
  by_cases hm : Lib.index l [c] = -1
  · have hi : Lib.index (b :: l) [c] = -1 := by
      unfold Lib.index
      rw [hp]
      simp [hm]
    unfold Lib.split
    rw [Lib.count_miss hm, Lib.count_miss hi]
    rfl
  · have hge := Lib.index_ge l [c]
    obtain ⟨i, hi⟩ := Int.eq_ofNat_of_zero_le (a := Lib.index l [c]) (by omega)
    have hi2 : Lib.index (b :: l) [c] = ((i + 1 : Nat) : Int) := by
      unfold Lib.index
      rw [hp]
      simp only [Bool.false_eq_true, if_false]
      rw [if_neg (by rw [beq_iff_eq]; exact hm), hi]
      rfl
    have e1 : Lib.count (b :: l) [c] = Lib.count (l.drop (i + 1)) [c] + 1 := by
      rw [Lib.count_hit (by simp) hi2, Nat.add_comm 1]
      rfl
    have e2 : Lib.count l [c] = Lib.count (l.drop (i + 1)) [c] + 1 := by
      rw [Lib.count_hit (by simp) hi, Nat.add_comm 1]
      rfl
    unfold Lib.split
    rw [e1, e2]
    unfold Lib.splitK
    rw [if_neg (by rw [hi2, beq_iff_eq]; omega), if_neg (by rw [hi, beq_iff_eq]; omega), hi, hi2]
    simp [glue]
theorem split_eq (c : UInt8) : ∀ l, Lib.split l [c] = cut c l
  | [] => by
    have hi : Lib.index [] [c] = -1 := by simp [Lib.index]
    unfold Lib.split
    rw [Lib.count_miss hi]
    rfl
  | b :: l => by
    by_cases h : b = c
    · subst h
      rw [split_hit, split_eq b l, cut, if_pos rfl]
    · rw [split_miss _ _ _ h, split_eq c l, cut, if_neg h]
/-- The pieces, as texts. -/
def texts (c : UInt8) (s : ByteArray) : List ByteArray := (cut c s.data.toList).map fun l => ⟨l.toArray⟩
theorem splitB_eq (c : UInt8) (s : ByteArray) : Lib.splitB ⟨#[c]⟩ 0 (Lib.countB s ⟨#[c]⟩) s = texts c s := by
  have h := Lib.splitB_data ⟨#[c]⟩ 0 (Lib.countB s ⟨#[c]⟩) s
  have e : Lib.splitK [c] 0 (Lib.countB s ⟨#[c]⟩) s.data.toList = cut c s.data.toList := split_eq c _
  unfold texts
  rw [← e, ← show (_ : List (List UInt8)) = Lib.splitK [c] 0 (Lib.countB s ⟨#[c]⟩) s.data.toList from h, List.map_map]
  conv => lhs; rw [← List.map_id (Lib.splitB ⟨#[c]⟩ 0 (Lib.countB s ⟨#[c]⟩) s)]
  apply List.map_congr_left
  intro x _
  cases x
  simp
theorem cut_len (c : UInt8) (s : ByteArray) : (texts c s).length = Lib.countB s ⟨#[c]⟩ + 1 := by
  rw [← splitB_eq]
  exact Lib.splitB_all ⟨#[c]⟩ (Nat.le_refl 1) 0 _ s rfl
/-- How far a walk from left to right has come: done are the pieces behind which a byte c was seen; p is what was seen since. -/
def At (c : UInt8) (l : List UInt8) (i from' : Nat) (done : List (List UInt8)) : Prop := cut c l = done ++ glue ((l.take i).drop from') (cut c (l.drop i)) ∧ from' ≤ i
theorem at_start (c : UInt8) (l : List UInt8) : At c l 0 0 [] := by
  refine ⟨?_, Nat.le_refl _⟩
  simp [glue_nil _ (cut_ne c l)]
theorem at_hit {c : UInt8} {l : List UInt8} {i f : Nat} {done : List (List UInt8)} (h : At c l i f done) (hi : i < l.length) (hc : l[i] = c) : At c l (i + 1) (i + 1) (done ++ [(l.take i).drop f]) := by
  obtain ⟨h1, h2⟩ := h
  refine ⟨?_, Nat.le_refl _⟩
  rw [h1, List.drop_eq_getElem_cons hi, cut, if_pos hc]
  have e : (l.take (i + 1)).drop (i + 1) = [] := List.drop_of_length_le (by simp; omega)
  rw [e, glue_nil _ (cut_ne c _)]
  simp [glue]
theorem at_miss {c : UInt8} {l : List UInt8} {i f : Nat} {done : List (List UInt8)} (h : At c l i f done) (hi : i < l.length) (hc : l[i] ≠ c) : At c l (i + 1) f done := by
  obtain ⟨h1, h2⟩ := h
  refine ⟨?_, by omega⟩
  have e : (l.take (i + 1)).drop f = (l.take i).drop f ++ [l[i]] := by
    rw [List.take_succ_eq_append_getElem hi, List.drop_append_of_le_length (by simp; omega)]
  rw [h1, List.drop_eq_getElem_cons hi, cut, if_neg hc, glue_glue, e]
theorem at_end {c : UInt8} {l : List UInt8} {f : Nat} {done : List (List UInt8)} (h : At c l l.length f done) : cut c l = done ++ [l.drop f] := by
  obtain ⟨h1, h2⟩ := h
  rw [h1, List.take_length, List.drop_length]
  simp [cut, glue]
end Sp
end Go.Proofs.YtdjapcfejmhjnaaGreatDoor
