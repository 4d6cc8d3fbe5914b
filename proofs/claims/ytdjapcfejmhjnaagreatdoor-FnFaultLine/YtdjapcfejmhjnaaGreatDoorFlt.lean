/-
  A text cut behind the line at which it is refused, and ahead of it: plain facts on the readings. No function of the program in sight; no conditions but those that each fact names.
-/
import Derived.Test.YtdjapcfejmhjnaaGreatDoorAmx
namespace Go.Proofs.YtdjapcfejmhjnaaGreatDoor
open Go.ChangeShapes Go.WideShapes Go.ChangeAt Go.RowKit Go.Deep
set_option linter.unusedVariables false
set_option maxRecDepth 20000
namespace Am
/-- Where the first reading stops. -/
theorem scan_stop : ∀ (l : List Rl.A8) (k n : Nat) (ls : Labs), (scan l k n ls).1 ≠ 0 → ∃ j, j < l.length ∧ (scan l k n ls).2.1 = ((k + j + 1 : Nat) : Int) ∧ (scan (l.take (j + 1)) k n ls).1 = (scan l k n ls).1 ∧ (scan (l.take (j + 1)) k n ls).2.1 = (scan l k n ls).2.1 ∧ (scan (l.take j) k n ls).1 = 0
  | [], k, n, ls, h => absurd rfl h
  | a :: l, k, n, ls, h => by
    by_cases c0 : a.kind = 0
    · refine ⟨0, by simp, ?_, ?_, ?_, rfl⟩ <;> simp [scan, c0]
    · by_cases c1 : a.kind = 1
      · by_cases c2 : 0 ≤ find ls a.lab
        · refine ⟨0, by simp, ?_, ?_, ?_, rfl⟩ <;> simp [scan, c1, c2]
        · have e : ∀ m : List Rl.A8, scan (a :: m) k n ls = scan m (k + 1) n (ls ++ [(a.lab, (n : Int))]) := fun m => by rw [scan, if_neg c0, if_pos c1, if_neg c2]
          rw [e] at h ⊢
          obtain ⟨j, h1, h2, h3, h4, h5⟩ := scan_stop l (k + 1) n _ h
          refine ⟨j + 1, by simp; omega, by rw [h2]; congr 1; omega, ?_, ?_, ?_⟩
          · rw [List.take_succ_cons, e]; exact h3
          · rw [List.take_succ_cons, e]; exact h4
          · rw [List.take_succ_cons, e]; exact h5
      · by_cases c2 : 256 ≤ n
        · refine ⟨0, by simp, ?_, ?_, ?_, rfl⟩ <;> simp [scan, c0, c1, c2]
        · have e : ∀ m : List Rl.A8, scan (a :: m) k n ls = scan m (k + 1) (n + 1) ls := fun m => by rw [scan, if_neg c0, if_neg c1, if_neg c2]
          rw [e] at h ⊢
          obtain ⟨j, h1, h2, h3, h4, h5⟩ := scan_stop l (k + 1) (n + 1) _ h
          refine ⟨j + 1, by simp; omega, by rw [h2]; congr 1; omega, ?_, ?_, ?_⟩
          · rw [List.take_succ_cons, e]; exact h3
          · rw [List.take_succ_cons, e]; exact h4
          · rw [List.take_succ_cons, e]; exact h5
theorem scan_codes : ∀ (l : List Rl.A8) (k n : Nat) (ls : Labs), (scan l k n ls).1 = 0 ∨ (scan l k n ls).1 = 2 ∨ (scan l k n ls).1 = 3 ∨ (scan l k n ls).1 = 4
  | [], k, n, ls => .inl rfl
  | a :: l, k, n, ls => by
    rw [scan]
    split
    · simp
    · split
      · split
        · simp
        · exact scan_codes l _ _ _
      · split
        · simp
        · exact scan_codes l _ _ _
theorem link_codes : ∀ (l : List Rl.A8) (k : Nat) (ws : List Int) (ls : Labs), (link l k ws ls).2.1 = 0 ∨ (link l k ws ls).2.1 = 5 ∨ (link l k ws ls).2.1 = 6
  | [], k, ws, ls => .inl rfl
  | a :: l, k, ws, ls => by
    rw [link]
    split
    · exact link_codes l _ _ _
    · split
      · exact link_codes l _ _ _
      · split
        · split
          · simp
          · split
            · exact link_codes l _ _ _
            · simp
        · exact link_codes l _ _ _
end Am
namespace Fl
/-- How many bytes lie ahead of the end of the n-th line. -/
def pos : List UInt8 → Nat → Nat
  | _, 0 => 0
  | [], _ + 1 => 0
  | b :: l, n + 1 => if b = 10 then 1 + pos l n else 1 + pos l (n + 1)
theorem pos_le : ∀ (l : List UInt8) (n : Nat), pos l n ≤ l.length
  | _, 0 => by simp [pos]
  | [], _ + 1 => by simp [pos]
  | b :: l, n + 1 => by
    have h1 := pos_le l n
    have h2 := pos_le l (n + 1)
    simp only [pos, List.length_cons]
    split <;> omega
/-- The lines of a text cut behind its n-th line. -/
theorem cut_pos : ∀ (l : List UInt8) (n : Nat), n < (Sp.cut 10 l).length → Sp.cut 10 (l.take (pos l n)) = (Sp.cut 10 l).take n ++ [[]]
  | l, 0, _ => by
    have : pos l 0 = 0 := by cases l <;> rfl
    rw [this]
    simp [Sp.cut]
  | [], n + 1, h => by simp [Sp.cut] at h
  | b :: l, n + 1, h => by
    by_cases c : b = 10
    · have e : Sp.cut 10 (b :: l) = [] :: Sp.cut 10 l := by rw [Sp.cut, if_pos c]
      rw [e] at h ⊢
      have ih := cut_pos l n (by simpa using h)
      have ep : pos (b :: l) (n + 1) = pos l n + 1 := by simp only [pos, if_pos c]; omega
      rw [ep, List.take_succ_cons, Sp.cut, if_pos c, ih]
      rfl
    · have e : Sp.cut 10 (b :: l) = Sp.glue [b] (Sp.cut 10 l) := by rw [Sp.cut, if_neg c]
      have hl : (Sp.glue [b] (Sp.cut 10 l)).length = (Sp.cut 10 l).length := by
        have := Sp.cut_ne 10 l
        cases hx : Sp.cut 10 l with
        | nil => exact absurd hx this
        | cons x r => rfl
      rw [e] at h ⊢
      rw [hl] at h
      have ih := cut_pos l (n + 1) h
      have ep : pos (b :: l) (n + 1) = pos l (n + 1) + 1 := by simp only [pos, if_neg c]; omega
      rw [ep, List.take_succ_cons, Sp.cut, if_neg c, ih]
      cases hx : Sp.cut 10 l with
      | nil => exact absurd hx (Sp.cut_ne 10 l)
      | cons x r => simp [Sp.glue]
theorem last_pos : ∀ (l : List UInt8) (n : Nat), n + 1 < (Sp.cut 10 l).length → (l.take (pos l (n + 1))).getLast? = some 10
  | [], n, h => by simp [Sp.cut] at h
  | b :: l, n, h => by
    by_cases c : b = 10
    · have e : Sp.cut 10 (b :: l) = [] :: Sp.cut 10 l := by rw [Sp.cut, if_pos c]
      rw [e] at h
      have ep : pos (b :: l) (n + 1) = pos l n + 1 := by simp only [pos, if_pos c]; omega
      rw [ep, List.take_succ_cons]
      cases n with
      | zero =>
        have : pos l 0 = 0 := by cases l <;> rfl
        rw [this]; simp [c]
      | succ n =>
        have ih := last_pos l n (by simpa using h)
        rw [List.getLast?_cons, ih]; rfl
    · have e : Sp.cut 10 (b :: l) = Sp.glue [b] (Sp.cut 10 l) := by rw [Sp.cut, if_neg c]
      have hl : (Sp.glue [b] (Sp.cut 10 l)).length = (Sp.cut 10 l).length := by
        have := Sp.cut_ne 10 l
        cases hx : Sp.cut 10 l with
        | nil => exact absurd hx this
        | cons x r => rfl
      rw [e, hl] at h
      have ih := last_pos l n h
      have ep : pos (b :: l) (n + 1) = pos l (n + 1) + 1 := by simp only [pos, if_neg c]; omega
      rw [ep, List.take_succ_cons, List.getLast?_cons, ih]; rfl
/-- The text cut behind its n-th line. -/
def pre (s : ByteArray) (n : Nat) : ByteArray := Sp.mk (s.data.toList.take (pos s.data.toList n))
theorem pre_data (s : ByteArray) (n : Nat) : (pre s n).data.toList = s.data.toList.take (pos s.data.toList n) := by simp [pre, Sp.mk]
theorem pieces_pre (s : ByteArray) (n : Nat) (h : n ≤ (Ln.pieces s).length) : Ln.pieces (pre s n) = (Ln.pieces s).take n := by
  unfold Ln.pieces at *
  have hne := Sp.cut_ne 10 s.data.toList
  have hlen : 0 < (Sp.cut 10 s.data.toList).length := List.length_pos_iff.2 hne
  simp only [List.length_map, List.length_dropLast] at h
  rw [pre_data, cut_pos _ n (by omega), List.dropLast_concat, ← List.map_take]
  congr 1
  rw [List.dropLast_eq_take, List.take_take, Nat.min_eq_left (by omega)]
theorem ok_pre (s : ByteArray) (n : Nat) (h : n ≤ (Ln.pieces s).length) (hs : Ln.ok s = true) : Ln.ok (pre s n) = true := by
  have hp := pieces_pre s n h
  have hz : (pre s n).size ≤ s.size := by
    show (pre s n).data.toList.length ≤ s.data.toList.length
    rw [pre_data, List.length_take]; omega
  unfold Ln.ok at hs ⊢
  rw [hp]
  simp only [Bool.and_eq_true, decide_eq_true_eq, Bool.or_eq_true] at hs ⊢
  refine ⟨by omega, ?_, by rw [List.length_take]; omega⟩
  cases n with
  | zero =>
    left
    show (pre s 0).data.toList.length = 0
    rw [pre_data]
    have : pos s.data.toList 0 = 0 := by cases s.data.toList <;> rfl
    rw [this]; rfl
  | succ n =>
    right
    have hlen : 0 < (Sp.cut 10 s.data.toList).length := List.length_pos_iff.2 (Sp.cut_ne 10 s.data.toList)
    have h2 : n + 1 ≤ (Sp.cut 10 s.data.toList).length - 1 := by simpa [Ln.pieces] using h
    rw [pre_data, last_pos _ n (by omega)]
    rfl
/-- Where a text is refused by the first reading: cut behind that line it is refused in the same way, cut ahead of it not by the first reading. -/
theorem fault_cut (s : ByteArray) (h : (Am.all s).2.2.1 = 2 ∨ (Am.all s).2.2.1 = 3 ∨ (Am.all s).2.2.1 = 4) :
    ∃ j : Nat, j < (Ln.pieces s).length ∧ (Am.all s).2.2.2 = ((j + 1 : Nat) : Int) ∧ (Am.all (pre s (j + 1))).2.2.1 = (Am.all s).2.2.1 ∧ (Am.all (pre s (j + 1))).2.2.2 = (Am.all s).2.2.2 ∧
      ((Am.all (pre s j)).2.2.1 = 0 ∨ (Am.all (pre s j)).2.2.1 = 5 ∨ (Am.all (pre s j)).2.2.1 = 6) := by
  have hok : Ln.ok s = true := by
    by_cases c : Ln.ok s = true
    · exact c
    · unfold Am.all at h
      rw [if_neg c] at h
      simp at h
  have hsc : (Am.scan ((Ln.pieces s).map Rl.line) 0 0 []).1 ≠ 0 := by
    intro c
    unfold Am.all at h
    rw [if_pos hok] at h
    simp only [c, ne_eq, not_true_eq_false, if_false] at h
    rcases Am.link_codes ((Ln.pieces s).map Rl.line) 0 [] (Am.scan ((Ln.pieces s).map Rl.line) 0 0 []).2.2 with e | e | e <;> rw [e] at h <;> simp at h
  have ea : ∀ t : ByteArray, Ln.ok t = true → (Am.scan ((Ln.pieces t).map Rl.line) 0 0 []).1 ≠ 0 → (Am.all t).2.2.1 = (Am.scan ((Ln.pieces t).map Rl.line) 0 0 []).1 ∧ (Am.all t).2.2.2 = (Am.scan ((Ln.pieces t).map Rl.line) 0 0 []).2.1 := fun t h1 h2 => by
    unfold Am.all
    rw [if_pos h1]
    simp only
    rw [if_pos h2]
    exact ⟨rfl, rfl⟩
  obtain ⟨j, h1, h2, h3, h4, h5⟩ := Am.scan_stop _ 0 0 [] hsc
  rw [List.length_map] at h1
  have e1 := pieces_pre s (j + 1) (by omega)
  have e0 := pieces_pre s j (by omega)
  rw [← List.map_take, ← e1] at h3 h4
  rw [← List.map_take, ← e0] at h5
  have a1 := ea s hok hsc
  have a2 := ea (pre s (j + 1)) (ok_pre s _ (by omega) hok) (by rw [h3]; exact hsc)
  refine ⟨j, h1, by rw [a1.2, h2]; congr 1; omega, by rw [a2.1, a1.1, h3], by rw [a2.2, a1.2, h4], ?_⟩
  unfold Am.all
  rw [if_pos (ok_pre s _ (by omega) hok)]
  simp only [h5, ne_eq, not_true_eq_false, if_false]
  exact Am.link_codes _ _ _ _
end Fl
end Go.Proofs.YtdjapcfejmhjnaaGreatDoor
