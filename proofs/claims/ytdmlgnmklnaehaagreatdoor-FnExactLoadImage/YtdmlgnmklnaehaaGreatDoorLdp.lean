
/-
  What LoadImage says: the rows of an image in which words stand from the entry on: plain facts. No conditions but those that each fact names.
-/
import Derived.Test.YtdmlgnmklnaehaaGreatDoorBas
import Derived.Test.YtdmlgnmklnaehaaGreatDoorGnw
import Derived.Test.YtdmlgnmklnaehaaGreatDoorLsw
import Derived.Test.YtdmlgnmklnaehaaGreatDoorClo6
namespace Go.Proofs.YtdmlgnmklnaehaaGreatDoor
open Go.ChangeShapes Go.WideShapes Go.ChangeAt Go.RowKit Go.Deep
set_option linter.unusedVariables false

theorem allW_at {ps : List Pt} {i j : Nat} (hi : i < ps.length) (hj : j < (ps.getD i pt0).ws.length) : (allW (ps.take i)).length + j < (allW ps).length ∧ (allW ps).getD ((allW (ps.take i)).length + j) wi0 = (ps.getD i pt0).ws.getD j wi0 := by
  have e : allW ps = allW (ps.take i) ++ ((ps.getD i pt0).ws ++ allW (ps.drop (i + 1))) := by
    have h0 : ps.take i ++ (ps.getD i pt0 :: ps.drop (i + 1)) = ps := by
      have : ps.getD i pt0 = ps[i] := by simp [List.getD, hi]
      rw [this, ← List.drop_eq_getElem_cons hi, List.take_append_drop]
    have h1 : allW (ps.take i ++ (ps.getD i pt0 :: ps.drop (i + 1))) = allW (ps.take i) ++ ((ps.getD i pt0).ws ++ allW (ps.drop (i + 1))) := by simp only [allW, List.map_append, List.map_cons, List.flatten_append, List.flatten_cons]
    rw [h0] at h1
    exact h1
  generalize allW (ps.take i) = A at e ⊢
  generalize allW (ps.drop (i + 1)) = C at e
  generalize (ps.getD i pt0).ws = B at e hj ⊢
  rw [e]
  constructor
  · rw [List.length_append, List.length_append]; omega
  · simp only [List.getD]
    rw [List.getElem?_append_right (by omega), Nat.add_sub_cancel_left, List.getElem?_append_left hj]
theorem sd_wsok {t : Tb} (h : Sd t) {i : Nat} (hi : i < t.ps.length) : WsOk (t.ps.getD i pt0).ws := by
  have r12 := h 12 (by omega)
  have r13 := h 13 (by omega)
  have r14 := h 14 (by omega)
  simp only [R] at r12 r13 r14
  refine ⟨(r12 i hi).2, fun j hj => ⟨?_, fun k hk => ?_⟩⟩
  · have := (r13 _ (allW_at hi hj).1).1
    rw [(allW_at hi hj).2] at this
    exact this
  · have := r14 _ (allW_at hi hj).1 ((allW (t.ps.take i)).length + k) (by omega)
    rw [(allW_at hi hj).2, (allW_at hi (Nat.lt_trans hk hj)).2] at this
    exact this
theorem Good.aseg {lo : Nat} {w : World} {y : Rw} {p : Pt} (h : Good lo w y p) : ASeg w y.wa p.ws := by
  unfold ASeg
  rw [h.ln]
  exact h.sg.seg

namespace Ld
def sz (xs : List Wn) (i : Nat) : Nat := (xs.getD i wn0).2.1.toNat
def bt (zs : List Int) (k : Nat) : Int := (Wd.bytes (zs.getD (k / 4) 0)).getD (k % 4) 0
/-- The byte k of row i when the first m words stand from 'off' on in row 'home'. -/
def byteL (home off m : Nat) (zs : List Int) (i k : Nat) : Int := if i = home ∧ off ≤ k ∧ k < off + 4 * m then bt zs (k - off) else 0
def rowL (xs : List Wn) (home off m : Nat) (zs : List Int) (i : Nat) : List Int := (List.range (sz xs i)).map (byteL home off m zs i)
theorem rowL_len (xs : List Wn) (home off m : Nat) (zs : List Int) (i : Nat) : (rowL xs home off m zs i).length = sz xs i := by simp [rowL]
theorem rowL_zero (xs : List Wn) (home off : Nat) (zs : List Int) (i : Nat) : rowL xs home off 0 zs i = rows0 xs i := by
  unfold rowL rows0 sz
  apply List.ext_getElem
  · simp
  · intro k h1 h2
    simp [byteL]
    intro _ h3 h4
    omega
theorem rowL_at (xs : List Wn) (home off m : Nat) (zs : List Int) (i k : Nat) (hk : k < sz xs i) : (rowL xs home off m zs i).getD k 0 = byteL home off m zs i k := by
  unfold rowL
  simp [List.getD, hk]
theorem rowL_snoc (xs : List Wn) (home off m : Nat) (zs : List Int) (i k : Nat) (hk : k < sz xs i) : (rowL xs home off m zs i).take (k + 1) = (rowL xs home off m zs i).take k ++ [byteL home off m zs i k] := by
  rw [List.take_succ_eq_append_getElem (by rw [rowL_len]; exact hk)]
  congr 2
  simp [rowL]
theorem rowL_other (xs : List Wn) (home off m m' : Nat) (zs : List Int) (i : Nat) (h : i ≠ home) : rowL xs home off m zs i = rowL xs home off m' zs i := by
  unfold rowL
  congr 1
  funext k
  unfold byteL
  rw [if_neg (fun e => h e.1), if_neg (fun e => h e.1)]
theorem byte_range (z : Int) (h0 : 0 ≤ z) (h1 : z ≤ 4294967295) (r : Nat) : 0 ≤ (Wd.bytes z).getD r 0 ∧ (Wd.bytes z).getD r 0 ≤ 255 := by
  unfold Wd.bytes
  match r with
  | 0 => simp; omega
  | 1 => simp; omega
  | 2 => simp; omega
  | 3 => simp; omega
  | r + 4 => simp
theorem rowL_step (xs : List Wn) (home off m : Nat) (zs : List Int) (hf : off + 4 * (m + 1) ≤ sz xs home) :
    rowL xs home off (m + 1) zs home = (rowL xs home off m zs home).take (off + 4 * m) ++ Wd.bytes (zs.getD m 0) ++ (rowL xs home off m zs home).drop (off + 4 * m + 4) := by
  have hl : (Wd.bytes (zs.getD m 0)).length = 4 := rfl
  generalize hB : Wd.bytes (zs.getD m 0) = B at hl ⊢
  apply List.ext_getElem
  · rw [rowL_len, List.length_append, List.length_append, List.length_take, List.length_drop, rowL_len, hl]
    omega
  · intro k h1 h2
    rw [rowL_len] at h1
    have e : (rowL xs home off (m + 1) zs home)[k] = byteL home off (m + 1) zs home k := by simp [rowL]
    rw [e]
    by_cases c1 : k < off + 4 * m
    · rw [List.getElem_append_left (by rw [List.length_append, List.length_take, rowL_len, hl]; omega), List.getElem_append_left (by rw [List.length_take, rowL_len]; omega), List.getElem_take]
      simp only [rowL, List.getElem_map, List.getElem_range]
      unfold byteL
      by_cases c2 : off ≤ k
      · rw [if_pos ⟨rfl, c2, by omega⟩, if_pos ⟨rfl, c2, c1⟩]
      · rw [if_neg (fun h => c2 h.2.1), if_neg (fun h => c2 h.2.1)]
    · by_cases c2 : k < off + 4 * m + 4
      · have hlt : (List.take (off + 4 * m) (rowL xs home off m zs home)).length = off + 4 * m := by rw [List.length_take, rowL_len]; omega
        rw [List.getElem_append_left (by rw [List.length_append, hlt, hl]; omega), List.getElem_append_right (by rw [hlt]; omega)]
        unfold byteL
        rw [if_pos ⟨rfl, by omega, by omega⟩]
        unfold bt
        have e1 : (k - off) / 4 = m := by omega
        have e2 : (k - off) % 4 = k - (off + 4 * m) := by omega
        rw [e1, e2, hB]
        have h4 : k - (off + 4 * m) < B.length := by rw [hl]; omega
        simp only [hlt]
        simp [List.getD, h4]
      · have hlt : (List.take (off + 4 * m) (rowL xs home off m zs home)).length = off + 4 * m := by rw [List.length_take, rowL_len]; omega
        rw [List.getElem_append_right (by rw [List.length_append, hlt, hl]; omega), List.getElem_drop]
        have hidx : off + 4 * m + 4 + (k - (List.take (off + 4 * m) (rowL xs home off m zs home) ++ B).length) = k := by rw [List.length_append, hlt, hl]; omega
        have e3 : ∀ (j : Nat) (hj : j < (rowL xs home off m zs home).length), (rowL xs home off m zs home)[j] = byteL home off m zs home j := fun j hj => by simp [rowL]
        rw [e3, hidx]
        unfold byteL
        rw [if_neg (by omega), if_neg (by omega)]
/-- The window in which the entry lies. -/
theorem sd_home {t : Tb} (h : Sd t) {p : Nat} (hp : p < t.ps.length) : ∃ home off : Nat, home < (t.ps.getD p pt0).ws.length ∧ AtP (t.ps.getD p pt0).ws (t.ps.getD p pt0).ws.length (t.ps.getD p pt0).en (home : Int) ∧
    (t.ps.getD p pt0).en = ((t.ps.getD p pt0).ws.getD home wn0).1 + (off : Int) ∧ (off : Int) < ((t.ps.getD p pt0).ws.getD home wn0).2.1 := by
  have r15 := h 15 (by omega)
  simp only [R] at r15
  obtain ⟨_, j, hj, hh, _⟩ := r15 p hp
  obtain ⟨r, hr⟩ := AtP.ex (t.ps.getD p pt0).ws (t.ps.getD p pt0).en (t.ps.getD p pt0).ws.length
  rcases hr with ⟨_, hn⟩ | ⟨k, hk, rfl, hk2, hk3⟩
  · exact absurd hh (hn j hj)
  · refine ⟨k, ((t.ps.getD p pt0).en - ((t.ps.getD p pt0).ws.getD k wn0).1).toNat, hk, .inr ⟨k, hk, rfl, hk2, hk3⟩, ?_, ?_⟩
    · have := hk2.1
      omega
    · have := hk2.1
      have := hk2.2
      omega
end Ld
end Go.Proofs.YtdmlgnmklnaehaaGreatDoor
