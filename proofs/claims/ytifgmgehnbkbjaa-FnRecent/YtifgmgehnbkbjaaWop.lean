/-
  Caches that come in, and how they are read. No function of the program in sight; no conditions but those that each fact names.
-/
import Derived.Test.YtifgmgehnbkbjaaSho
import Derived.Test.YtifgmgehnbkbjaaWeq
import Derived.Deep.SlicePairs
namespace Go.Proofs.Ytifgmgehnbkbjaa
open Go.ChangeShapes Go.WideShapes Go.ChangeAt Go.RowKit Go.Joins Go.Deep
set_option linter.unusedVariables false

theorem array4 {α : Type} {cs : Array α} (h : cs.size = 4) : ∃ c0 c1 c2 c3, cs = #[c0, c1, c2, c3] := by
  obtain ⟨l⟩ := cs
  match l, h with
  | [c0, c1, c2, c3], _ => exact ⟨c0, c1, c2, c3, rfl⟩
theorem list2 {α : Type} {cs : List α} (h : cs.length = 2) : ∃ c0 c1, cs = [c0, c1] := by
  match cs, h with
  | [c0, c1], _ => exact ⟨c0, c1, rfl⟩
theorem cellsCL : Try.prog.cellsOf 49 = 4 := by kernel_rfl
theorem cellsWL : Try.prog.cellsOf 137 = 2 := by kernel_rfl
theorem cellsRL : Try.prog.cellsOf 126 = 1 := by kernel_rfl
theorem cellsQL : Try.prog.cellsOf 47 = 1 := by kernel_rfl
theorem addr_of {w : World} {a : Addr} {i : Nat} {v : Value} (h : w.cell? (a.add i) = some v) (hi : i = 0) : ∃ b off, a = ⟨b, off, none⟩ ∧ b < w.heap.size := by
  subst hi
  obtain ⟨b, off, spot⟩ := a
  have hspot : spot = none := by simpa [Addr.add] using World.cell?_spot h
  subst hspot
  exact ⟨b, off, rfl, by simpa [Addr.add] using World.block_lt_of_cell? w _ h⟩
theorem add_plain (b off i : Nat) : (⟨b, off, none⟩ : Addr).add i = ⟨b, off + i, none⟩ := by
  by_cases e0 : i = 0
  · subst e0; simp [Addr.add]
  · simp [Addr.add, e0]
theorem ways_open {H : Type} {enc : TypeId × Value → H} {W : World} {base : Nat} {spare : Nat → Bool} {held : Bool} {fuel : Nat} {cs : List Value} {x : DataW H × List MemPlace}
    (h : DataW.trod enc Try.prog W base spare held fuel 126 cs = some x) : ∃ a ws c, cs = [.slice a (List.length ws) c] ∧ WSeg W a ws ∧ ws.length ≤ 9223372036854775807 ∧ ws.length ≤ c := by
  rcases open_slice_pairs (P := Try.prog) Try.underlying126 Try.underlying137 cellsWL rfl rfl cells3 cells4 h with ⟨rfl, _⟩ | ⟨a, len, cap, m, n, V0, V1, D0, D1, P0, P1, rfl, hb, hl, hm, hmm, _, hx⟩
  · exact ⟨none, [], 0, rfl, WSeg.nil _ _, by simp, by simp⟩
  · have hlm : len ≤ m := by rw [hmm]; split <;> omega
    obtain ⟨Z, hZ⟩ := choose_lt (α := Wy) (n := len) (p := fun i z => W.cell? (a.add (i * 2)) = some (.int .i64 z.1) ∧ W.cell? (a.add (i * 2 + 1)) = some (.bool z.2)) (fun i hi => by
      obtain ⟨h0, h1, t0, t1⟩ := hx i (by omega)
      obtain ⟨z, e0, _, _⟩ := DataW.trod_int (P := Try.prog) Try.underlying3 t0
      obtain ⟨d, e1, _⟩ := DataW.trod_bool (P := Try.prog) Try.underlying4 t1
      injection e0 with e0
      injection e1 with e1
      exact ⟨(z, d), by rw [h0, e0], by rw [h1, e1]⟩)
    refine ⟨some a, (List.range len).map Z, cap, by simp, fun h0 => ?_, by simp only [List.length_map, List.length_range]; have : maxLen = 9223372036854775807 := rfl; omega, by simp only [List.length_map, List.length_range]; exact hl⟩
    simp only [List.length_map, List.length_range] at h0
    obtain ⟨b, off, rfl, hlt⟩ := addr_of (hZ 0 h0).1 (by omega)
    refine ⟨b, off, rfl, hlt, fun i hi => ?_⟩
    simp only [List.length_map, List.length_range] at hi
    have hg : ((List.range len).map Z).getD i wd = Z i := by simp [List.getD, hi]
    rw [hg]
    have := hZ i hi
    rw [add_plain, add_plain, ← Nat.add_assoc] at this
    exact this
theorem rows_open {H : Type} {enc : TypeId × Value → H} {W : World} {base : Nat} {spare : Nat → Bool} {held : Bool} {fuel : Nat} {cs : List Value} {x : DataW H × List MemPlace}
    (h : DataW.trod enc Try.prog W base spare held fuel 47 cs = some x) : ∃ a n c D, cs = [.slice a n c] ∧ RSeg W a n D ∧ n ≤ 9223372036854775807 ∧ ∀ i, i < n → (D i).length ≤ 9223372036854775807 := by
  rcases open_slice1 (P := Try.prog) Try.underlying47 cellsRL h with ⟨rfl, _⟩ | ⟨a, len, cap, m, n, V, D, Pl, rfl, hb, hl, hm, hmm, _, hx⟩
  · exact ⟨none, 0, 0, fun _ => [], rfl, fun h => absurd h (by omega), by omega, fun i hi => absurd hi (by omega)⟩
  · have hlm : len ≤ m := by rw [hmm]; split <;> omega
    obtain ⟨Z, hZ⟩ := choose_lt (α := List Wy) (n := len) (p := fun i z => ∃ ai ci, W.cell? (a.add i) = some (.slice ai z.length ci) ∧ WSeg W ai z ∧ z.length ≤ 9223372036854775807 ∧ z.length ≤ ci) (fun i hi => by
      obtain ⟨h0, t0⟩ := hx i (by omega)
      obtain ⟨ai, ws, ci, e0, hs, hl, hlc⟩ := ways_open t0
      injection e0 with e0
      exact ⟨ws, ai, ci, by rw [h0, e0], hs, hl, hlc⟩)
    refine ⟨some a, len, cap, Z, rfl, fun h0 => ?_, by have : maxLen = 9223372036854775807 := rfl; omega, fun i hi => by obtain ⟨_, _, _, _, g, _⟩ := hZ i hi; exact g⟩
    obtain ⟨a0, c0, h00, _⟩ := hZ 0 h0
    obtain ⟨b, off, rfl, hlt⟩ := addr_of h00 rfl
    refine ⟨b, off, rfl, hlt, fun i hi => ?_⟩
    obtain ⟨ai, ci, g1, g2, _, g3⟩ := hZ i hi
    rw [add_plain] at g1
    exact ⟨ai, ci, g1, g2, g3⟩
set_option maxRecDepth 100000 in
theorem cache_open {H : Type} {enc : TypeId × Value → H} {W : World} {r : Reach} {b0 base : Nat} {spare : Nat → Bool} {held : Bool} {v : Value} {d : DataW H} {p : List MemPlace}
    (hv : Value.okWide Try.prog W r b0 49 v) (h : DataW.Trod enc Try.prog W base spare held 49 v d p) :
    ∃ s y l a n c D, v = cch s y l (.slice a n c) ∧ RSeg W a n D ∧ n ≤ 9223372036854775807 ∧ ∀ i, i < n → (D i).length ≤ 9223372036854775807 := by
  obtain ⟨cs, rfl, hsz⟩ := okWide_struct Try.underlying49 hv
  obtain ⟨v0, v1, v2, v3, rfl⟩ := array4 (hsz.trans cellsCL)
  obtain ⟨fuel, hf⟩ := h
  obtain ⟨xs, n, _, hx, _, hl, hfs⟩ := DataW.trod_struct Try.underlying49 hf
  obtain ⟨y0, y1, rfl⟩ := list2 hl
  have g0 := hfs 0 _ rfl
  have g1 := hfs 1 _ rfl
  simp only [Value.cells] at g0 g1
  obtain ⟨xs', n', _, hx', _, hl', hfs'⟩ := DataW.trod_struct Try.underlying37 g0
  obtain ⟨z0, z1, z2, rfl⟩ := list3 hl'
  have k0 := hfs' 0 _ rfl
  have k1 := hfs' 1 _ rfl
  have k2 := hfs' 2 _ rfl
  obtain ⟨s, e0, rfl, w0⟩ := DataW.trod_int Try.underlying3 k0
  obtain ⟨y, e1, rfl, w1⟩ := DataW.trod_int Try.underlying3 k1
  obtain ⟨l, e2, rfl, w2⟩ := DataW.trod_int Try.underlying3 k2
  obtain ⟨a, m, c, D, e3, hs, h1, h2⟩ := rows_open g1
  simp [cells3, cellsSL] at e0 e1 e2
  simp [cellsQL] at e3
  subst e0 e1 e2 e3
  exact ⟨s, y, l, a, m, c, D, rfl, hs, h1, h2⟩
end Go.Proofs.Ytifgmgehnbkbjaa
