
/-
  What the laws' helpers on tables of pages do: a copy, the measure, whether two are alike, the marks; and how a table that came in is read. Conditions: the pages read as integers; lengths are at most 1048576.
-/
import Derived.Test.YtdjfijkgmeapdaaProg
import Derived.Test.YtdjfijkgmeapdaaOnl
import Derived.Deep.SlicePairs
import Derived.Lib.SmallJoins
namespace Go.Proofs.Ytdjfijkgmeapdaa
open Go.ChangeShapes Go.WideShapes Go.ChangeAt Go.RowKit Go.Joins Go.Deep
set_option linter.unusedVariables false

abbrev tlb (s : Int) (v : Value) : Value := .agg #[.int .i64 s, v]
theorem array2 {α : Type} {cs : Array α} (h : cs.size = 2) : ∃ c0 c1, cs = #[c0, c1] := by
  obtain ⟨l⟩ := cs
  match l, h with
  | [c0, c1], _ => exact ⟨c0, c1, rfl⟩
theorem list2 {α : Type} {cs : List α} (h : cs.length = 2) : ∃ c0 c1, cs = [c0, c1] := by
  match cs, h with
  | [c0, c1], _ => exact ⟨c0, c1, rfl⟩
theorem laidOut : laidOutB Try.prog = true := by kernel_rfl
theorem cells3 : Try.prog.cellsOf 3 = 1 := by kernel_rfl
theorem cellsIS : Try.prog.cellsOf 24 = 1 := by kernel_rfl
theorem add_plain (b off i : Nat) : (⟨b, off, none⟩ : Addr).add i = ⟨b, off + i, none⟩ := by
  by_cases e0 : i = 0
  · subst e0; simp [Addr.add]
  · simp [Addr.add, e0]
theorem addr_of {w : World} {a : Addr} {i : Nat} {v : Value} (h : w.cell? (a.add i) = some v) (hi : i = 0) : ∃ b off, a = ⟨b, off, none⟩ ∧ b < w.heap.size := by
  subst hi
  obtain ⟨b, off, spot⟩ := a
  have hspot : spot = none := by simpa [Addr.add] using World.cell?_spot h
  subst hspot
  exact ⟨b, off, rfl, by simpa [Addr.add] using World.block_lt_of_cell? w _ h⟩
theorem ints_open {H : Type} {enc : TypeId × Value → H} {W : World} {base : Nat} {spare : Nat → Bool} {held : Bool} {fuel : Nat} {cs : List Value} {x : DataW H × List MemPlace}
    (h : DataW.trod enc Try.prog W base spare held fuel 24 cs = some x) : ∃ a zs c, cs = [.slice a (List.length zs) c] ∧ Seg .i64 W a zs ∧ zs.length ≤ 9223372036854775807 ∧ ∀ z ∈ zs, (Lit.int .i64 z).wf = true := by
  rcases open_slice1 (P := Try.prog) Try.underlying24 cells3 h with ⟨rfl, _⟩ | ⟨a, len, cap, m, n, V, D, Pl, rfl, hb, hl, hm, hmm, _, hx⟩
  · exact ⟨none, [], 0, rfl, fun h => absurd h (by simp), by simp, by simp⟩
  · have hlm : len ≤ m := by rw [hmm]; split <;> omega
    obtain ⟨Z, hZ⟩ := choose_lt (α := Int) (n := len) (p := fun i z => W.cell? (a.add i) = some (.int .i64 z) ∧ (Lit.int .i64 z).wf = true) (fun i hi => by
      obtain ⟨h0, t0⟩ := hx i (by omega)
      obtain ⟨z, e0, _, hw⟩ := DataW.trod_int (P := Try.prog) Try.underlying3 t0
      injection e0 with e0
      exact ⟨z, by rw [h0, e0], hw⟩)
    refine ⟨some a, (List.range len).map Z, cap, by simp, fun h0 => ?_, by simp only [List.length_map, List.length_range]; have : maxLen = 9223372036854775807 := rfl; omega, fun z hz => ?_⟩
    · simp only [List.length_map, List.length_range] at h0
      obtain ⟨b, off, rfl, hlt⟩ := addr_of (hZ 0 h0).1 rfl
      refine ⟨b, off, rfl, hlt, fun i hi => ?_⟩
      simp only [List.length_map, List.length_range] at hi
      have hg : ((List.range len).map Z).getD i 0 = Z i := by simp [List.getD, hi]
      rw [hg]
      have := (hZ i hi).1
      rw [add_plain] at this
      exact this
    · obtain ⟨i, hi, rfl⟩ := List.mem_map.1 hz
      exact (hZ i (List.mem_range.1 hi)).2
end Go.Proofs.Ytdjfijkgmeapdaa
