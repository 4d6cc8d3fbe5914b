
/-
  Rows of bytes that come in, and how they are read. No function of the program in sight; no conditions but those that each fact names.
-/
import Derived.Test.YtgmhcngdgfhhaaaGreatDoorBas
import Derived.Test.YtgmhcngdgfhhaaaGreatDoorProg
import Derived.Test.YtgmhcngdgfhhaaaGreatDoorBys
import Derived.Test.YtgmhcngdgfhhaaaGreatDoorIms
import Derived.Test.YtgmhcngdgfhhaaaGreatDoorOpn
import Derived.Test.YtgmhcngdgfhhaaaGreatDoorSfd
import Derived.ChangeSlices
import Derived.Deep.SlicePairs
import Derived.OpenShut
namespace Go.Proofs.YtgmhcngdgfhhaaaGreatDoor
open Go.ChangeShapes Go.WideShapes Go.ChangeAt Go.RowKit Go.Joins Go.Deep
set_option linter.unusedVariables false

theorem wf8 {z : Int} (h : (Lit.int .u8 z).wf = true) : 0 ≤ z ∧ z ≤ 255 := bounds_u8 h
theorem cells5 : Tryz.prog.cellsOf 5 = 1 := by kernel_rfl
theorem cellsBS : Tryz.prog.cellsOf 93 = 1 := by kernel_rfl
set_option maxRecDepth 20000 in
theorem nums_open {H : Type} {enc : TypeId × Value → H} {W : World} {base : Nat} {held : Bool} {fuel : Nat} {cs : List Value} {x : DataW H × List MemPlace} {t e : TypeId} {k : IntKind} (ht : Tryz.prog.underlying t = some (.slice e)) (he : Tryz.prog.underlying e = some (.int k)) (hc : Tryz.prog.cellsOf e = 1)
    (h : DataW.trod enc Tryz.prog W base (fun _ => true) held fuel t cs = some x) : ∃ a zs c, cs = [.slice a (List.length zs) c] ∧ Seg k W a zs ∧ (∀ z ∈ zs, (Lit.int k z).wf = true) ∧ zs.length ≤ 9223372036854775807 ∧ zs.length ≤ c := by
  rcases open_ints ht he hc h with ⟨rfl, _⟩ | ⟨a, l, c, zs, rfl, _, hl, hm, hz, _, hcell, hwz⟩
  · exact ⟨none, [], 0, rfl, fun h => absurd h (by simp), by simp, by simp, by simp⟩
  · obtain ⟨ys, hy1, hy2, hy3⟩ := seg_of_row (k := k) (w := W) (a := some a) (len := l) (cap := c) (zs := zs) (.inr ⟨a, rfl, hl, hm, by simpa using hz, hcell, hwz⟩)
    have : maxLen = 9223372036854775807 := rfl
    exact ⟨some a, ys, c, by rw [hy1], hy2, hy3, by omega, by omega⟩
set_option maxRecDepth 20000 in
theorem brows_open {H : Type} {enc : TypeId × Value → H} {W : World} {base : Nat} {held : Bool} {fuel : Nat} {cs : List Value} {x : DataW H × List MemPlace}
    (h : DataW.trod enc Tryz.prog W base (fun _ => true) held fuel 58 cs = some x) : ∃ a n c D, cs = [.slice a n c] ∧ BSeg W a n D ∧ n ≤ 9223372036854775807 ∧ (∀ i, i < n → (D i).length ≤ 9223372036854775807) ∧ ∀ i, i < n → ∀ z ∈ D i, (Lit.int .u8 z).wf = true := by
  rcases open_slice1 (P := Tryz.prog) Tryz.underlying58 cellsBS h with ⟨rfl, _⟩ | ⟨a, len, cap, m, n, V, D, Pl, rfl, hb, hl, hm, hmm, _, hx⟩
  · exact ⟨none, 0, 0, fun _ => [], rfl, fun h => absurd h (by omega), by omega, fun i hi => absurd hi (by omega), fun i hi => absurd hi (by omega)⟩
  · have hlm : len ≤ m := by rw [hmm]; split <;> omega
    obtain ⟨Z, hZ⟩ := choose_lt (α := List Int) (n := len) (p := fun i z => (∃ ai ci, W.cell? (a.add i) = some (.slice ai z.length ci) ∧ Seg .u8 W ai z ∧ z.length ≤ ci) ∧ z.length ≤ 9223372036854775807 ∧ ∀ x ∈ z, (Lit.int .u8 x).wf = true) (fun i hi => by
      obtain ⟨h0, t0⟩ := hx i (by omega)
      obtain ⟨ai, ws, ci, e0, hs, hw, hl, hlc⟩ := nums_open Tryz.underlying93 Tryz.underlying5 cells5 t0
      injection e0 with e0
      exact ⟨ws, ⟨ai, ci, by rw [h0, e0], hs, hlc⟩, hl, hw⟩)
    refine ⟨some a, len, cap, Z, rfl, fun h0 => ?_, by have : maxLen = 9223372036854775807 := rfl; omega, fun i hi => (hZ i hi).2.1, fun i hi => (hZ i hi).2.2⟩
    obtain ⟨⟨a0, c0, h00, _⟩, _⟩ := hZ 0 h0
    obtain ⟨b, off, rfl, hlt⟩ := addr_of h00 rfl
    refine ⟨b, off, rfl, hlt, fun i hi => ?_⟩
    obtain ⟨⟨ai, ci, g1, g2, g3⟩, _⟩ := hZ i hi
    rw [add_plain] at g1
    exact ⟨ai, ci, g1, g2, g3⟩
set_option maxRecDepth 20000 in
theorem image_arg {H : Type} {enc : TypeId × Value → H} {W : World} {r : Reach} {b0 base : Nat} {held : Bool} {v : Value} {d : DataW H} {p : List MemPlace}
    (hv : Value.okWide Tryz.prog W r b0 58 v) (h : DataW.Trod enc Tryz.prog W base (fun _ => true) held 58 v d p) :
    ∃ a n c D, v = .slice a n c ∧ BSeg W a n D ∧ n ≤ 9223372036854775807 ∧ ∀ i, i < n → (D i).length ≤ 9223372036854775807 := by
  obtain ⟨a, len, cap, rfl⟩ := okWide_slice Tryz.underlying58 hv
  obtain ⟨fuel, hf⟩ := h
  obtain ⟨a', n, c, D, e, hs, h1, h2, _⟩ := brows_open hf
  simp [Value.cells] at e
  obtain ⟨rfl, rfl, rfl⟩ := e
  exact ⟨_, _, _, D, rfl, hs, h1, h2⟩
theorem cellsBB : Tryz.prog.cellsOf 58 = 1 := by kernel_rfl
set_option maxRecDepth 20000 in
theorem imgs_openB {H : Type} {enc : TypeId × Value → H} {W : World} {base : Nat} {held : Bool} {fuel : Nat} {cs : List Value} {x : DataW H × List MemPlace}
    (h : DataW.trod enc Tryz.prog W base (fun _ => true) held fuel 32 cs = some x) : ∃ a n c N D, cs = [.slice a n c] ∧ MSeg W a n N D ∧ n ≤ 9223372036854775807 ∧ MLn n N D ∧ MBy n N D := by
  rcases open_slice1 (P := Tryz.prog) Tryz.underlying32 cellsBB h with ⟨rfl, _⟩ | ⟨a, len, cap, m, n, V, D, Pl, rfl, hb, hl, hm, hmm, _, hx⟩
  · exact ⟨none, 0, 0, fun _ => 0, fun _ _ => [], rfl, fun h => absurd h (by omega), by omega, fun i hi => absurd hi (by omega), fun i hi => absurd hi (by omega)⟩
  · have hlm : len ≤ m := by rw [hmm]; split <;> omega
    obtain ⟨Z, hZ⟩ := choose_lt (α := Nat × (Nat → List Int)) (n := len) (p := fun i z => (∃ ai ci, W.cell? (a.add i) = some (.slice ai z.1 ci) ∧ BSeg W ai z.1 z.2) ∧ z.1 ≤ 9223372036854775807 ∧ (∀ j, j < z.1 → (z.2 j).length ≤ 9223372036854775807) ∧ ∀ j, j < z.1 → ∀ x ∈ z.2 j, 0 ≤ x ∧ x ≤ 255) (fun i hi => by
      obtain ⟨h0, t0⟩ := hx i (by omega)
      obtain ⟨ai, n1, ci, D1, e0, hs, h1, h2, h9⟩ := brows_open t0
      injection e0 with e0
      exact ⟨(n1, D1), ⟨ai, ci, by rw [h0, e0], hs⟩, h1, h2, fun j hj x hx => wf8 (h9 j hj x hx)⟩)
    refine ⟨some a, len, cap, fun i => (Z i).1, fun i => (Z i).2, rfl, fun h0 => ?_, by have : maxLen = 9223372036854775807 := rfl; omega, fun i hi => ⟨(hZ i hi).2.1, (hZ i hi).2.2.1⟩, fun i hi => (hZ i hi).2.2.2⟩
    obtain ⟨⟨a0, c0, h00, _⟩, _⟩ := hZ 0 h0
    obtain ⟨b, off, rfl, hlt⟩ := addr_of h00 rfl
    refine ⟨b, off, rfl, hlt, fun i hi => ?_⟩
    obtain ⟨⟨ai, ci, g1, g2⟩, _⟩ := hZ i hi
    rw [add_plain] at g1
    exact ⟨ai, ci, g1, g2⟩
set_option maxRecDepth 20000 in
theorem imgs_argB {H : Type} {enc : TypeId × Value → H} {W : World} {r : Reach} {b0 base : Nat} {held : Bool} {v : Value} {d : DataW H} {p : List MemPlace}
    (hv : Value.okWide Tryz.prog W r b0 32 v) (h : DataW.Trod enc Tryz.prog W base (fun _ => true) held 32 v d p) :
    ∃ a n c N D, v = .slice a n c ∧ MSeg W a n N D ∧ n ≤ 9223372036854775807 ∧ MLn n N D ∧ MBy n N D := by
  obtain ⟨a, len, cap, rfl⟩ := okWide_slice Tryz.underlying32 hv
  obtain ⟨fuel, hf⟩ := h
  obtain ⟨a', n, c, N, D, e, hs, h1, h2, h3⟩ := imgs_openB hf
  simp [Value.cells] at e
  obtain ⟨rfl, rfl, rfl⟩ := e
  exact ⟨_, _, _, N, D, rfl, hs, h1, h2, h3⟩
end Go.Proofs.YtgmhcngdgfhhaaaGreatDoor
