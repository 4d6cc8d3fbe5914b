
/-
  Guests that come in, and how they are read. No function of the program in sight; no conditions but those that each fact names.
-/
import Derived.Test.YtanffdedignegaaBas
import Derived.Test.YtanffdedignegaaGst
import Derived.Test.YtanffdedignegaaWnl
import Derived.ChangeSlices
import Derived.Deep.SlicePairs
import Derived.OpenShut
namespace Go.Proofs.Ytanffdedignegaa
open Go.ChangeShapes Go.WideShapes Go.ChangeAt Go.RowKit Go.Joins Go.Deep
set_option linter.unusedVariables false

theorem cells22 : Try.prog.cellsOf 26 = 1 := by kernel_rfl
theorem cells5 : Try.prog.cellsOf 5 = 1 := by kernel_rfl
theorem cellsBS : Try.prog.cellsOf 22 = 1 := by kernel_rfl
theorem cellsBB : Try.prog.cellsOf 27 = 1 := by kernel_rfl
theorem cellsUS : Try.prog.cellsOf 25 = 1 := by kernel_rfl
theorem nums_open {H : Type} {enc : TypeId × Value → H} {W : World} {base : Nat} {held : Bool} {fuel : Nat} {cs : List Value} {x : DataW H × List MemPlace} {t e : TypeId} {k : IntKind} (ht : Try.prog.underlying t = some (.slice e)) (he : Try.prog.underlying e = some (.int k)) (hc : Try.prog.cellsOf e = 1)
    (h : DataW.trod enc Try.prog W base (fun _ => true) held fuel t cs = some x) : ∃ a zs c, cs = [.slice a (List.length zs) c] ∧ Seg k W a zs ∧ (∀ z ∈ zs, (Lit.int k z).wf = true) ∧ zs.length ≤ 9223372036854775807 ∧ zs.length ≤ c := by
  rcases open_ints ht he hc h with ⟨rfl, _⟩ | ⟨a, l, c, zs, rfl, _, hl, hm, hz, _, hcell, hwz⟩
  · exact ⟨none, [], 0, rfl, fun h => absurd h (by simp), by simp, by simp, by simp⟩
  · obtain ⟨ys, hy1, hy2, hy3⟩ := seg_of_row (k := k) (w := W) (a := some a) (len := l) (cap := c) (zs := zs) (.inr ⟨a, rfl, hl, hm, by simpa using hz, hcell, hwz⟩)
    have : maxLen = 9223372036854775807 := rfl
    exact ⟨some a, ys, c, by rw [hy1], hy2, hy3, by omega, by omega⟩
theorem brows_open {H : Type} {enc : TypeId × Value → H} {W : World} {base : Nat} {held : Bool} {fuel : Nat} {cs : List Value} {x : DataW H × List MemPlace}
    (h : DataW.trod enc Try.prog W base (fun _ => true) held fuel 27 cs = some x) : ∃ a n c D, cs = [.slice a n c] ∧ BSeg W a n D ∧ n ≤ 9223372036854775807 ∧ (∀ i, i < n → (D i).length ≤ 9223372036854775807) ∧ ∀ i, i < n → ∀ z ∈ D i, (Lit.int .u8 z).wf = true := by
  rcases open_slice1 (P := Try.prog) Try.underlying27 cellsBS h with ⟨rfl, _⟩ | ⟨a, len, cap, m, n, V, D, Pl, rfl, hb, hl, hm, hmm, _, hx⟩
  · exact ⟨none, 0, 0, fun _ => [], rfl, fun h => absurd h (by omega), by omega, fun i hi => absurd hi (by omega), fun i hi => absurd hi (by omega)⟩
  · have hlm : len ≤ m := by rw [hmm]; split <;> omega
    obtain ⟨Z, hZ⟩ := choose_lt (α := List Int) (n := len) (p := fun i z => (∃ ai ci, W.cell? (a.add i) = some (.slice ai z.length ci) ∧ Seg .u8 W ai z ∧ z.length ≤ ci) ∧ z.length ≤ 9223372036854775807 ∧ ∀ x ∈ z, (Lit.int .u8 x).wf = true) (fun i hi => by
      obtain ⟨h0, t0⟩ := hx i (by omega)
      obtain ⟨ai, ws, ci, e0, hs, hw, hl, hlc⟩ := nums_open Try.underlying22 Try.underlying5 cells5 t0
      injection e0 with e0
      exact ⟨ws, ⟨ai, ci, by rw [h0, e0], hs, hlc⟩, hl, hw⟩)
    refine ⟨some a, len, cap, Z, rfl, fun h0 => ?_, by have : maxLen = 9223372036854775807 := rfl; omega, fun i hi => (hZ i hi).2.1, fun i hi => (hZ i hi).2.2⟩
    obtain ⟨⟨a0, c0, h00, _⟩, _⟩ := hZ 0 h0
    obtain ⟨b, off, rfl, hlt⟩ := addr_of h00 rfl
    refine ⟨b, off, rfl, hlt, fun i hi => ?_⟩
    obtain ⟨⟨ai, ci, g1, g2, g3⟩, _⟩ := hZ i hi
    rw [add_plain] at g1
    exact ⟨ai, ci, g1, g2, g3⟩
theorem og_kept {w w' : World} {lo m hi : Nat} {ra ma : Option Addr} {rs : List Int} {n : Nat} {D : Nat → List Int} (hb : Below w.heap.size w w') (h : OGst w lo m hi ra ma rs n D) : OGst w' lo m hi ra ma rs n D := h.below hb
theorem ai_kept {w w' : World} {lo hi : Nat} {a : Option Addr} {xs : List Wn} (hb : Below w.heap.size w w') (h : AI w lo hi a xs) : AI w' lo hi a xs := h.below hb
/-- What is known of a guest that came in. -/
structure GIn (W : World) (ra ma : Option Addr) (rs : List Int) (pc : Int) (n : Nat) (D : Nat → List Int) : Prop where
  seg : XGSeg W ra ma rs n D
  rlen : rs.length ≤ 9223372036854775807
  regs : ∀ z ∈ rs, (Lit.int .u32 z).wf = true
  pcw : (Lit.int .u32 pc).wf = true
  nlen : n ≤ 9223372036854775807
  dlen : ∀ i, i < n → (D i).length ≤ 9223372036854775807
  bytes : ∀ i, i < n → ∀ z ∈ D i, (Lit.int .u8 z).wf = true
end Go.Proofs.Ytanffdedignegaa
