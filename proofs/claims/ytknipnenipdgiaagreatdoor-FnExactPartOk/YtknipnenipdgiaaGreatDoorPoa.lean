
/-
  States of a partition that come in as an argument, and how they are read. No conditions.
-/
import Derived.Test.YtknipnenipdgiaaGreatDoorBas
import Derived.Test.YtknipnenipdgiaaGreatDoorProg
import Derived.Test.YtknipnenipdgiaaGreatDoorOpn
import Derived.Test.YtknipnenipdgiaaGreatDoorBys
import Derived.Test.YtknipnenipdgiaaGreatDoorPst
import Derived.ChangeSlices
import Derived.Deep.SlicePairs
import Derived.OpenShut
namespace Go.Proofs.YtknipnenipdgiaaGreatDoor
open Go.ChangeShapes Go.WideShapes Go.ChangeAt Go.RowKit Go.Joins Go.Deep
set_option linter.unusedVariables false

theorem po_array27 {α : Type} {cs : Array α} (h : cs.size = 27) : ∃ c0 c1 c2 c3 c4 c5 c6 c7 c8 c9 c10 c11 c12 c13 c14 c15 c16 c17 c18 c19 c20 c21 c22 c23 c24 c25 c26, cs = #[c0, c1, c2, c3, c4, c5, c6, c7, c8, c9, c10, c11, c12, c13, c14, c15, c16, c17, c18, c19, c20, c21, c22, c23, c24, c25, c26] := by
  obtain ⟨l⟩ := cs
  match l, h with
  | [c0, c1, c2, c3, c4, c5, c6, c7, c8, c9, c10, c11, c12, c13, c14, c15, c16, c17, c18, c19, c20, c21, c22, c23, c24, c25, c26], _ => exact ⟨c0, c1, c2, c3, c4, c5, c6, c7, c8, c9, c10, c11, c12, c13, c14, c15, c16, c17, c18, c19, c20, c21, c22, c23, c24, c25, c26, rfl⟩
theorem po_list1 {α : Type} {cs : List α} (h : cs.length = 1) : ∃ c0, cs = [c0] := by
  match cs, h with
  | [c0], _ => exact ⟨c0, rfl⟩
theorem po_list8 {α : Type} {cs : List α} (h : cs.length = 8) : ∃ c0 c1 c2 c3 c4 c5 c6 c7, cs = [c0, c1, c2, c3, c4, c5, c6, c7] := by
  match cs, h with
  | [c0, c1, c2, c3, c4, c5, c6, c7], _ => exact ⟨c0, c1, c2, c3, c4, c5, c6, c7, rfl⟩
theorem po_list2 {α : Type} {cs : List α} (h : cs.length = 2) : ∃ c0 c1, cs = [c0, c1] := by
  match cs, h with
  | [c0, c1], _ => exact ⟨c0, c1, rfl⟩
theorem po_list3 {α : Type} {cs : List α} (h : cs.length = 3) : ∃ c0 c1 c2, cs = [c0, c1, c2] := by
  match cs, h with
  | [c0, c1, c2], _ => exact ⟨c0, c1, c2, rfl⟩
theorem po_list4 {α : Type} {cs : List α} (h : cs.length = 4) : ∃ c0 c1 c2 c3, cs = [c0, c1, c2, c3] := by
  match cs, h with
  | [c0, c1, c2, c3], _ => exact ⟨c0, c1, c2, c3, rfl⟩
theorem po_list11 {α : Type} {cs : List α} (h : cs.length = 11) : ∃ c0 c1 c2 c3 c4 c5 c6 c7 c8 c9 c10, cs = [c0, c1, c2, c3, c4, c5, c6, c7, c8, c9, c10] := by
  match cs, h with
  | [c0, c1, c2, c3, c4, c5, c6, c7, c8, c9, c10], _ => exact ⟨c0, c1, c2, c3, c4, c5, c6, c7, c8, c9, c10, rfl⟩
theorem po_u8 : Tryz.prog.cellsOf 5 = 1 := by kernel_rfl
theorem po_u32 : Tryz.prog.cellsOf 33 = 1 := by kernel_rfl
theorem po_bs : Tryz.prog.cellsOf 144 = 1 := by kernel_rfl
theorem po_bb : Tryz.prog.cellsOf 34 = 1 := by kernel_rfl
theorem po_us : Tryz.prog.cellsOf 32 = 1 := by kernel_rfl
theorem po_is : Tryz.prog.cellsOf 27 = 1 := by kernel_rfl
theorem po_oe : Tryz.prog.cellsOf 183 = 2 := by kernel_rfl
theorem po_ie : Tryz.prog.cellsOf 186 = 1 := by kernel_rfl
theorem po_de : Tryz.prog.cellsOf 188 = 2 := by kernel_rfl
theorem po_os : Tryz.prog.cellsOf 46 = 1 := by kernel_rfl
theorem po_ins : Tryz.prog.cellsOf 47 = 1 := by kernel_rfl
theorem po_dvs : Tryz.prog.cellsOf 48 = 1 := by kernel_rfl
theorem po_g : Tryz.prog.cellsOf 36 = 3 := by kernel_rfl
theorem po_v : Tryz.prog.cellsOf 38 = 8 := by kernel_rfl
theorem po_h : Tryz.prog.cellsOf 40 = 4 := by kernel_rfl
theorem po_c : Tryz.prog.cellsOf 43 = 4 := by kernel_rfl
theorem po_t : Tryz.prog.cellsOf 45 = 2 := by kernel_rfl
theorem po_sh : Tryz.prog.cellsOf 23 = 3 := by kernel_rfl
theorem po_w : Tryz.prog.cellsOf 295 = 2 := by kernel_rfl
theorem po_r : Tryz.prog.cellsOf 244 = 1 := by kernel_rfl
theorem po_q : Tryz.prog.cellsOf 41 = 1 := by kernel_rfl
theorem po_ps : Tryz.prog.cellsOf 50 = 27 := by kernel_rfl
theorem nums_open {H : Type} {enc : TypeId × Value → H} {W : World} {base : Nat} {held : Bool} {fuel : Nat} {cs : List Value} {x : DataW H × List MemPlace} {t e : TypeId} {k : IntKind} (ht : Tryz.prog.underlying t = some (.slice e)) (he : Tryz.prog.underlying e = some (.int k)) (hc : Tryz.prog.cellsOf e = 1)
    (h : DataW.trod enc Tryz.prog W base (fun _ => true) held fuel t cs = some x) : ∃ a zs c, cs = [.slice a (List.length zs) c] ∧ Seg k W a zs ∧ (∀ z ∈ zs, (Lit.int k z).wf = true) ∧ zs.length ≤ 9223372036854775807 ∧ zs.length ≤ c := by
  rcases open_ints ht he hc h with ⟨rfl, _⟩ | ⟨a, l, c, zs, rfl, _, hl, hm, hz, _, hcell, hwz⟩
  · exact ⟨none, [], 0, rfl, fun h => absurd h (by simp), by simp, by simp, by simp⟩
  · obtain ⟨ys, hy1, hy2, hy3⟩ := seg_of_row (k := k) (w := W) (a := some a) (len := l) (cap := c) (zs := zs) (.inr ⟨a, rfl, hl, hm, by simpa using hz, hcell, hwz⟩)
    have : maxLen = 9223372036854775807 := rfl
    exact ⟨some a, ys, c, by rw [hy1], hy2, hy3, by omega, by omega⟩
theorem brows_open {H : Type} {enc : TypeId × Value → H} {W : World} {base : Nat} {held : Bool} {fuel : Nat} {cs : List Value} {x : DataW H × List MemPlace}
    (h : DataW.trod enc Tryz.prog W base (fun _ => true) held fuel 34 cs = some x) : ∃ a n c D, cs = [.slice a n c] ∧ BSeg W a n D ∧ n ≤ 9223372036854775807 ∧ (∀ i, i < n → (D i).length ≤ 9223372036854775807) ∧ ∀ i, i < n → ∀ z ∈ D i, (Lit.int .u8 z).wf = true := by
  rcases open_slice1 (P := Tryz.prog) Tryz.underlying34 po_bs h with ⟨rfl, _⟩ | ⟨a, len, cap, m, n, V, D, Pl, rfl, hb, hl, hm, hmm, _, hx⟩
  · exact ⟨none, 0, 0, fun _ => [], rfl, fun h => absurd h (by omega), by omega, fun i hi => absurd hi (by omega), fun i hi => absurd hi (by omega)⟩
  · have hlm : len ≤ m := by rw [hmm]; split <;> omega
    obtain ⟨Z, hZ⟩ := choose_lt (α := List Int) (n := len) (p := fun i z => (∃ ai ci, W.cell? (a.add i) = some (.slice ai z.length ci) ∧ Seg .u8 W ai z ∧ z.length ≤ ci) ∧ z.length ≤ 9223372036854775807 ∧ ∀ x ∈ z, (Lit.int .u8 x).wf = true) (fun i hi => by
      obtain ⟨h0, t0⟩ := hx i (by omega)
      obtain ⟨ai, ws, ci, e0, hs, hw, hl, hlc⟩ := nums_open Tryz.underlying144 Tryz.underlying5 po_u8 t0
      injection e0 with e0
      exact ⟨ws, ⟨ai, ci, by rw [h0, e0], hs, hlc⟩, hl, hw⟩)
    refine ⟨some a, len, cap, Z, rfl, fun h0 => ?_, by have : maxLen = 9223372036854775807 := rfl; omega, fun i hi => (hZ i hi).2.1, fun i hi => (hZ i hi).2.2⟩
    obtain ⟨⟨a0, c0, h00, _⟩, _⟩ := hZ 0 h0
    obtain ⟨b, off, rfl, hlt⟩ := addr_of h00 rfl
    refine ⟨b, off, rfl, hlt, fun i hi => ?_⟩
    obtain ⟨⟨ai, ci, g1, g2, g3⟩, _⟩ := hZ i hi
    rw [add_plain] at g1
    exact ⟨ai, ci, g1, g2, g3⟩
theorem ways_open {H : Type} {enc : TypeId × Value → H} {W : World} {base : Nat} {spare : Nat → Bool} {held : Bool} {fuel : Nat} {cs : List Value} {x : DataW H × List MemPlace}
    (h : DataW.trod enc Tryz.prog W base spare held fuel 244 cs = some x) : ∃ a ws c, cs = [.slice a (List.length ws) c] ∧ WSeg W a ws ∧ ws.length ≤ 9223372036854775807 ∧ ws.length ≤ c := by
  rcases open_slice_pairs (P := Tryz.prog) Tryz.underlying244 Tryz.underlying295 po_w rfl rfl cells3 cells4 h with ⟨rfl, _⟩ | ⟨a, len, cap, m, n, V0, V1, D0, D1, P0, P1, rfl, hb, hl, hm, hmm, _, hx⟩
  · exact ⟨none, [], 0, rfl, WSeg.nil _ _, by simp, by simp⟩
  · have hlm : len ≤ m := by rw [hmm]; split <;> omega
    obtain ⟨Z, hZ⟩ := choose_lt (α := Wy) (n := len) (p := fun i z => W.cell? (a.add (i * 2)) = some (.int .i64 z.1) ∧ W.cell? (a.add (i * 2 + 1)) = some (.bool z.2)) (fun i hi => by
      obtain ⟨h0, h1, t0, t1⟩ := hx i (by omega)
      obtain ⟨z, e0, _, _⟩ := DataW.trod_int (P := Tryz.prog) Tryz.underlying3 t0
      obtain ⟨d, e1, _⟩ := DataW.trod_bool (P := Tryz.prog) Tryz.underlying4 t1
      injection e0 with e0
      injection e1 with e1
      exact ⟨(z, d), by rw [h0, e0], by rw [h1, e1]⟩)
    refine ⟨some a, (List.range len).map Z, cap, by simp, fun h0 => ?_, by simp only [List.length_map, List.length_range]; have : maxLen = 9223372036854775807 := rfl; omega, by simp only [List.length_map, List.length_range]; exact hl⟩
    simp only [List.length_map, List.length_range] at h0
    obtain ⟨b, off, rfl, hlt⟩ := addr_of (hZ 0 h0).1 (by omega)
    refine ⟨b, off, rfl, hlt, fun i hi => ?_⟩
    simp only [List.length_map, List.length_range] at hi
    have hg : ((List.range len).map Z).getD i wd = Z i := by simp [List.getD, hi]
    rw [hg]
    have := hZ i hi
    rw [add_plain, add_plain, ← Nat.add_assoc] at this
    exact this
theorem crows_open {H : Type} {enc : TypeId × Value → H} {W : World} {base : Nat} {spare : Nat → Bool} {held : Bool} {fuel : Nat} {cs : List Value} {x : DataW H × List MemPlace}
    (h : DataW.trod enc Tryz.prog W base spare held fuel 41 cs = some x) : ∃ a n c D, cs = [.slice a n c] ∧ RSeg W a n D ∧ n ≤ 9223372036854775807 ∧ ∀ i, i < n → (D i).length ≤ 9223372036854775807 := by
  rcases open_slice1 (P := Tryz.prog) Tryz.underlying41 po_r h with ⟨rfl, _⟩ | ⟨a, len, cap, m, n, V, D, Pl, rfl, hb, hl, hm, hmm, _, hx⟩
  · exact ⟨none, 0, 0, fun _ => [], rfl, fun h => absurd h (by omega), by omega, fun i hi => absurd hi (by omega)⟩
  · have hlm : len ≤ m := by rw [hmm]; split <;> omega
    obtain ⟨Z, hZ⟩ := choose_lt (α := List Wy) (n := len) (p := fun i z => ∃ ai ci, W.cell? (a.add i) = some (.slice ai z.length ci) ∧ WSeg W ai z ∧ z.length ≤ 9223372036854775807 ∧ z.length ≤ ci) (fun i hi => by
      obtain ⟨h0, t0⟩ := hx i (by omega)
      obtain ⟨ai, ws, ci, e0, hs, hl, hlc⟩ := ways_open t0
      injection e0 with e0
      exact ⟨ws, ai, ci, by rw [h0, e0], hs, hl, hlc⟩)
    refine ⟨some a, len, cap, Z, rfl, fun h0 => ?_, by have : maxLen = 9223372036854775807 := rfl; omega, fun i hi => by obtain ⟨_, _, _, _, g, _⟩ := hZ i hi; exact g⟩
    obtain ⟨a0, c0, h00, _⟩ := hZ 0 h0
    obtain ⟨b, off, rfl, hlt⟩ := addr_of h00 rfl
    refine ⟨b, off, rfl, hlt, fun i hi => ?_⟩
    obtain ⟨ai, ci, g1, g2, _, g3⟩ := hZ i hi
    rw [add_plain] at g1
    exact ⟨ai, ci, g1, g2, g3⟩
theorem add_pl (b off i : Nat) : (⟨b, off, none⟩ : Addr).add i = ⟨b, off + i, none⟩ := by
  by_cases e0 : i = 0
  · subst e0; simp [Addr.add]
  · simp [Addr.add, e0]
set_option maxRecDepth 100000 in
theorem po_outs {H : Type} {enc : TypeId × Value → H} {W : World} {base : Nat} {held : Bool} {fuel : Nat} {cs : List Value} {x : DataW H × List MemPlace}
    (h : DataW.trod enc Tryz.prog W base (fun _ => true) held fuel 46 cs = some x) : ∃ a n c H D, cs = [.slice a n c] ∧ OSeg W a n H D ∧ n ≤ 9223372036854775807 ∧ ∀ i, i < n → (D i).length ≤ 9223372036854775807 := by
  rcases open_slice (P := Tryz.prog) Tryz.underlying46 h with ⟨rfl, _⟩ | ⟨a, len, cap, m, n, D, Pl, rfl, hb, hl, hm, hmm, rfl, hx⟩
  · exact ⟨none, 0, 0, fun _ => 0, fun _ => [], rfl, fun h => absurd h (by omega), by omega, fun i hi => absurd hi (by omega)⟩
  · have hlm : len ≤ m := by rw [hmm]; split <;> omega
    obtain ⟨Z, hZ⟩ := choose_lt (α := Int × List Int) (n := len) (p := fun i z => ∃ ai ci, W.cell? (a.add (i * 2)) = some (.int .i64 z.1) ∧ W.cell? (a.add (i * 2 + 1)) = some (.slice ai z.2.length ci) ∧ Seg .u32 W ai z.2 ∧ z.2.length ≤ ci ∧ z.2.length ≤ 9223372036854775807) (fun i hi => by
      obtain ⟨cs', h1, h2⟩ := hx i (by omega)
      rw [po_oe] at h1
      obtain ⟨_, hlen, hcell⟩ := World.cells?_some h1
      obtain ⟨xs, k, hk, hxy, _, hxl, hfs⟩ := DataW.trod_struct Tryz.underlying183 h2
      obtain ⟨y0, y1, rfl⟩ := po_list2 hxl
      obtain ⟨v0, v1, rfl⟩ := po_list2 hlen
      have g0 := hfs 0 _ rfl
      have g1 := hfs 1 _ rfl
      clear hfs
      simp [cells3, po_us] at g0 g1
      obtain ⟨b0, e0, rfl, w0⟩ := DataW.trod_int Tryz.underlying3 g0
      obtain ⟨ai, zs, ci, e1, hs, hw, hl1, hc1⟩ := nums_open Tryz.underlying32 Tryz.underlying33 po_u32 g1
      injection e0 with e0
      injection e1 with e1
      subst e0 e1
      have c0 := hcell 0 (by simp)
      have c1 := hcell 1 (by simp)
      rw [add_add] at c0 c1
      exact ⟨(b0, zs), ai, ci, by simpa using c0, by simpa using c1, hs, hc1, hl1⟩)
    refine ⟨some a, len, cap, fun i => (Z i).1, fun i => (Z i).2, rfl, fun h0 => ?_, by have : maxLen = 9223372036854775807 := rfl; omega, fun i hi => by obtain ⟨_, _, _, _, _, _, g⟩ := hZ i hi; exact g⟩
    obtain ⟨a0, c0, h00, _⟩ := hZ 0 h0
    obtain ⟨b, off, rfl, hlt⟩ := addr_of h00 (by omega)
    refine ⟨b, off, rfl, hlt, fun i hi => ?_⟩
    obtain ⟨ai, ci, g1, g2, g3, g4, _⟩ := hZ i hi
    rw [add_pl] at g1 g2
    exact ⟨ai, ci, g1, by rw [Nat.add_assoc]; exact g2, g3, g4⟩
set_option maxRecDepth 100000 in
theorem po_insO {H : Type} {enc : TypeId × Value → H} {W : World} {base : Nat} {held : Bool} {fuel : Nat} {cs : List Value} {x : DataW H × List MemPlace}
    (h : DataW.trod enc Tryz.prog W base (fun _ => true) held fuel 47 cs = some x) : ∃ a n c D, cs = [.slice a n c] ∧ ISeg W a n D ∧ n ≤ 9223372036854775807 ∧ ∀ i, i < n → (D i).length ≤ 9223372036854775807 := by
  rcases open_slice (P := Tryz.prog) Tryz.underlying47 h with ⟨rfl, _⟩ | ⟨a, len, cap, m, n, D, Pl, rfl, hb, hl, hm, hmm, rfl, hx⟩
  · exact ⟨none, 0, 0, fun _ => [], rfl, fun h => absurd h (by omega), by omega, fun i hi => absurd hi (by omega)⟩
  · have hlm : len ≤ m := by rw [hmm]; split <;> omega
    obtain ⟨Z, hZ⟩ := choose_lt (α := List Int) (n := len) (p := fun i z => ∃ ai ci, W.cell? (a.add i) = some (.slice ai z.length ci) ∧ Seg .u32 W ai z ∧ z.length ≤ ci ∧ z.length ≤ 9223372036854775807) (fun i hi => by
      obtain ⟨cs', h1, h2⟩ := hx i (by omega)
      rw [po_ie] at h1
      obtain ⟨_, hlen, hcell⟩ := World.cells?_some h1
      obtain ⟨xs, k, hk, hxy, _, hxl, hfs⟩ := DataW.trod_struct Tryz.underlying186 h2
      obtain ⟨y0, rfl⟩ := po_list1 hxl
      obtain ⟨v0, rfl⟩ := po_list1 hlen
      have g0 := hfs 0 _ rfl
      clear hfs
      simp [po_us] at g0
      obtain ⟨ai, zs, ci, e1, hs, hw, hl1, hc1⟩ := nums_open Tryz.underlying32 Tryz.underlying33 po_u32 g0
      injection e1 with e1
      subst e1
      have c0 := hcell 0 (by simp)
      rw [add_add] at c0
      exact ⟨zs, ai, ci, by simpa using c0, hs, hc1, hl1⟩)
    refine ⟨some a, len, cap, Z, rfl, fun h0 => ?_, by have : maxLen = 9223372036854775807 := rfl; omega, fun i hi => by obtain ⟨_, _, _, _, _, g⟩ := hZ i hi; exact g⟩
    obtain ⟨a0, c0, h00, _⟩ := hZ 0 h0
    obtain ⟨b, off, rfl, hlt⟩ := addr_of h00 rfl
    refine ⟨b, off, rfl, hlt, fun i hi => ?_⟩
    obtain ⟨ai, ci, g1, g3, g4, _⟩ := hZ i hi
    rw [add_pl] at g1
    exact ⟨ai, ci, g1, g3, g4⟩
set_option maxRecDepth 100000 in
theorem po_devs {H : Type} {enc : TypeId × Value → H} {W : World} {base : Nat} {held : Bool} {fuel : Nat} {cs : List Value} {x : DataW H × List MemPlace}
    (h : DataW.trod enc Tryz.prog W base (fun _ => true) held fuel 48 cs = some x) : ∃ a n c D E, cs = [.slice a n c] ∧ VSeg W a n D E ∧ n ≤ 9223372036854775807 ∧ (∀ i, i < n → (D i).length ≤ 9223372036854775807) ∧ ∀ i, i < n → (E i).length ≤ 9223372036854775807 := by
  rcases open_slice (P := Tryz.prog) Tryz.underlying48 h with ⟨rfl, _⟩ | ⟨a, len, cap, m, n, D, Pl, rfl, hb, hl, hm, hmm, rfl, hx⟩
  · exact ⟨none, 0, 0, fun _ => [], fun _ => [], rfl, fun h => absurd h (by omega), by omega, fun i hi => absurd hi (by omega), fun i hi => absurd hi (by omega)⟩
  · have hlm : len ≤ m := by rw [hmm]; split <;> omega
    obtain ⟨Z, hZ⟩ := choose_lt (α := List Int × List Int) (n := len) (p := fun i z => ∃ ai ci bi di, W.cell? (a.add (i * 2)) = some (.slice ai z.1.length ci) ∧ W.cell? (a.add (i * 2 + 1)) = some (.slice bi z.2.length di) ∧ Seg .u32 W ai z.1 ∧ Seg .u32 W bi z.2 ∧ z.1.length ≤ ci ∧ z.2.length ≤ di ∧ z.1.length ≤ 9223372036854775807 ∧ z.2.length ≤ 9223372036854775807) (fun i hi => by
      obtain ⟨cs', h1, h2⟩ := hx i (by omega)
      rw [po_de] at h1
      obtain ⟨_, hlen, hcell⟩ := World.cells?_some h1
      obtain ⟨xs, k, hk, hxy, _, hxl, hfs⟩ := DataW.trod_struct Tryz.underlying188 h2
      obtain ⟨y0, y1, rfl⟩ := po_list2 hxl
      obtain ⟨v0, v1, rfl⟩ := po_list2 hlen
      have g0 := hfs 0 _ rfl
      have g1 := hfs 1 _ rfl
      clear hfs
      simp [po_us] at g0 g1
      obtain ⟨ai, zs, ci, e0, hs, hw, hl1, hc1⟩ := nums_open Tryz.underlying32 Tryz.underlying33 po_u32 g0
      obtain ⟨bi, ys, di, e1, hs2, hw2, hl2, hc2⟩ := nums_open Tryz.underlying32 Tryz.underlying33 po_u32 g1
      injection e0 with e0
      injection e1 with e1
      subst e0 e1
      have c0 := hcell 0 (by simp)
      have c1 := hcell 1 (by simp)
      rw [add_add] at c0 c1
      exact ⟨(zs, ys), ai, ci, bi, di, by simpa using c0, by simpa using c1, hs, hs2, hc1, hc2, hl1, hl2⟩)
    refine ⟨some a, len, cap, fun i => (Z i).1, fun i => (Z i).2, rfl, fun h0 => ?_, by have : maxLen = 9223372036854775807 := rfl; omega, fun i hi => by obtain ⟨_, _, _, _, _, _, _, _, _, _, g, _⟩ := hZ i hi; exact g, fun i hi => by obtain ⟨_, _, _, _, _, _, _, _, _, _, _, g⟩ := hZ i hi; exact g⟩
    obtain ⟨a0, c0, b0, d0, h00, _⟩ := hZ 0 h0
    obtain ⟨b, off, rfl, hlt⟩ := addr_of h00 (by omega)
    refine ⟨b, off, rfl, hlt, fun i hi => ?_⟩
    obtain ⟨ai, ci, bi, di, g1, g2, g3, g4, g5, g6, _⟩ := hZ i hi
    rw [add_pl] at g1 g2
    exact ⟨ai, ci, bi, di, g1, by rw [Nat.add_assoc]; exact g2, g3, g4, g5, g6⟩
set_option maxRecDepth 100000 in
set_option maxHeartbeats 4000000 in
theorem part_arg {H : Type} {enc : TypeId × Value → H} {W : World} {r : Reach} {b0 base : Nat} {held : Bool} {v : Value} {d : DataW H} {p : List MemPlace}
    (hv : Value.okWide Tryz.prog W r b0 50 v) (h : DataW.Trod enc Tryz.prog W base (fun _ => true) held 50 v d p) : ∃ y e, v = psV y ∧ PSeg W y e ∧ PLen y e := by
  obtain ⟨cs, rfl, hsz⟩ := okWide_struct Tryz.underlying50 hv
  obtain ⟨v0, v1, v2, v3, v4, v5, v6, v7, v8, v9, v10, v11, v12, v13, v14, v15, v16, v17, v18, v19, v20, v21, v22, v23, v24, v25, v26, rfl⟩ := po_array27 (hsz.trans po_ps)
  obtain ⟨fuel, hf⟩ := h
  obtain ⟨xs, n, _, hx, _, hl, hfs⟩ := DataW.trod_struct Tryz.underlying50 hf
  obtain ⟨y0, y1, y2, y3, y4, y5, y6, y7, y8, y9, y10, rfl⟩ := po_list11 hl
  have g0 := hfs 0 _ rfl
  have g1 := hfs 1 _ rfl
  have g2 := hfs 2 _ rfl
  have g3 := hfs 3 _ rfl
  have g4 := hfs 4 _ rfl
  have g5 := hfs 5 _ rfl
  have g6 := hfs 6 _ rfl
  have g7 := hfs 7 _ rfl
  have g8 := hfs 8 _ rfl
  have g9 := hfs 9 _ rfl
  have g10 := hfs 10 _ rfl
  clear hfs hf hx hsz hv
  simp [Value.cells, cells3, cells4, po_bb, po_os, po_ins, po_dvs, po_g, po_v, po_h, po_c, po_t] at g0 g1 g2 g3 g4 g5 g6 g7 g8 g9 g10
  obtain ⟨xsa, na, _, _, _, hla, hfsa⟩ := DataW.trod_struct Tryz.underlying36 g0
  obtain ⟨ay0, ay1, ay2, rfl⟩ := po_list3 hla
  have a0 := hfsa 0 _ rfl
  have a1 := hfsa 1 _ rfl
  have a2 := hfsa 2 _ rfl
  clear hfsa
  simp [po_u32, po_bb, po_us] at a0 a1 a2
  obtain ⟨ra, rs, rc, e_rs, hRs, _, hRl, hRc⟩ := nums_open Tryz.underlying32 Tryz.underlying33 po_u32 a0
  obtain ⟨pc, e_pc, _, _⟩ := DataW.trod_int Tryz.underlying33 a1
  obtain ⟨ma, mn, mc, D, e_mn, hD1, hD2, hD3, _⟩ := brows_open a2
  obtain ⟨xsb, nb, _, _, _, hlb, hfsb⟩ := DataW.trod_struct Tryz.underlying38 g1
  obtain ⟨by0, by1, by2, by3, by4, by5, by6, by7, rfl⟩ := po_list8 hlb
  have b0 := hfsb 0 _ rfl
  have b1 := hfsb 1 _ rfl
  have b2 := hfsb 2 _ rfl
  have b3 := hfsb 3 _ rfl
  have b4 := hfsb 4 _ rfl
  have b5 := hfsb 5 _ rfl
  have b6 := hfsb 6 _ rfl
  have b7 := hfsb 7 _ rfl
  clear hfsb
  simp [cells4, po_u32] at b0 b1 b2 b3 b4 b5 b6 b7
  obtain ⟨on, e_on, _⟩ := DataW.trod_bool Tryz.underlying4 b0
  obtain ⟨vv, e_vv, _, _⟩ := DataW.trod_int Tryz.underlying33 b1
  obtain ⟨vs, e_vs, _, _⟩ := DataW.trod_int Tryz.underlying33 b2
  obtain ⟨vc, e_vc, _, _⟩ := DataW.trod_int Tryz.underlying33 b3
  obtain ⟨vk, e_vk, _, _⟩ := DataW.trod_int Tryz.underlying33 b4
  obtain ⟨vt, e_vt, _⟩ := DataW.trod_bool Tryz.underlying4 b5
  obtain ⟨vn, e_vn, _⟩ := DataW.trod_bool Tryz.underlying4 b6
  obtain ⟨vp, e_vp, _, _⟩ := DataW.trod_int Tryz.underlying33 b7
  obtain ⟨xsc, nc, _, _, _, hlc, hfsc⟩ := DataW.trod_struct Tryz.underlying40 g2
  obtain ⟨cy0, cy1, cy2, cy3, rfl⟩ := po_list4 hlc
  have c0 := hfsc 0 _ rfl
  have c1 := hfsc 1 _ rfl
  have c2 := hfsc 2 _ rfl
  have c3 := hfsc 3 _ rfl
  clear hfsc
  simp [cells3, cells4] at c0 c1 c2 c3
  obtain ⟨hf, e_hf, _, _⟩ := DataW.trod_int Tryz.underlying3 c0
  obtain ⟨hr, e_hr, _, _⟩ := DataW.trod_int Tryz.underlying3 c1
  obtain ⟨hl_, e_hl_, _, _⟩ := DataW.trod_int Tryz.underlying3 c2
  obtain ⟨hh, e_hh, _⟩ := DataW.trod_bool Tryz.underlying4 c3
  obtain ⟨xsd_, nd_, _, _, _, hld_, hfsd_⟩ := DataW.trod_struct Tryz.underlying43 g3
  obtain ⟨d_y0, d_y1, rfl⟩ := po_list2 hld_
  have d_0 := hfsd_ 0 _ rfl
  have d_1 := hfsd_ 1 _ rfl
  clear hfsd_
  simp [po_sh, po_q] at d_0 d_1
  obtain ⟨xss, ns, _, _, _, hls, hfss⟩ := DataW.trod_struct Tryz.underlying23 d_0
  obtain ⟨sy0, sy1, sy2, rfl⟩ := po_list3 hls
  have s0 := hfss 0 _ rfl
  have s1 := hfss 1 _ rfl
  have s2 := hfss 2 _ rfl
  clear hfss
  simp [cells3] at s0 s1 s2
  obtain ⟨cs_, e_cs_, _, _⟩ := DataW.trod_int Tryz.underlying3 s0
  obtain ⟨cy, e_cy, _, _⟩ := DataW.trod_int Tryz.underlying3 s1
  obtain ⟨cl, e_cl, _, _⟩ := DataW.trod_int Tryz.underlying3 s2
  obtain ⟨ka, kn, kc, E, e_kn, hE1, hE2, hE3⟩ := crows_open d_1
  obtain ⟨xst_, nt_, _, _, _, hlt_, hfst_⟩ := DataW.trod_struct Tryz.underlying45 g4
  obtain ⟨t_y0, t_y1, rfl⟩ := po_list2 hlt_
  have t_0 := hfst_ 0 _ rfl
  have t_1 := hfst_ 1 _ rfl
  clear hfst_
  simp [cells3, po_is] at t_0 t_1
  obtain ⟨ts, e_ts, _, _⟩ := DataW.trod_int Tryz.underlying3 t_0
  obtain ⟨ta, zs, tc, e_zs, hZ1, _, hZ2, hZ3⟩ := nums_open Tryz.underlying27 Tryz.underlying3 cells3 t_1
  obtain ⟨nx, e_nx, _, _⟩ := DataW.trod_int Tryz.underlying3 g5
  obtain ⟨idle, e_idle, _⟩ := DataW.trod_bool Tryz.underlying4 g6
  obtain ⟨ba, bn, bc, Fb, e_bn, hF1, hF2, hF3, _⟩ := brows_open g7
  obtain ⟨oa, un, uc, HH, G, e_un, hO1, hO2, hO3⟩ := po_outs g8
  obtain ⟨ia, jn, jc, I, e_jn, hI1, hI2, hI3⟩ := po_insO g9
  obtain ⟨da, dn, dc, U, V, e_dn, hU1, hU2, hU3, hU4⟩ := po_devs g10
  injection e_rs with e_rs
  injection e_pc with e_pc
  injection e_mn with e_mn
  injection e_on with e_on
  injection e_vv with e_vv
  injection e_vs with e_vs
  injection e_vc with e_vc
  injection e_vk with e_vk
  injection e_vt with e_vt
  injection e_vn with e_vn
  injection e_vp with e_vp
  injection e_hf with e_hf
  injection e_hr with e_hr
  injection e_hl_ with e_hl_
  injection e_hh with e_hh
  injection e_cs_ with e_cs_
  injection e_cy with e_cy
  injection e_cl with e_cl
  injection e_kn with e_kn
  injection e_ts with e_ts
  injection e_zs with e_zs
  injection e_nx with e_nx
  injection e_idle with e_idle
  injection e_bn with e_bn
  injection e_un with e_un
  injection e_jn with e_jn
  injection e_dn with e_dn
  subst e_rs e_pc e_mn e_on e_vv e_vs e_vc e_vk e_vt e_vn e_vp e_hf e_hr e_hl_ e_hh e_cs_ e_cy e_cl e_kn e_ts e_zs e_nx e_idle e_bn e_un e_jn e_dn
  exact ⟨⟨ra, (List.length rs), rc, pc, ma, mn, mc, on, vv, vs, vc, vk, vt, vn, vp, hf, hr, hl_, hh, cs_, cy, cl, ka, kn, kc, ts, ta, (List.length zs), tc, nx, idle, ba, bn, bc, oa, un, uc, ia, jn, jc, da, dn, dc⟩, ⟨rs, D, E, zs, Fb, HH, G, I, U, V⟩, rfl, ⟨hRs, hD1, hE1, hZ1, hF1, hO1, hI1, hU1⟩, ⟨rfl, rfl, hRl, hD2, hE2, hZ2, hF2, hO2, hI2, hU2, hD3, hE3, hF3, hO3, hI3, hU3, hU4⟩⟩
end Go.Proofs.YtknipnenipdgiaaGreatDoor
