
/-
  Lists of rows of a feed that come in as an argument. No conditions.
-/
import Derived.Test.YtiheojmknhgjfaaGreatDoorBas
import Derived.Test.YtiheojmknhgjfaaGreatDoorProg
import Derived.Test.YtiheojmknhgjfaaGreatDoorFdl
import Derived.Test.YtiheojmknhgjfaaGreatDoorOpn
import Derived.ChangeSlices
import Derived.OpenShut
namespace Go.Proofs.YtiheojmknhgjfaaGreatDoor
open Go.ChangeShapes Go.WideShapes Go.ChangeAt Go.RowKit Go.Joins Go.Deep
set_option linter.unusedVariables false

set_option maxRecDepth 100000 in
theorem feeds_open {H : Type} {enc : TypeId × Value → H} {W : World} {base : Nat} {held : Bool} {fuel : Nat} {cs : List Value} {x : DataW H × List MemPlace}
    (h : DataW.trod enc Tryz.prog W base (fun _ => true) held fuel 32 cs = some x) : ∃ a n c ps Y, cs = [.slice a n c] ∧ FSegL 0 W a n ps Y ∧ ps.length = n ∧ n ≤ 9223372036854775807 ∧ ∀ i, i < n → (Y i).wn ≤ 9223372036854775807 := by
  haveI : Inhabited (Fd × Fr) := ⟨(fd0, ⟨0, 0, 0, 0, none, 0, 0⟩)⟩
  rcases open_slice (P := Tryz.prog) Tryz.underlying32 h with ⟨rfl, _⟩ | ⟨a, len, cap, m, n, D, Pl, rfl, hb, hl, hm, hmm, rfl, hx⟩
  · exact ⟨none, 0, 0, [], fun _ => ⟨0, 0, 0, 0, none, 0, 0⟩, rfl, ⟨(show GSeg 5 W none 0 _ from fun h => absurd h (by simp)).low, fun i hi => absurd hi (by simp)⟩, rfl, by simp, fun i hi => absurd hi (by simp)⟩
  · have hlm : len ≤ m := by rw [hmm]; split <;> omega
    obtain ⟨Z, hZ⟩ := choose_lt (α := Fd × Fr) (n := len) (p := fun i z => (∀ j v, (frL z.2)[j]? = some v → W.cell? (a.add (i * 5 + j)) = some v) ∧ FGood 0 W z.2 z.1 ∧ z.2.wn ≤ 9223372036854775807) (fun i hi => by
      obtain ⟨cs', h1, h2⟩ := hx i (by omega)
      rw [fd_lcells] at h1
      obtain ⟨_, hlen, hcell⟩ := World.cells?_some h1
      obtain ⟨xs, k, hk, hxy, _, hxl, hfs⟩ := DataW.trod_struct Tryz.underlying63 h2
      obtain ⟨y0, y1, y2, y3, y4, rfl⟩ := fd_list5 hxl
      obtain ⟨v0, v1, v2, v3, v4, rfl⟩ := fd_list5 hlen
      have g0 := hfs 0 _ rfl
      have g1 := hfs 1 _ rfl
      have g2 := hfs 2 _ rfl
      have g3 := hfs 3 _ rfl
      have g4 := hfs 4 _ rfl
      clear hfs
      simp [cells3, fd_cellsW] at g0 g1 g2 g3 g4
      obtain ⟨b0, e0, rfl, w0⟩ := DataW.trod_int Tryz.underlying3 g0
      obtain ⟨b1, e1, rfl, w1⟩ := DataW.trod_int Tryz.underlying3 g1
      obtain ⟨b2, e2, rfl, w2⟩ := DataW.trod_int Tryz.underlying3 g2
      obtain ⟨b3, e3, rfl, w3⟩ := DataW.trod_int Tryz.underlying3 g3
      obtain ⟨wa, wn, wc, ws, e4, hsg, hwl, hwb⟩ := un_open g4
      injection e0 with e0
      injection e1 with e1
      injection e2 with e2
      injection e3 with e3
      injection e4 with e4
      subst e0 e1 e2 e3 e4
      have hcap := cap_of Tryz.underlying61 g4
      refine ⟨(⟨b0, b1, b2, b3, ws⟩, ⟨b0, b1, b2, b3, wa, wn, wc⟩), fun j v hj => ?_, ⟨rfl, rfl, rfl, rfl, hwl, hcap, hsg.low⟩, hwb⟩
      have c := hcell j (by
        have := (List.getElem?_eq_some_iff.1 hj).1
        simpa [frL] using this)
      rw [add_add] at c
      rw [c]
      exact hj)
    have hg : ∀ i, i < len → ((List.range len).map fun i => (Z i).1).getD i fd0 = (Z i).1 := fun i hi => by simp [List.getD, hi]
    refine ⟨some a, len, cap, (List.range len).map fun i => (Z i).1, fun i => (Z i).2, rfl, ⟨(show GSeg 5 W (some a) len _ from fun h0 => ?_).low, fun i hi => ?_⟩, by simp, by have : maxLen = 9223372036854775807 := rfl; omega, fun i hi => (hZ i hi).2.2⟩
    · obtain ⟨b, off, rfl, hlt⟩ := addr_of ((hZ 0 h0).1 0 _ rfl) (by omega)
      refine ⟨b, off, rfl, hlt, fun i hi j v hj => ?_⟩
      have := (hZ i hi).1 j v hj
      rw [add_plain, ← Nat.add_assoc] at this
      exact this
    · rw [hg i hi]; exact (hZ i hi).2.1
set_option maxRecDepth 100000 in
theorem feeds_arg {H : Type} {enc : TypeId × Value → H} {W : World} {r : Reach} {b0 base : Nat} {held : Bool} {v : Value} {d : DataW H} {p : List MemPlace}
    (hv : Value.okWide Tryz.prog W r b0 32 v) (h : DataW.Trod enc Tryz.prog W base (fun _ => true) held 32 v d p) :
    ∃ a n c ps Y, v = .slice a n c ∧ FSegL 0 W a n ps Y ∧ n ≤ 9223372036854775807 ∧ ∀ i, i < n → (Y i).wn ≤ 9223372036854775807 := by
  obtain ⟨a, len, cap, rfl⟩ := okWide_slice Tryz.underlying32 hv
  obtain ⟨fuel, hf⟩ := h
  obtain ⟨a', n, c, ps, Y, e, hs, _, hn, hw⟩ := feeds_open hf
  simp [Value.cells] at e
  obtain ⟨rfl, rfl, rfl⟩ := e
  exact ⟨_, _, _, ps, Y, rfl, hs, hn, hw⟩
end Go.Proofs.YtiheojmknhgjfaaGreatDoor
