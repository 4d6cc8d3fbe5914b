
/-
  Tables that come in, and how they are read: numbers, and lists that lie in memory. No function of the program in sight; no conditions but those that each fact names.
-/
import Derived.Test.YtphdijkpjjokaaaGreatDoorBas
import Derived.Test.YtphdijkpjjokaaaGreatDoorTbe
import Derived.Test.YtphdijkpjjokaaaGreatDoorCrs
import Derived.Test.YtphdijkpjjokaaaGreatDoorWns
import Derived.Test.YtphdijkpjjokaaaGreatDoorIns
import Derived.Deep.SlicePairs
import Derived.Lib.SmallJoins
import Derived.ProofKit
import Derived.OpenShut
namespace Go.Proofs.YtphdijkpjjokaaaGreatDoor
open Go.ChangeShapes Go.WideShapes Go.ChangeAt Go.RowKit Go.Deep Go.Joins
set_option linter.unusedVariables false

theorem list5 {α : Type} {cs : List α} (h : cs.length = 5) : ∃ c0 c1 c2 c3 c4, cs = [c0, c1, c2, c3, c4] := by
  match cs, h with
  | [c0, c1, c2, c3, c4], _ => exact ⟨c0, c1, c2, c3, c4, rfl⟩
theorem list7 {α : Type} {cs : List α} (h : cs.length = 7) : ∃ c0 c1 c2 c3 c4 c5 c6, cs = [c0, c1, c2, c3, c4, c5, c6] := by
  match cs, h with
  | [c0, c1, c2, c3, c4, c5, c6], _ => exact ⟨c0, c1, c2, c3, c4, c5, c6, rfl⟩
theorem list11 {α : Type} {cs : List α} (h : cs.length = 11) : ∃ c0 c1 c2 c3 c4 c5 c6 c7 c8 c9 c10, cs = [c0, c1, c2, c3, c4, c5, c6, c7, c8, c9, c10] := by
  match cs, h with
  | [c0, c1, c2, c3, c4, c5, c6, c7, c8, c9, c10], _ => exact ⟨c0, c1, c2, c3, c4, c5, c6, c7, c8, c9, c10, rfl⟩
theorem array19 {α : Type} {cs : Array α} (h : cs.size = 19) : ∃ c0 c1 c2 c3 c4 c5 c6 c7 c8 c9 c10 c11 c12 c13 c14 c15 c16 c17 c18, cs = #[c0, c1, c2, c3, c4, c5, c6, c7, c8, c9, c10, c11, c12, c13, c14, c15, c16, c17, c18] := by
  obtain ⟨l⟩ := cs
  match l, h with
  | [c0, c1, c2, c3, c4, c5, c6, c7, c8, c9, c10, c11, c12, c13, c14, c15, c16, c17, c18], _ => exact ⟨c0, c1, c2, c3, c4, c5, c6, c7, c8, c9, c10, c11, c12, c13, c14, c15, c16, c17, c18, rfl⟩
theorem pt_lcells : Tryz.prog.cellsOf 96 = 5 := by kernel_rfl
theorem cells_po : Tryz.prog.cellsOf 93 = 2 := by kernel_rfl
theorem cells_ws : Tryz.prog.cellsOf 94 = 1 := by kernel_rfl
theorem cells_st : Tryz.prog.cellsOf 9 = 1 := by kernel_rfl
theorem cells_sh : Tryz.prog.cellsOf 23 = 3 := by kernel_rfl
theorem cells_co : Tryz.prog.cellsOf 25 = 7 := by kernel_rfl
theorem cells_ps : Tryz.prog.cellsOf 26 = 1 := by kernel_rfl
theorem cells_ds : Tryz.prog.cellsOf 27 = 1 := by kernel_rfl
theorem cells_cs : Tryz.prog.cellsOf 28 = 1 := by kernel_rfl
theorem cells_ss : Tryz.prog.cellsOf 29 = 1 := by kernel_rfl
theorem cells_tb : Tryz.prog.cellsOf 31 = 19 := by kernel_rfl
theorem cap_of {H : Type} {enc : TypeId × Value → H} {P : Program} {W : World} {base : Nat} {spare : Nat → Bool} {held : Bool} {fuel : Nat} {t e : TypeId} {a : Option Addr} {n c : Nat} {x : DataW H × List MemPlace} (ht : P.underlying t = some (.slice e))
    (h : DataW.trod enc P W base spare held fuel t [.slice a n c] = some x) : n ≤ c := by
  rcases open_slice ht h with ⟨e1, _⟩ | ⟨a', len, cap, m, n', D, Pl, e1, hb, hl, _⟩
  · simp at e1; omega
  · simp at e1; omega
def ptrw0 : Pt × Rw := (pt0, ⟨ByteArray.empty, 0, 0, 0, none, 0, 0⟩)
set_option maxRecDepth 100000 in
theorem parts_open {H : Type} {enc : TypeId × Value → H} {W : World} {base : Nat} {spare : Nat → Bool} {held : Bool} {fuel : Nat} {cs : List Value} {x : DataW H × List MemPlace}
    (h : DataW.trod enc Tryz.prog W base spare held fuel 26 cs = some x) : ∃ a n c ps Y, cs = [.slice a n c] ∧ PSegL 0 W a n ps Y ∧ ps.length = n ∧ n ≤ 9223372036854775807 ∧ (∀ i, i < n → (Y i).wn ≤ 9223372036854775807 ∧ (Y i).nm.size ≤ 9223372036854775807) ∧ (∀ i, i < n → ∀ j, j < (ps.getD i pt0).ws.length → ((ps.getD i pt0).ws.getD j wi0).2.1 ≤ 9223372036854775807) := by
  haveI : Inhabited (Pt × Rw) := ⟨ptrw0⟩
  rcases open_slice (P := Tryz.prog) Tryz.underlying26 h with ⟨rfl, _⟩ | ⟨a, len, cap, m, n, D, Pl, rfl, hb, hl, hm, hmm, rfl, hx⟩
  · exact ⟨none, 0, 0, [], fun _ => ptrw0.2, rfl, ⟨(show GSeg 5 W none 0 _ from fun h => absurd h (by simp)).low, fun i hi => absurd hi (by simp), fun g => absurd g (Nat.lt_irrefl _)⟩, rfl, by simp, fun i hi => absurd hi (by simp), fun i hi => absurd hi (by simp)⟩
  · have hlm : len ≤ m := by rw [hmm]; split <;> omega
    obtain ⟨Z, hZ⟩ := choose_lt (α := Pt × Rw) (n := len) (p := fun i z => (∀ j v, (rwL z.2)[j]? = some v → W.cell? (a.add (i * 5 + j)) = some v) ∧ Good 0 W z.2 z.1 ∧ (z.2.wn ≤ 9223372036854775807 ∧ z.2.nm.size ≤ 9223372036854775807) ∧ ∀ j, j < z.1.ws.length → (z.1.ws.getD j wi0).2.1 ≤ 9223372036854775807) (fun i hi => by
      obtain ⟨cs', h1, h2⟩ := hx i (by omega)
      rw [pt_lcells] at h1
      obtain ⟨_, hlen, hcell⟩ := World.cells?_some h1
      obtain ⟨xs, k, hk, hxy, _, hxl, hfs⟩ := DataW.trod_struct Tryz.underlying96 h2
      obtain ⟨y0, y1, y2, y3, rfl⟩ := list4 hxl
      obtain ⟨v0, v1, v2, v3, v4, rfl⟩ := list5 hlen
      have g0 := hfs 0 _ rfl
      have g1 := hfs 1 _ rfl
      have g2 := hfs 2 _ rfl
      have g3 := hfs 3 _ rfl
      clear hfs
      simp [cells3, cells_st, cells_po, cells_ws] at g0 g1 g2 g3
      obtain ⟨s, e0, rfl, w0⟩ := DataW.trod_string Tryz.underlying9 g0
      obtain ⟨b1, e1, rfl, w1⟩ := DataW.trod_int Tryz.underlying3 g1
      obtain ⟨zs, k2, _, _, _, hzl, hgs⟩ := DataW.trod_struct Tryz.underlying93 g2
      obtain ⟨z0, z1, rfl⟩ := list2 hzl
      have p0 := hgs 0 _ rfl
      have p1 := hgs 1 _ rfl
      clear hgs
      simp [cells3] at p0 p1
      obtain ⟨b2, e2, rfl, w2⟩ := DataW.trod_int Tryz.underlying3 p0
      obtain ⟨b3, e3, rfl, w3⟩ := DataW.trod_int Tryz.underlying3 p1
      obtain ⟨wa, wn, wc, ws, e4, hsg, hwl, hwb, hwf⟩ := wi_open g3
      injection e0 with e0
      injection e1 with e1
      injection e2 with e2
      injection e3 with e3
      injection e4 with e4
      subst e0 e1 e2 e3 e4
      have hcap := cap_of Tryz.underlying94 g3
      have hmx : maxLen = 9223372036854775807 := rfl
      refine ⟨(⟨s, b1, b2, b3, ws⟩, ⟨s, b1, b2, b3, wa, wn, wc⟩), fun j v hj => ?_, ⟨rfl, rfl, rfl, rfl, hwl, hcap, hsg.low⟩, ⟨hwb, by show s.size ≤ _; omega⟩, fun j hj => (hwf j (by rw [← hwl]; exact hj)).2.1.1⟩
      have c := hcell j (by
        have := (List.getElem?_eq_some_iff.1 hj).1
        simpa [rwL] using this)
      rw [add_add] at c
      rw [c]
      exact hj)
    have hg : ∀ i, i < len → ((List.range len).map fun i => (Z i).1).getD i pt0 = (Z i).1 := fun i hi => by simp [List.getD, hi]
    refine ⟨some a, len, cap, (List.range len).map fun i => (Z i).1, fun i => (Z i).2, rfl, ⟨(show GSeg 5 W (some a) len _ from fun h0 => ?_).low, fun i hi => ?_, fun g => absurd g (Nat.lt_irrefl _)⟩, by simp, by have : maxLen = 9223372036854775807 := rfl; omega, fun i hi => (hZ i hi).2.2.1, fun i hi j hj => ?_⟩
    · obtain ⟨b, off, rfl, hlt⟩ := addr_of ((hZ 0 h0).1 0 _ rfl) (by omega)
      refine ⟨b, off, rfl, hlt, fun i hi j v hj => ?_⟩
      have := (hZ i hi).1 j v hj
      rw [add_plain, ← Nat.add_assoc] at this
      exact this
    · rw [hg i hi]; exact (hZ i hi).2.1
    · rw [hg i hi] at hj ⊢; exact (hZ i hi).2.2.2 j hj
set_option maxRecDepth 100000 in
set_option maxHeartbeats 2000000 in
theorem tab_open {H : Type} {enc : TypeId × Value → H} {W : World} {r : Reach} {b0 base : Nat} {held : Bool} {v : Value} {d : DataW H} {p : List MemPlace}
    (hv : Value.okWide Tryz.prog W r b0 31 v) (h : DataW.Trod enc Tryz.prog W base (fun _ => true) held 31 v d p) : ∃ t a, v = tbV t a ∧ TM 0 W t a ∧ TW t a := by
  obtain ⟨cs, rfl, hsz⟩ := okWide_struct Tryz.underlying31 hv
  obtain ⟨v0, v1, v2, v3, v4, v5, v6, v7, v8, v9, v10, v11, v12, v13, v14, v15, v16, v17, v18, rfl⟩ := array19 (hsz.trans cells_tb)
  obtain ⟨fuel, hf⟩ := h
  obtain ⟨xs, n, _, hx, _, hl, hfs⟩ := DataW.trod_struct Tryz.underlying31 hf
  obtain ⟨y0, y1, y2, y3, y4, y5, y6, y7, y8, y9, y10, rfl⟩ := list11 hl
  have g0 := hfs 0 _ rfl
  have g1 := hfs 1 _ rfl
  have g2 := hfs 2 _ rfl
  have g3 := hfs 3 _ rfl
  have g4 := hfs 4 _ rfl
  have g5 := hfs 5 _ rfl
  have g6 := hfs 6 _ rfl
  have g7 := hfs 7 _ rfl
  have g8 := hfs 8 _ rfl
  have g9 := hfs 9 _ rfl
  have g10 := hfs 10 _ rfl
  clear hfs hf hx hsz hv
  simp [Value.cells, cells3, cells_sh, cells_co, cells_ps, cells_ds, cells_cs, cells_ss] at g0 g1 g2 g3 g4 g5 g6 g7 g8 g9 g10
  obtain ⟨mem, e0, _, _⟩ := DataW.trod_int Tryz.underlying3 g0
  obtain ⟨tlb, e1, _, _⟩ := DataW.trod_int Tryz.underlying3 g2
  obtain ⟨pad, e2, _, _⟩ := DataW.trod_int Tryz.underlying3 g4
  obtain ⟨grd, e3, _, _⟩ := DataW.trod_int Tryz.underlying3 g5
  obtain ⟨maj, e4, _, _⟩ := DataW.trod_int Tryz.underlying3 g6
  obtain ⟨xs1, n1, _, _, _, hl1, hfs1⟩ := DataW.trod_struct Tryz.underlying23 g1
  obtain ⟨q0, q1, q2, rfl⟩ := list3 hl1
  have s0 := hfs1 0 _ rfl
  have s1 := hfs1 1 _ rfl
  have s2 := hfs1 2 _ rfl
  simp [cells3] at s0 s1 s2
  obtain ⟨sh0, es0, _, _⟩ := DataW.trod_int Tryz.underlying3 s0
  obtain ⟨sh1, es1, _, _⟩ := DataW.trod_int Tryz.underlying3 s1
  obtain ⟨sh2, es2, _, _⟩ := DataW.trod_int Tryz.underlying3 s2
  obtain ⟨xs2, n2, _, _, _, hl2, hfs2⟩ := DataW.trod_struct Tryz.underlying25 g3
  obtain ⟨u0, u1, u2, u3, u4, u5, u6, rfl⟩ := list7 hl2
  have k0 := hfs2 0 _ rfl
  have k1 := hfs2 1 _ rfl
  have k2 := hfs2 2 _ rfl
  have k3 := hfs2 3 _ rfl
  have k4 := hfs2 4 _ rfl
  have k5 := hfs2 5 _ rfl
  have k6 := hfs2 6 _ rfl
  simp [cells3] at k0 k1 k2 k3 k4 k5 k6
  obtain ⟨co0, ek0, _, _⟩ := DataW.trod_int Tryz.underlying3 k0
  obtain ⟨co1, ek1, _, _⟩ := DataW.trod_int Tryz.underlying3 k1
  obtain ⟨co2, ek2, _, _⟩ := DataW.trod_int Tryz.underlying3 k2
  obtain ⟨co3, ek3, _, _⟩ := DataW.trod_int Tryz.underlying3 k3
  obtain ⟨co4, ek4, _, _⟩ := DataW.trod_int Tryz.underlying3 k4
  obtain ⟨co5, ek5, _, _⟩ := DataW.trod_int Tryz.underlying3 k5
  obtain ⟨co6, ek6, _, _⟩ := DataW.trod_int Tryz.underlying3 k6
  obtain ⟨pa, pn, pc, ps, Y, ep, hp, hpl, hpb, hpw, hpf⟩ := parts_open g7
  obtain ⟨da, dn, dc, ds, ed, hd, hdl, hdb⟩ := in_open g8
  obtain ⟨ca, cn, cc, chs, ec, hc, hcl, hcb, _⟩ := ch_open g9
  obtain ⟨sa, sn, sc, ss, es, hs, hsl, hsb, hsf⟩ := sl_open g10
  injection e0 with e0
  injection e1 with e1
  injection e2 with e2
  injection e3 with e3
  injection e4 with e4
  injection es0 with es0
  injection es1 with es1
  injection es2 with es2
  injection ek0 with ek0
  injection ek1 with ek1
  injection ek2 with ek2
  injection ek3 with ek3
  injection ek4 with ek4
  injection ek5 with ek5
  injection ek6 with ek6
  injection ep with ep
  injection ed with ed
  injection ec with ec
  injection es with es
  subst e0 e1 e2 e3 e4 es0 es1 es2 ek0 ek1 ek2 ek3 ek4 ek5 ek6 ep ed ec es
  exact ⟨⟨mem, sh0, sh1, sh2, tlb, co0, co1, co2, co3, co4, co5, co6, pad, grd, maj, ps, ds, chs, ss⟩, ⟨pa, pn, pc, da, dn, dc, ca, cn, cc, sa, sn, sc, Y⟩, rfl, ⟨hp, hd.low, hc.low, hs.low⟩, ⟨hpl, hdl, hcl, hsl, hpb, hdb, hcb, hsb, hpw, hpf, fun i hi => (hsf i hi).2.1⟩⟩
end Go.Proofs.YtphdijkpjjokaaaGreatDoor
