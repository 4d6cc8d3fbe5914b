
/-
  One op of a channel's run by the program, whatever its kind: what the plain function says. Conditions: the kind is one of the four, the words of both ends are few and read as words.
-/
import Derived.Test.YtoofjlfbedjbnaaRows
import Derived.Test.YtoofjlfbedjbnaaDor
import Derived.Test.YtoofjlfbedjbnaaDob
namespace Go.Proofs.Ytoofjlfbedjbnaa
open Go.ChangeShapes Go.WideShapes Go.ChangeAt Go.RowKit Go.Deep
set_option linter.unusedVariables false

/-- Words in a block other than two. -/
def SegN (w : World) (b1 b2 : Nat) (a : Option Addr) (zs : List Int) : Prop :=
  0 < zs.length → ∃ b off, a = some ⟨b, off, none⟩ ∧ b < w.heap.size ∧ b ≠ b1 ∧ b ≠ b2 ∧ ∀ i, i < zs.length → w.cell? ⟨b, off + i, none⟩ = some (.int .u32 (zs.getD i 0))
theorem SegN.seg {w : World} {b1 b2 : Nat} {a : Option Addr} {zs : List Int} (h : SegN w b1 b2 a zs) : Seg .u32 w a zs := fun h0 => by
  obtain ⟨b, off, e, hlt, _, _, hc⟩ := h h0
  exact ⟨b, off, e, hlt, hc⟩
theorem SegN.nil (w : World) (b1 b2 : Nat) (a : Option Addr) : SegN w b1 b2 a [] := fun h => absurd h (by simp)
theorem SegN.betw1 {w w' : World} {b1 b2 : Nat} {a : Option Addr} {zs : List Int} (h : SegN w b1 b2 a zs) (hb : Betw b1 (b1 + 1) w w') : SegN w' b1 b2 a zs := fun h0 => by
  obtain ⟨b, off, e, hlt, n1, n2, hc⟩ := h h0
  exact ⟨b, off, e, Nat.lt_of_lt_of_le hlt hb.size, n1, n2, fun i hi => (hb.cell (p := ⟨b, off + i, none⟩) hlt (by simp; omega)).trans (hc i hi)⟩
theorem SegN.betw2 {w w' : World} {b1 b2 : Nat} {a : Option Addr} {zs : List Int} (h : SegN w b1 b2 a zs) (hb : Betw b2 (b2 + 1) w w') : SegN w' b1 b2 a zs := fun h0 => by
  obtain ⟨b, off, e, hlt, n1, n2, hc⟩ := h h0
  exact ⟨b, off, e, Nat.lt_of_lt_of_le hlt hb.size, n1, n2, fun i hi => (hb.cell (p := ⟨b, off + i, none⟩) hlt (by simp; omega)).trans (hc i hi)⟩
theorem SegN.below {w w' : World} {b1 b2 : Nat} {a : Option Addr} {zs : List Int} (h : SegN w b1 b2 a zs) (hb : Below w.heap.size w w') : SegN w' b1 b2 a zs := h.betw1 (Below.betw hb)
theorem OE.segn {w : World} {lo hi b1 b2 : Nat} {a : Option Addr} {zs : List Int} (h : OE w lo hi a zs) (h1 : b1 < lo) (h2 : b2 < lo) : SegN w b1 b2 a zs := fun h0 => by
  obtain ⟨R, hR⟩ := h
  obtain ⟨off, e, g1, g2, g3, g4, g5⟩ := hR h0
  exact ⟨R, off, e, g3, by omega, by omega, g4⟩
/-- The run in memory: its row, its two lists. -/
structure RS (w : World) (bC bS : Nat) (k f t d : Int) (s : Chs) (a1 : Option Addr) (c1 : Nat) (a2 : Option Addr) (c2 : Nat) : Prop where
  row : Bk w bC (rnr k f t d s.1 a1 s.2.1.length c1 a2 s.2.2.length c2)
  l1 : SegN w bC bS a1 s.2.1
  l2 : SegN w bC bS a2 s.2.2
  cap : s.2.2.length ≤ c2
theorem RS.below {w w' : World} {bC bS : Nat} {k f t d : Int} {s : Chs} {a1 : Option Addr} {c1 : Nat} {a2 : Option Addr} {c2 : Nat} (h : RS w bC bS k f t d s a1 c1 a2 c2) (hb : Below w.heap.size w w') : RS w' bC bS k f t d s a1 c1 a2 c2 :=
  ⟨h.row.below hb, h.l1.below hb, h.l2.below hb, h.cap⟩
theorem RS.said {w w' : World} {bC bS : Nat} {k f t d : Int} {s : Chs} {a1 : Option Addr} {c1 : Nat} {a2 : Option Addr} {c2 : Nat} (h : RS w bC bS k f t d s a1 c1 a2 c2) (hb : Betw bS (bS + 1) w w') (hn : bC ≠ bS) : RS w' bC bS k f t d s a1 c1 a2 c2 :=
  ⟨h.row.betw hb (by omega), h.l1.betw2 hb, h.l2.betw2 hb, h.cap⟩
theorem impl_do (bC bS : Nat) (k f t d : Int) (s : Chs) (a1 : Option Addr) (c1 : Nat) (a2 : Option Addr) (c2 : Nat) (op : Cp) (w : World) (h : RS w bC bS k f t d s a1 c1 a2 c2) (hS : bS < w.heap.size) (hf : Few s) (h0 : 0 ≤ op.1) (h3 : op.1 ≤ 3) :
    Calls Try.prog 76 #[.pointer (some ⟨bC, 0, none⟩), cpv op.1 op.2] w fun e w' => e = .returned (cpv (stpF k f t d s op).2.1 (stpF k f t d s op).2.2) ∧ Betw bC (bC + 1) w w' ∧ ∃ a1' c1' a2' c2', RS w' bC bS k f t d (stpF k f t d s op).1 a1' c1' a2' c2' := by
  obtain ⟨h1, zs, rs⟩ := s
  obtain ⟨kd, x⟩ := op
  have hC := h.row.lt
  simp only at h0 h3 hf
  have hcs : kd = 0 ∨ kd = 1 ∨ kd = 2 ∨ kd = 3 := by omega
  rcases hcs with rfl | rfl | rfl | rfl
  · refine (impl_do0 bC k f t d h1 a1 zs.length c1 a2 rs.length c2 x w h.row zs _ _ _ h.l1.seg rfl hf.1 rfl).mono ?_
    rintro e w' ⟨a', c', he, hb, hk, ho⟩
    exact ⟨he, hb, a', c', a2, c2, hk, ho.segn hC hS, h.l2.betw1 hb, h.cap⟩
  · refine (impl_do1 bC k f t d h1 a1 zs.length c1 a2 rs.length c2 x w h.row rs _ _ _ h.l2.seg rfl hf.2 h.cap rfl).mono ?_
    rintro e w' ⟨a', c', he, hb, hk, ho, hc⟩
    exact ⟨he, hb, a1, c1, a', c', hk, h.l1.betw1 hb, ho.segn hC hS, hc⟩
  · refine (impl_do2 bC k f t d h1 a1 zs.length c1 a2 rs.length c2 x w h.row zs rs _ _ _ h.l1.seg rfl hf.1 h.l2.seg rfl hf.2 rfl).mono ?_
    rintro e w' ⟨a', c', he, hb, hk, ho, hc⟩
    exact ⟨he, hb, none, 0, a', c', hk, SegN.nil _ _ _ _, ho.segn hC hS, hc⟩
  · refine (impl_do3 bC k f t d h1 a1 zs.length c1 a2 rs.length c2 x _ w h.row rfl hf.1).mono ?_
    rintro e w' ⟨he, hb, hk⟩
    exact ⟨he, hb, none, 0, a2, c2, hk, SegN.nil _ _ _ _, h.l2.betw1 hb, h.cap⟩
end Go.Proofs.Ytoofjlfbedjbnaa
