/-
  Blocks of a call's own, while a cursor is turned and other blocks are written: plain facts on worlds. No function of the program in sight; no conditions but those that each fact names.
-/
import Derived.Test.YtikaekmnclgflaaDoorDraws
namespace Go.Proofs.YtikaekmnclgflaaDoor
open Go.ChangeShapes Go.WideShapes Go.ChangeAt Go.RowKit Go.Deep
set_option linter.unusedVariables false

theorem Turn.set_new {B : Nat} {a w : World} (h : Turn B a w) (k o : Nat) (v : Value) (hk : a.heap.size ≤ k) : Turn B a (w.setCell ⟨k, o, none⟩ v) := by
  have hb : Below a.heap.size w (w.setCell ⟨k, o, none⟩ v) := (Below.refl _ w).setCell (p := ⟨k, o, none⟩) hk v
  exact ⟨hb.os.trans h.os, hb.tape.trans h.tape, hb.output.trans h.output, Nat.le_trans h.size hb.size, fun j hj hn => (hb.block j hj).trans (h.block j hj hn)⟩
theorem Cur.set_other {w : World} {B : Nat} {a : Option Addr} {zs : List Int} {cap : Nat} (h : Cur w B a zs cap) (k o : Nat) (v : Value) (hne : k ≠ B) (hs : ∀ b off, a = some ⟨b, off, none⟩ → 0 < zs.length → b ≠ k) : Cur (w.setCell ⟨k, o, none⟩ v) B a zs cap := by
  have hx : ∀ i, (w.setCell ⟨k, o, none⟩ v).cell? ⟨B, i, none⟩ = w.cell? ⟨B, i, none⟩ := fun i => World.cell?_setCell_other _ _ _ _ (by intro c; injection c with c1 c2 c3; exact hne c1)
  obtain ⟨i, hi, e1⟩ := h.c1
  obtain ⟨x, e2⟩ := h.c2
  exact ⟨by simpa using h.lt, (hx 0).trans h.c0, ⟨i, hi, (hx 1).trans e1⟩, ⟨x, (hx 2).trans e2⟩, fun i => by simpa using h.free i, h.seg.turn ((Turn.refl k w).setCell o v) hs, h.far, h.byte, h.small⟩
theorem Cur.alloc {w : World} {B : Nat} {a : Option Addr} {zs : List Int} {cap : Nat} (h : Cur w B a zs cap) (o : Obj) : Cur (w.alloc o) B a zs cap := h.below ((Below.refl _ _).alloc (Nat.le_refl _) _)
/-- The block 'b' holds the values 'cs', and may be written. -/
structure Blk (w : World) (b : Nat) (cs : Array Value) : Prop where
  lt : b < w.heap.size
  cell : ∀ i v, cs[i]? = some v → w.cell? ⟨b, i, none⟩ = some v
  free : ∀ i, w.frozen? ⟨b, i, none⟩ = false
theorem Blk.new (w : World) (cs : Array Value) (T : TypeId) : Blk (w.alloc (.cells cs T)) w.heap.size cs :=
  ⟨by simp, fun i v h => by simp [h], fun i => by simp⟩
theorem Blk.turn {w w' : World} {b B : Nat} {cs : Array Value} (h : Blk w b cs) (ht : Turn B w w') (hn : b ≠ B) : Blk w' b cs :=
  ⟨Nat.lt_of_lt_of_le h.lt ht.size, fun i v e => (ht.cell h.lt hn).trans (h.cell i v e), fun i => (ht.frozen h.lt hn).trans (h.free i)⟩
theorem Blk.below {w w' : World} {b : Nat} {cs : Array Value} (h : Blk w b cs) (hb : Below w.heap.size w w') : Blk w' b cs :=
  ⟨Nat.lt_of_lt_of_le h.lt hb.size, fun i v e => (hb.cell (p := ⟨b, i, none⟩) h.lt).trans (h.cell i v e), fun i => (hb.frozen (p := ⟨b, i, none⟩) h.lt).trans (h.free i)⟩
theorem Blk.alloc {w : World} {b : Nat} {cs : Array Value} (h : Blk w b cs) (o : Obj) : Blk (w.alloc o) b cs := h.below ((Below.refl _ _).alloc (Nat.le_refl _) _)
theorem Blk.other {w : World} {b : Nat} {cs : Array Value} (h : Blk w b cs) (k o : Nat) (v : Value) (hn : k ≠ b) : Blk (w.setCell ⟨k, o, none⟩ v) b cs :=
  ⟨by simpa using h.lt, fun i u e => by rw [World.cell?_setCell_other _ _ _ _ (by intro c; injection c with c1 c2 c3; exact hn c1)]; exact h.cell i u e, fun i => by simpa using h.free i⟩
theorem Blk.set {w : World} {b : Nat} {cs cs' : Array Value} (h : Blk w b cs) (j : Nat) (v : Value) (hj : j < cs.size) (he : cs.set! j v = cs') : Blk (w.setCell ⟨b, j, none⟩ v) b cs' := by
  subst he
  refine ⟨by simpa using h.lt, fun i u e => ?_, fun i => by simpa using h.free i⟩
  by_cases c : j = i
  · subst c
    rw [World.cell?_setCell_same _ _ _ (h.cell j _ (Array.getElem?_eq_getElem hj))]
    simpa [hj] using e
  · rw [World.cell?_setCell_other _ _ _ _ (by intro c'; injection c' with c1 c2 c3; exact c c2)]
    apply h.cell i u
    simpa [c] using e
end Go.Proofs.YtikaekmnclgflaaDoor
