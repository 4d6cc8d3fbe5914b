
/-
  Rows of integers in memory, and what stays of them: plain facts on worlds. No function of the program in sight; no conditions but those that each fact names.
-/
import Derived.WalkKit
import Derived.ProofKit
import Derived.OpenShut
import Derived.Deep.OwnRows
import Derived.Deep.Draws
import Derived.WalkSmall
namespace Go.Proofs.Ytphdijkpjjokaaa
open Go.ChangeShapes Go.WideShapes Go.ChangeAt Go.RowKit Go.Deep
set_option linter.unusedVariables false

theorem ret_int {k : IntKind} {a b : Int} (h : a = b) : Ending.returned (.int k a) = .returned (.int k b) := by rw [h]
theorem ret_bool {a b : Bool} (h : a = b) : Ending.returned (.bool a) = .returned (.bool b) := by rw [h]
theorem ret_pair {k : IntKind} {a b : Int} {c d : Bool} (h : a = b) (g : c = d) : Ending.returned (.tuple #[.int k a, .bool c]) = .returned (.tuple #[.int k b, .bool d]) := by rw [h, g]

/-- A slice that begins at 'a' reads as the numbers 'zs', its length theirs. -/
def Seg (k : IntKind) (w : World) (a : Option Addr) (zs : List Int) : Prop :=
  0 < zs.length → ∃ b off, a = some ⟨b, off, none⟩ ∧ b < w.heap.size ∧ ∀ i, i < zs.length → w.cell? ⟨b, off + i, none⟩ = some (.int k (zs.getD i 0))
theorem Seg.below {k : IntKind} {w w' : World} {a : Option Addr} {zs : List Int} (h : Seg k w a zs) (hb : Below w.heap.size w w') : Seg k w' a zs := by
  intro h0
  obtain ⟨b, off, e, hlt, hc⟩ := h h0
  exact ⟨b, off, e, Nat.lt_of_lt_of_le hlt hb.size, fun i hi => (hb.cell (p := ⟨b, off + i, none⟩) hlt).trans (hc i hi)⟩
theorem Seg.drewN {k : IntKind} {w : World} {a : Option Addr} {zs : List Int} (h : Seg k w a zs) (n : Nat) : Seg k (w.drewN n) a zs :=
  h.below (below_drewN (Below.refl _ _) n)
/-- The block 'B' holds the numbers 'zs' from its head on, and may be written. -/
structure Own (k : IntKind) (w : World) (B : Nat) (zs : List Int) : Prop where
  lt : B < w.heap.size
  cell : ∀ i, i < zs.length → w.cell? ⟨B, i, none⟩ = some (.int k (zs.getD i 0))
  free : ∀ i, w.frozen? ⟨B, i, none⟩ = false
theorem Own.seg {k : IntKind} {w : World} {B : Nat} {zs : List Int} (h : Own k w B zs) : Seg k w (some ⟨B, 0, none⟩) zs :=
  fun _ => ⟨B, 0, rfl, h.lt, fun i hi => by rw [Nat.zero_add]; exact h.cell i hi⟩
theorem Own.below {k : IntKind} {w w' : World} {B : Nat} {zs : List Int} (h : Own k w B zs) (hb : Below w.heap.size w w') : Own k w' B zs :=
  ⟨Nat.lt_of_lt_of_le h.lt hb.size, fun i hi => (hb.cell (p := ⟨B, i, none⟩) h.lt).trans (h.cell i hi), fun i => (hb.frozen (p := ⟨B, i, none⟩) h.lt).trans (h.free i)⟩
theorem Own.drewN {k : IntKind} {w : World} {B : Nat} {zs : List Int} (h : Own k w B zs) (n : Nat) : Own k (w.drewN n) B zs :=
  h.below (below_drewN (Below.refl _ _) n)
theorem Own.set {k : IntKind} {w : World} {B : Nat} {zs : List Int} (h : Own k w B zs) (i : Nat) (v : Int) (hi : i < zs.length) : Own k (w.setCell ⟨B, i, none⟩ (.int k v)) B (zs.set i v) := by
  refine ⟨by simpa using h.lt, fun j hj => ?_, fun j => by simpa using h.free j⟩
  rw [List.length_set] at hj
  by_cases e : i = j
  · subst e
    rw [World.cell?_setCell_same _ _ _ (h.cell i hi)]
    simp [hi]
  · rw [World.cell?_setCell_other _ _ _ _ (by intro c; injection c with c1 c2 c3; exact e c2), h.cell j hj]
    simp [e]
theorem Own.made (k : IntKind) (w : World) (n : Nat) (T : TypeId) (v : Int) : Own k (w.alloc (.cells (madeCells #[.int k v] n) T)) w.heap.size (List.replicate n v) := by
  refine ⟨by simp, fun i hi => ?_, fun i => (World.rowIs_made w (.int k v) n T).frozen i⟩
  rw [List.length_replicate] at hi
  rw [(World.rowIs_made w (.int k v) n T).cell hi]
  simp [hi]
/-- The reading of a slice that came in. -/
theorem seg_of_row {k : IntKind} {w : World} {a : Option Addr} {len cap : Nat} {zs : List Int}
    (h : (a = none ∧ len = 0 ∧ cap = 0 ∧ zs = []) ∨ ∃ x, a = some x ∧ len ≤ cap ∧ cap ≤ maxLen ∧ zs.length = cap ∧ (∀ i, i < zs.length → w.cell? (x.add i) = some (.int k (zs.getD i 0))) ∧ ∀ n ∈ zs, (Lit.int k n).wf = true) :
    ∃ ys : List Int, ys.length = len ∧ Seg k w a ys ∧ ∀ n ∈ ys, (Lit.int k n).wf = true := by
  rcases h with ⟨rfl, rfl, rfl, rfl⟩ | ⟨x, rfl, hl, hm, hz, hc, hw⟩
  · exact ⟨[], rfl, fun h => absurd h (by simp), by simp⟩
  · refine ⟨zs.take len, by simp; omega, fun h0 => ?_, fun n hn => hw n (List.mem_of_mem_take hn)⟩
    simp only [List.length_take] at h0
    obtain ⟨b, off, spot⟩ := x
    have h00 := hc 0 (by omega)
    have hspot : spot = none := by simpa [Addr.add] using World.cell?_spot h00
    subst hspot
    refine ⟨b, off, rfl, ?_, fun i hi => ?_⟩
    · exact World.block_lt_of_cell? w _ h00
    · simp only [List.length_take] at hi
      have := hc i (by omega)
      rw [show (zs.take len).getD i 0 = zs.getD i 0 by simp only [List.getD, List.getElem?_take]; rw [if_pos (by omega)]]
      by_cases e0 : i = 0
      · subst e0; simpa [Addr.add] using this
      · simpa [Addr.add, e0] using this
theorem Seg.at {k : IntKind} {w : World} {a : Option Addr} {zs : List Int} (h : Seg k w a zs) (i : Nat) (hi : i < zs.length) :
    ∃ b off, a = some ⟨b, off, none⟩ ∧ b < w.heap.size ∧ w.cell? ⟨b, off + i, none⟩ = some (.int k (zs.getD i 0)) := by
  obtain ⟨b, off, e, hlt, hc⟩ := h (by omega)
  exact ⟨b, off, e, hlt, hc i hi⟩
theorem getD_mem (zs : List Int) (i : Nat) (hi : i < zs.length) : zs.getD i 0 ∈ zs := by
  simp [List.getD, hi]
theorem take_getD (zs : List Int) (i : Nat) (hi : i < zs.length) : zs.take (i + 1) = zs.take i ++ [zs.getD i 0] := by
  rw [List.take_succ_eq_append_getElem hi]
  simp [List.getD, hi]
/-- What a loop that copies has laid after 'i' rounds. -/
theorem copy_step (zs : List Int) (i : Nat) (hi : i < zs.length) : (zs.take i ++ List.replicate (zs.length - i) 0).set i (zs.getD i 0) = zs.take (i + 1) ++ List.replicate (zs.length - (i + 1)) 0 := by
  rw [take_getD zs i hi, List.set_append, if_neg (by simp; omega), show i - (zs.take i).length = 0 by simp; omega, show zs.length - i = (zs.length - (i + 1)) + 1 by omega, List.replicate_succ]
  simp
theorem copy_len (zs : List Int) (i : Nat) (hi : i ≤ zs.length) : (zs.take i ++ List.replicate (zs.length - i) (0 : Int)).length = zs.length := by
  simp; omega
end Go.Proofs.Ytphdijkpjjokaaa
