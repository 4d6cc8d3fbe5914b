/-
  Rows of integers in memory, and what stays of them: plain facts on worlds. No function of the program in sight; no conditions but those that each fact names.
  Rows of ways in memory, a list of such rows, and what stays of them: plain facts on worlds. No function of the program in sight; no conditions but those that each fact names.
  Plain facts that several texts share: a number within bounds, new memory, arrays of few parts. No conditions but those that each fact names.
-/
import Derived.WalkKit
import Derived.ProofKit
import Derived.OpenShut
import Derived.Deep.OwnRows
import Derived.Deep.Draws
import Derived.WalkSmall
import Derived.Below
import Derived.Test.YtlomcdgfcocmmaaGreatDoorProg
import Derived.BigRegion
namespace Go.Proofs.YtlomcdgfcocmmaaGreatDoor
open Go.ChangeShapes Go.WideShapes Go.ChangeAt Go.RowKit Go.Deep
set_option linter.unusedVariables false

theorem ret_int {k : IntKind} {a b : Int} (h : a = b) : Ending.returned (.int k a) = .returned (.int k b) := by rw [h]
theorem ret_bool {a b : Bool} (h : a = b) : Ending.returned (.bool a) = .returned (.bool b) := by rw [h]
theorem ret_pair {k : IntKind} {a b : Int} {c d : Bool} (h : a = b) (g : c = d) : Ending.returned (.tuple #[.int k a, .bool c]) = .returned (.tuple #[.int k b, .bool d]) := by rw [h, g]

/-- A slice that begins at 'a' reads as the numbers 'zs', its length theirs. -/
def Seg (k : IntKind) (w : World) (a : Option Addr) (zs : List Int) : Prop :=
  0 < zs.length → ∃ b off, a = some ⟨b, off, none⟩ ∧ b < w.heap.size ∧ ∀ i, i < zs.length → w.cell? ⟨b, off + i, none⟩ = some (.int k (zs.getD i 0))
theorem Seg.below {k : IntKind} {w w' : World} {a : Option Addr} {zs : List Int} (h : Seg k w a zs) (hb : Below w.heap.size w w') : Seg k w' a zs := by
  intro h0
  obtain ⟨b, off, e, hlt, hc⟩ := h h0
  exact ⟨b, off, e, Nat.lt_of_lt_of_le hlt hb.size, fun i hi => (hb.cell (p := ⟨b, off + i, none⟩) hlt).trans (hc i hi)⟩
theorem Seg.drewN {k : IntKind} {w : World} {a : Option Addr} {zs : List Int} (h : Seg k w a zs) (n : Nat) : Seg k (w.drewN n) a zs :=
  h.below (below_drewN (Below.refl _ _) n)
/-- The block 'B' holds the numbers 'zs' from its head on, and may be written. -/
structure Own (k : IntKind) (w : World) (B : Nat) (zs : List Int) : Prop where
  lt : B < w.heap.size
  cell : ∀ i, i < zs.length → w.cell? ⟨B, i, none⟩ = some (.int k (zs.getD i 0))
  free : ∀ i, w.frozen? ⟨B, i, none⟩ = false
theorem Own.seg {k : IntKind} {w : World} {B : Nat} {zs : List Int} (h : Own k w B zs) : Seg k w (some ⟨B, 0, none⟩) zs :=
  fun _ => ⟨B, 0, rfl, h.lt, fun i hi => by rw [Nat.zero_add]; exact h.cell i hi⟩
theorem Own.below {k : IntKind} {w w' : World} {B : Nat} {zs : List Int} (h : Own k w B zs) (hb : Below w.heap.size w w') : Own k w' B zs :=
  ⟨Nat.lt_of_lt_of_le h.lt hb.size, fun i hi => (hb.cell (p := ⟨B, i, none⟩) h.lt).trans (h.cell i hi), fun i => (hb.frozen (p := ⟨B, i, none⟩) h.lt).trans (h.free i)⟩
theorem Own.drewN {k : IntKind} {w : World} {B : Nat} {zs : List Int} (h : Own k w B zs) (n : Nat) : Own k (w.drewN n) B zs :=
  h.below (below_drewN (Below.refl _ _) n)
theorem Own.set {k : IntKind} {w : World} {B : Nat} {zs : List Int} (h : Own k w B zs) (i : Nat) (v : Int) (hi : i < zs.length) : Own k (w.setCell ⟨B, i, none⟩ (.int k v)) B (zs.set i v) := by
  refine ⟨by simpa using h.lt, fun j hj => ?_, fun j => by simpa using h.free j⟩
  rw [List.length_set] at hj
  by_cases e : i = j
  · subst e
    rw [World.cell?_setCell_same _ _ _ (h.cell i hi)]
    simp [hi]
  · rw [World.cell?_setCell_other _ _ _ _ (by intro c; injection c with c1 c2 c3; exact e c2), h.cell j hj]
    simp [e]
theorem Own.made (k : IntKind) (w : World) (n : Nat) (T : TypeId) (v : Int) : Own k (w.alloc (.cells (madeCells #[.int k v] n) T)) w.heap.size (List.replicate n v) := by
  refine ⟨by simp, fun i hi => ?_, fun i => (World.rowIs_made w (.int k v) n T).frozen i⟩
  rw [List.length_replicate] at hi
  rw [(World.rowIs_made w (.int k v) n T).cell hi]
  simp [hi]
/-- The reading of a slice that came in. -/
theorem seg_of_row {k : IntKind} {w : World} {a : Option Addr} {len cap : Nat} {zs : List Int}
    (h : (a = none ∧ len = 0 ∧ cap = 0 ∧ zs = []) ∨ ∃ x, a = some x ∧ len ≤ cap ∧ cap ≤ maxLen ∧ zs.length = cap ∧ (∀ i, i < zs.length → w.cell? (x.add i) = some (.int k (zs.getD i 0))) ∧ ∀ n ∈ zs, (Lit.int k n).wf = true) :
    ∃ ys : List Int, ys.length = len ∧ Seg k w a ys ∧ ∀ n ∈ ys, (Lit.int k n).wf = true := by
  rcases h with ⟨rfl, rfl, rfl, rfl⟩ | ⟨x, rfl, hl, hm, hz, hc, hw⟩
  · exact ⟨[], rfl, fun h => absurd h (by simp), by simp⟩
  · refine ⟨zs.take len, by simp; omega, fun h0 => ?_, fun n hn => hw n (List.mem_of_mem_take hn)⟩
    simp only [List.length_take] at h0
    obtain ⟨b, off, spot⟩ := x
    have h00 := hc 0 (by omega)
    have hspot : spot = none := by simpa [Addr.add] using World.cell?_spot h00
    subst hspot
    refine ⟨b, off, rfl, ?_, fun i hi => ?_⟩
    · exact World.block_lt_of_cell? w _ h00
    · simp only [List.length_take] at hi
      have := hc i (by omega)
      rw [show (zs.take len).getD i 0 = zs.getD i 0 by simp only [List.getD, List.getElem?_take]; rw [if_pos (by omega)]]
      by_cases e0 : i = 0
      · subst e0; simpa [Addr.add] using this
      · simpa [Addr.add, e0] using this
theorem Seg.at {k : IntKind} {w : World} {a : Option Addr} {zs : List Int} (h : Seg k w a zs) (i : Nat) (hi : i < zs.length) :
    ∃ b off, a = some ⟨b, off, none⟩ ∧ b < w.heap.size ∧ w.cell? ⟨b, off + i, none⟩ = some (.int k (zs.getD i 0)) := by
  obtain ⟨b, off, e, hlt, hc⟩ := h (by omega)
  exact ⟨b, off, e, hlt, hc i hi⟩
theorem getD_mem (zs : List Int) (i : Nat) (hi : i < zs.length) : zs.getD i 0 ∈ zs := by
  simp [List.getD, hi]
theorem take_getD (zs : List Int) (i : Nat) (hi : i < zs.length) : zs.take (i + 1) = zs.take i ++ [zs.getD i 0] := by
  rw [List.take_succ_eq_append_getElem hi]
  simp [List.getD, hi]
/-- What a loop that copies has laid after 'i' rounds. -/
theorem copy_step (zs : List Int) (i : Nat) (hi : i < zs.length) : (zs.take i ++ List.replicate (zs.length - i) 0).set i (zs.getD i 0) = zs.take (i + 1) ++ List.replicate (zs.length - (i + 1)) 0 := by
  rw [take_getD zs i hi, List.set_append, if_neg (by simp; omega), show i - (zs.take i).length = 0 by simp; omega, show zs.length - i = (zs.length - (i + 1)) + 1 by omega, List.replicate_succ]
  simp
theorem copy_len (zs : List Int) (i : Nat) (hi : i ≤ zs.length) : (zs.take i ++ List.replicate (zs.length - i) (0 : Int)).length = zs.length := by
  simp; omega
end Go.Proofs.YtlomcdgfcocmmaaGreatDoor
namespace Go.Proofs.YtlomcdgfcocmmaaGreatDoor
open Go.ChangeShapes Go.WideShapes Go.ChangeAt Go.RowKit Go.Deep
set_option linter.unusedVariables false

abbrev Wy := Int × Bool
abbrev wayV (x : Wy) : Value := .agg #[.int .i64 x.1, .bool x.2]
abbrev wd : Wy := (0, false)
theorem kept_cell {w w' : World} {p : Addr} {v : Value} (hb : Below w.heap.size w w') (h : w.cell? p = some v) : w'.cell? p = some v := (hb.cell (World.block_lt_of_cell? w _ h)).trans h

/-- All blocks but those from 'lo' on and below 'hi' lie as they lay. -/
structure Betw (lo hi : Nat) (w w' : World) : Prop where
  os : w'.os = w.os
  tape : w'.tape = w.tape
  output : w'.output = w.output
  size : w.heap.size ≤ w'.heap.size
  block : ∀ k, k < w.heap.size → k < lo ∨ hi ≤ k → w'.heap[k]? = w.heap[k]?
theorem Betw.refl (lo hi : Nat) (w : World) : Betw lo hi w w := ⟨rfl, rfl, rfl, Nat.le_refl _, fun _ _ _ => rfl⟩
theorem Betw.trans {lo hi : Nat} {a b c : World} (h : Betw lo hi a b) (g : Betw lo hi b c) : Betw lo hi a c :=
  ⟨g.os.trans h.os, g.tape.trans h.tape, g.output.trans h.output, Nat.le_trans h.size g.size, fun k hk ho => (g.block k (Nat.lt_of_lt_of_le hk h.size) ho).trans (h.block k hk ho)⟩
theorem Betw.wide {lo hi lo' hi' : Nat} {a b : World} (h : Betw lo hi a b) (h1 : lo' ≤ lo) (h2 : hi ≤ hi') : Betw lo' hi' a b :=
  ⟨h.os, h.tape, h.output, h.size, fun k hk ho => h.block k hk (by omega)⟩
theorem Below.betw {lo hi : Nat} {a b : World} (h : Below a.heap.size a b) : Betw lo hi a b :=
  ⟨h.os, h.tape, h.output, h.size, fun k hk _ => h.block k hk⟩
theorem Betw.below {lo hi B : Nat} {a b : World} (h : Betw lo hi a b) (h1 : B ≤ lo) (h2 : B ≤ a.heap.size) : Below B a b :=
  ⟨h.os, h.tape, h.output, h.size, fun k hk => h.block k (by omega) (by omega)⟩
theorem Betw.cell {lo hi : Nat} {a b : World} (h : Betw lo hi a b) {p : Addr} (hp : p.block < a.heap.size) (ho : p.block < lo ∨ hi ≤ p.block) : b.cell? p = a.cell? p := World.cell?_of_block (w := a) (h.block p.block hp ho)
theorem Betw.frozen {lo hi : Nat} {a b : World} (h : Betw lo hi a b) {p : Addr} (hp : p.block < a.heap.size) (ho : p.block < lo ∨ hi ≤ p.block) : b.frozen? p = a.frozen? p := World.frozen?_of_block (w := a) (h.block p.block hp ho)
theorem Betw.setCell {lo hi : Nat} {a w : World} (h : Betw lo hi a w) {p : Addr} (h1 : lo ≤ p.block) (h2 : p.block < hi) (u : Value) : Betw lo hi a (w.setCell p u) := by
  have hb : Below lo w (w.setCell p u) := (Below.refl _ _).setCell h1 u
  exact ⟨hb.os.trans h.os, hb.tape.trans h.tape, hb.output.trans h.output, Nat.le_trans h.size hb.size, fun k hk ho => (Below.heap_setCell w p u k (by omega)).trans (h.block k hk ho)⟩

/-- The block 'b' holds the values 'cs', and may be written. -/
structure Bk (w : World) (b : Nat) (cs : Array Value) : Prop where
  lt : b < w.heap.size
  cell : ∀ i v, cs[i]? = some v → w.cell? ⟨b, i, none⟩ = some v
  free : ∀ i, w.frozen? ⟨b, i, none⟩ = false
theorem Bk.new (w : World) (cs : Array Value) (T : TypeId) (b : Nat) (hb : b = w.heap.size) : Bk (w.alloc (.cells cs T)) b cs := by
  subst hb
  exact ⟨by simp, fun i v h => by simp [h], fun i => by simp⟩
theorem Bk.below {w w' : World} {b : Nat} {cs : Array Value} (h : Bk w b cs) (hb : Below w.heap.size w w') : Bk w' b cs :=
  ⟨Nat.lt_of_lt_of_le h.lt hb.size, fun i v e => (hb.cell (p := ⟨b, i, none⟩) h.lt).trans (h.cell i v e), fun i => (hb.frozen (p := ⟨b, i, none⟩) h.lt).trans (h.free i)⟩
theorem Bk.alloc {w : World} {b : Nat} {cs : Array Value} (h : Bk w b cs) (o : Obj) : Bk (w.alloc o) b cs := h.below ((Below.refl _ _).alloc (Nat.le_refl _) _)
theorem Bk.other {w : World} {b : Nat} {cs : Array Value} (h : Bk w b cs) (k o : Nat) (v : Value) (hn : k ≠ b) : Bk (w.setCell ⟨k, o, none⟩ v) b cs :=
  ⟨by simpa using h.lt, fun i u e => by rw [World.cell?_setCell_other _ _ _ _ (by intro c; injection c with c1 c2 c3; exact hn c1)]; exact h.cell i u e, fun i => by simpa using h.free i⟩
theorem Bk.set {w : World} {b : Nat} {cs cs' : Array Value} (h : Bk w b cs) (j : Nat) (v : Value) (hj : j < cs.size) (he : cs.set! j v = cs') : Bk (w.setCell ⟨b, j, none⟩ v) b cs' := by
  subst he
  refine ⟨by simpa using h.lt, fun i u e => ?_, fun i => by simpa using h.free i⟩
  by_cases c : j = i
  · subst c
    rw [World.cell?_setCell_same _ _ _ (h.cell j _ (Array.getElem?_eq_getElem hj))]
    simpa [hj] using e
  · rw [World.cell?_setCell_other _ _ _ _ (by intro c'; injection c' with c1 c2 c3; exact c c2)]
    apply h.cell i u
    simpa [c] using e
theorem Bk.betw {w w' : World} {b lo hi : Nat} {cs : Array Value} (h : Bk w b cs) (hb : Betw lo hi w w') (ho : b < lo ∨ hi ≤ b) : Bk w' b cs :=
  ⟨Nat.lt_of_lt_of_le h.lt hb.size, fun i v e => (hb.cell (p := ⟨b, i, none⟩) h.lt ho).trans (h.cell i v e), fun i => (hb.frozen (p := ⟨b, i, none⟩) h.lt ho).trans (h.free i)⟩
/-- A slice that begins at 'a' reads as the ways 'ws', its length theirs. -/
def WSeg (w : World) (a : Option Addr) (ws : List Wy) : Prop :=
  0 < ws.length → ∃ b off, a = some ⟨b, off, none⟩ ∧ b < w.heap.size ∧ ∀ i, i < ws.length → w.cell? ⟨b, off + i * 2, none⟩ = some (.int .i64 (ws.getD i wd).1) ∧ w.cell? ⟨b, off + i * 2 + 1, none⟩ = some (.bool (ws.getD i wd).2)
theorem WSeg.at {w : World} {a : Option Addr} {ws : List Wy} (h : WSeg w a ws) (i : Nat) (hi : i < ws.length) :
    ∃ b off, a = some ⟨b, off, none⟩ ∧ b < w.heap.size ∧ w.cell? ⟨b, off + i * 2, none⟩ = some (.int .i64 (ws.getD i wd).1) ∧ w.cell? ⟨b, off + i * 2 + 1, none⟩ = some (.bool (ws.getD i wd).2) := by
  obtain ⟨b, off, e, hlt, hc⟩ := h (by omega)
  exact ⟨b, off, e, hlt, (hc i hi).1, (hc i hi).2⟩
theorem WSeg.below {w w' : World} {a : Option Addr} {ws : List Wy} (h : WSeg w a ws) (hb : Below w.heap.size w w') : WSeg w' a ws := fun h0 => by
  obtain ⟨b, off, e, hlt, hc⟩ := h h0
  exact ⟨b, off, e, Nat.lt_of_lt_of_le hlt hb.size, fun i hi => ⟨(hb.cell (p := ⟨b, off + i * 2, none⟩) hlt).trans (hc i hi).1, (hb.cell (p := ⟨b, off + i * 2 + 1, none⟩) hlt).trans (hc i hi).2⟩⟩
theorem WSeg.nil (w : World) (a : Option Addr) : WSeg w a [] := fun h => absurd h (by simp)
/-- A slice that begins at 'a' reads as 'n' rows, row i the ways 'D i'. -/
def RSeg (w : World) (a : Option Addr) (n : Nat) (D : Nat → List Wy) : Prop :=
  0 < n → ∃ b off, a = some ⟨b, off, none⟩ ∧ b < w.heap.size ∧ ∀ i, i < n → ∃ ai ci, w.cell? ⟨b, off + i, none⟩ = some (.slice ai (D i).length ci) ∧ WSeg w ai (D i) ∧ (D i).length ≤ ci
theorem RSeg.at {w : World} {a : Option Addr} {n : Nat} {D : Nat → List Wy} (h : RSeg w a n D) (i : Nat) (hi : i < n) :
    ∃ b off ai ci, a = some ⟨b, off, none⟩ ∧ b < w.heap.size ∧ w.cell? ⟨b, off + i, none⟩ = some (.slice ai (D i).length ci) ∧ WSeg w ai (D i) := by
  obtain ⟨b, off, e, hlt, hc⟩ := h (by omega)
  obtain ⟨ai, ci, h1, h2, _⟩ := hc i hi
  exact ⟨b, off, ai, ci, e, hlt, h1, h2⟩
theorem RSeg.at' {w : World} {a : Option Addr} {n : Nat} {D : Nat → List Wy} (h : RSeg w a n D) (i : Nat) (hi : i < n) :
    ∃ b off ai ci, a = some ⟨b, off, none⟩ ∧ b < w.heap.size ∧ w.cell? ⟨b, off + i, none⟩ = some (.slice ai (D i).length ci) ∧ WSeg w ai (D i) ∧ (D i).length ≤ ci := by
  obtain ⟨b, off, e, hlt, hc⟩ := h (by omega)
  obtain ⟨ai, ci, h1, h2, h3⟩ := hc i hi
  exact ⟨b, off, ai, ci, e, hlt, h1, h2, h3⟩
theorem RSeg.below {w w' : World} {a : Option Addr} {n : Nat} {D : Nat → List Wy} (h : RSeg w a n D) (hb : Below w.heap.size w w') : RSeg w' a n D := fun h0 => by
  obtain ⟨b, off, e, hlt, hc⟩ := h h0
  refine ⟨b, off, e, Nat.lt_of_lt_of_le hlt hb.size, fun i hi => ?_⟩
  obtain ⟨ai, ci, h1, h2, h3⟩ := hc i hi
  exact ⟨ai, ci, (hb.cell (p := ⟨b, off + i, none⟩) hlt).trans h1, h2.below hb, h3⟩
theorem RSeg.congr {w : World} {a : Option Addr} {n : Nat} {D E : Nat → List Wy} (h : RSeg w a n D) (he : ∀ i, i < n → D i = E i) : RSeg w a n E := fun h0 => by
  obtain ⟨b, off, e, hlt, hc⟩ := h h0
  exact ⟨b, off, e, hlt, fun i hi => by rw [← he i hi]; exact hc i hi⟩
def tot (D : Nat → List Wy) : Nat → Nat
  | 0 => 0
  | m + 1 => tot D m + (D m).length
theorem tot_mono (D : Nat → List Wy) {a b : Nat} (h : a ≤ b) : tot D a ≤ tot D b := by
  induction b with
  | zero => have : a = 0 := by omega
            subst this; exact Nat.le_refl _
  | succ b ih =>
    by_cases e : a = b + 1
    · subst e; exact Nat.le_refl _
    · have := ih (by omega)
      simp only [tot]; omega
theorem tot_row (D : Nat → List Wy) {i n : Nat} (h : i < n) : (D i).length ≤ tot D n := by
  have := tot_mono D (show i + 1 ≤ n by omega)
  simp only [tot] at this; omega
theorem tot_congr {D E : Nat → List Wy} {n : Nat} (h : ∀ i, i < n → (D i).length = (E i).length) : tot D n = tot E n := by
  induction n with
  | zero => rfl
  | succ n ih => simp only [tot]; rw [ih (fun i hi => h i (by omega)), h n (by omega)]

/-- Ways that lie in the block 'R', which may be written. -/
def OW (w : World) (lo hi : Nat) (a : Option Addr) (ws : List Wy) (R : Nat) : Prop :=
  0 < ws.length → ∃ off, a = some ⟨R, off, none⟩ ∧ lo ≤ R ∧ R < hi ∧ R < w.heap.size ∧ (∀ i, i < ws.length → w.cell? ⟨R, off + i * 2, none⟩ = some (.int .i64 (ws.getD i wd).1) ∧ w.cell? ⟨R, off + i * 2 + 1, none⟩ = some (.bool (ws.getD i wd).2)) ∧ ∀ j, w.frozen? ⟨R, j, none⟩ = false
theorem OW.nil (w : World) (lo hi : Nat) (a : Option Addr) (R : Nat) : OW w lo hi a [] R := fun h => absurd h (by simp)
theorem OW.seg {w : World} {lo hi : Nat} {a : Option Addr} {ws : List Wy} {R : Nat} (h : OW w lo hi a ws R) : WSeg w a ws := fun h0 => by
  obtain ⟨off, e, _, _, hlt, hc, _⟩ := h h0
  exact ⟨R, off, e, hlt, hc⟩
theorem OW.betw {w w' : World} {lo hi l' h' : Nat} {a : Option Addr} {ws : List Wy} {R : Nat} (h : OW w lo hi a ws R) (hb : Betw l' h' w w') (ho : 0 < ws.length → R < l' ∨ h' ≤ R) : OW w' lo hi a ws R := fun h0 => by
  obtain ⟨off, e, h1, h2, hlt, hc, hf⟩ := h h0
  have ho := ho h0
  exact ⟨off, e, h1, h2, Nat.lt_of_lt_of_le hlt hb.size, fun i hi => ⟨(hb.cell (p := ⟨R, off + i * 2, none⟩) hlt ho).trans (hc i hi).1, (hb.cell (p := ⟨R, off + i * 2 + 1, none⟩) hlt ho).trans (hc i hi).2⟩, fun j => (hb.frozen (p := ⟨R, j, none⟩) hlt ho).trans (hf j)⟩
theorem OW.below {w w' : World} {lo hi : Nat} {a : Option Addr} {ws : List Wy} {R : Nat} (h : OW w lo hi a ws R) (hb : Below w.heap.size w w') : OW w' lo hi a ws R :=
  OW.betw (l' := 0) (h' := 0) h (Below.betw hb) (fun _ => .inr (Nat.zero_le _))
theorem OW.wide {w : World} {lo hi l' h' : Nat} {a : Option Addr} {ws : List Wy} {R : Nat} (h : OW w lo hi a ws R) (h1 : l' ≤ lo) (h2 : hi ≤ h') : OW w l' h' a ws R := fun h0 => by
  obtain ⟨off, e, g1, g2, hlt, hc, hf⟩ := h h0
  exact ⟨off, e, by omega, by omega, hlt, hc, hf⟩
/-- Rows whose blocks, and that of the list itself, lie from 'lo' on and below 'hi', apart from one another. -/
structure ORA (w : World) (lo hi B off : Nat) (A : Nat → Option Addr) (C R : Nat → Nat) (n : Nat) (D : Nat → List Wy) : Prop where
  cell : ∀ i, i < n → w.cell? ⟨B, off + i, none⟩ = some (.slice (A i) (D i).length (C i))
  room : ∀ i, i < n → (D i).length ≤ C i
  row : ∀ i, i < n → OW w lo hi (A i) (D i) (R i)
  base : ∀ i, i < n → 0 < (D i).length → R i ≠ B
  apart : ∀ i j, i < n → j < n → i ≠ j → 0 < (D i).length → 0 < (D j).length → R i ≠ R j
def ORows (w : World) (lo hi : Nat) (a : Option Addr) (n : Nat) (D : Nat → List Wy) : Prop :=
  ∃ (B off : Nat) (A : Nat → Option Addr) (C R : Nat → Nat), (0 < n → a = some ⟨B, off, none⟩ ∧ lo ≤ B ∧ B < hi ∧ B < w.heap.size) ∧ ORA w lo hi B off A C R n D
theorem ORA.betw {w w' : World} {lo hi B off l' h' : Nat} {A : Nat → Option Addr} {C R : Nat → Nat} {n : Nat} {D : Nat → List Wy} (h : ORA w lo hi B off A C R n D) (hb : Betw l' h' w w') (hB : B < w.heap.size) (ho : hi ≤ l' ∨ h' ≤ lo) (hB1 : lo ≤ B) (hB2 : B < hi) : ORA w' lo hi B off A C R n D :=
  ⟨fun i hi' => (hb.cell (p := ⟨B, off + i, none⟩) hB (by rcases ho with h | h <;> simp <;> omega)).trans (h.cell i hi'), h.room, fun i hi' => (h.row i hi').betw hb (fun h0 => by obtain ⟨_, _, h1, h2, _⟩ := h.row i hi' h0; omega), h.base, h.apart⟩
theorem ORows.betw {w w' : World} {lo hi l' h' : Nat} {a : Option Addr} {n : Nat} {D : Nat → List Wy} (h : ORows w lo hi a n D) (hb : Betw l' h' w w') (ho : hi ≤ l' ∨ h' ≤ lo) : ORows w' lo hi a n D := by
  obtain ⟨B, off, A, C, R, h1, h2⟩ := h
  by_cases h0 : 0 < n
  · obtain ⟨e, g1, g2, g3⟩ := h1 h0
    exact ⟨B, off, A, C, R, fun _ => ⟨e, g1, g2, Nat.lt_of_lt_of_le g3 hb.size⟩, h2.betw hb g3 ho g1 g2⟩
  · exact ⟨B, off, A, C, R, fun h => absurd h h0, ⟨fun i hi => absurd hi (by omega), fun i hi => absurd hi (by omega), fun i hi => absurd hi (by omega), fun i hi => absurd hi (by omega), fun i j hi => absurd hi (by omega)⟩⟩
theorem ORows.below {w w' : World} {lo hi : Nat} {a : Option Addr} {n : Nat} {D : Nat → List Wy} (h : ORows w lo hi a n D) (hb : Below w.heap.size w w') : ORows w' lo hi a n D :=
  ORows.betw (l' := 0) (h' := 0) h (Below.betw hb) (.inr (Nat.zero_le _))
theorem ORows.seg {w : World} {lo hi : Nat} {a : Option Addr} {n : Nat} {D : Nat → List Wy} (h : ORows w lo hi a n D) : RSeg w a n D := fun h0 => by
  obtain ⟨B, off, A, C, R, h1, h2⟩ := h
  obtain ⟨e, g1, g2, g3⟩ := h1 h0
  exact ⟨B, off, e, g3, fun i hi => ⟨A i, C i, h2.cell i hi, (h2.row i hi).seg, h2.room i hi⟩⟩
theorem ORows.congr {w : World} {lo hi : Nat} {a : Option Addr} {n : Nat} {D E : Nat → List Wy} (h : ORows w lo hi a n D) (he : ∀ i, i < n → D i = E i) : ORows w lo hi a n E := by
  obtain ⟨B, off, A, C, R, h1, h2⟩ := h
  exact ⟨B, off, A, C, R, h1, ⟨fun i hi => by rw [← he i hi]; exact h2.cell i hi, fun i hi => by rw [← he i hi]; exact h2.room i hi, fun i hi => by rw [← he i hi]; exact h2.row i hi, fun i hi => by rw [← he i hi]; exact h2.base i hi, fun i j hi hj => by rw [← he i hi, ← he j hj]; exact h2.apart i j hi hj⟩⟩
theorem ORows.wide {w : World} {lo hi l' h' : Nat} {a : Option Addr} {n : Nat} {D : Nat → List Wy} (h : ORows w lo hi a n D) (g1 : l' ≤ lo) (g2 : hi ≤ h') : ORows w l' h' a n D := by
  obtain ⟨B, off, A, C, R, h1, h2⟩ := h
  exact ⟨B, off, A, C, R, fun h0 => ⟨(h1 h0).1, by have := (h1 h0).2.1; omega, by have := (h1 h0).2.2.1; omega, (h1 h0).2.2.2⟩, ⟨h2.cell, h2.room, fun i hi => (h2.row i hi).wide g1 g2, h2.base, h2.apart⟩⟩
/-- One row is written over by as many ways. -/
theorem ORA.put {w w' : World} {lo hi B off : Nat} {A : Nat → Option Addr} {C R : Nat → Nat} {n : Nat} {D : Nat → List Wy} (h : ORA w lo hi B off A C R n D) (m : Nat) (hm : m < n) (hBw : B < w.heap.size) (ws : List Wy) (hl : ws.length = (D m).length)
    (hb : Betw (R m) (R m + 1) w w') (hw : OW w' lo hi (A m) ws (R m)) (h0 : 0 < (D m).length) : ORA w' lo hi B off A C R n (fun i => if i = m then ws else D i) := by
  have hlen : ∀ i, (if i = m then ws else D i).length = (D i).length := fun i => by
    by_cases e : i = m
    · subst e; rw [if_pos rfl]; exact hl
    · rw [if_neg e]
  refine ⟨fun i hi => ?_, fun i hi => by rw [hlen]; exact h.room i hi, fun i hi => ?_, fun i hi => ?_, fun i j hi hj => ?_⟩
  · rw [hlen]
    have := h.base m hm h0
    exact (hb.cell (p := ⟨B, off + i, none⟩) hBw (by simp; omega)).trans (h.cell i hi)
  · by_cases e : i = m
    · subst e; rw [if_pos rfl]; exact hw
    · rw [if_neg e]
      refine (h.row i hi).betw hb (fun g0 => ?_)
      have := h.apart i m hi hm e g0 h0
      omega
  · rw [hlen]; exact h.base i hi
  · rw [hlen, hlen]; exact h.apart i j hi hj
/-- Rows that are being laid into the block 'B', k of them so far; their own blocks lie below 'm'. -/
structure Rsb (w : World) (lo m B n k : Nat) (D : Nat → List Wy) : Prop where
  lt : B < m
  mle : m ≤ w.heap.size
  low : lo ≤ B
  free : ∀ j, w.frozen? ⟨B, j, none⟩ = false
  room : ∀ i, i < n → ∃ u, w.cell? ⟨B, i, none⟩ = some u
  rows : ∃ A C R, ORA w lo m B 0 A C R k D
theorem ORA.keep {w w' : World} {lo hi B off : Nat} {A : Nat → Option Addr} {C R : Nat → Nat} {n : Nat} {D : Nat → List Wy} (h : ORA w lo hi B off A C R n D) (hb : Below w.heap.size w w') (hB : B < w.heap.size) : ORA w' lo hi B off A C R n D :=
  ⟨fun i hi' => (hb.cell (p := ⟨B, off + i, none⟩) hB).trans (h.cell i hi'), h.room, fun i hi' => (h.row i hi').below hb, h.base, h.apart⟩
theorem Rsb.below {w w' : World} {lo m B n k : Nat} {D : Nat → List Wy} (h : Rsb w lo m B n k D) (hb : Below w.heap.size w w') : Rsb w' lo m B n k D := by
  have hB : B < w.heap.size := Nat.lt_of_lt_of_le h.lt h.mle
  obtain ⟨A, C, R, hr⟩ := h.rows
  exact ⟨h.lt, Nat.le_trans h.mle hb.size, h.low, fun j => (hb.frozen (p := ⟨B, j, none⟩) hB).trans (h.free j), fun i hi => by rw [hb.cell (p := ⟨B, i, none⟩) hB]; exact h.room i hi, A, C, R, hr.keep hb hB⟩
theorem Rsb.put {w : World} {lo m B n k : Nat} {D : Nat → List Wy} (h : Rsb w lo m B n k D) (hk : k < n) (a : Option Addr) (ca Rk m' : Nat) (hR : 0 < (D k).length → m ≤ Rk) (how : OW w lo m' a (D k) Rk) (hca : (D k).length ≤ ca) (hm : m ≤ m') (hm' : m' ≤ w.heap.size) :
    Rsb (w.setCell ⟨B, k, none⟩ (.slice a (D k).length ca)) lo m' B n (k + 1) D := by
  obtain ⟨u, hu⟩ := h.room k hk
  have hB : B < w.heap.size := Nat.lt_of_lt_of_le h.lt h.mle
  have hbt : Betw B (B + 1) w (w.setCell ⟨B, k, none⟩ (.slice a (D k).length ca)) := (Betw.refl _ _ _).setCell (p := ⟨B, k, none⟩) (Nat.le_refl _) (Nat.lt_succ_self _) _
  obtain ⟨A, C, R, hr⟩ := h.rows
  have hlt := h.lt
  refine ⟨by omega, by simpa using hm', h.low, fun j => by rw [World.frozen?_setCell]; exact h.free j, fun i hi => ?_, fun i => if i = k then a else A i, fun i => if i = k then ca else C i, fun i => if i = k then Rk else R i, ⟨fun i hi => ?_, fun i hi => ?_, fun i hi => ?_, fun i hi h0 => ?_, fun i j hi hj hne hi0 hj0 => ?_⟩⟩
  · by_cases e : i = k
    · subst e; exact ⟨_, World.cell?_setCell_same _ _ _ hu⟩
    · rw [World.cell?_setCell_other _ _ _ _ (by intro c; injection c with c1 c2 c3; omega)]; exact h.room i hi
  · simp only [Nat.zero_add]
    by_cases e : i = k
    · subst e; simp only [if_pos]; exact World.cell?_setCell_same _ _ _ hu
    · simp only [if_neg e]
      rw [World.cell?_setCell_other _ _ _ _ (by intro c; injection c with c1 c2 c3; omega)]
      have := hr.cell i (by omega)
      rwa [Nat.zero_add] at this
  · by_cases e : i = k
    · subst e; simp only [if_pos]; exact hca
    · simp only [if_neg e]; exact hr.room i (by omega)
  · by_cases e : i = k
    · subst e
      simp only [if_pos]
      exact how.betw hbt (fun h0 => by have := hR h0; omega)
    · simp only [if_neg e]
      refine ((hr.row i (by omega)).wide (Nat.le_refl _) hm).betw hbt (fun h0 => ?_)
      have := hr.base i (by omega) h0
      omega
  · by_cases e : i = k
    · subst e
      simp only [if_pos]
      have := hR h0; omega
    · simp only [if_neg e]
      exact hr.base i (by omega) h0
  · by_cases e : i = k
    · have e2 : j ≠ k := by omega
      have hj' : j < k := by omega
      rw [e] at hi0
      obtain ⟨_, _, _, g, _⟩ := hr.row j hj' hj0
      simp only [if_pos e, if_neg e2]
      have := hR hi0; omega
    · by_cases e2 : j = k
      · have hi' : i < k := by omega
        rw [e2] at hj0
        obtain ⟨_, _, _, g, _⟩ := hr.row i hi' hi0
        simp only [if_neg e, if_pos e2]
        have := hR hj0; omega
      · simp only [if_neg e, if_neg e2]
        exact hr.apart i j (by omega) (by omega) hne hi0 hj0
theorem Rsb.rows' {w : World} {lo m B n : Nat} {D : Nat → List Wy} (h : Rsb w lo m B n n D) : ORows w lo m (some ⟨B, 0, none⟩) n D := by
  obtain ⟨A, C, R, hr⟩ := h.rows
  exact ⟨B, 0, A, C, R, fun _ => ⟨rfl, h.low, h.lt, Nat.lt_of_lt_of_le h.lt h.mle⟩, hr⟩
theorem ORA.congr {w : World} {lo hi B off : Nat} {A : Nat → Option Addr} {C R : Nat → Nat} {n : Nat} {D E : Nat → List Wy} (h : ORA w lo hi B off A C R n D) (he : ∀ i, i < n → D i = E i) : ORA w lo hi B off A C R n E :=
  ⟨fun i hi => by rw [← he i hi]; exact h.cell i hi, fun i hi => by rw [← he i hi]; exact h.room i hi, fun i hi => by rw [← he i hi]; exact h.row i hi, fun i hi => by rw [← he i hi]; exact h.base i hi, fun i j hi hj => by rw [← he i hi, ← he j hj]; exact h.apart i j hi hj⟩
def markWs (k n : Nat) : List Wy := (List.range n).map fun i => (((k + 2 * i : Nat) : Int), decide ((k + 2 * i + 1) % 3 = 0))
theorem markWs_len (k n : Nat) : (markWs k n).length = n := by simp [markWs]
theorem markWs_at (k n i : Nat) (hi : i < n) : (markWs k n).getD i wd = (((k + 2 * i : Nat) : Int), decide ((k + 2 * i + 1) % 3 = 0)) := by simp [markWs, List.getD, hi]
def markD (k : Nat) (D : Nat → List Wy) : Nat → List Wy := fun i => markWs (k + 2 * tot D i) (D i).length
end Go.Proofs.YtlomcdgfcocmmaaGreatDoor
namespace Go.Proofs.YtlomcdgfcocmmaaGreatDoor
open Go.ChangeShapes Go.WideShapes Go.ChangeAt Go.RowKit Go.Deep
set_option linter.unusedVariables false

def inr (x lo hi : Int) : Bool := decide (lo ≤ x) && decide (x ≤ hi)
theorem inr_yes {x lo hi : Int} (h : lo ≤ x ∧ x ≤ hi) : inr x lo hi = true := by simp [inr, h.1, h.2]
theorem inr_no {x lo hi : Int} (h : ¬ (lo ≤ x ∧ x ≤ hi)) : inr x lo hi = false := by
  unfold inr; rw [← Bool.decide_and]; exact decide_eq_false h
theorem of_inr {x lo hi : Int} (h : inr x lo hi = true) : lo ≤ x ∧ x ≤ hi := by
  unfold inr at h; rw [← Bool.decide_and] at h; exact of_decide_eq_true h
theorem inr_iff {x lo hi : Int} : inr x lo hi = true ↔ lo ≤ x ∧ x ≤ hi := by simp [inr]
theorem inr_niff {x lo hi : Int} : inr x lo hi = false ↔ ¬ (lo ≤ x ∧ x ≤ hi) := by rw [← inr_iff]; simp
theorem in_any (x a b : Int) (w : World) : Calls Tryz.prog 33 #[.int .i64 x, .int .i64 a, .int .i64 b] w fun e w' => e = .returned (.bool (inr x a b)) ∧ w' = w := by
  by_cases h1 : a ≤ x
  · by_cases h2 : x ≤ b
    · rw [inr_yes ⟨h1, h2⟩]
      go_enter Tryz.func33, Tryz.ntmps33
      go_wp2
      go_ret
      exact ⟨rfl, rfl⟩
    · rw [inr_no (fun g => h2 g.2)]
      go_enter Tryz.func33, Tryz.ntmps33
      go_wp2
      go_ret
      exact ⟨rfl, rfl⟩
  · rw [inr_no (fun g => h1 g.1)]
    go_enter Tryz.func33, Tryz.ntmps33
    go_wp2
    go_ret
    exact ⟨rfl, rfl⟩
theorem new_cell (w : World) (cs : Array Value) (t : TypeId) (i : Nat) (v : Value) (h : cs[i]? = some v) : (w.alloc (.cells cs t)).cell? ⟨w.heap.size, i, none⟩ = some v := by
  simp [h]
theorem told (p : Prop) : ∃ q : Bool, (q = true ↔ p) := by
  by_cases h : p
  · exact ⟨true, by simp [h]⟩
  · exact ⟨false, by simp [h]⟩
theorem not_true {q : Bool} {p : Prop} (h : q = true ↔ p) (hn : ¬ p) : q = false := by
  cases q
  · rfl
  · exact absurd (h.1 rfl) hn
theorem array1 {α : Type} {cs : Array α} (h : cs.size = 1) : ∃ c0, cs = #[c0] := by
  obtain ⟨l⟩ := cs
  match l, h with
  | [c0], _ => exact ⟨c0, rfl⟩
theorem list1 {α : Type} {cs : List α} (h : cs.length = 1) : ∃ c0, cs = [c0] := by
  match cs, h with
  | [c0], _ => exact ⟨c0, rfl⟩
theorem array2 {α : Type} {cs : Array α} (h : cs.size = 2) : ∃ c0 c1, cs = #[c0, c1] := by
  obtain ⟨l⟩ := cs
  match l, h with
  | [c0, c1], _ => exact ⟨c0, c1, rfl⟩
theorem list2 {α : Type} {cs : List α} (h : cs.length = 2) : ∃ c0 c1, cs = [c0, c1] := by
  match cs, h with
  | [c0, c1], _ => exact ⟨c0, c1, rfl⟩
theorem array3 {α : Type} {cs : Array α} (h : cs.size = 3) : ∃ c0 c1 c2, cs = #[c0, c1, c2] := by
  obtain ⟨l⟩ := cs
  match l, h with
  | [c0, c1, c2], _ => exact ⟨c0, c1, c2, rfl⟩
theorem list3 {α : Type} {cs : List α} (h : cs.length = 3) : ∃ c0 c1 c2, cs = [c0, c1, c2] := by
  match cs, h with
  | [c0, c1, c2], _ => exact ⟨c0, c1, c2, rfl⟩
theorem array4 {α : Type} {cs : Array α} (h : cs.size = 4) : ∃ c0 c1 c2 c3, cs = #[c0, c1, c2, c3] := by
  obtain ⟨l⟩ := cs
  match l, h with
  | [c0, c1, c2, c3], _ => exact ⟨c0, c1, c2, c3, rfl⟩
theorem list4 {α : Type} {cs : List α} (h : cs.length = 4) : ∃ c0 c1 c2 c3, cs = [c0, c1, c2, c3] := by
  match cs, h with
  | [c0, c1, c2, c3], _ => exact ⟨c0, c1, c2, c3, rfl⟩
theorem cells3 : Tryz.prog.cellsOf 3 = 1 := by kernel_rfl
theorem cells4 : Tryz.prog.cellsOf 4 = 1 := by kernel_rfl
theorem laidOut : laidOutB Tryz.prog = true := by kernel_rfl
theorem tm4 (x : Int) : (Int.tmod x 4 = 0) ↔ x % 4 = 0 := by
  rw [← Int.dvd_iff_tmod_eq_zero]; omega
theorem ret_boolc {q r : Bool} (h : q = r) : Ending.returned (.bool q) = .returned (.bool r) := by rw [h]
theorem fit64 {x : Int} (h : (Lit.int .i64 x).wf = true) : x ≤ 9223372036854775807 := by
  have := bounds_i64 h
  omega
theorem addr_of {w : World} {a : Addr} {i : Nat} {v : Value} (h : w.cell? (a.add i) = some v) (hi : i = 0) : ∃ b off, a = ⟨b, off, none⟩ ∧ b < w.heap.size := by
  subst hi
  obtain ⟨b, off, spot⟩ := a
  have hspot : spot = none := by simpa [Addr.add] using World.cell?_spot h
  subst hspot
  exact ⟨b, off, rfl, by simpa [Addr.add] using World.block_lt_of_cell? w _ h⟩
end Go.Proofs.YtlomcdgfcocmmaaGreatDoor
