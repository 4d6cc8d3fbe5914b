/-
  Rows of ways in memory, a list of such rows, and what stays of them: plain facts on worlds. No function of the program in sight; no conditions but those that each fact names.
  Windows of memory: whether one is right; the specification's and the program's own functions answer alike. Conditions: sizes that the program's own function is asked of are numbers of 64 bits.
  Whether two windows lie apart: the specification's and the program's own functions answer alike. Conditions: the sizes are numbers of 64 bits.
-/
import Derived.Test.YtjlhkjiccibgdaaGreatDoorSegs
import Derived.Below
import Derived.Test.YtjlhkjiccibgdaaGreatDoorProg
import Derived.Deep.RegionWith
import Derived.BigRegion
import Derived.BigQuiet
import Derived.Deep.RegionHeld3
namespace Go.Proofs.YtjlhkjiccibgdaaGreatDoor
open Go.ChangeShapes Go.WideShapes Go.ChangeAt Go.RowKit Go.Deep
set_option linter.unusedVariables false

abbrev Wy := Int × Bool
abbrev wayV (x : Wy) : Value := .agg #[.int .i64 x.1, .bool x.2]
abbrev wd : Wy := (0, false)
theorem kept_cell {w w' : World} {p : Addr} {v : Value} (hb : Below w.heap.size w w') (h : w.cell? p = some v) : w'.cell? p = some v := (hb.cell (World.block_lt_of_cell? w _ h)).trans h

/-- All blocks but those from 'lo' on and below 'hi' lie as they lay. -/
structure Betw (lo hi : Nat) (w w' : World) : Prop where
  os : w'.os = w.os
  tape : w'.tape = w.tape
  output : w'.output = w.output
  size : w.heap.size ≤ w'.heap.size
  block : ∀ k, k < w.heap.size → k < lo ∨ hi ≤ k → w'.heap[k]? = w.heap[k]?
theorem Betw.refl (lo hi : Nat) (w : World) : Betw lo hi w w := ⟨rfl, rfl, rfl, Nat.le_refl _, fun _ _ _ => rfl⟩
theorem Betw.trans {lo hi : Nat} {a b c : World} (h : Betw lo hi a b) (g : Betw lo hi b c) : Betw lo hi a c :=
  ⟨g.os.trans h.os, g.tape.trans h.tape, g.output.trans h.output, Nat.le_trans h.size g.size, fun k hk ho => (g.block k (Nat.lt_of_lt_of_le hk h.size) ho).trans (h.block k hk ho)⟩
theorem Betw.wide {lo hi lo' hi' : Nat} {a b : World} (h : Betw lo hi a b) (h1 : lo' ≤ lo) (h2 : hi ≤ hi') : Betw lo' hi' a b :=
  ⟨h.os, h.tape, h.output, h.size, fun k hk ho => h.block k hk (by omega)⟩
theorem Below.betw {lo hi : Nat} {a b : World} (h : Below a.heap.size a b) : Betw lo hi a b :=
  ⟨h.os, h.tape, h.output, h.size, fun k hk _ => h.block k hk⟩
theorem Betw.below {lo hi B : Nat} {a b : World} (h : Betw lo hi a b) (h1 : B ≤ lo) (h2 : B ≤ a.heap.size) : Below B a b :=
  ⟨h.os, h.tape, h.output, h.size, fun k hk => h.block k (by omega) (by omega)⟩
theorem Betw.cell {lo hi : Nat} {a b : World} (h : Betw lo hi a b) {p : Addr} (hp : p.block < a.heap.size) (ho : p.block < lo ∨ hi ≤ p.block) : b.cell? p = a.cell? p := World.cell?_of_block (w := a) (h.block p.block hp ho)
theorem Betw.frozen {lo hi : Nat} {a b : World} (h : Betw lo hi a b) {p : Addr} (hp : p.block < a.heap.size) (ho : p.block < lo ∨ hi ≤ p.block) : b.frozen? p = a.frozen? p := World.frozen?_of_block (w := a) (h.block p.block hp ho)
theorem Betw.setCell {lo hi : Nat} {a w : World} (h : Betw lo hi a w) {p : Addr} (h1 : lo ≤ p.block) (h2 : p.block < hi) (u : Value) : Betw lo hi a (w.setCell p u) := by
  have hb : Below lo w (w.setCell p u) := (Below.refl _ _).setCell h1 u
  exact ⟨hb.os.trans h.os, hb.tape.trans h.tape, hb.output.trans h.output, Nat.le_trans h.size hb.size, fun k hk ho => (Below.heap_setCell w p u k (by omega)).trans (h.block k hk ho)⟩

/-- The block 'b' holds the values 'cs', and may be written. -/
structure Bk (w : World) (b : Nat) (cs : Array Value) : Prop where
  lt : b < w.heap.size
  cell : ∀ i v, cs[i]? = some v → w.cell? ⟨b, i, none⟩ = some v
  free : ∀ i, w.frozen? ⟨b, i, none⟩ = false
theorem Bk.new (w : World) (cs : Array Value) (T : TypeId) (b : Nat) (hb : b = w.heap.size) : Bk (w.alloc (.cells cs T)) b cs := by
  subst hb
  exact ⟨by simp, fun i v h => by simp [h], fun i => by simp⟩
theorem Bk.below {w w' : World} {b : Nat} {cs : Array Value} (h : Bk w b cs) (hb : Below w.heap.size w w') : Bk w' b cs :=
  ⟨Nat.lt_of_lt_of_le h.lt hb.size, fun i v e => (hb.cell (p := ⟨b, i, none⟩) h.lt).trans (h.cell i v e), fun i => (hb.frozen (p := ⟨b, i, none⟩) h.lt).trans (h.free i)⟩
theorem Bk.alloc {w : World} {b : Nat} {cs : Array Value} (h : Bk w b cs) (o : Obj) : Bk (w.alloc o) b cs := h.below ((Below.refl _ _).alloc (Nat.le_refl _) _)
theorem Bk.other {w : World} {b : Nat} {cs : Array Value} (h : Bk w b cs) (k o : Nat) (v : Value) (hn : k ≠ b) : Bk (w.setCell ⟨k, o, none⟩ v) b cs :=
  ⟨by simpa using h.lt, fun i u e => by rw [World.cell?_setCell_other _ _ _ _ (by intro c; injection c with c1 c2 c3; exact hn c1)]; exact h.cell i u e, fun i => by simpa using h.free i⟩
theorem Bk.set {w : World} {b : Nat} {cs cs' : Array Value} (h : Bk w b cs) (j : Nat) (v : Value) (hj : j < cs.size) (he : cs.set! j v = cs') : Bk (w.setCell ⟨b, j, none⟩ v) b cs' := by
  subst he
  refine ⟨by simpa using h.lt, fun i u e => ?_, fun i => by simpa using h.free i⟩
  by_cases c : j = i
  · subst c
    rw [World.cell?_setCell_same _ _ _ (h.cell j _ (Array.getElem?_eq_getElem hj))]
    simpa [hj] using e
  · rw [World.cell?_setCell_other _ _ _ _ (by intro c'; injection c' with c1 c2 c3; exact c c2)]
    apply h.cell i u
    simpa [c] using e
theorem Bk.betw {w w' : World} {b lo hi : Nat} {cs : Array Value} (h : Bk w b cs) (hb : Betw lo hi w w') (ho : b < lo ∨ hi ≤ b) : Bk w' b cs :=
  ⟨Nat.lt_of_lt_of_le h.lt hb.size, fun i v e => (hb.cell (p := ⟨b, i, none⟩) h.lt ho).trans (h.cell i v e), fun i => (hb.frozen (p := ⟨b, i, none⟩) h.lt ho).trans (h.free i)⟩
/-- A slice that begins at 'a' reads as the ways 'ws', its length theirs. -/
def WSeg (w : World) (a : Option Addr) (ws : List Wy) : Prop :=
  0 < ws.length → ∃ b off, a = some ⟨b, off, none⟩ ∧ b < w.heap.size ∧ ∀ i, i < ws.length → w.cell? ⟨b, off + i * 2, none⟩ = some (.int .i64 (ws.getD i wd).1) ∧ w.cell? ⟨b, off + i * 2 + 1, none⟩ = some (.bool (ws.getD i wd).2)
theorem WSeg.at {w : World} {a : Option Addr} {ws : List Wy} (h : WSeg w a ws) (i : Nat) (hi : i < ws.length) :
    ∃ b off, a = some ⟨b, off, none⟩ ∧ b < w.heap.size ∧ w.cell? ⟨b, off + i * 2, none⟩ = some (.int .i64 (ws.getD i wd).1) ∧ w.cell? ⟨b, off + i * 2 + 1, none⟩ = some (.bool (ws.getD i wd).2) := by
  obtain ⟨b, off, e, hlt, hc⟩ := h (by omega)
  exact ⟨b, off, e, hlt, (hc i hi).1, (hc i hi).2⟩
theorem WSeg.below {w w' : World} {a : Option Addr} {ws : List Wy} (h : WSeg w a ws) (hb : Below w.heap.size w w') : WSeg w' a ws := fun h0 => by
  obtain ⟨b, off, e, hlt, hc⟩ := h h0
  exact ⟨b, off, e, Nat.lt_of_lt_of_le hlt hb.size, fun i hi => ⟨(hb.cell (p := ⟨b, off + i * 2, none⟩) hlt).trans (hc i hi).1, (hb.cell (p := ⟨b, off + i * 2 + 1, none⟩) hlt).trans (hc i hi).2⟩⟩
theorem WSeg.nil (w : World) (a : Option Addr) : WSeg w a [] := fun h => absurd h (by simp)
/-- A slice that begins at 'a' reads as 'n' rows, row i the ways 'D i'. -/
def RSeg (w : World) (a : Option Addr) (n : Nat) (D : Nat → List Wy) : Prop :=
  0 < n → ∃ b off, a = some ⟨b, off, none⟩ ∧ b < w.heap.size ∧ ∀ i, i < n → ∃ ai ci, w.cell? ⟨b, off + i, none⟩ = some (.slice ai (D i).length ci) ∧ WSeg w ai (D i) ∧ (D i).length ≤ ci
theorem RSeg.at {w : World} {a : Option Addr} {n : Nat} {D : Nat → List Wy} (h : RSeg w a n D) (i : Nat) (hi : i < n) :
    ∃ b off ai ci, a = some ⟨b, off, none⟩ ∧ b < w.heap.size ∧ w.cell? ⟨b, off + i, none⟩ = some (.slice ai (D i).length ci) ∧ WSeg w ai (D i) := by
  obtain ⟨b, off, e, hlt, hc⟩ := h (by omega)
  obtain ⟨ai, ci, h1, h2, _⟩ := hc i hi
  exact ⟨b, off, ai, ci, e, hlt, h1, h2⟩
theorem RSeg.at' {w : World} {a : Option Addr} {n : Nat} {D : Nat → List Wy} (h : RSeg w a n D) (i : Nat) (hi : i < n) :
    ∃ b off ai ci, a = some ⟨b, off, none⟩ ∧ b < w.heap.size ∧ w.cell? ⟨b, off + i, none⟩ = some (.slice ai (D i).length ci) ∧ WSeg w ai (D i) ∧ (D i).length ≤ ci := by
  obtain ⟨b, off, e, hlt, hc⟩ := h (by omega)
  obtain ⟨ai, ci, h1, h2, h3⟩ := hc i hi
  exact ⟨b, off, ai, ci, e, hlt, h1, h2, h3⟩
theorem RSeg.below {w w' : World} {a : Option Addr} {n : Nat} {D : Nat → List Wy} (h : RSeg w a n D) (hb : Below w.heap.size w w') : RSeg w' a n D := fun h0 => by
  obtain ⟨b, off, e, hlt, hc⟩ := h h0
  refine ⟨b, off, e, Nat.lt_of_lt_of_le hlt hb.size, fun i hi => ?_⟩
  obtain ⟨ai, ci, h1, h2, h3⟩ := hc i hi
  exact ⟨ai, ci, (hb.cell (p := ⟨b, off + i, none⟩) hlt).trans h1, h2.below hb, h3⟩
theorem RSeg.congr {w : World} {a : Option Addr} {n : Nat} {D E : Nat → List Wy} (h : RSeg w a n D) (he : ∀ i, i < n → D i = E i) : RSeg w a n E := fun h0 => by
  obtain ⟨b, off, e, hlt, hc⟩ := h h0
  exact ⟨b, off, e, hlt, fun i hi => by rw [← he i hi]; exact hc i hi⟩
def tot (D : Nat → List Wy) : Nat → Nat
  | 0 => 0
  | m + 1 => tot D m + (D m).length
theorem tot_mono (D : Nat → List Wy) {a b : Nat} (h : a ≤ b) : tot D a ≤ tot D b := by
  induction b with
  | zero => have : a = 0 := by omega
            subst this; exact Nat.le_refl _
  | succ b ih =>
    by_cases e : a = b + 1
    · subst e; exact Nat.le_refl _
    · have := ih (by omega)
      simp only [tot]; omega
theorem tot_row (D : Nat → List Wy) {i n : Nat} (h : i < n) : (D i).length ≤ tot D n := by
  have := tot_mono D (show i + 1 ≤ n by omega)
  simp only [tot] at this; omega
theorem tot_congr {D E : Nat → List Wy} {n : Nat} (h : ∀ i, i < n → (D i).length = (E i).length) : tot D n = tot E n := by
  induction n with
  | zero => rfl
  | succ n ih => simp only [tot]; rw [ih (fun i hi => h i (by omega)), h n (by omega)]

/-- Ways that lie in the block 'R', which may be written. -/
def OW (w : World) (lo hi : Nat) (a : Option Addr) (ws : List Wy) (R : Nat) : Prop :=
  0 < ws.length → ∃ off, a = some ⟨R, off, none⟩ ∧ lo ≤ R ∧ R < hi ∧ R < w.heap.size ∧ (∀ i, i < ws.length → w.cell? ⟨R, off + i * 2, none⟩ = some (.int .i64 (ws.getD i wd).1) ∧ w.cell? ⟨R, off + i * 2 + 1, none⟩ = some (.bool (ws.getD i wd).2)) ∧ ∀ j, w.frozen? ⟨R, j, none⟩ = false
theorem OW.nil (w : World) (lo hi : Nat) (a : Option Addr) (R : Nat) : OW w lo hi a [] R := fun h => absurd h (by simp)
theorem OW.seg {w : World} {lo hi : Nat} {a : Option Addr} {ws : List Wy} {R : Nat} (h : OW w lo hi a ws R) : WSeg w a ws := fun h0 => by
  obtain ⟨off, e, _, _, hlt, hc, _⟩ := h h0
  exact ⟨R, off, e, hlt, hc⟩
theorem OW.betw {w w' : World} {lo hi l' h' : Nat} {a : Option Addr} {ws : List Wy} {R : Nat} (h : OW w lo hi a ws R) (hb : Betw l' h' w w') (ho : 0 < ws.length → R < l' ∨ h' ≤ R) : OW w' lo hi a ws R := fun h0 => by
  obtain ⟨off, e, h1, h2, hlt, hc, hf⟩ := h h0
  have ho := ho h0
  exact ⟨off, e, h1, h2, Nat.lt_of_lt_of_le hlt hb.size, fun i hi => ⟨(hb.cell (p := ⟨R, off + i * 2, none⟩) hlt ho).trans (hc i hi).1, (hb.cell (p := ⟨R, off + i * 2 + 1, none⟩) hlt ho).trans (hc i hi).2⟩, fun j => (hb.frozen (p := ⟨R, j, none⟩) hlt ho).trans (hf j)⟩
theorem OW.below {w w' : World} {lo hi : Nat} {a : Option Addr} {ws : List Wy} {R : Nat} (h : OW w lo hi a ws R) (hb : Below w.heap.size w w') : OW w' lo hi a ws R :=
  OW.betw (l' := 0) (h' := 0) h (Below.betw hb) (fun _ => .inr (Nat.zero_le _))
theorem OW.wide {w : World} {lo hi l' h' : Nat} {a : Option Addr} {ws : List Wy} {R : Nat} (h : OW w lo hi a ws R) (h1 : l' ≤ lo) (h2 : hi ≤ h') : OW w l' h' a ws R := fun h0 => by
  obtain ⟨off, e, g1, g2, hlt, hc, hf⟩ := h h0
  exact ⟨off, e, by omega, by omega, hlt, hc, hf⟩
/-- Rows whose blocks, and that of the list itself, lie from 'lo' on and below 'hi', apart from one another. -/
structure ORA (w : World) (lo hi B off : Nat) (A : Nat → Option Addr) (C R : Nat → Nat) (n : Nat) (D : Nat → List Wy) : Prop where
  cell : ∀ i, i < n → w.cell? ⟨B, off + i, none⟩ = some (.slice (A i) (D i).length (C i))
  room : ∀ i, i < n → (D i).length ≤ C i
  row : ∀ i, i < n → OW w lo hi (A i) (D i) (R i)
  base : ∀ i, i < n → 0 < (D i).length → R i ≠ B
  apart : ∀ i j, i < n → j < n → i ≠ j → 0 < (D i).length → 0 < (D j).length → R i ≠ R j
def ORows (w : World) (lo hi : Nat) (a : Option Addr) (n : Nat) (D : Nat → List Wy) : Prop :=
  ∃ (B off : Nat) (A : Nat → Option Addr) (C R : Nat → Nat), (0 < n → a = some ⟨B, off, none⟩ ∧ lo ≤ B ∧ B < hi ∧ B < w.heap.size) ∧ ORA w lo hi B off A C R n D
theorem ORA.betw {w w' : World} {lo hi B off l' h' : Nat} {A : Nat → Option Addr} {C R : Nat → Nat} {n : Nat} {D : Nat → List Wy} (h : ORA w lo hi B off A C R n D) (hb : Betw l' h' w w') (hB : B < w.heap.size) (ho : hi ≤ l' ∨ h' ≤ lo) (hB1 : lo ≤ B) (hB2 : B < hi) : ORA w' lo hi B off A C R n D :=
  ⟨fun i hi' => (hb.cell (p := ⟨B, off + i, none⟩) hB (by rcases ho with h | h <;> simp <;> omega)).trans (h.cell i hi'), h.room, fun i hi' => (h.row i hi').betw hb (fun h0 => by obtain ⟨_, _, h1, h2, _⟩ := h.row i hi' h0; omega), h.base, h.apart⟩
theorem ORows.betw {w w' : World} {lo hi l' h' : Nat} {a : Option Addr} {n : Nat} {D : Nat → List Wy} (h : ORows w lo hi a n D) (hb : Betw l' h' w w') (ho : hi ≤ l' ∨ h' ≤ lo) : ORows w' lo hi a n D := by
  obtain ⟨B, off, A, C, R, h1, h2⟩ := h
  by_cases h0 : 0 < n
  · obtain ⟨e, g1, g2, g3⟩ := h1 h0
    exact ⟨B, off, A, C, R, fun _ => ⟨e, g1, g2, Nat.lt_of_lt_of_le g3 hb.size⟩, h2.betw hb g3 ho g1 g2⟩
  · exact ⟨B, off, A, C, R, fun h => absurd h h0, ⟨fun i hi => absurd hi (by omega), fun i hi => absurd hi (by omega), fun i hi => absurd hi (by omega), fun i hi => absurd hi (by omega), fun i j hi => absurd hi (by omega)⟩⟩
theorem ORows.below {w w' : World} {lo hi : Nat} {a : Option Addr} {n : Nat} {D : Nat → List Wy} (h : ORows w lo hi a n D) (hb : Below w.heap.size w w') : ORows w' lo hi a n D :=
  ORows.betw (l' := 0) (h' := 0) h (Below.betw hb) (.inr (Nat.zero_le _))
theorem ORows.seg {w : World} {lo hi : Nat} {a : Option Addr} {n : Nat} {D : Nat → List Wy} (h : ORows w lo hi a n D) : RSeg w a n D := fun h0 => by
  obtain ⟨B, off, A, C, R, h1, h2⟩ := h
  obtain ⟨e, g1, g2, g3⟩ := h1 h0
  exact ⟨B, off, e, g3, fun i hi => ⟨A i, C i, h2.cell i hi, (h2.row i hi).seg, h2.room i hi⟩⟩
theorem ORows.congr {w : World} {lo hi : Nat} {a : Option Addr} {n : Nat} {D E : Nat → List Wy} (h : ORows w lo hi a n D) (he : ∀ i, i < n → D i = E i) : ORows w lo hi a n E := by
  obtain ⟨B, off, A, C, R, h1, h2⟩ := h
  exact ⟨B, off, A, C, R, h1, ⟨fun i hi => by rw [← he i hi]; exact h2.cell i hi, fun i hi => by rw [← he i hi]; exact h2.room i hi, fun i hi => by rw [← he i hi]; exact h2.row i hi, fun i hi => by rw [← he i hi]; exact h2.base i hi, fun i j hi hj => by rw [← he i hi, ← he j hj]; exact h2.apart i j hi hj⟩⟩
theorem ORows.wide {w : World} {lo hi l' h' : Nat} {a : Option Addr} {n : Nat} {D : Nat → List Wy} (h : ORows w lo hi a n D) (g1 : l' ≤ lo) (g2 : hi ≤ h') : ORows w l' h' a n D := by
  obtain ⟨B, off, A, C, R, h1, h2⟩ := h
  exact ⟨B, off, A, C, R, fun h0 => ⟨(h1 h0).1, by have := (h1 h0).2.1; omega, by have := (h1 h0).2.2.1; omega, (h1 h0).2.2.2⟩, ⟨h2.cell, h2.room, fun i hi => (h2.row i hi).wide g1 g2, h2.base, h2.apart⟩⟩
/-- One row is written over by as many ways. -/
theorem ORA.put {w w' : World} {lo hi B off : Nat} {A : Nat → Option Addr} {C R : Nat → Nat} {n : Nat} {D : Nat → List Wy} (h : ORA w lo hi B off A C R n D) (m : Nat) (hm : m < n) (hBw : B < w.heap.size) (ws : List Wy) (hl : ws.length = (D m).length)
    (hb : Betw (R m) (R m + 1) w w') (hw : OW w' lo hi (A m) ws (R m)) (h0 : 0 < (D m).length) : ORA w' lo hi B off A C R n (fun i => if i = m then ws else D i) := by
  have hlen : ∀ i, (if i = m then ws else D i).length = (D i).length := fun i => by
    by_cases e : i = m
    · subst e; rw [if_pos rfl]; exact hl
    · rw [if_neg e]
  refine ⟨fun i hi => ?_, fun i hi => by rw [hlen]; exact h.room i hi, fun i hi => ?_, fun i hi => ?_, fun i j hi hj => ?_⟩
  · rw [hlen]
    have := h.base m hm h0
    exact (hb.cell (p := ⟨B, off + i, none⟩) hBw (by simp; omega)).trans (h.cell i hi)
  · by_cases e : i = m
    · subst e; rw [if_pos rfl]; exact hw
    · rw [if_neg e]
      refine (h.row i hi).betw hb (fun g0 => ?_)
      have := h.apart i m hi hm e g0 h0
      omega
  · rw [hlen]; exact h.base i hi
  · rw [hlen, hlen]; exact h.apart i j hi hj
/-- Rows that are being laid into the block 'B', k of them so far; their own blocks lie below 'm'. -/
structure Rsb (w : World) (lo m B n k : Nat) (D : Nat → List Wy) : Prop where
  lt : B < m
  mle : m ≤ w.heap.size
  low : lo ≤ B
  free : ∀ j, w.frozen? ⟨B, j, none⟩ = false
  room : ∀ i, i < n → ∃ u, w.cell? ⟨B, i, none⟩ = some u
  rows : ∃ A C R, ORA w lo m B 0 A C R k D
theorem ORA.keep {w w' : World} {lo hi B off : Nat} {A : Nat → Option Addr} {C R : Nat → Nat} {n : Nat} {D : Nat → List Wy} (h : ORA w lo hi B off A C R n D) (hb : Below w.heap.size w w') (hB : B < w.heap.size) : ORA w' lo hi B off A C R n D :=
  ⟨fun i hi' => (hb.cell (p := ⟨B, off + i, none⟩) hB).trans (h.cell i hi'), h.room, fun i hi' => (h.row i hi').below hb, h.base, h.apart⟩
theorem Rsb.below {w w' : World} {lo m B n k : Nat} {D : Nat → List Wy} (h : Rsb w lo m B n k D) (hb : Below w.heap.size w w') : Rsb w' lo m B n k D := by
  have hB : B < w.heap.size := Nat.lt_of_lt_of_le h.lt h.mle
  obtain ⟨A, C, R, hr⟩ := h.rows
  exact ⟨h.lt, Nat.le_trans h.mle hb.size, h.low, fun j => (hb.frozen (p := ⟨B, j, none⟩) hB).trans (h.free j), fun i hi => by rw [hb.cell (p := ⟨B, i, none⟩) hB]; exact h.room i hi, A, C, R, hr.keep hb hB⟩
theorem Rsb.put {w : World} {lo m B n k : Nat} {D : Nat → List Wy} (h : Rsb w lo m B n k D) (hk : k < n) (a : Option Addr) (ca Rk m' : Nat) (hR : 0 < (D k).length → m ≤ Rk) (how : OW w lo m' a (D k) Rk) (hca : (D k).length ≤ ca) (hm : m ≤ m') (hm' : m' ≤ w.heap.size) :
    Rsb (w.setCell ⟨B, k, none⟩ (.slice a (D k).length ca)) lo m' B n (k + 1) D := by
  obtain ⟨u, hu⟩ := h.room k hk
  have hB : B < w.heap.size := Nat.lt_of_lt_of_le h.lt h.mle
  have hbt : Betw B (B + 1) w (w.setCell ⟨B, k, none⟩ (.slice a (D k).length ca)) := (Betw.refl _ _ _).setCell (p := ⟨B, k, none⟩) (Nat.le_refl _) (Nat.lt_succ_self _) _
  obtain ⟨A, C, R, hr⟩ := h.rows
  have hlt := h.lt
  refine ⟨by omega, by simpa using hm', h.low, fun j => by rw [World.frozen?_setCell]; exact h.free j, fun i hi => ?_, fun i => if i = k then a else A i, fun i => if i = k then ca else C i, fun i => if i = k then Rk else R i, ⟨fun i hi => ?_, fun i hi => ?_, fun i hi => ?_, fun i hi h0 => ?_, fun i j hi hj hne hi0 hj0 => ?_⟩⟩
  · by_cases e : i = k
    · subst e; exact ⟨_, World.cell?_setCell_same _ _ _ hu⟩
    · rw [World.cell?_setCell_other _ _ _ _ (by intro c; injection c with c1 c2 c3; omega)]; exact h.room i hi
  · simp only [Nat.zero_add]
    by_cases e : i = k
    · subst e; simp only [if_pos]; exact World.cell?_setCell_same _ _ _ hu
    · simp only [if_neg e]
      rw [World.cell?_setCell_other _ _ _ _ (by intro c; injection c with c1 c2 c3; omega)]
      have := hr.cell i (by omega)
      rwa [Nat.zero_add] at this
  · by_cases e : i = k
    · subst e; simp only [if_pos]; exact hca
    · simp only [if_neg e]; exact hr.room i (by omega)
  · by_cases e : i = k
    · subst e
      simp only [if_pos]
      exact how.betw hbt (fun h0 => by have := hR h0; omega)
    · simp only [if_neg e]
      refine ((hr.row i (by omega)).wide (Nat.le_refl _) hm).betw hbt (fun h0 => ?_)
      have := hr.base i (by omega) h0
      omega
  · by_cases e : i = k
    · subst e
      simp only [if_pos]
      have := hR h0; omega
    · simp only [if_neg e]
      exact hr.base i (by omega) h0
  · by_cases e : i = k
    · have e2 : j ≠ k := by omega
      have hj' : j < k := by omega
      rw [e] at hi0
      obtain ⟨_, _, _, g, _⟩ := hr.row j hj' hj0
      simp only [if_pos e, if_neg e2]
      have := hR hi0; omega
    · by_cases e2 : j = k
      · have hi' : i < k := by omega
        rw [e2] at hj0
        obtain ⟨_, _, _, g, _⟩ := hr.row i hi' hi0
        simp only [if_neg e, if_pos e2]
        have := hR hj0; omega
      · simp only [if_neg e, if_neg e2]
        exact hr.apart i j (by omega) (by omega) hne hi0 hj0
theorem Rsb.rows' {w : World} {lo m B n : Nat} {D : Nat → List Wy} (h : Rsb w lo m B n n D) : ORows w lo m (some ⟨B, 0, none⟩) n D := by
  obtain ⟨A, C, R, hr⟩ := h.rows
  exact ⟨B, 0, A, C, R, fun _ => ⟨rfl, h.low, h.lt, Nat.lt_of_lt_of_le h.lt h.mle⟩, hr⟩
theorem ORA.congr {w : World} {lo hi B off : Nat} {A : Nat → Option Addr} {C R : Nat → Nat} {n : Nat} {D E : Nat → List Wy} (h : ORA w lo hi B off A C R n D) (he : ∀ i, i < n → D i = E i) : ORA w lo hi B off A C R n E :=
  ⟨fun i hi => by rw [← he i hi]; exact h.cell i hi, fun i hi => by rw [← he i hi]; exact h.room i hi, fun i hi => by rw [← he i hi]; exact h.row i hi, fun i hi => by rw [← he i hi]; exact h.base i hi, fun i j hi hj => by rw [← he i hi, ← he j hj]; exact h.apart i j hi hj⟩
def markWs (k n : Nat) : List Wy := (List.range n).map fun i => (((k + 2 * i : Nat) : Int), decide ((k + 2 * i + 1) % 3 = 0))
theorem markWs_len (k n : Nat) : (markWs k n).length = n := by simp [markWs]
theorem markWs_at (k n i : Nat) (hi : i < n) : (markWs k n).getD i wd = (((k + 2 * i : Nat) : Int), decide ((k + 2 * i + 1) % 3 = 0)) := by simp [markWs, List.getD, hi]
def markD (k : Nat) (D : Nat → List Wy) : Nat → List Wy := fun i => markWs (k + 2 * tot D i) (D i).length
end Go.Proofs.YtjlhkjiccibgdaaGreatDoor
namespace Go.Proofs.YtjlhkjiccibgdaaGreatDoor
open Go.ChangeShapes Go.WideShapes Go.ChangeAt Go.RowKit
set_option linter.unusedVariables false

abbrev win (b s p : Int) : Value := .agg #[.int .i64 b, .int .i64 s, .int .i64 p]
abbrev wrow (T : TypeId) (b s p : Int) : Obj := .cells #[.int .i64 b, .int .i64 s, .int .i64 p] T
def WinOk (b s p : Int) : Prop := 0 ≤ b ∧ 4 ≤ s ∧ b % 4 = 0 ∧ s % 4 = 0 ∧ b + s ≤ 2048 ∧ 1 ≤ p ∧ p ≤ 7
def inr (x lo hi : Int) : Bool := decide (lo ≤ x) && decide (x ≤ hi)
theorem inr_yes {x lo hi : Int} (h : lo ≤ x ∧ x ≤ hi) : inr x lo hi = true := by simp [inr, h.1, h.2]
theorem inr_no {x lo hi : Int} (h : ¬ (lo ≤ x ∧ x ≤ hi)) : inr x lo hi = false := by
  unfold inr; rw [← Bool.decide_and]; exact decide_eq_false h
theorem of_inr {x lo hi : Int} (h : inr x lo hi = true) : lo ≤ x ∧ x ≤ hi := by
  unfold inr at h; rw [← Bool.decide_and] at h; exact of_decide_eq_true h
theorem tm4 (x : Int) : (Int.tmod x 4 = 0) ↔ x % 4 = 0 := by
  rw [← Int.dvd_iff_tmod_eq_zero]; omega
theorem told (p : Prop) : ∃ q : Bool, (q = true ↔ p) := by
  by_cases h : p
  · exact ⟨true, by simp [h]⟩
  · exact ⟨false, by simp [h]⟩
theorem new_cell (w : World) (cs : Array Value) (t : TypeId) (i : Nat) (v : Value) (h : cs[i]? = some v) : (w.alloc (.cells cs t)).cell? ⟨w.heap.size, i, none⟩ = some v := by
  simp [h]
theorem in_any (x a b : Int) (w : World) : Calls Tryz.prog 40 #[.int .i64 x, .int .i64 a, .int .i64 b] w fun e w' => e = .returned (.bool (inr x a b)) ∧ w' = w := by
  by_cases h1 : a ≤ x
  · by_cases h2 : x ≤ b
    · rw [inr_yes ⟨h1, h2⟩]
      go_enter Tryz.func40, Tryz.ntmps40
      go_wp2
      go_ret
      exact ⟨rfl, rfl⟩
    · rw [inr_no (fun g => h2 g.2)]
      go_enter Tryz.func40, Tryz.ntmps40
      go_wp2
      go_ret
      exact ⟨rfl, rfl⟩
  · rw [inr_no (fun g => h1 g.1)]
    go_enter Tryz.func40, Tryz.ntmps40
    go_wp2
    go_ret
    exact ⟨rfl, rfl⟩
theorem is_perm (x : Int) (w : World) : Calls Tryz.prog 88 #[.int .i64 x] w fun e w' => e = .returned (.bool (inr x 1 7)) ∧ w' = w := by
  by_cases h1 : 1 ≤ x
  · by_cases h2 : x ≤ 7
    · rw [inr_yes ⟨h1, h2⟩]
      go_enter Tryz.func88, Tryz.ntmps88
      go_wp2
      go_ret
      exact ⟨rfl, rfl⟩
    · rw [inr_no (fun g => h2 g.2)]
      go_enter Tryz.func88, Tryz.ntmps88
      go_wp2
      go_ret
      exact ⟨rfl, rfl⟩
  · rw [inr_no (fun g => h1 g.1)]
    go_enter Tryz.func88, Tryz.ntmps88
    go_wp2
    go_ret
    exact ⟨rfl, rfl⟩
theorem to_win (b s p : Int) (w : World) : Calls Tryz.prog 22 #[win b s p] w fun x w' => x = .returned (win b s p) ∧ Below w.heap.size w w' := by
  go_enter Tryz.func22, Tryz.ntmps22
  go_wp2
  exact bodyPost_ret (v := win b s p) (by simp [results, Tryz.results22, go_sem]) rfl ⟨rfl, (((Below.refl _ _).alloc (Nat.le_refl _) _).alloc (by simp) _).alloc (by simp; omega) _⟩
set_option maxHeartbeats 2000000 in
theorem impl_wok (b s p : Int) (q : Bool) (w : World) (hs : s ≤ 9223372036854775807) (hq : q = true ↔ WinOk b s p) : Calls Tryz.prog 70 #[win b s p] w fun x w' => x = .returned (.bool q) ∧ Below w.heap.size w w' := by
  have HQ : Hid _ := hq
  have HM : Hid _ := And.intro (tm4 b) (tm4 s)
  have hbel : ∀ o1 : Obj, Below w.heap.size w (w.alloc o1) := fun o1 => (Below.refl _ _).alloc (Nat.le_refl _) _
  have no : Hid (¬ WinOk b s p → q = false) := fun h => by
    cases q
    · rfl
    · exact absurd (HQ.out.1 rfl) h
  clear hq
  generalize hB : Int.tmod b 4 = mb at HM
  generalize hS : Int.tmod s 4 = ms at HM
  have h24 : (s : Int) ≤ 9223372036854775807 := hs
  by_cases hw : 4 ≤ s ∧ 0 ≤ b ∧ b ≤ 2048 - s
  · obtain ⟨h1, h2, h3⟩ := hw
    have hwr : IntKind.i64.wrap (2048 - s) = 2048 - s := by rw [IntKind.wrap_i64]; omega
    by_cases hb : mb = 0
    · by_cases hs : ms = 0
      · by_cases hp : 1 ≤ p ∧ p ≤ 7
        · have hr : Hid (inr p 1 7 = true) := inr_yes hp
          have HT : Hid (q = true) := HQ.out.2 ⟨h2, h1, HM.out.1.1 hb, HM.out.2.1 hs, by omega, hp.1, hp.2⟩
          go_enter Tryz.func70, Tryz.ntmps70
          go_wp2_with fail
          refine (is_perm p _).mono ?_
          rintro x w1 ⟨rfl, rfl⟩
          rw [hr.out]
          go_wp2
          go_ret
          exact ⟨ret_bool HT.out.symm, hbel _⟩
        · have hr : Hid (inr p 1 7 = false) := inr_no hp
          have HT : Hid (q = false) := no.out (fun h => hp ⟨h.2.2.2.2.2.1, h.2.2.2.2.2.2⟩)
          clear hp
          go_enter Tryz.func70, Tryz.ntmps70
          go_wp2_with fail
          refine (is_perm p _).mono ?_
          rintro x w1 ⟨rfl, rfl⟩
          rw [hr.out]
          go_wp2
          go_ret
          exact ⟨ret_bool HT.out.symm, hbel _⟩
      · have HT : Hid (q = false) := no.out (fun h => hs (HM.out.2.2 h.2.2.2.1))
        have hs' : (ms == 0) = false := by simpa using hs
        clear hs
        go_enter Tryz.func70, Tryz.ntmps70
        go_wp2
        go_ret
        exact ⟨ret_bool HT.out.symm, hbel _⟩
    · have HT : Hid (q = false) := no.out (fun h => hb (HM.out.1.2 h.2.2.1))
      have hb' : (mb == 0) = false := by simpa using hb
      clear hb
      go_enter Tryz.func70, Tryz.ntmps70
      go_wp2
      go_ret
      exact ⟨ret_bool HT.out.symm, hbel _⟩
  · have HT : Hid (q = false) := no.out (fun h => hw ⟨h.2.1, h.1, by have := h.2.2.2.2.1; omega⟩)
    have hm : ((mb == 0) = false) ∨ (mb = 0 ∧ (ms == 0) = false) ∨ (mb = 0 ∧ ms = 0) := by
      by_cases h1 : mb = 0
      · by_cases h2 : ms = 0
        · exact .inr (.inr ⟨h1, h2⟩)
        · exact .inr (.inl ⟨h1, by simpa using h2⟩)
      · exact .inl (by simpa using h1)
    by_cases h1 : 4 ≤ s
    · by_cases h2 : 0 ≤ b
      · have h3 : ¬ b ≤ 2048 - s := fun h3 => hw ⟨h1, h2, h3⟩
        have hwr : IntKind.i64.wrap (2048 - s) = 2048 - s := by rw [IntKind.wrap_i64]; omega
        clear hw
        rcases hm with hm | ⟨hm, hn⟩ | ⟨hm, hn⟩ <;>
        · go_enter Tryz.func70, Tryz.ntmps70
          go_wp2
          go_ret
          exact ⟨ret_bool HT.out.symm, hbel _⟩
      · clear hw
        rcases hm with hm | ⟨hm, hn⟩ | ⟨hm, hn⟩ <;>
        · go_enter Tryz.func70, Tryz.ntmps70
          go_wp2
          go_ret
          exact ⟨ret_bool HT.out.symm, hbel _⟩
    · clear hw
      rcases hm with hm | ⟨hm, hn⟩ | ⟨hm, hn⟩ <;>
      · go_enter Tryz.func70, Tryz.ntmps70
        go_wp2
        go_ret
        exact ⟨ret_bool HT.out.symm, hbel _⟩
set_option maxHeartbeats 2000000 in
theorem spec_wok (b s p : Int) (q : Bool) (w : World) (hq : q = true ↔ WinOk b s p) : Calls Tryz.prog 61 #[win b s p] w fun x w' => x = .returned (.bool q) ∧ Below w.heap.size w w' := by
  have HQ : Hid _ := hq
  have HM : Hid _ := And.intro (tm4 b) (tm4 s)
  have hbel : ∀ o1 : Obj, Below w.heap.size w (w.alloc o1) := fun o1 => (Below.refl _ _).alloc (Nat.le_refl _) _
  have no : Hid (¬ WinOk b s p → q = false) := fun h => by
    cases q
    · rfl
    · exact absurd (HQ.out.1 rfl) h
  clear hq
  generalize hB : Int.tmod b 4 = mb at HM
  generalize hS : Int.tmod s 4 = ms at HM
  by_cases hb : 0 ≤ b ∧ b ≤ 2048
  rotate_left
  · have HT : Hid (q = false) := no.out (fun h => hb ⟨h.1, by have := h.2.2.2.2.1; have := h.2.1; omega⟩)
    have hr : Hid (inr b 0 2048 = false) := inr_no hb
    clear hb
    go_enter Tryz.func61, Tryz.ntmps61
    go_wp2_with fail
    refine (in_any b 0 2048 _).mono ?_
    rintro x w1 ⟨rfl, rfl⟩
    rw [hr.out]
    go_wp2
    go_ret
    exact ⟨ret_bool HT.out.symm, hbel _⟩
  have hr : Hid (inr b 0 2048 = true) := inr_yes hb
  by_cases hs : 4 ≤ s ∧ s ≤ 2048
  rotate_left
  · have HT : Hid (q = false) := no.out (fun h => hs ⟨h.2.1, by have := h.2.2.2.2.1; have := h.1; omega⟩)
    have hr2 : Hid (inr s 4 2048 = false) := inr_no hs
    clear hs
    go_enter Tryz.func61, Tryz.ntmps61
    go_wp2_with fail
    refine (in_any b 0 2048 _).mono ?_
    rintro x w1 ⟨rfl, rfl⟩
    rw [hr.out]
    go_wp2_with fail
    refine (in_any s 4 2048 _).mono ?_
    rintro x w1 ⟨rfl, rfl⟩
    rw [hr2.out]
    go_wp2
    go_ret
    exact ⟨ret_bool HT.out.symm, hbel _⟩
  have hr2 : Hid (inr s 4 2048 = true) := inr_yes hs
  have hwr : IntKind.i64.wrap (b + s) = b + s := by rw [IntKind.wrap_i64]; omega
  obtain ⟨hb1, hb2⟩ := hb
  obtain ⟨hs1, hs2⟩ := hs
  go_enter Tryz.func61, Tryz.ntmps61
  go_wp2_with fail
  refine (in_any b 0 2048 _).mono ?_
  rintro x w1 ⟨rfl, rfl⟩
  rw [hr.out]
  go_wp2_with fail
  refine (in_any s 4 2048 _).mono ?_
  rintro x w1 ⟨rfl, rfl⟩
  rw [hr2.out]
  by_cases h1 : mb = 0
  rotate_left
  · have HT : Hid (q = false) := no.out (fun h => h1 (HM.out.1.2 h.2.2.1))
    have h1' : (mb == 0) = false := by simpa using h1
    clear h1
    go_wp2
    go_ret
    exact ⟨ret_bool HT.out.symm, hbel _⟩
  by_cases h2 : ms = 0
  rotate_left
  · have HT : Hid (q = false) := no.out (fun h => h2 (HM.out.2.2 h.2.2.2.1))
    have h2' : (ms == 0) = false := by simpa using h2
    clear h2
    go_wp2
    go_ret
    exact ⟨ret_bool HT.out.symm, hbel _⟩
  by_cases h3 : b + s ≤ 2048
  rotate_left
  · have HT : Hid (q = false) := no.out (fun h => h3 h.2.2.2.2.1)
    go_wp2
    go_ret
    exact ⟨ret_bool HT.out.symm, hbel _⟩
  go_wp2_with fail
  refine (in_any p 1 7 _).mono ?_
  rintro x w1 ⟨rfl, rfl⟩
  have HT : Hid (inr p 1 7 = q) := by
    show _ = _
    by_cases hp : 1 ≤ p ∧ p ≤ 7
    · rw [inr_yes hp, HQ.out.2 ⟨hb1, hs1, HM.out.1.1 h1, HM.out.2.1 h2, h3, hp.1, hp.2⟩]
    · rw [inr_no hp, no.out (fun h => hp ⟨h.2.2.2.2.2.1, h.2.2.2.2.2.2⟩)]
  rw [HT.out]
  go_wp2
  go_ret
  exact ⟨rfl, hbel _⟩
end Go.Proofs.YtjlhkjiccibgdaaGreatDoor
namespace Go.Proofs.YtjlhkjiccibgdaaGreatDoor
open Go.ChangeShapes Go.WideShapes Go.ChangeAt Go.RowKit Go.Deep
set_option linter.unusedVariables false

abbrev Wn := Int × Int × Int
abbrev wn0 : Wn := (0, 0, 0)
def WOk (x : Wn) : Prop := WinOk x.1 x.2.1 x.2.2
def Has (x : Wn) (a : Int) : Prop := x.1 ≤ a ∧ a < x.1 + x.2.1
def ApartP (x y : Wn) : Prop := WOk x ∧ WOk y ∧ (x.1 + x.2.1 ≤ y.1 ∨ y.1 + y.2.1 ≤ x.1)
theorem WOk.fit {x : Wn} (h : WOk x) : wrap64 (x.1 + x.2.1) = x.1 + x.2.1 := by
  obtain ⟨h1, h2, h3, h4, h5, _⟩ := h
  exact IntWalk.wrap64_in _ (by omega)
theorem not_true {q : Bool} {p : Prop} (h : q = true ↔ p) (hn : ¬ p) : q = false := by
  cases q
  · rfl
  · exact absurd (h.1 rfl) hn
/-- No address in common just where none of the multiples of 4 is. -/
theorem apart_iff {x y : Wn} (hx : WOk x) (hy : WOk y) : ApartP x y ↔ ∀ j : Nat, j < 512 → ¬ (Has x (4 * j) ∧ Has y (4 * j)) := by
  have hx' := hx
  have hy' := hy
  obtain ⟨x1, x2, x3, x4, x5, _⟩ := hx'
  obtain ⟨y1, y2, y3, y4, y5, _⟩ := hy'
  refine ⟨fun h j hj hh => ?_, fun h => ⟨hx, hy, ?_⟩⟩
  · obtain ⟨⟨h1, h2⟩, h3, h4⟩ := hh
    rcases h.2.2 with h | h <;> omega
  · by_cases hc : x.1 ≤ y.1
    · have := h (y.1 / 4).toNat (by omega)
      have e : 4 * (((y.1 / 4).toNat : Nat) : Int) = y.1 := by omega
      rw [e] at this
      unfold Has at this
      omega
    · have := h (x.1 / 4).toNat (by omega)
      have e : 4 * (((x.1 / 4).toNat : Nat) : Int) = x.1 := by omega
      rw [e] at this
      unfold Has at this
      omega
set_option maxHeartbeats 1000000 in
theorem spec_has (b s p a : Int) (q : Bool) (w : World) (hf : wrap64 (b + s) = b + s) (hq : q = true ↔ (b ≤ a ∧ a < b + s)) : Calls Tryz.prog 83 #[win b s p, .int .i64 a] w fun x w' => x = .returned (.bool q) ∧ Below w.heap.size w w' := by
  have HQ : Hid _ := hq
  have hbel : ∀ o1 : Obj, Below w.heap.size w (w.alloc o1) := fun o1 => (Below.refl _ _).alloc (Nat.le_refl _) _
  clear hq
  by_cases h1 : b ≤ a
  · have HT : Hid (decide (a < b + s) = q) := by
      show _ = _
      by_cases h2 : a < b + s
      · rw [HQ.out.2 ⟨h1, h2⟩]; simpa using h2
      · rw [not_true HQ.out (fun h => h2 h.2)]; simpa using h2
    have HF : Hid _ := hf
    clear hf
    go_enter Tryz.func83, Tryz.ntmps83
    go_wp2
    go_ret
    exact ⟨ret_bool (by rw [HF.out]; exact HT.out), hbel _⟩
  · have HT : Hid (q = false) := not_true HQ.out (fun h => h1 h.1)
    go_enter Tryz.func83, Tryz.ntmps83
    go_wp2
    go_ret
    exact ⟨ret_bool HT.out.symm, hbel _⟩
theorem win_end (b s p : Int) (w : World) (hf : wrap64 (b + s) = b + s) : Calls Tryz.prog 89 #[win b s p] w fun x w' => x = .returned (.int .i64 (b + s)) ∧ Below w.heap.size w w' := by
  have HF : Hid _ := hf
  go_enter Tryz.func89, Tryz.ntmps89
  clear hf
  go_wp2
  go_ret
  exact ⟨ret_int HF.out, (Below.refl _ _).alloc (Nat.le_refl _) _⟩
set_option maxHeartbeats 1000000 in
theorem impl_has (b s p a : Int) (q : Bool) (w : World) (hf : wrap64 (b + s) = b + s) (hq : q = true ↔ (b ≤ a ∧ a < b + s)) : Calls Tryz.prog 104 #[win b s p, .int .i64 a] w fun x w' => x = .returned (.bool q) ∧ Below w.heap.size w w' := by
  have HQ : Hid _ := hq
  have HE : Hid _ := fun X => win_end b s p X hf
  have hb0 : Below w.heap.size w (w.alloc (wrow 49 b s p)) := (Below.refl _ _).alloc (Nat.le_refl _) _
  clear hq
  by_cases h1 : b ≤ a
  · have HT : Hid (decide (a < b + s) = q) := by
      show _ = _
      by_cases h2 : a < b + s
      · rw [HQ.out.2 ⟨h1, h2⟩]; simpa using h2
      · rw [not_true HQ.out (fun h => h2 h.2)]; simpa using h2
    generalize b + s = e at hf HT HE
    go_enter Tryz.func104, Tryz.ntmps104
    go_wp2_with fail
    refine (HE.out _).mono ?_
    rintro x w1 ⟨rfl, hb1⟩
    have hb := hb0.trans (hb1.mono (by simp))
    clear hb1 hb0
    go_wp2
    go_ret
    exact ⟨ret_bool HT.out, hb⟩
  · have HT : Hid (q = false) := not_true HQ.out (fun h => h1 h.1)
    go_enter Tryz.func104, Tryz.ntmps104
    go_wp2
    go_ret
    exact ⟨ret_bool HT.out.symm, hb0⟩
theorem kept2 {w w' : World} {p : Addr} {v : Value} (hb : Below w.heap.size w w') (h : w.cell? p = some v) : w'.cell? p = some v :=
  (hb.cell (World.block_lt_of_cell? w _ h)).trans h
set_option maxHeartbeats 4000000 in
theorem spec_apart (x y : Wn) (q : Bool) (w : World) (hq : q = true ↔ ApartP x y) : Calls Tryz.prog 62 #[win x.1 x.2.1 x.2.2, win y.1 y.2.1 y.2.2] w fun e w' => e = .returned (.bool q) ∧ Below w.heap.size w w' := by
  have HQ : Hid _ := hq
  clear hq
  obtain ⟨q1, hq1⟩ := told (WOk x)
  have HX : Hid (∀ X, Calls Tryz.prog 61 #[win x.1 x.2.1 x.2.2] X fun e w' => e = .returned (.bool q1) ∧ Below X.heap.size X w') := fun X => spec_wok _ _ _ q1 X hq1
  obtain ⟨q2, hq2⟩ := told (WOk y)
  have HY : Hid (∀ X, Calls Tryz.prog 61 #[win y.1 y.2.1 y.2.2] X fun e w' => e = .returned (.bool q2) ∧ Below X.heap.size X w') := fun X => spec_wok _ _ _ q2 X hq2
  have HQ1 : Hid _ := hq1
  have HQ2 : Hid _ := hq2
  clear hq1 hq2
  have hb0 : Below w.heap.size w ((w.alloc (wrow 49 x.1 x.2.1 x.2.2)).alloc (wrow 49 y.1 y.2.1 y.2.2)) := ((Below.refl _ _).alloc (Nat.le_refl _) _).alloc (by simp) _
  have K1 := (Bk.new w #[.int .i64 x.1, .int .i64 x.2.1, .int .i64 x.2.2] 49 w.heap.size rfl).alloc (wrow 49 y.1 y.2.1 y.2.2)
  have K2 := Bk.new (w.alloc (wrow 49 x.1 x.2.1 x.2.2)) #[.int .i64 y.1, .int .i64 y.2.1, .int .i64 y.2.2] 49 (w.heap.size + 1) (by simp)
  have HK : Hid (∀ X, Below ((w.alloc (wrow 49 x.1 x.2.1 x.2.2)).alloc (wrow 49 y.1 y.2.1 y.2.2)).heap.size ((w.alloc (wrow 49 x.1 x.2.1 x.2.2)).alloc (wrow 49 y.1 y.2.1 y.2.2)) X → Bk X w.heap.size #[.int .i64 x.1, .int .i64 x.2.1, .int .i64 x.2.2] ∧ Bk X (w.heap.size + 1) #[.int .i64 y.1, .int .i64 y.2.1, .int .i64 y.2.2] ∧ Below w.heap.size w X) := fun X hX => ⟨K1.below hX, K2.below hX, hb0.trans (hX.mono (by simp; omega))⟩
  have HB0 : Hid _ := hb0
  have HF : Hid (q1 = true → wrap64 (x.1 + x.2.1) = x.1 + x.2.1) := fun h => (HQ1.out.1 h).fit
  have HG : Hid (q2 = true → wrap64 (y.1 + y.2.1) = y.1 + y.2.1) := fun h => (HQ2.out.1 h).fit
  clear K1 K2 hb0
  have HAP : Hid (q1 = true → q2 = true → (q = true ↔ ∀ j : Nat, j < 512 → ¬ (Has x (4 * j) ∧ Has y (4 * j)))) := fun h1 h2 => HQ.out.trans (apart_iff (HQ1.out.1 h1) (HQ2.out.1 h2))
  have HN : Hid (q1 = false ∨ q2 = false → q = false) := fun h => not_true HQ.out (fun hp => by
    rcases h with h | h
    · rw [HQ1.out.2 hp.1] at h; cases h
    · rw [HQ2.out.2 hp.2.1] at h; cases h)
  clear HQ1 HQ2 HQ
  have HHS : Hid (∀ (a : Int) (r : Bool) (X : World), q1 = true → (r = true ↔ Has x a) → Calls Tryz.prog 83 #[win x.1 x.2.1 x.2.2, .int .i64 a] X fun e w' => e = .returned (.bool r) ∧ Below X.heap.size X w') := fun a r X h1 h => spec_has _ _ _ a r X (HF.out h1) h
  have HHT : Hid (∀ (a : Int) (r : Bool) (X : World), q2 = true → (r = true ↔ Has y a) → Calls Tryz.prog 83 #[win y.1 y.2.1 y.2.2, .int .i64 a] X fun e w' => e = .returned (.bool r) ∧ Below X.heap.size X w') := fun a r X h1 h => spec_has _ _ _ a r X (HG.out h1) h
  have HPX : Hid (∀ a : Int, ∃ r : Bool, r = true ↔ Has x a) := fun a => told _
  have HPY : Hid (∀ a : Int, ∃ r : Bool, r = true ↔ Has y a) := fun a => told _
  clear HF HG
  generalize hx : Has x = hasx at HAP HHS HPX
  generalize hy : Has y = hasy at HAP HHT HPY
  obtain ⟨x1, x2, x3⟩ := x
  obtain ⟨y1, y2, y3⟩ := y
  simp only at HX HY HK HB0 HHS HHT
  clear hx hy
  simp only
  generalize HW0 : (w.alloc (wrow 49 x1 x2 x3)).alloc (wrow 49 y1 y2 y3) = W0 at HK HB0
  have h00 := HK.out W0 (Below.refl _ _)
  have c0 := h00.1.cell 0 _ rfl
  have c1 := h00.1.cell 1 _ rfl
  have c2 := h00.1.cell 2 _ rfl
  clear h00
  go_enter Tryz.func62, Tryz.ntmps62
  go_wp2_with fail
  clear HW0
  refine (HX.out _).mono ?_
  rintro u w1 ⟨rfl, hb1⟩
  have h1 := HK.out w1 hb1
  have d0 := h1.2.1.cell 0 _ rfl
  have d1 := h1.2.1.cell 1 _ rfl
  have d2 := h1.2.1.cell 2 _ rfl
  have HB1 : Hid _ := And.intro hb1 h1.2.2
  clear h1 hb1 c0 c1 c2
  cases q1
  · go_wp2
    go_ret
    exact ⟨ret_bool (HN.out (.inl (by trivial))).symm, HB1.out.2⟩
  go_wp2_with fail
  refine (HY.out _).mono ?_
  rintro u w2 ⟨rfl, hb2⟩
  have hb2' := HB1.out.1.trans (hb2.mono HB1.out.1.size)
  have HB2 : Hid (Below W0.heap.size W0 w2) := hb2'
  clear hb2 hb2' HB1 d0 d1 d2
  cases q2
  · go_wp2
    go_ret
    exact ⟨ret_bool (HN.out (.inr (by trivial))).symm, (HK.out _ HB2.out).2.2⟩
  have HAP' : Hid (q = true ↔ ∀ j : Nat, j < 512 → ¬ (hasx (4 * j) ∧ hasy (4 * j))) := HAP.out (by trivial) (by trivial)
  clear HAP HN HX HY
  go_wp2
  go_loopw [5] (fun i wr => ∃ k : Nat, k ≤ 512 ∧ i = .int .i64 ((4 * k : Nat) : Int) ∧ Hid (Below W0.heap.size W0 wr ∧ ∀ j : Nat, j < k → ¬ (hasx (4 * j) ∧ hasy (4 * j)))) (fun i _ => 2048 - (intOf i).toNat)
  case atStart => exact ⟨0, by omega, rfl, HB2.out, fun j hj => absurd hj (by omega)⟩
  case round =>
    obtain ⟨k, hk, rfl, HR⟩ := hrel
    by_cases hlt : k < 512
    · have hlt' : ((4 * k : Nat) : Int) < 2048 := by omega
      obtain ⟨r1, hr1⟩ := HPX.out ((4 * k : Nat) : Int)
      obtain ⟨r2, hr2⟩ := HPY.out ((4 * k : Nat) : Int)
      have HR1 : Hid _ := And.intro hr1 hr2
      clear hr1 hr2
      have h1 := HK.out _ HR.out.1
      have c0 := h1.1.cell 0 _ rfl
      have c1 := h1.1.cell 1 _ rfl
      have c2 := h1.1.cell 2 _ rfl
      obtain ⟨K, HKK⟩ : ∃ K, Hid (K = 4 * k) := ⟨_, rfl⟩
      have hK : K < 2048 := by rw [HKK.out]; omega
      have hK' : (K : Int) < 2048 := by omega
      rw [← HKK.out] at HR1 ⊢
      clear h1 hlt'
      go_wp2_with fail
      refine (HHS.out (K : Int) r1 _ (by trivial) HR1.out.1).mono ?_
      rintro u w3 ⟨rfl, hb3⟩
      have HB3 : Hid (Below W0.heap.size W0 w3) := HR.out.1.trans (hb3.mono HR.out.1.size)
      clear hb3 c0 c1 c2
      have h1 := HK.out _ HB3.out
      have c0 := h1.2.1.cell 0 _ rfl
      have c1 := h1.2.1.cell 1 _ rfl
      have c2 := h1.2.1.cell 2 _ rfl
      clear h1
      have HNX : Hid (r1 = false ∨ r2 = false → ∀ j : Nat, j < k + 1 → ¬ (hasx (4 * j) ∧ hasy (4 * j))) := fun h j hj hh => by
        by_cases e : j = k
        · subst e
          have e2 : (K : Int) = 4 * (j : Int) := by rw [HKK.out]; omega
          rcases h with h | h
          · rw [HR1.out.1.2 (by rw [e2]; exact hh.1)] at h; cases h
          · rw [HR1.out.2.2 (by rw [e2]; exact hh.2)] at h; cases h
        · exact HR.out.2 j (by omega) hh
      cases r1
      · clear c0 c1 c2
        go_wp2
        go_roundw
        case rel => exact ⟨k + 1, by omega, by rw [HKK.out]; go_num, HB3.out, HNX.out (.inl (by trivial))⟩
        case measure => rw [HKK.out]; simp [intOf]; omega
      go_wp2_with fail
      refine (HHT.out (K : Int) r2 _ (by trivial) HR1.out.2).mono ?_
      rintro u w4 ⟨rfl, hb4⟩
      have HB4 : Hid (Below W0.heap.size W0 w4) := HB3.out.trans (hb4.mono HB3.out.size)
      clear hb4 c0 c1 c2
      cases r2
      · go_wp2
        go_roundw
        case rel => exact ⟨k + 1, by omega, by rw [HKK.out]; go_num, HB4.out, HNX.out (.inr (by trivial))⟩
        case measure => rw [HKK.out]; simp [intOf]; omega
      · have HT : Hid (q = false) := not_true HAP'.out (fun h => h k hlt ⟨by have := HR1.out.1.1 (by trivial); rw [HKK.out] at this; simpa using this, by have := HR1.out.2.1 (by trivial); rw [HKK.out] at this; simpa using this⟩)
        go_wp2
        go_ret
        exact ⟨ret_bool HT.out.symm, (HK.out _ HB4.out).2.2⟩
    · obtain rfl : k = 512 := by omega
      have HT : Hid (q = true) := HAP'.out.2 HR.out.2
      go_wp2
      go_ret
      exact ⟨ret_bool HT.out.symm, (HK.out _ HR.out.1).2.2⟩
end Go.Proofs.YtjlhkjiccibgdaaGreatDoor
