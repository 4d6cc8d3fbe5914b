/-
  Rows of bytes in memory, a list of such rows, and what stays of them: plain facts on worlds. No function of the program in sight; no conditions but those that each fact names.
  What the laws' helpers on lists of numbers and on rows of bytes do: their measure, their copies, whether two read alike, the marks that are laid and looked up. Conditions: lengths are at most 1048576.
  What the laws' helpers on lists of rows of bytes do: their measure, their copies, whether two read alike, the marks that are laid and looked up. Conditions: rows and bytes are at most 1048576 together.
  What the laws' helpers on guests do: their measure, their copies, whether two read alike, the marks that are laid and looked up. Conditions: registers, rows and bytes are at most 1048576 together.
-/
import Derived.Test.YtjlhkjiccibgdaaGreatDoorSegs
import Derived.Test.YtjlhkjiccibgdaaGreatDoorWnd
import Derived.Below
import Derived.Test.YtjlhkjiccibgdaaGreatDoorProg
import Derived.Deep.RegionHeld3
import Derived.Deep.QuietTactic
import Derived.BigQuiet
namespace Go.Proofs.YtjlhkjiccibgdaaGreatDoor
open Go.ChangeShapes Go.WideShapes Go.ChangeAt Go.RowKit Go.Deep
set_option linter.unusedVariables false

/-- A slice that begins at 'a' reads as 'n' rows, row i the bytes 'D i'. -/
def BSeg (w : World) (a : Option Addr) (n : Nat) (D : Nat → List Int) : Prop :=
  0 < n → ∃ b off, a = some ⟨b, off, none⟩ ∧ b < w.heap.size ∧ ∀ i, i < n → ∃ ai ci, w.cell? ⟨b, off + i, none⟩ = some (.slice ai (D i).length ci) ∧ Seg .u8 w ai (D i) ∧ (D i).length ≤ ci
theorem BSeg.at {w : World} {a : Option Addr} {n : Nat} {D : Nat → List Int} (h : BSeg w a n D) (i : Nat) (hi : i < n) :
    ∃ b off ai ci, a = some ⟨b, off, none⟩ ∧ b < w.heap.size ∧ w.cell? ⟨b, off + i, none⟩ = some (.slice ai (D i).length ci) ∧ Seg .u8 w ai (D i) := by
  obtain ⟨b, off, e, hlt, hc⟩ := h (by omega)
  obtain ⟨ai, ci, h1, h2, _⟩ := hc i hi
  exact ⟨b, off, ai, ci, e, hlt, h1, h2⟩
theorem BSeg.at' {w : World} {a : Option Addr} {n : Nat} {D : Nat → List Int} (h : BSeg w a n D) (i : Nat) (hi : i < n) :
    ∃ b off ai ci, a = some ⟨b, off, none⟩ ∧ b < w.heap.size ∧ w.cell? ⟨b, off + i, none⟩ = some (.slice ai (D i).length ci) ∧ Seg .u8 w ai (D i) ∧ (D i).length ≤ ci := by
  obtain ⟨b, off, e, hlt, hc⟩ := h (by omega)
  obtain ⟨ai, ci, h1, h2, h3⟩ := hc i hi
  exact ⟨b, off, ai, ci, e, hlt, h1, h2, h3⟩
theorem BSeg.below {w w' : World} {a : Option Addr} {n : Nat} {D : Nat → List Int} (h : BSeg w a n D) (hb : Below w.heap.size w w') : BSeg w' a n D := fun h0 => by
  obtain ⟨b, off, e, hlt, hc⟩ := h h0
  refine ⟨b, off, e, Nat.lt_of_lt_of_le hlt hb.size, fun i hi => ?_⟩
  obtain ⟨ai, ci, h1, h2, h3⟩ := hc i hi
  exact ⟨ai, ci, (hb.cell (p := ⟨b, off + i, none⟩) hlt).trans h1, h2.below hb, h3⟩
theorem BSeg.congr {w : World} {a : Option Addr} {n : Nat} {D E : Nat → List Int} (h : BSeg w a n D) (he : ∀ i, i < n → D i = E i) : BSeg w a n E := fun h0 => by
  obtain ⟨b, off, e, hlt, hc⟩ := h h0
  exact ⟨b, off, e, hlt, fun i hi => by rw [← he i hi]; exact hc i hi⟩
def btot (D : Nat → List Int) : Nat → Nat
  | 0 => 0
  | m + 1 => btot D m + (D m).length
theorem btot_mono (D : Nat → List Int) {a b : Nat} (h : a ≤ b) : btot D a ≤ btot D b := by
  induction b with
  | zero => have : a = 0 := by omega
            subst this; exact Nat.le_refl _
  | succ b ih =>
    by_cases e : a = b + 1
    · subst e; exact Nat.le_refl _
    · have := ih (by omega)
      simp only [btot]; omega
theorem btot_row (D : Nat → List Int) {i n : Nat} (h : i < n) : (D i).length ≤ btot D n := by
  have := btot_mono D (show i + 1 ≤ n by omega)
  simp only [btot] at this; omega
theorem btot_congr {D E : Nat → List Int} {n : Nat} (h : ∀ i, i < n → (D i).length = (E i).length) : btot D n = btot E n := by
  induction n with
  | zero => rfl
  | succ n ih => simp only [btot]; rw [ih (fun i hi => h i (by omega)), h n (by omega)]

/-- Numbers that lie in the block 'R', which may be written. -/
def ON (k : IntKind) (w : World) (lo hi : Nat) (a : Option Addr) (ws : List Int) (R : Nat) : Prop :=
  0 < ws.length → ∃ off, a = some ⟨R, off, none⟩ ∧ lo ≤ R ∧ R < hi ∧ R < w.heap.size ∧ (∀ i, i < ws.length → w.cell? ⟨R, off + i, none⟩ = some (.int k (ws.getD i 0))) ∧ ∀ j, w.frozen? ⟨R, j, none⟩ = false
theorem ON.nil (k : IntKind) (w : World) (lo hi : Nat) (a : Option Addr) (R : Nat) : ON k w lo hi a [] R := fun h => absurd h (by simp)
theorem ON.seg {k : IntKind} {w : World} {lo hi : Nat} {a : Option Addr} {ws : List Int} {R : Nat} (h : ON k w lo hi a ws R) : Seg k w a ws := fun h0 => by
  obtain ⟨off, e, _, _, hlt, hc, _⟩ := h h0
  exact ⟨R, off, e, hlt, hc⟩
theorem ON.betw {k : IntKind} {w w' : World} {lo hi l' h' : Nat} {a : Option Addr} {ws : List Int} {R : Nat} (h : ON k w lo hi a ws R) (hb : Betw l' h' w w') (ho : 0 < ws.length → R < l' ∨ h' ≤ R) : ON k w' lo hi a ws R := fun h0 => by
  obtain ⟨off, e, h1, h2, hlt, hc, hf⟩ := h h0
  have ho := ho h0
  exact ⟨off, e, h1, h2, Nat.lt_of_lt_of_le hlt hb.size, fun i hi => (hb.cell (p := ⟨R, off + i, none⟩) hlt ho).trans (hc i hi), fun j => (hb.frozen (p := ⟨R, j, none⟩) hlt ho).trans (hf j)⟩
theorem ON.below {k : IntKind} {w w' : World} {lo hi : Nat} {a : Option Addr} {ws : List Int} {R : Nat} (h : ON k w lo hi a ws R) (hb : Below w.heap.size w w') : ON k w' lo hi a ws R :=
  ON.betw (l' := 0) (h' := 0) h (Below.betw hb) (fun _ => .inr (Nat.zero_le _))
theorem ON.wide {k : IntKind} {w : World} {lo hi l' h' : Nat} {a : Option Addr} {ws : List Int} {R : Nat} (h : ON k w lo hi a ws R) (h1 : l' ≤ lo) (h2 : hi ≤ h') : ON k w l' h' a ws R := fun h0 => by
  obtain ⟨off, e, g1, g2, hlt, hc, hf⟩ := h h0
  exact ⟨off, e, by omega, by omega, hlt, hc, hf⟩
theorem ON.own {k : IntKind} {w : World} {B lo hi : Nat} {zs : List Int} (h : Own k w B zs) (h1 : lo ≤ B) (h2 : B < hi) : ON k w lo hi (some ⟨B, 0, none⟩) zs B := fun _ => ⟨0, rfl, h1, h2, h.lt, fun i hi => by rw [Nat.zero_add]; exact h.cell i hi, h.free⟩
/-- Rows whose blocks, and that of the list itself, lie from 'lo' on and below 'hi', apart from one another. -/
structure BRA (w : World) (lo hi B off : Nat) (A : Nat → Option Addr) (C R : Nat → Nat) (n : Nat) (D : Nat → List Int) : Prop where
  cell : ∀ i, i < n → w.cell? ⟨B, off + i, none⟩ = some (.slice (A i) (D i).length (C i))
  room : ∀ i, i < n → (D i).length ≤ C i
  row : ∀ i, i < n → ON .u8 w lo hi (A i) (D i) (R i)
  base : ∀ i, i < n → 0 < (D i).length → R i ≠ B
  apart : ∀ i j, i < n → j < n → i ≠ j → 0 < (D i).length → 0 < (D j).length → R i ≠ R j
def BRows (w : World) (lo hi : Nat) (a : Option Addr) (n : Nat) (D : Nat → List Int) : Prop :=
  ∃ (B off : Nat) (A : Nat → Option Addr) (C R : Nat → Nat), (0 < n → a = some ⟨B, off, none⟩ ∧ lo ≤ B ∧ B < hi ∧ B < w.heap.size) ∧ BRA w lo hi B off A C R n D
theorem BRA.betw {w w' : World} {lo hi B off l' h' : Nat} {A : Nat → Option Addr} {C R : Nat → Nat} {n : Nat} {D : Nat → List Int} (h : BRA w lo hi B off A C R n D) (hb : Betw l' h' w w') (hB : B < w.heap.size) (ho : hi ≤ l' ∨ h' ≤ lo) (hB1 : lo ≤ B) (hB2 : B < hi) : BRA w' lo hi B off A C R n D :=
  ⟨fun i hi' => (hb.cell (p := ⟨B, off + i, none⟩) hB (by rcases ho with h | h <;> simp <;> omega)).trans (h.cell i hi'), h.room, fun i hi' => (h.row i hi').betw hb (fun h0 => by obtain ⟨_, _, h1, h2, _⟩ := h.row i hi' h0; omega), h.base, h.apart⟩
theorem BRows.betw {w w' : World} {lo hi l' h' : Nat} {a : Option Addr} {n : Nat} {D : Nat → List Int} (h : BRows w lo hi a n D) (hb : Betw l' h' w w') (ho : hi ≤ l' ∨ h' ≤ lo) : BRows w' lo hi a n D := by
  obtain ⟨B, off, A, C, R, h1, h2⟩ := h
  by_cases h0 : 0 < n
  · obtain ⟨e, g1, g2, g3⟩ := h1 h0
    exact ⟨B, off, A, C, R, fun _ => ⟨e, g1, g2, Nat.lt_of_lt_of_le g3 hb.size⟩, h2.betw hb g3 ho g1 g2⟩
  · exact ⟨B, off, A, C, R, fun h => absurd h h0, ⟨fun i hi => absurd hi (by omega), fun i hi => absurd hi (by omega), fun i hi => absurd hi (by omega), fun i hi => absurd hi (by omega), fun i j hi => absurd hi (by omega)⟩⟩
theorem BRows.below {w w' : World} {lo hi : Nat} {a : Option Addr} {n : Nat} {D : Nat → List Int} (h : BRows w lo hi a n D) (hb : Below w.heap.size w w') : BRows w' lo hi a n D :=
  BRows.betw (l' := 0) (h' := 0) h (Below.betw hb) (.inr (Nat.zero_le _))
theorem BRows.seg {w : World} {lo hi : Nat} {a : Option Addr} {n : Nat} {D : Nat → List Int} (h : BRows w lo hi a n D) : BSeg w a n D := fun h0 => by
  obtain ⟨B, off, A, C, R, h1, h2⟩ := h
  obtain ⟨e, g1, g2, g3⟩ := h1 h0
  exact ⟨B, off, e, g3, fun i hi => ⟨A i, C i, h2.cell i hi, (h2.row i hi).seg, h2.room i hi⟩⟩
theorem BRows.congr {w : World} {lo hi : Nat} {a : Option Addr} {n : Nat} {D E : Nat → List Int} (h : BRows w lo hi a n D) (he : ∀ i, i < n → D i = E i) : BRows w lo hi a n E := by
  obtain ⟨B, off, A, C, R, h1, h2⟩ := h
  exact ⟨B, off, A, C, R, h1, ⟨fun i hi => by rw [← he i hi]; exact h2.cell i hi, fun i hi => by rw [← he i hi]; exact h2.room i hi, fun i hi => by rw [← he i hi]; exact h2.row i hi, fun i hi => by rw [← he i hi]; exact h2.base i hi, fun i j hi hj => by rw [← he i hi, ← he j hj]; exact h2.apart i j hi hj⟩⟩
theorem BRows.wide {w : World} {lo hi l' h' : Nat} {a : Option Addr} {n : Nat} {D : Nat → List Int} (h : BRows w lo hi a n D) (g1 : l' ≤ lo) (g2 : hi ≤ h') : BRows w l' h' a n D := by
  obtain ⟨B, off, A, C, R, h1, h2⟩ := h
  exact ⟨B, off, A, C, R, fun h0 => ⟨(h1 h0).1, by have := (h1 h0).2.1; omega, by have := (h1 h0).2.2.1; omega, (h1 h0).2.2.2⟩, ⟨h2.cell, h2.room, fun i hi => (h2.row i hi).wide g1 g2, h2.base, h2.apart⟩⟩
/-- One row is written over by as many bytes. -/
theorem BRA.put {w w' : World} {lo hi B off : Nat} {A : Nat → Option Addr} {C R : Nat → Nat} {n : Nat} {D : Nat → List Int} (h : BRA w lo hi B off A C R n D) (m : Nat) (hm : m < n) (hBw : B < w.heap.size) (ws : List Int) (hl : ws.length = (D m).length)
    (hb : Betw (R m) (R m + 1) w w') (hw : ON .u8 w' lo hi (A m) ws (R m)) (h0 : 0 < (D m).length) : BRA w' lo hi B off A C R n (fun i => if i = m then ws else D i) := by
  have hlen : ∀ i, (if i = m then ws else D i).length = (D i).length := fun i => by
    by_cases e : i = m
    · subst e; rw [if_pos rfl]; exact hl
    · rw [if_neg e]
  refine ⟨fun i hi => ?_, fun i hi => by rw [hlen]; exact h.room i hi, fun i hi => ?_, fun i hi => ?_, fun i j hi hj => ?_⟩
  · rw [hlen]
    have := h.base m hm h0
    exact (hb.cell (p := ⟨B, off + i, none⟩) hBw (by simp; omega)).trans (h.cell i hi)
  · by_cases e : i = m
    · subst e; rw [if_pos rfl]; exact hw
    · rw [if_neg e]
      refine (h.row i hi).betw hb (fun g0 => ?_)
      have := h.apart i m hi hm e g0 h0
      omega
  · rw [hlen]; exact h.base i hi
  · rw [hlen, hlen]; exact h.apart i j hi hj
/-- Rows that are being laid into the block 'B', k of them so far; their own blocks lie below 'm'. -/
structure Bsb (w : World) (lo m B n k : Nat) (D : Nat → List Int) : Prop where
  lt : B < m
  mle : m ≤ w.heap.size
  low : lo ≤ B
  free : ∀ j, w.frozen? ⟨B, j, none⟩ = false
  room : ∀ i, i < n → ∃ u, w.cell? ⟨B, i, none⟩ = some u
  rows : ∃ A C R, BRA w lo m B 0 A C R k D
theorem BRA.keep {w w' : World} {lo hi B off : Nat} {A : Nat → Option Addr} {C R : Nat → Nat} {n : Nat} {D : Nat → List Int} (h : BRA w lo hi B off A C R n D) (hb : Below w.heap.size w w') (hB : B < w.heap.size) : BRA w' lo hi B off A C R n D :=
  ⟨fun i hi' => (hb.cell (p := ⟨B, off + i, none⟩) hB).trans (h.cell i hi'), h.room, fun i hi' => (h.row i hi').below hb, h.base, h.apart⟩
theorem Bsb.below {w w' : World} {lo m B n k : Nat} {D : Nat → List Int} (h : Bsb w lo m B n k D) (hb : Below w.heap.size w w') : Bsb w' lo m B n k D := by
  have hB : B < w.heap.size := Nat.lt_of_lt_of_le h.lt h.mle
  obtain ⟨A, C, R, hr⟩ := h.rows
  exact ⟨h.lt, Nat.le_trans h.mle hb.size, h.low, fun j => (hb.frozen (p := ⟨B, j, none⟩) hB).trans (h.free j), fun i hi => by rw [hb.cell (p := ⟨B, i, none⟩) hB]; exact h.room i hi, A, C, R, hr.keep hb hB⟩
theorem Bsb.put {w : World} {lo m B n k : Nat} {D : Nat → List Int} (h : Bsb w lo m B n k D) (hk : k < n) (a : Option Addr) (ca Rk m' : Nat) (hR : 0 < (D k).length → m ≤ Rk) (how : ON .u8 w lo m' a (D k) Rk) (hca : (D k).length ≤ ca) (hm : m ≤ m') (hm' : m' ≤ w.heap.size) :
    Bsb (w.setCell ⟨B, k, none⟩ (.slice a (D k).length ca)) lo m' B n (k + 1) D := by
  obtain ⟨u, hu⟩ := h.room k hk
  have hB : B < w.heap.size := Nat.lt_of_lt_of_le h.lt h.mle
  have hbt : Betw B (B + 1) w (w.setCell ⟨B, k, none⟩ (.slice a (D k).length ca)) := (Betw.refl _ _ _).setCell (p := ⟨B, k, none⟩) (Nat.le_refl _) (Nat.lt_succ_self _) _
  obtain ⟨A, C, R, hr⟩ := h.rows
  have hlt := h.lt
  refine ⟨by omega, by simpa using hm', h.low, fun j => by rw [World.frozen?_setCell]; exact h.free j, fun i hi => ?_, fun i => if i = k then a else A i, fun i => if i = k then ca else C i, fun i => if i = k then Rk else R i, ⟨fun i hi => ?_, fun i hi => ?_, fun i hi => ?_, fun i hi h0 => ?_, fun i j hi hj hne hi0 hj0 => ?_⟩⟩
  · by_cases e : i = k
    · subst e; exact ⟨_, World.cell?_setCell_same _ _ _ hu⟩
    · rw [World.cell?_setCell_other _ _ _ _ (by intro c; injection c with c1 c2 c3; omega)]; exact h.room i hi
  · simp only [Nat.zero_add]
    by_cases e : i = k
    · subst e; simp only [if_pos]; exact World.cell?_setCell_same _ _ _ hu
    · simp only [if_neg e]
      rw [World.cell?_setCell_other _ _ _ _ (by intro c; injection c with c1 c2 c3; omega)]
      have := hr.cell i (by omega)
      rwa [Nat.zero_add] at this
  · by_cases e : i = k
    · subst e; simp only [if_pos]; exact hca
    · simp only [if_neg e]; exact hr.room i (by omega)
  · by_cases e : i = k
    · subst e
      simp only [if_pos]
      exact how.betw hbt (fun h0 => by have := hR h0; omega)
    · simp only [if_neg e]
      refine ((hr.row i (by omega)).wide (Nat.le_refl _) hm).betw hbt (fun h0 => ?_)
      have := hr.base i (by omega) h0
      omega
  · by_cases e : i = k
    · subst e
      simp only [if_pos]
      have := hR h0; omega
    · simp only [if_neg e]
      exact hr.base i (by omega) h0
  · by_cases e : i = k
    · have e2 : j ≠ k := by omega
      have hj' : j < k := by omega
      rw [e] at hi0
      obtain ⟨_, _, _, g, _⟩ := hr.row j hj' hj0
      simp only [if_pos e, if_neg e2]
      have := hR hi0; omega
    · by_cases e2 : j = k
      · have hi' : i < k := by omega
        rw [e2] at hj0
        obtain ⟨_, _, _, g, _⟩ := hr.row i hi' hi0
        simp only [if_neg e, if_pos e2]
        have := hR hj0; omega
      · simp only [if_neg e, if_neg e2]
        exact hr.apart i j (by omega) (by omega) hne hi0 hj0
theorem Bsb.rows' {w : World} {lo m B n : Nat} {D : Nat → List Int} (h : Bsb w lo m B n n D) : BRows w lo m (some ⟨B, 0, none⟩) n D := by
  obtain ⟨A, C, R, hr⟩ := h.rows
  exact ⟨B, 0, A, C, R, fun _ => ⟨rfl, h.low, h.lt, Nat.lt_of_lt_of_le h.lt h.mle⟩, hr⟩
theorem BRA.congr {w : World} {lo hi B off : Nat} {A : Nat → Option Addr} {C R : Nat → Nat} {n : Nat} {D E : Nat → List Int} (h : BRA w lo hi B off A C R n D) (he : ∀ i, i < n → D i = E i) : BRA w lo hi B off A C R n E :=
  ⟨fun i hi => by rw [← he i hi]; exact h.cell i hi, fun i hi => by rw [← he i hi]; exact h.room i hi, fun i hi => by rw [← he i hi]; exact h.row i hi, fun i hi => by rw [← he i hi]; exact h.base i hi, fun i j hi hj => by rw [← he i hi, ← he j hj]; exact h.apart i j hi hj⟩
def marksM (M k n : Nat) : List Int := (List.range n).map fun (i : Nat) => (((k + i) % M : Nat) : Int)
theorem marksM_len (M k n : Nat) : (marksM M k n).length = n := by simp [marksM]
theorem marksM_at (M k n i : Nat) (hi : i < n) : (marksM M k n).getD i 0 = (((k + i) % M : Nat) : Int) := by simp [marksM, List.getD, hi]
def bmarkD (k : Nat) (D : Nat → List Int) : Nat → List Int := fun i => marksM 256 (k + btot D i) (D i).length
end Go.Proofs.YtjlhkjiccibgdaaGreatDoor
namespace Go.Proofs.YtjlhkjiccibgdaaGreatDoor
open Go.ChangeShapes Go.WideShapes Go.ChangeAt Go.RowKit Go.Deep
set_option linter.unusedVariables false

theorem infoU : (Tryz.prog.info? 24).map (fun i => (i.zero, i.size, i.bytes)) = some (some (.int .u32 0), 1, 4) := by kernel_rfl
theorem infoB : (Tryz.prog.info? 5).map (fun i => (i.zero, i.size, i.bytes)) = some (some (.int .u8 0), 1, 1) := by kernel_rfl
theorem infoR : (Tryz.prog.info? 61).map (fun i => (i.zero, i.size, i.bytes)) = some (some (.slice none 0 0), 1, 24) := by kernel_rfl
theorem run_make_rows (n : Nat) (hn : n ≤ 1048576) (w : World) : (Instr.makeSlice 25 (.int .i64 (n : Int)) (.int .i64 (n : Int))).run Tryz.prog w = .ok (.slice (some ⟨w.heap.size, 0, none⟩) n n) (w.alloc (.cells (madeCells #[.slice none 0 0] n) 61)) :=
  run_make_row' (P := Tryz.prog) 25 61 (.slice none 0 0) 24 Tryz.underlying25 infoR rfl .i64 .i64 n (by omega) (by omega) w

theorem run_make_regs (n : Nat) (hn : n ≤ 1048576) (w : World) : (Instr.makeSlice 23 (.int .i64 (n : Int)) (.int .i64 (n : Int))).run Tryz.prog w = .ok (.slice (some ⟨w.heap.size, 0, none⟩) n n) (w.alloc (.cells (madeCells #[.int .u32 0] n) 24)) :=
  run_make_row' (P := Tryz.prog) 23 24 (.int .u32 0) 4 Tryz.underlying23 infoU rfl .i64 .i64 n (by omega) (by omega) w
theorem sz_regs (a : Option Addr) (cap n L : Nat) (w : World) (hn : n ≤ 9223372036854775807) (hL : L ≤ 1048576) :
    Calls Tryz.prog 17 #[.slice a n cap, .int .i64 (L : Int)] w fun e w' => (∃ r : Int, e = .returned (.int .i64 r) ∧ (r < 0 ∨ (r = ((L - n : Nat) : Int) ∧ n ≤ L))) ∧ w' = w := by
  by_cases h : n ≤ L
  · obtain ⟨d, rfl⟩ : ∃ d, L = n + d := ⟨L - n, by omega⟩
    have hw : IntKind.i64.wrap (((n + d : Nat) : Int) - (n : Int)) = (d : Int) := by rw [show ((n + d : Nat) : Int) - (n : Int) = (d : Int) by omega, IntKind.wrap_i64]; omega
    have h0 : ¬ ((d : Int) < 0) := by omega
    go_enter Tryz.func17, Tryz.ntmps17
    go_wp2
    go_ret
    exact ⟨⟨_, rfl, by omega⟩, rfl⟩
  · have hw : IntKind.i64.wrap ((L : Int) - (n : Int)) = (L : Int) - (n : Int) := by rw [IntKind.wrap_i64]; omega
    have h0 : (L : Int) - (n : Int) < 0 := by omega
    go_enter Tryz.func17, Tryz.ntmps17
    go_wp2
    go_ret
    exact ⟨⟨_, rfl, .inl (by omega)⟩, rfl⟩
set_option maxHeartbeats 1000000 in
theorem to_regs (a : Option Addr) (cap n : Nat) (zs : List Int) (w : World) (hs : Seg .u32 w a zs) (hl : zs.length = n) (hn : n ≤ 1048576) :
    Calls Tryz.prog 23 #[.slice a n cap] w fun e w' => e = .returned (.slice (some ⟨w.heap.size, 0, none⟩) n n) ∧ Below w.heap.size w w' ∧ Own .u32 w' w.heap.size zs := by
  have hmk := run_make_regs n hn
  have HS : Hid _ := And.intro hs hl
  clear hs hl
  go_enter Tryz.func23, Tryz.ntmps23
  go_wp2
  go_loopw [4] (fun i wr => ∃ k : Nat, k ≤ n ∧ i = .int .i64 k ∧ Hid (Below w.heap.size w wr ∧ Own .u32 wr w.heap.size (zs.take k ++ List.replicate (n - k) 0))) (fun i _ => n - (intOf i).toNat)
  case atStart => exact ⟨0, by omega, rfl, (Below.refl _ _).alloc (Nat.le_refl _) _, by simpa using Own.made .u32 w n 24 0⟩
  case round =>
    obtain ⟨k, hk, rfl, HB⟩ := hrel
    by_cases hlt : k < n
    · have hlt' : (k : Int) < (n : Int) := by omega
      have hkl : k < zs.length := by have := HS.out.2; omega
      obtain ⟨b1, o1, rfl, hbl1, c1⟩ := Seg.at (w := w) HS.out.1 k hkl
      have hb := HB.out.1
      have ho := HB.out.2
      replace c1 := (hb.cell (p := ⟨b1, o1 + k, none⟩) hbl1).trans c1
      have hl2 : (zs.take k ++ List.replicate (n - k) (0 : Int)).length = n := by rw [← HS.out.2]; exact copy_len zs k (by omega)
      have hu := ho.cell k (by omega)
      have hf := ho.free k
      have hset := ho.set k (zs.getD k 0) (by omega)
      rw [← HS.out.2, copy_step zs k hkl, HS.out.2] at hset
      have HB3 : Hid (Below w.heap.size w (wr.setCell ⟨w.heap.size, k, none⟩ (.int .u32 (zs.getD k 0))) ∧ Own .u32 (wr.setCell ⟨w.heap.size, k, none⟩ (.int .u32 (zs.getD k 0))) w.heap.size (zs.take (k + 1) ++ List.replicate (n - (k + 1)) 0)) :=
        ⟨hb.setCell (p := ⟨w.heap.size, k, none⟩) (Nat.le_refl _) _, hset⟩
      generalize zs.getD k 0 = z at c1 HB3
      generalize (zs.take k ++ List.replicate (n - k) (0 : Int)).getD k 0 = z0 at hu
      clear hbl1 hb ho hl2 hset HB hkl
      go_wp2
      go_roundw
      case rel => exact ⟨k + 1, by omega, by go_num, HB3⟩
      case measure => simp [intOf]; omega
    · obtain rfl : k = n := by omega
      go_wp2
      go_ret
      refine ⟨rfl, HB.out.1, ?_⟩
      have := HB.out.2
      have hl := HS.out.2
      subst hl
      simpa using this
set_option maxHeartbeats 400000 in
theorem eq_regs (a b : Option Addr) (ca cb n : Nat) (zs : List Int) (w : World) (ha : Seg .u32 w a zs) (hb : Seg .u32 w b zs) (hl : zs.length = n) (hn : n ≤ 1048576) :
    Calls Tryz.prog 31 #[.slice a n ca, .slice b n cb] w fun e w' => e = .returned (.bool true) ∧ Below w.heap.size w w' := by
  have HS : Hid _ := And.intro ha (And.intro hb hl)
  clear ha hb hl
  go_enter Tryz.func31, Tryz.ntmps31
  go_wp2
  go_loopw [5] (fun i wr => ∃ k m : Nat, k ≤ n ∧ i = .int .i64 k ∧ wr = w.drewN m) (fun i _ => n - (intOf i).toNat)
  case atStart => exact ⟨0, 0, by omega, rfl, rfl⟩
  case round =>
    obtain ⟨k, m, hk, rfl, rfl⟩ := hrel
    by_cases hlt : k < n
    · have hl : k < zs.length := by have := HS.out.2.2; omega
      obtain ⟨b1, o1, rfl, hbl1, hc1⟩ := Seg.at (w := w) HS.out.1 k hl
      obtain ⟨b2, o2, rfl, hbl2, hc2⟩ := Seg.at (w := w) HS.out.2.1 k hl
      generalize zs.getD k 0 = z at hc1 hc2
      clear hl hbl1 hbl2
      go_wp2
      go_quiet (fail)
      go_wp2
      go_roundw
      case rel => exact ⟨k + 1, _, by omega, by go_num, rfl⟩
      case measure => simp [intOf]; omega
    · go_wp2
      go_ret
      exact ⟨rfl, below_drewN (Below.refl _ _) _⟩
set_option maxHeartbeats 1000000 in
theorem mark_regs (lo hi R cap k n : Nat) (a : Option Addr) (ws : List Int) (w : World) (ho : ON .u32 w lo hi a ws R) (hl : ws.length = n) (hn : n ≤ 1048576) (hk1 : k ≤ 1000000000) :
    Calls Tryz.prog 33 #[.slice a n cap, .int .i64 (k : Int)] w fun e w' => e = .returned (.int .i64 ((k + n : Nat) : Int)) ∧ Betw R (R + 1) w w' ∧ w'.heap.size = w.heap.size ∧ ON .u32 w' lo hi a (marksM 4294967296 k n) R ∧ (n = 0 → w' = w) := by
  by_cases h0 : n = 0
  · subst h0
    go_enter Tryz.func33, Tryz.ntmps33
    go_wp2
    refine wp_loop_rounds 1 ?_
    rw [rounds_succ]
    go_wp2
    go_ret
    exact ⟨ret_int (by simp), Betw.refl _ _ _, rfl, ON.nil _ _ _ _ _ _, fun _ => rfl⟩
  obtain ⟨off, rfl, h1, h2, hlt, hc, hf⟩ := ho (by omega)
  have HB : Hid (R < w.heap.size ∧ (∀ j, w.frozen? ⟨R, j, none⟩ = false) ∧ (∀ i, i < n → ∃ u, w.cell? ⟨R, off + i, none⟩ = some u) ∧ ∀ i, i < 0 → w.cell? ⟨R, off + i, none⟩ = some (.int .u32 ((marksM 4294967296 k n).getD i 0))) :=
    ⟨hlt, hf, fun i hi => ⟨_, hc i (by omega)⟩, fun i hi => absurd hi (by omega)⟩
  clear ho hc hf hl
  go_enter Tryz.func33, Tryz.ntmps33
  go_wp2
  go_loopw [1, 5] (fun t i wr => ∃ m K : Nat, m ≤ n ∧ K ≤ 1002000000 ∧ i = .int .i64 m ∧ t = .int .i64 (K : Int) ∧ Hid (K = k + m ∧ Betw R (R + 1) w wr ∧ wr.heap.size = w.heap.size ∧ (R < wr.heap.size ∧ (∀ j, wr.frozen? ⟨R, j, none⟩ = false) ∧ (∀ i, i < n → ∃ u, wr.cell? ⟨R, off + i, none⟩ = some u) ∧ ∀ i, i < m → wr.cell? ⟨R, off + i, none⟩ = some (.int .u32 ((marksM 4294967296 k n).getD i 0))))) (fun _ i _ => n - (intOf i).toNat)
  case atStart => exact ⟨0, k, by omega, by omega, rfl, rfl, rfl, Betw.refl _ _ _, rfl, HB.out⟩
  case round =>
    obtain ⟨m, K, hm, hK, rfl, rfl, HR⟩ := hrel
    by_cases hmn : m < n
    rotate_left
    · obtain rfl : m = n := by omega
      go_wp2
      go_ret
      obtain ⟨hKe, hb, hsz, g1, g2, g3, g4⟩ := HR.out
      exact ⟨ret_int (by rw [hKe]), hb, hsz, fun _ => ⟨off, rfl, h1, h2, g1, fun i hi => g4 i (by rw [marksM_len] at hi; exact hi), g2⟩, fun e => absurd e h0⟩
    have hmn' : (m : Int) < (n : Int) := by omega
    obtain ⟨hKe, hb, hsz, g1, g2, g3, g4⟩ := HR.out
    obtain ⟨u, hu⟩ := g3 m hmn
    have hfz := g2 (off + m)
    have hat := marksM_at 4294967296 k n m hmn
    rw [← hKe] at hat
    have HR2 : Hid (K + 1 = k + (m + 1) ∧ Betw R (R + 1) w (wr.setCell ⟨R, off + m, none⟩ (.int .u32 (K : Int))) ∧ (wr.setCell ⟨R, off + m, none⟩ (.int .u32 (K : Int))).heap.size = w.heap.size ∧ (R < (wr.setCell ⟨R, off + m, none⟩ (.int .u32 (K : Int))).heap.size ∧ (∀ j, (wr.setCell ⟨R, off + m, none⟩ (.int .u32 (K : Int))).frozen? ⟨R, j, none⟩ = false) ∧ (∀ i, i < n → ∃ u, (wr.setCell ⟨R, off + m, none⟩ (.int .u32 (K : Int))).cell? ⟨R, off + i, none⟩ = some u) ∧ ∀ i, i < m + 1 → (wr.setCell ⟨R, off + m, none⟩ (.int .u32 (K : Int))).cell? ⟨R, off + i, none⟩ = some (.int .u32 ((marksM 4294967296 k n).getD i 0)))) := by
      refine ⟨by omega, hb.setCell (p := ⟨R, off + m, none⟩) (Nat.le_refl _) (Nat.lt_succ_self _) _, by simpa using hsz, by simpa using g1, fun j => by rw [World.frozen?_setCell]; exact g2 j, fun i hi => ?_, fun i hi => ?_⟩
      · by_cases e : i = m
        · subst e; exact ⟨_, World.cell?_setCell_same _ _ _ hu⟩
        · rw [World.cell?_setCell_other _ _ _ _ (by intro c; injection c with c1 c2 c3; omega)]
          exact g3 i hi
      · by_cases e : i = m
        · subst e
          rw [World.cell?_setCell_same _ _ _ hu, hat]
          rw [Nat.mod_eq_of_lt (by omega)]
        · rw [World.cell?_setCell_other _ _ _ _ (by intro c; injection c with c1 c2 c3; omega)]
          exact g4 i (by omega)
    have hK2 : K + 1 ≤ 1002000000 := by omega
    clear hb hsz g1 g2 g3 g4 HR hKe hat
    go_wp2
    go_roundw
    case rel => exact ⟨m + 1, K + 1, by omega, hK2, by go_num, by go_num, HR2⟩
    case measure => simp [intOf]; omega
set_option maxHeartbeats 400000 in
theorem held_regs (a : Option Addr) (cap n k : Nat) (w : World) (hs : Seg .u32 w a (marksM 4294967296 k n)) (hn : n ≤ 1048576) (hk1 : k ≤ 1000000000) :
    Calls Tryz.prog 59 #[.slice a n cap, .int .i64 (k : Int)] w fun e w' => e = .returned (.int .i64 ((k + n : Nat) : Int)) ∧ Below w.heap.size w w' := by
  have HS : Hid _ := hs
  clear hs
  go_enter Tryz.func59, Tryz.ntmps59
  go_wp2
  go_loopw [1, 5] (fun t i wr => ∃ m K d : Nat, m ≤ n ∧ K ≤ 1002000000 ∧ i = .int .i64 m ∧ t = .int .i64 (K : Int) ∧ wr = w.drewN d ∧ Hid (K = k + m)) (fun _ i _ => n - (intOf i).toNat)
  case atStart => exact ⟨0, k, 0, by omega, by omega, rfl, rfl, rfl, rfl⟩
  case round =>
    obtain ⟨m, K, dd, hm, hK, rfl, rfl, rfl, HK⟩ := hrel
    by_cases hlt : m < n
    · have hlt' : (m : Int) < (n : Int) := by omega
      obtain ⟨b1, o1, rfl, hbl1, hcl⟩ := Seg.at (w := w) HS.out m (by rw [marksM_len]; exact hlt)
      rw [marksM_at 4294967296 k n m hlt, ← HK.out] at hcl
      have hcl2 : w.cell? ⟨b1, o1 + m, none⟩ = some (.int .u32 (K : Int)) := by rw [hcl]; rw [Nat.mod_eq_of_lt (by omega)]
      have HK2 : Hid (K + 1 = k + (m + 1)) := by have := HK.out; show _ = _; omega
      have hK2 : K + 1 ≤ 1002000000 := by have := HK.out; omega
      clear hbl1 hcl
      go_wp2
      go_roundw
      case rel => exact ⟨m + 1, K + 1, _, by omega, hK2, by go_num, by go_num, rfl, HK2⟩
      case measure => simp [intOf]; omega
    · obtain rfl : m = n := by omega
      go_wp2
      go_ret
      exact ⟨ret_int (by rw [HK.out]), below_drewN (Below.refl _ _) _⟩

theorem run_make_bytes (n : Nat) (hn : n ≤ 1048576) (w : World) : (Instr.makeSlice 61 (.int .i64 (n : Int)) (.int .i64 (n : Int))).run Tryz.prog w = .ok (.slice (some ⟨w.heap.size, 0, none⟩) n n) (w.alloc (.cells (madeCells #[.int .u8 0] n) 5)) :=
  run_make_row' (P := Tryz.prog) 61 5 (.int .u8 0) 1 Tryz.underlying61 infoB rfl .i64 .i64 n (by omega) (by omega) w
theorem sz_bytes (a : Option Addr) (cap n L : Nat) (w : World) (hn : n ≤ 9223372036854775807) (hL : L ≤ 1048576) :
    Calls Tryz.prog 36 #[.slice a n cap, .int .i64 (L : Int)] w fun e w' => (∃ r : Int, e = .returned (.int .i64 r) ∧ (r < 0 ∨ (r = ((L - n : Nat) : Int) ∧ n ≤ L))) ∧ w' = w := by
  by_cases h : n ≤ L
  · obtain ⟨d, rfl⟩ : ∃ d, L = n + d := ⟨L - n, by omega⟩
    have hw : IntKind.i64.wrap (((n + d : Nat) : Int) - (n : Int)) = (d : Int) := by rw [show ((n + d : Nat) : Int) - (n : Int) = (d : Int) by omega, IntKind.wrap_i64]; omega
    have h0 : ¬ ((d : Int) < 0) := by omega
    go_enter Tryz.func36, Tryz.ntmps36
    go_wp2
    go_ret
    exact ⟨⟨_, rfl, by omega⟩, rfl⟩
  · have hw : IntKind.i64.wrap ((L : Int) - (n : Int)) = (L : Int) - (n : Int) := by rw [IntKind.wrap_i64]; omega
    have h0 : (L : Int) - (n : Int) < 0 := by omega
    go_enter Tryz.func36, Tryz.ntmps36
    go_wp2
    go_ret
    exact ⟨⟨_, rfl, .inl (by omega)⟩, rfl⟩
set_option maxHeartbeats 1000000 in
theorem to_bytes (a : Option Addr) (cap n : Nat) (zs : List Int) (w : World) (hs : Seg .u8 w a zs) (hl : zs.length = n) (hn : n ≤ 1048576) :
    Calls Tryz.prog 48 #[.slice a n cap] w fun e w' => e = .returned (.slice (some ⟨w.heap.size, 0, none⟩) n n) ∧ Below w.heap.size w w' ∧ Own .u8 w' w.heap.size zs := by
  have hmk := run_make_bytes n hn
  have HS : Hid _ := And.intro hs hl
  clear hs hl
  go_enter Tryz.func48, Tryz.ntmps48
  go_wp2
  go_loopw [4] (fun i wr => ∃ k : Nat, k ≤ n ∧ i = .int .i64 k ∧ Hid (Below w.heap.size w wr ∧ Own .u8 wr w.heap.size (zs.take k ++ List.replicate (n - k) 0))) (fun i _ => n - (intOf i).toNat)
  case atStart => exact ⟨0, by omega, rfl, (Below.refl _ _).alloc (Nat.le_refl _) _, by simpa using Own.made .u8 w n 5 0⟩
  case round =>
    obtain ⟨k, hk, rfl, HB⟩ := hrel
    by_cases hlt : k < n
    · have hlt' : (k : Int) < (n : Int) := by omega
      have hkl : k < zs.length := by have := HS.out.2; omega
      obtain ⟨b1, o1, rfl, hbl1, c1⟩ := Seg.at (w := w) HS.out.1 k hkl
      have hb := HB.out.1
      have ho := HB.out.2
      replace c1 := (hb.cell (p := ⟨b1, o1 + k, none⟩) hbl1).trans c1
      have hl2 : (zs.take k ++ List.replicate (n - k) (0 : Int)).length = n := by rw [← HS.out.2]; exact copy_len zs k (by omega)
      have hu := ho.cell k (by omega)
      have hf := ho.free k
      have hset := ho.set k (zs.getD k 0) (by omega)
      rw [← HS.out.2, copy_step zs k hkl, HS.out.2] at hset
      have HB3 : Hid (Below w.heap.size w (wr.setCell ⟨w.heap.size, k, none⟩ (.int .u8 (zs.getD k 0))) ∧ Own .u8 (wr.setCell ⟨w.heap.size, k, none⟩ (.int .u8 (zs.getD k 0))) w.heap.size (zs.take (k + 1) ++ List.replicate (n - (k + 1)) 0)) :=
        ⟨hb.setCell (p := ⟨w.heap.size, k, none⟩) (Nat.le_refl _) _, hset⟩
      generalize zs.getD k 0 = z at c1 HB3
      generalize (zs.take k ++ List.replicate (n - k) (0 : Int)).getD k 0 = z0 at hu
      clear hbl1 hb ho hl2 hset HB hkl
      go_wp2
      go_roundw
      case rel => exact ⟨k + 1, by omega, by go_num, HB3⟩
      case measure => simp [intOf]; omega
    · obtain rfl : k = n := by omega
      go_wp2
      go_ret
      refine ⟨rfl, HB.out.1, ?_⟩
      have := HB.out.2
      have hl := HS.out.2
      subst hl
      simpa using this
set_option maxHeartbeats 400000 in
theorem eq_bytes (a b : Option Addr) (ca cb n : Nat) (zs : List Int) (w : World) (ha : Seg .u8 w a zs) (hb : Seg .u8 w b zs) (hl : zs.length = n) (hn : n ≤ 1048576) :
    Calls Tryz.prog 57 #[.slice a n ca, .slice b n cb] w fun e w' => e = .returned (.bool true) ∧ Below w.heap.size w w' := by
  have HS : Hid _ := And.intro ha (And.intro hb hl)
  clear ha hb hl
  go_enter Tryz.func57, Tryz.ntmps57
  go_wp2
  go_loopw [5] (fun i wr => ∃ k m : Nat, k ≤ n ∧ i = .int .i64 k ∧ wr = w.drewN m) (fun i _ => n - (intOf i).toNat)
  case atStart => exact ⟨0, 0, by omega, rfl, rfl⟩
  case round =>
    obtain ⟨k, m, hk, rfl, rfl⟩ := hrel
    by_cases hlt : k < n
    · have hl : k < zs.length := by have := HS.out.2.2; omega
      obtain ⟨b1, o1, rfl, hbl1, hc1⟩ := Seg.at (w := w) HS.out.1 k hl
      obtain ⟨b2, o2, rfl, hbl2, hc2⟩ := Seg.at (w := w) HS.out.2.1 k hl
      generalize zs.getD k 0 = z at hc1 hc2
      clear hl hbl1 hbl2
      go_wp2
      go_quiet (fail)
      go_wp2
      go_roundw
      case rel => exact ⟨k + 1, _, by omega, by go_num, rfl⟩
      case measure => simp [intOf]; omega
    · go_wp2
      go_ret
      exact ⟨rfl, below_drewN (Below.refl _ _) _⟩
set_option maxHeartbeats 1000000 in
theorem mark_bytes (lo hi R cap k n : Nat) (a : Option Addr) (ws : List Int) (w : World) (ho : ON .u8 w lo hi a ws R) (hl : ws.length = n) (hn : n ≤ 1048576) (hk1 : k ≤ 1000000000) :
    Calls Tryz.prog 58 #[.slice a n cap, .int .i64 (k : Int)] w fun e w' => e = .returned (.int .i64 ((k + n : Nat) : Int)) ∧ Betw R (R + 1) w w' ∧ w'.heap.size = w.heap.size ∧ ON .u8 w' lo hi a (marksM 256 k n) R ∧ (n = 0 → w' = w) := by
  by_cases h0 : n = 0
  · subst h0
    go_enter Tryz.func58, Tryz.ntmps58
    go_wp2
    refine wp_loop_rounds 1 ?_
    rw [rounds_succ]
    go_wp2
    go_ret
    exact ⟨ret_int (by simp), Betw.refl _ _ _, rfl, ON.nil _ _ _ _ _ _, fun _ => rfl⟩
  obtain ⟨off, rfl, h1, h2, hlt, hc, hf⟩ := ho (by omega)
  have HB : Hid (R < w.heap.size ∧ (∀ j, w.frozen? ⟨R, j, none⟩ = false) ∧ (∀ i, i < n → ∃ u, w.cell? ⟨R, off + i, none⟩ = some u) ∧ ∀ i, i < 0 → w.cell? ⟨R, off + i, none⟩ = some (.int .u8 ((marksM 256 k n).getD i 0))) :=
    ⟨hlt, hf, fun i hi => ⟨_, hc i (by omega)⟩, fun i hi => absurd hi (by omega)⟩
  clear ho hc hf hl
  go_enter Tryz.func58, Tryz.ntmps58
  go_wp2
  go_loopw [1, 5] (fun t i wr => ∃ m K : Nat, m ≤ n ∧ K ≤ 1002000000 ∧ i = .int .i64 m ∧ t = .int .i64 (K : Int) ∧ Hid (K = k + m ∧ Betw R (R + 1) w wr ∧ wr.heap.size = w.heap.size ∧ (R < wr.heap.size ∧ (∀ j, wr.frozen? ⟨R, j, none⟩ = false) ∧ (∀ i, i < n → ∃ u, wr.cell? ⟨R, off + i, none⟩ = some u) ∧ ∀ i, i < m → wr.cell? ⟨R, off + i, none⟩ = some (.int .u8 ((marksM 256 k n).getD i 0))))) (fun _ i _ => n - (intOf i).toNat)
  case atStart => exact ⟨0, k, by omega, by omega, rfl, rfl, rfl, Betw.refl _ _ _, rfl, HB.out⟩
  case round =>
    obtain ⟨m, K, hm, hK, rfl, rfl, HR⟩ := hrel
    by_cases hmn : m < n
    rotate_left
    · obtain rfl : m = n := by omega
      go_wp2
      go_ret
      obtain ⟨hKe, hb, hsz, g1, g2, g3, g4⟩ := HR.out
      exact ⟨ret_int (by rw [hKe]), hb, hsz, fun _ => ⟨off, rfl, h1, h2, g1, fun i hi => g4 i (by rw [marksM_len] at hi; exact hi), g2⟩, fun e => absurd e h0⟩
    have hmn' : (m : Int) < (n : Int) := by omega
    obtain ⟨hKe, hb, hsz, g1, g2, g3, g4⟩ := HR.out
    obtain ⟨u, hu⟩ := g3 m hmn
    have hfz := g2 (off + m)
    have hat := marksM_at 256 k n m hmn
    rw [← hKe] at hat
    have HR2 : Hid (K + 1 = k + (m + 1) ∧ Betw R (R + 1) w (wr.setCell ⟨R, off + m, none⟩ (.int .u8 ((K : Int) % 256))) ∧ (wr.setCell ⟨R, off + m, none⟩ (.int .u8 ((K : Int) % 256))).heap.size = w.heap.size ∧ (R < (wr.setCell ⟨R, off + m, none⟩ (.int .u8 ((K : Int) % 256))).heap.size ∧ (∀ j, (wr.setCell ⟨R, off + m, none⟩ (.int .u8 ((K : Int) % 256))).frozen? ⟨R, j, none⟩ = false) ∧ (∀ i, i < n → ∃ u, (wr.setCell ⟨R, off + m, none⟩ (.int .u8 ((K : Int) % 256))).cell? ⟨R, off + i, none⟩ = some u) ∧ ∀ i, i < m + 1 → (wr.setCell ⟨R, off + m, none⟩ (.int .u8 ((K : Int) % 256))).cell? ⟨R, off + i, none⟩ = some (.int .u8 ((marksM 256 k n).getD i 0)))) := by
      refine ⟨by omega, hb.setCell (p := ⟨R, off + m, none⟩) (Nat.le_refl _) (Nat.lt_succ_self _) _, by simpa using hsz, by simpa using g1, fun j => by rw [World.frozen?_setCell]; exact g2 j, fun i hi => ?_, fun i hi => ?_⟩
      · by_cases e : i = m
        · subst e; exact ⟨_, World.cell?_setCell_same _ _ _ hu⟩
        · rw [World.cell?_setCell_other _ _ _ _ (by intro c; injection c with c1 c2 c3; omega)]
          exact g3 i hi
      · by_cases e : i = m
        · subst e
          rw [World.cell?_setCell_same _ _ _ hu, hat]
          simp
        · rw [World.cell?_setCell_other _ _ _ _ (by intro c; injection c with c1 c2 c3; omega)]
          exact g4 i (by omega)
    have hK2 : K + 1 ≤ 1002000000 := by omega
    clear hb hsz g1 g2 g3 g4 HR hKe hat
    go_wp2
    go_roundw
    case rel => exact ⟨m + 1, K + 1, by omega, hK2, by go_num, by go_num, HR2⟩
    case measure => simp [intOf]; omega
set_option maxHeartbeats 400000 in
theorem held_bytes (a : Option Addr) (cap n k : Nat) (w : World) (hs : Seg .u8 w a (marksM 256 k n)) (hn : n ≤ 1048576) (hk1 : k ≤ 1000000000) :
    Calls Tryz.prog 82 #[.slice a n cap, .int .i64 (k : Int)] w fun e w' => e = .returned (.int .i64 ((k + n : Nat) : Int)) ∧ Below w.heap.size w w' := by
  have HS : Hid _ := hs
  clear hs
  go_enter Tryz.func82, Tryz.ntmps82
  go_wp2
  go_loopw [1, 5] (fun t i wr => ∃ m K d : Nat, m ≤ n ∧ K ≤ 1002000000 ∧ i = .int .i64 m ∧ t = .int .i64 (K : Int) ∧ wr = w.drewN d ∧ Hid (K = k + m)) (fun _ i _ => n - (intOf i).toNat)
  case atStart => exact ⟨0, k, 0, by omega, by omega, rfl, rfl, rfl, rfl⟩
  case round =>
    obtain ⟨m, K, dd, hm, hK, rfl, rfl, rfl, HK⟩ := hrel
    by_cases hlt : m < n
    · have hlt' : (m : Int) < (n : Int) := by omega
      obtain ⟨b1, o1, rfl, hbl1, hcl⟩ := Seg.at (w := w) HS.out m (by rw [marksM_len]; exact hlt)
      rw [marksM_at 256 k n m hlt, ← HK.out] at hcl
      have hcl2 : w.cell? ⟨b1, o1 + m, none⟩ = some (.int .u8 ((K : Int) % 256)) := by rw [hcl]; simp
      have HK2 : Hid (K + 1 = k + (m + 1)) := by have := HK.out; show _ = _; omega
      have hK2 : K + 1 ≤ 1002000000 := by have := HK.out; omega
      clear hbl1 hcl
      go_wp2
      go_roundw
      case rel => exact ⟨m + 1, K + 1, _, by omega, hK2, by go_num, by go_num, rfl, HK2⟩
      case measure => simp [intOf]; omega
    · obtain rfl : m = n := by omega
      go_wp2
      go_ret
      exact ⟨ret_int (by rw [HK.out]), below_drewN (Below.refl _ _) _⟩
end Go.Proofs.YtjlhkjiccibgdaaGreatDoor
namespace Go.Proofs.YtjlhkjiccibgdaaGreatDoor
open Go.ChangeShapes Go.WideShapes Go.ChangeAt Go.RowKit Go.Deep
set_option linter.unusedVariables false

set_option maxHeartbeats 1000000 in
theorem sz_rows (a : Option Addr) (cap n L : Nat) (D : Nat → List Int) (w : World) (hs : BSeg w a n D) (hn : n ≤ 9223372036854775807) (hD : ∀ i, i < n → (D i).length ≤ 9223372036854775807) (hL : L ≤ 1048576) :
    Calls Tryz.prog 18 #[.slice a n cap, .int .i64 (L : Int)] w fun e w' => (∃ r : Int, e = .returned (.int .i64 r) ∧ (r < 0 ∨ (0 ≤ r ∧ n ≤ L ∧ btot D n ≤ L))) ∧ w' = w := by
  have HS : Hid _ := And.intro hs hD
  clear hs hD
  by_cases h : n ≤ L
  rotate_left
  · have hw : IntKind.i64.wrap ((L : Int) - (n : Int)) = (L : Int) - (n : Int) := by rw [IntKind.wrap_i64]; omega
    have h0 : (L : Int) - (n : Int) < 0 := by omega
    go_enter Tryz.func18, Tryz.ntmps18
    go_wp2
    go_ret
    exact ⟨⟨_, rfl, .inl (by omega)⟩, rfl⟩
  obtain ⟨d, rfl⟩ : ∃ d, L = n + d := ⟨L - n, by omega⟩
  have hw : IntKind.i64.wrap (((n + d : Nat) : Int) - (n : Int)) = (d : Int) := by rw [show ((n + d : Nat) : Int) - (n : Int) = (d : Int) by omega, IntKind.wrap_i64]; omega
  have h0 : ¬ ((d : Int) < 0) := by omega
  go_enter Tryz.func18, Tryz.ntmps18
  go_wp2
  go_loopw [1, 5] (fun t i wr => ∃ k e : Nat, k ≤ n ∧ e ≤ d ∧ i = .int .i64 k ∧ t = .int .i64 (e : Int) ∧ wr = w ∧ Hid (e + btot D k = d)) (fun _ i _ => n - (intOf i).toNat)
  case atStart => exact ⟨0, d, by omega, Nat.le_refl _, rfl, congrArg _ (by omega), rfl, rfl⟩
  case round =>
    obtain ⟨k, e, hk, hed, rfl, rfl, rfl, HE⟩ := hrel
    clear hw h0
    by_cases hlt : k < n
    · have hlt' : (k : Int) < (n : Int) := by omega
      obtain ⟨b1, o1, a1, c1, rfl, hbl1, e1, s1⟩ := BSeg.at (w := wr) HS.out.1 k hlt
      have HC : Hid _ := sz_bytes a1 c1 (D k).length e wr (HS.out.2 k hlt) (by omega)
      have HT : Hid (btot D (k + 1) = btot D k + (D k).length) := rfl
      generalize (D k).length = len at e1 HC HT
      clear hbl1 s1
      go_wp2_with fail
      refine Calls.mono HC.out ?_
      rintro u w2 ⟨⟨r, rfl, hr⟩, rfl⟩
      rcases hr with hr | ⟨hr, hle⟩
      · go_wp2
        go_ret
        exact ⟨⟨_, rfl, .inl (by omega)⟩, by first | rfl | trivial⟩
      · have hr0 : ¬ (r < 0) := by omega
        have HR : Hid (r = ((e - len : Nat) : Int)) := hr
        have HG : Hid (e - len + btot D (k + 1) = d) := by have h1 := HE.out; have h2 := HT.out; show _ = _; omega
        clear hr HE HT
        go_wp2
        go_roundw
        case rel => exact ⟨k + 1, e - len, by omega, by omega, by go_num, by rw [HR.out], trivial, HG⟩
        case measure => simp [intOf]; omega
    · obtain rfl : k = n := by omega
      go_wp2
      go_ret
      have := HE.out
      exact ⟨⟨_, rfl, .inr ⟨by omega, by omega, by omega⟩⟩, rfl⟩
theorem Bsb.made (w : World) (n : Nat) (T : TypeId) (D : Nat → List Int) : Bsb (w.alloc (.cells (madeCells #[.slice none 0 0] n) T)) w.heap.size (w.heap.size + 1) w.heap.size n 0 D := by
  refine ⟨by omega, by simp, Nat.le_refl _, fun j => by simp, fun i hi => ⟨_, (World.rowIs_made w (.slice none 0 0) n T).cell hi⟩, fun _ => none, fun _ => 0, fun _ => 0, ⟨fun i hi => absurd hi (by omega), fun i hi => absurd hi (by omega), fun i hi => absurd hi (by omega), fun i hi => absurd hi (by omega), fun i j hi => absurd hi (by omega)⟩⟩
set_option maxHeartbeats 1000000 in
theorem to_rows (a : Option Addr) (cap n : Nat) (D : Nat → List Int) (w : World) (hs : BSeg w a n D) (hn : n ≤ 1048576) (ht : btot D n ≤ 1048576) :
    Calls Tryz.prog 24 #[.slice a n cap] w fun e w' => e = .returned (.slice (some ⟨w.heap.size, 0, none⟩) n n) ∧ Below w.heap.size w w' ∧ BRows w' w.heap.size w'.heap.size (some ⟨w.heap.size, 0, none⟩) n D := by
  have hmk := run_make_rows n hn
  have HS : Hid _ := And.intro hs ht
  clear hs ht
  go_enter Tryz.func24, Tryz.ntmps24
  go_wp2
  go_loopw [4] (fun i wr => ∃ k : Nat, k ≤ n ∧ i = .int .i64 k ∧ Hid (Below w.heap.size w wr ∧ ∃ m, Bsb wr w.heap.size m w.heap.size n k D)) (fun i _ => n - (intOf i).toNat)
  case atStart => exact ⟨0, by omega, rfl, (Below.refl _ _).alloc (Nat.le_refl _) _, _, Bsb.made w n 61 D⟩
  case round =>
    obtain ⟨k, hk, rfl, HB⟩ := hrel
    by_cases hlt : k < n
    · have hlt' : (k : Int) < (n : Int) := by omega
      obtain ⟨b1, o1, a1, cc, rfl, hbl1, e1, s1⟩ := BSeg.at (w := w) HS.out.1 k hlt
      obtain ⟨hb, m, hr⟩ := HB.out
      replace e1 := (hb.cell (p := ⟨b1, o1 + k, none⟩) hbl1).trans e1
      have HC : Hid (Calls Tryz.prog 48 #[.slice a1 (D k).length cc] wr fun e w' => e = .returned (.slice (some ⟨wr.heap.size, 0, none⟩) (D k).length (D k).length) ∧ Below wr.heap.size wr w' ∧ Own .u8 w' wr.heap.size (D k)) :=
        to_bytes a1 cc (D k).length (D k) wr (s1.below hb) rfl (Nat.le_trans (btot_row D hlt) HS.out.2)
      obtain ⟨len, HL⟩ : ∃ len, Hid ((D k).length = len) := ⟨_, rfl⟩
      have hm := hr.mle
      rw [HL.out] at e1 HC
      clear hbl1 s1 HB
      go_wp2_with fail
      refine HC.out.mono ?_
      rintro u w2 ⟨rfl, hbb, hpb⟩
      have hr2 := hr.below hbb
      have hb2 := hb.trans (hbb.mono hb.size)
      obtain ⟨u1, hu1⟩ := hr2.room k hlt
      have hf := hr2.free
      have hsz := hbb.size
      have hr3 := hr2.put hlt (some ⟨wr.heap.size, 0, none⟩) len wr.heap.size w2.heap.size (fun _ => hm) (ON.own hpb hb.size hpb.lt) (by rw [HL.out]; exact Nat.le_refl _) (by omega) (Nat.le_refl _)
      rw [HL.out] at hr3
      have HB3 : Hid (Below w.heap.size w (w2.setCell ⟨w.heap.size, k, none⟩ (.slice (some ⟨wr.heap.size, 0, none⟩) len len)) ∧ ∃ m, Bsb (w2.setCell ⟨w.heap.size, k, none⟩ (.slice (some ⟨wr.heap.size, 0, none⟩) len len)) w.heap.size m w.heap.size n (k + 1) D) :=
        ⟨hb2.setCell (p := ⟨w.heap.size, k, none⟩) (Nat.le_refl _) _, _, hr3⟩
      clear hbb hpb hr2 hb2 hr3 hr hb e1 hm hsz HC
      go_wp2
      go_roundw
      case rel => exact ⟨k + 1, by omega, by go_num, HB3⟩
      case measure => simp [intOf]; omega
    · obtain rfl : k = n := by omega
      go_wp2
      go_ret
      obtain ⟨hb, m, hr⟩ := HB.out
      exact ⟨rfl, hb, hr.rows'.wide (Nat.le_refl _) hr.mle⟩
set_option maxHeartbeats 2000000 in
theorem eq_rows (a b : Option Addr) (ca cb n : Nat) (D : Nat → List Int) (w : World) (ha : BSeg w a n D) (hb : BSeg w b n D) (hn : n ≤ 1048576) (ht : btot D n ≤ 1048576) :
    Calls Tryz.prog 32 #[.slice a n ca, .slice b n cb] w fun e w' => e = .returned (.bool true) ∧ Below w.heap.size w w' := by
  have HA : Hid _ := And.intro ha hb
  have HT : Hid _ := ht
  clear ha hb ht
  go_enter Tryz.func32, Tryz.ntmps32
  go_wp2
  go_loopw [5] (fun i wr => ∃ k : Nat, k ≤ n ∧ i = .int .i64 k ∧ Hid (Below w.heap.size w wr)) (fun i _ => n - (intOf i).toNat)
  case atStart => exact ⟨0, by omega, rfl, Below.refl _ _⟩
  case round =>
    obtain ⟨k, hk, rfl, HB⟩ := hrel
    by_cases hlt : k < n
    · have hlt' : (k : Int) < (n : Int) := by omega
      obtain ⟨b1, o1, a1, c1, rfl, hbl1, e1, s1⟩ := BSeg.at (w := w) HA.out.1 k hlt
      obtain ⟨b2, o2, a2, c2, rfl, hbl2, e2, s2⟩ := BSeg.at (w := w) HA.out.2 k hlt
      have hb := HB.out
      replace e1 := (hb.cell (p := ⟨b1, o1 + k, none⟩) hbl1).trans e1
      replace e2 := (hb.cell (p := ⟨b2, o2 + k, none⟩) hbl2).trans e2
      have HC : Hid (∀ X, Below w.heap.size w X → Calls Tryz.prog 57 #[.slice a1 (D k).length c1, .slice a2 (D k).length c2] X fun e w' => e = .returned (.bool true) ∧ Below X.heap.size X w') := fun X hX =>
        eq_bytes a1 a2 c1 c2 (D k).length (D k) X (s1.below hX) (s2.below hX) rfl (Nat.le_trans (btot_row D hlt) HT.out)
      generalize (D k).length = len at e1 e2 HC
      clear hbl1 hbl2 HB s1 s2
      go_wp2
      go_region_held3 (fun w' => w'.cell? ⟨b1, o1 + k, none⟩ = some (.slice a1 len c1) ∧ w'.cell? ⟨b2, o2 + k, none⟩ = some (.slice a2 len c2)) (first | exact ⟨e1, e2⟩) (first | (go_at_call 57; refine Calls.mono (HC.out _ (by first | exact hb | exact hb.drew)) ?_; rintro u w9 ⟨rfl, hbb⟩; (first | replace hb := hb.trans (hbb.mono hb.size) | replace hb := hb.drew.trans (hbb.mono hb.drew.size)); replace e1 := kept_cell hbb e1; replace e2 := kept_cell hbb e2; clear hbb))
      go_wp2
      go_roundw
      case rel => exact ⟨k + 1, by omega, by go_num, hb⟩
      case measure => simp [intOf]; omega
    · go_wp2
      go_ret
      exact ⟨rfl, HB.out⟩
theorem bmarkD_len (k : Nat) (D : Nat → List Int) (i : Nat) : (bmarkD k D i).length = (D i).length := by simp [bmarkD, marksM_len]
set_option maxHeartbeats 1000000 in
theorem mark_rows (lo hi cap k n : Nat) (a : Option Addr) (D : Nat → List Int) (w : World) (ho : BRows w lo hi a n D) (hn : n ≤ 1048576) (ht : btot D n ≤ 1048576) (hk1 : k ≤ 10000000) :
    Calls Tryz.prog 34 #[.slice a n cap, .int .i64 (k : Int)] w fun e w' => e = .returned (.int .i64 ((k + btot D n : Nat) : Int)) ∧ Betw lo hi w w' ∧ w'.heap.size = w.heap.size ∧ BRows w' lo hi a n (bmarkD k D) := by
  by_cases h0 : n = 0
  · subst h0
    go_enter Tryz.func34, Tryz.ntmps34
    go_wp2
    refine wp_loop_rounds 1 ?_
    rw [rounds_succ]
    go_wp2
    go_ret
    exact ⟨ret_int (by simp [btot]), Betw.refl _ _ _, rfl, ho.congr (fun i hi => absurd hi (by omega))⟩
  obtain ⟨B, off, A, C, R, h1, hra⟩ := ho
  obtain ⟨rfl, hB1, hB2, hBw⟩ := h1 (by omega)
  have HA : Hid _ := hra
  have HT : Hid _ := ht
  clear hra ht h1
  go_enter Tryz.func34, Tryz.ntmps34
  go_wp2
  go_loopw [1, 5] (fun t i wr => ∃ m K : Nat, m ≤ n ∧ i = .int .i64 m ∧ t = .int .i64 (K : Int) ∧ Hid (K = k + btot D m ∧ Betw lo hi w wr ∧ wr.heap.size = w.heap.size ∧ BRA wr lo hi B off A C R n (fun i => if i < m then bmarkD k D i else D i))) (fun _ i _ => n - (intOf i).toNat)
  case atStart => exact ⟨0, k, by omega, rfl, rfl, rfl, Betw.refl _ _ _, rfl, HA.out.congr (fun i hi => by simp)⟩
  case round =>
    obtain ⟨m, K, hm, rfl, rfl, HR⟩ := hrel
    by_cases hmn : m < n
    rotate_left
    · obtain rfl : m = n := by omega
      go_wp2
      go_ret
      obtain ⟨rfl, hb, hsz, hp⟩ := HR.out
      exact ⟨rfl, hb, hsz, B, off, A, C, R, fun _ => ⟨rfl, hB1, hB2, by rw [hsz]; exact hBw⟩, hp.congr (fun i hi => by simp [hi])⟩
    have hmn' : (m : Int) < (n : Int) := by omega
    obtain ⟨hK, hb, hsz, hp⟩ := HR.out
    have hrow := hp.row m hmn
    have hcell := hp.cell m hmn
    simp only [Nat.lt_irrefl, if_false] at hrow hcell
    have htm := btot_mono D (show m ≤ n by omega)
    have hlen := btot_row D hmn
    have hT := HT.out
    have HC : Hid _ := mark_bytes lo hi (R m) (C m) K (D m).length (A m) (D m) wr hrow rfl (by omega) (by omega)
    have HX : Hid _ := hrow
    obtain ⟨len, Hlen⟩ : ∃ len, Hid ((D m).length = len) := ⟨_, rfl⟩
    rw [Hlen.out] at hcell HC
    clear hb hsz hp hrow htm hlen hT hK
    go_wp2_with fail
    refine Calls.mono HC.out ?_
    rintro u w2 ⟨rfl, hb2, hs2, how, he⟩
    have HR2 : Hid (K + len = k + btot D (m + 1) ∧ Betw lo hi w w2 ∧ w2.heap.size = w.heap.size ∧ BRA w2 lo hi B off A C R n (fun i => if i < m + 1 then bmarkD k D i else D i)) := by
      obtain ⟨hK, hb, hsz, hp⟩ := HR.out
      have hL := Hlen.out
      by_cases e0 : len = 0
      · obtain rfl := he e0
        refine ⟨by simp only [btot]; omega, hb, hsz, hp.congr (fun i hi => ?_)⟩
        by_cases e : i = m
        · subst e
          have hnil : D i = [] := List.eq_nil_of_length_eq_zero (by omega)
          simp [bmarkD, hnil, marksM]
        · by_cases e1 : i < m
          · rw [if_pos e1, if_pos (by omega)]
          · rw [if_neg e1, if_neg (by omega)]
      · obtain ⟨_, _, g1, g2, _⟩ := HX.out (by omega)
        refine ⟨by simp only [btot]; omega, hb.trans (hb2.wide g1 g2), hs2.trans hsz, ?_⟩
        have h3 := hp.put m hmn (by rw [hsz]; exact hBw) (marksM 256 K len) (by rw [marksM_len]; simp [hL]) hb2 how (by simp; omega)
        refine h3.congr (fun i hi => ?_)
        by_cases e : i = m
        · subst e
          rw [if_pos rfl, if_pos (by omega)]
          simp only [bmarkD]
          rw [hK, hL]
        · rw [if_neg e]
          by_cases e1 : i < m
          · rw [if_pos e1, if_pos (by omega)]
          · rw [if_neg e1, if_neg (by omega)]
    clear hb2 hs2 how he HR HC hcell HX
    go_wp2
    go_roundw
    case rel => exact ⟨m + 1, K + len, by omega, by go_num, rfl, HR2⟩
    case measure => simp [intOf]; omega
set_option maxHeartbeats 1000000 in
theorem held_rows (cap k n : Nat) (a : Option Addr) (D : Nat → List Int) (w : World) (hs : BSeg w a n (bmarkD k D)) (hn : n ≤ 1048576) (ht : btot D n ≤ 1048576) (hk1 : k ≤ 10000000) :
    Calls Tryz.prog 60 #[.slice a n cap, .int .i64 (k : Int)] w fun e w' => e = .returned (.int .i64 ((k + btot D n : Nat) : Int)) ∧ Below w.heap.size w w' := by
  have HS : Hid _ := hs
  have HT : Hid _ := ht
  clear hs ht
  go_enter Tryz.func60, Tryz.ntmps60
  go_wp2
  go_loopw [1, 5] (fun t i wr => ∃ m K : Nat, m ≤ n ∧ i = .int .i64 m ∧ t = .int .i64 (K : Int) ∧ Hid (K = k + btot D m ∧ Below w.heap.size w wr)) (fun _ i _ => n - (intOf i).toNat)
  case atStart => exact ⟨0, k, by omega, rfl, rfl, rfl, Below.refl _ _⟩
  case round =>
    obtain ⟨m, K, hm, rfl, rfl, HK⟩ := hrel
    by_cases hmn : m < n
    rotate_left
    · obtain rfl : m = n := by omega
      go_wp2
      go_ret
      exact ⟨ret_int (by rw [HK.out.1]), HK.out.2⟩
    have hmn' : (m : Int) < (n : Int) := by omega
    obtain ⟨b1, o1, a1, c1, rfl, hbl1, e1, s1⟩ := BSeg.at (w := wr) (BSeg.below HS.out HK.out.2) m hmn
    rw [bmarkD_len] at e1
    have htm := btot_mono D (show m ≤ n by omega)
    have hlen := btot_row D hmn
    have hT := HT.out
    have hKK := HK.out.1
    have hbb := HK.out.2
    have HC : Hid _ := held_bytes a1 c1 (D m).length K wr (by rw [hKK]; exact s1) (by omega) (by omega)
    have HK2 : Hid (K + (D m).length = k + btot D (m + 1)) := by show _ = _; simp only [btot]; omega
    generalize (D m).length = len at e1 HC HK2
    clear hbl1 s1 htm hlen hT hKK HK
    have HBB : Hid _ := hbb
    clear hbb
    go_wp2_with fail
    refine Calls.mono HC.out ?_
    rintro u w2 ⟨rfl, hb2⟩
    have HB3 : Hid _ := HBB.out.trans (hb2.mono HBB.out.size)
    clear hb2 HBB
    go_wp2
    go_roundw
    case rel => exact ⟨m + 1, K + len, by omega, by go_num, rfl, HK2.out, HB3.out⟩
    case measure => simp [intOf]; omega
end Go.Proofs.YtjlhkjiccibgdaaGreatDoor
namespace Go.Proofs.YtjlhkjiccibgdaaGreatDoor
open Go.ChangeShapes Go.WideShapes Go.ChangeAt Go.RowKit Go.Deep
set_option linter.unusedVariables false

abbrev gst (ra : Option Addr) (rl rc : Nat) (pc : Int) (ma : Option Addr) (ml mc : Nat) : Value := .agg #[.slice ra rl rc, .int .u32 pc, .slice ma ml mc]
/-- A guest whose registers begin at 'ra' and whose memory begins at 'ma' reads as 'rs' and 'n' rows 'D'. -/
def GSeg (w : World) (ra ma : Option Addr) (rs : List Int) (n : Nat) (D : Nat → List Int) : Prop := Seg .u32 w ra rs ∧ BSeg w ma n D
/-- Such a guest lies in blocks of its own: registers from 'lo' on and below 'm', memory from 'm' on and below 'hi'. -/
def OGst (w : World) (lo m hi : Nat) (ra ma : Option Addr) (rs : List Int) (n : Nat) (D : Nat → List Int) : Prop := (∃ R, ON .u32 w lo m ra rs R) ∧ BRows w m hi ma n D
theorem GSeg.below {w w' : World} {ra ma : Option Addr} {rs : List Int} {n : Nat} {D : Nat → List Int} (h : GSeg w ra ma rs n D) (hb : Below w.heap.size w w') : GSeg w' ra ma rs n D := ⟨h.1.below hb, h.2.below hb⟩
theorem OGst.seg {w : World} {lo m hi : Nat} {ra ma : Option Addr} {rs : List Int} {n : Nat} {D : Nat → List Int} (h : OGst w lo m hi ra ma rs n D) : GSeg w ra ma rs n D := by
  obtain ⟨⟨R, h1⟩, h2⟩ := h
  exact ⟨h1.seg, h2.seg⟩
theorem ON.range {k : IntKind} {w : World} {lo hi : Nat} {a : Option Addr} {ws : List Int} {R : Nat} (h : ON k w lo hi a ws R) (h0 : 0 < ws.length) : lo ≤ R ∧ R < hi := by
  obtain ⟨_, _, h1, h2, _⟩ := h h0
  exact ⟨h1, h2⟩
theorem OGst.betw {w w' : World} {lo m hi l' h' : Nat} {ra ma : Option Addr} {rs : List Int} {n : Nat} {D : Nat → List Int} (h : OGst w lo m hi ra ma rs n D) (hb : Betw l' h' w w') (ho : hi ≤ l' ∨ h' ≤ lo) (h1 : lo ≤ m) (h2 : m ≤ hi) : OGst w' lo m hi ra ma rs n D := by
  obtain ⟨⟨R, hr⟩, hm⟩ := h
  exact ⟨⟨R, hr.betw hb (fun h0 => by have := hr.range h0; omega)⟩, hm.betw hb (by omega)⟩
theorem OGst.below {w w' : World} {lo m hi : Nat} {ra ma : Option Addr} {rs : List Int} {n : Nat} {D : Nat → List Int} (h : OGst w lo m hi ra ma rs n D) (hb : Below w.heap.size w w') : OGst w' lo m hi ra ma rs n D := by
  obtain ⟨⟨R, hr⟩, hm⟩ := h
  exact ⟨⟨R, hr.below hb⟩, hm.below hb⟩
theorem OGst.wide {w : World} {lo m hi l' h' : Nat} {ra ma : Option Addr} {rs : List Int} {n : Nat} {D : Nat → List Int} (h : OGst w lo m hi ra ma rs n D) (g1 : l' ≤ lo) (g2 : hi ≤ h') : OGst w l' m h' ra ma rs n D := by
  obtain ⟨⟨R, hr⟩, hm⟩ := h
  exact ⟨⟨R, hr.wide g1 (Nat.le_refl _)⟩, hm.wide (Nat.le_refl _) g2⟩
theorem cell_alloc_l {w : World} {p : Addr} {v : Value} (o : Obj) (h : w.cell? p = some v) : (w.alloc o).cell? p = some v := kept_cell ((Below.refl _ _).alloc (Nat.le_refl _) _) h
set_option maxHeartbeats 1000000 in
theorem eq_guest (pc : Int) (ra rb ma mb : Option Addr) (rl ca cb n da db : Nat) (rs : List Int) (D : Nat → List Int) (w : World) (ha : GSeg w ra ma rs n D) (hb : GSeg w rb mb rs n D) (hl : rs.length = rl) (hr : rl ≤ 1048576) (hn : n ≤ 1048576) (ht : btot D n ≤ 1048576) :
    Calls Tryz.prog 12 #[gst ra rl ca pc ma n da, gst rb rl cb pc mb n db] w fun e w' => e = .returned (.bool true) ∧ Below w.heap.size w w' := by
  have HA : Hid _ := And.intro ha (And.intro hb hl)
  clear ha hb hl
  have hbw : Below w.heap.size w ((w.alloc (.cells #[.slice ra rl ca, .int .u32 pc, .slice ma n da] 30)).alloc (.cells #[.slice rb rl cb, .int .u32 pc, .slice mb n db] 30)) := ((Below.refl _ w).alloc (Nat.le_refl _) _).alloc (by simp) _
  have B0 := (Bk.new w #[.slice ra rl ca, .int .u32 pc, .slice ma n da] 30 w.heap.size rfl).alloc (.cells #[.slice rb rl cb, .int .u32 pc, .slice mb n db] 30)
  have B1 := Bk.new (w.alloc (.cells #[.slice ra rl ca, .int .u32 pc, .slice ma n da] 30)) #[.slice rb rl cb, .int .u32 pc, .slice mb n db] 30 (w.heap.size + 1) (by simp)
  have HB : Hid _ := hbw
  clear hbw
  go_enter Tryz.func12, Tryz.ntmps12
  go_wp2_with fail
  refine (eq_regs ra rb ca cb rl rs _ (HA.out.1.1.below HB.out) (HA.out.2.1.1.below HB.out) HA.out.2.2 hr).mono ?_
  rintro u w1 ⟨rfl, hb1⟩
  have HB1 : Hid _ := HB.out.trans (hb1.mono HB.out.size)
  replace B0 := B0.below hb1
  replace B1 := B1.below hb1
  have c1 := B0.cell 1 _ rfl
  have c2 := B0.cell 2 _ rfl
  have d1 := B1.cell 1 _ rfl
  have d2 := B1.cell 2 _ rfl
  clear hb1 HB B0 B1
  go_wp2_with fail
  refine (eq_rows ma mb da db n D _ (HA.out.1.2.below HB1.out) (HA.out.2.1.2.below HB1.out) hn ht).mono ?_
  rintro u w2 ⟨rfl, hb2⟩
  have HB2 : Hid _ := HB1.out.trans (hb2.mono HB1.out.size)
  clear hb2 c1 c2 d1 d2
  go_wp2
  go_ret
  exact ⟨rfl, HB2.out⟩
set_option maxHeartbeats 1000000 in
theorem sz_guest (pc : Int) (ra ma : Option Addr) (rl ca n da L : Nat) (D : Nat → List Int) (w : World) (hs : BSeg w ma n D) (hr : rl ≤ 9223372036854775807) (hn : n ≤ 9223372036854775807) (hD : ∀ i, i < n → (D i).length ≤ 9223372036854775807) (hL : L ≤ 1048576) :
    Calls Tryz.prog 5 #[gst ra rl ca pc ma n da, .int .i64 (L : Int)] w fun e w' => (∃ r : Int, e = .returned (.int .i64 r) ∧ (r < 0 ∨ (0 ≤ r ∧ rl ≤ 1048576 ∧ n ≤ 1048576 ∧ btot D n ≤ 1048576))) ∧ Below w.heap.size w w' := by
  have HS : Hid _ := And.intro hs hD
  clear hs hD
  have hbw := (Below.refl _ w).alloc (Nat.le_refl _) (.cells #[.slice ra rl ca, .int .u32 pc, .slice ma n da] 27)
  have HC : Hid _ := fun (M : Nat) (hM : M ≤ 1048576) => sz_rows ma da n M D _ (BSeg.below HS.out.1 hbw) hn HS.out.2 hM
  have HB : Hid _ := hbw
  clear hbw
  go_enter Tryz.func5, Tryz.ntmps5
  go_wp2_with fail
  refine Calls.mono (sz_regs ra ca rl L _ hr hL) ?_
  rintro u w2 ⟨⟨r, rfl, hr⟩, rfl⟩
  rcases hr with hr | ⟨hr, hle⟩
  · go_wp2
    go_ret
    exact ⟨⟨_, rfl, .inl (by omega)⟩, HB.out⟩
  · have hr0 : ¬ (((L - rl : Nat) : Int) < 0) := by omega
    obtain ⟨M, HM⟩ : ∃ M, Hid (L - rl = M) := ⟨_, rfl⟩
    rw [HM.out] at hr hr0
    subst hr
    have hM : M ≤ 1048576 := by have := HM.out; omega
    go_wp2_with fail
    refine Calls.mono (HC.out M hM) ?_
    rintro u w3 ⟨⟨r, rfl, hr⟩, rfl⟩
    have hm := HM.out
    rcases hr with hr | ⟨hr, h1, h2⟩
    · clear hm
      go_wp2
      go_ret
      exact ⟨⟨_, rfl, .inl (by omega)⟩, HB.out⟩
    · have hr0' : ¬ (r < 0) := by omega
      have HX : Hid (0 ≤ r ∧ rl ≤ 1048576 ∧ n ≤ 1048576 ∧ btot D n ≤ 1048576) := ⟨hr, by omega, by omega, by omega⟩
      clear hr h1 h2 hm
      go_wp2
      go_ret
      exact ⟨⟨_, rfl, .inr HX.out⟩, HB.out⟩
set_option maxHeartbeats 1000000 in
theorem mark_guest (pc : Int) (lo m hi ca n da k rl : Nat) (ra ma : Option Addr) (rs : List Int) (D : Nat → List Int) (w : World) (ho : OGst w lo m hi ra ma rs n D) (hl : rs.length = rl) (hr : rl ≤ 1048576) (hn : n ≤ 1048576) (ht : btot D n ≤ 1048576) (hk1 : k ≤ 8000000) (hhi : hi ≤ w.heap.size) (hlm : lo ≤ m) (hmh : m ≤ hi) :
    Calls Tryz.prog 14 #[gst ra rl ca pc ma n da, .int .i64 (k : Int)] w fun e w' => e = .returned (.int .i64 ((k + rl + btot D n : Nat) : Int)) ∧ Betw lo hi w w' ∧ OGst w' lo m hi ra ma (marksM 4294967296 k rl) n (bmarkD (k + rl) D) := by
  obtain ⟨⟨R, hR⟩, hm⟩ := ho
  have hbw := (Below.refl _ w).alloc (Nat.le_refl _) (.cells #[.slice ra rl ca, .int .u32 pc, .slice ma n da] 30)
  have B0 := Bk.new w #[.slice ra rl ca, .int .u32 pc, .slice ma n da] 30 w.heap.size rfl
  have HC : Hid _ := mark_regs lo m R ca k rl ra rs _ (hR.below hbw) hl hr (by omega)
  have HR : Hid (0 < rl → lo ≤ R ∧ R < m) := fun h0 => hR.range (by omega)
  have HM : Hid (BRows _ _ _ _ _ _) := hm.below hbw
  have HB : Hid _ := hbw
  clear hR hm hbw
  go_enter Tryz.func14, Tryz.ntmps14
  go_wp2_with fail
  refine Calls.mono HC.out ?_
  rintro u w2 ⟨rfl, hb2, hs2, hor, he⟩
  have hb2' : Betw lo m (w.alloc (.cells #[.slice ra rl ca, .int .u32 pc, .slice ma n da] 30)) w2 := by
    by_cases e0 : rl = 0
    · rw [he e0]; exact Betw.refl _ _ _
    · have := HR.out (by omega)
      exact hb2.wide this.1 (by omega)
  replace B0 := B0.betw hb2' (.inr (by omega))
  have c2 := B0.cell 2 _ rfl
  have HD : Hid _ := mark_rows m hi da (k + rl) n ma D _ (HM.out.betw hb2' (.inr (Nat.le_refl _))) hn ht (by omega)
  have HX : Hid _ := And.intro ((Below.betw HB.out : Betw lo m w _).trans hb2') hor
  clear hb2 hs2 hor he hb2' B0 HB HM HC
  have hK : k + rl ≤ 10000000 := by omega
  obtain ⟨K, HK⟩ : ∃ K, Hid (k + rl = K) := ⟨_, rfl⟩
  rw [HK.out] at HD hK ⊢
  go_wp2_with fail
  refine Calls.mono HD.out ?_
  rintro u w3 ⟨rfl, hb3, hs3, hor⟩
  have HY : Hid _ := And.intro hb3 hor
  clear hb3 hs3 hor
  go_wp2
  go_ret
  refine ⟨ret_int (by rw [HK.out]; rfl), (HX.out.1.wide (Nat.le_refl _) hmh).trans (HY.out.1.wide hlm (Nat.le_refl _)), ⟨R, ?_⟩, by rw [HK.out]; exact HY.out.2⟩
  refine HX.out.2.betw HY.out.1 (fun h0 => ?_)
  rw [marksM_len] at h0
  have := HR.out h0
  omega
set_option maxHeartbeats 1000000 in
theorem held_guest (pc : Int) (ca n da k rl : Nat) (ra ma : Option Addr) (D : Nat → List Int) (w : World) (hs : GSeg w ra ma (marksM 4294967296 k rl) n (bmarkD (k + rl) D)) (hr : rl ≤ 1048576) (hn : n ≤ 1048576) (ht : btot D n ≤ 1048576) (hk1 : k ≤ 8000000) :
    Calls Tryz.prog 35 #[gst ra rl ca pc ma n da, .int .i64 (k : Int)] w fun e w' => e = .returned (.int .i64 ((k + rl + btot D n : Nat) : Int)) ∧ Below w.heap.size w w' := by
  have hbw := (Below.refl _ w).alloc (Nat.le_refl _) (.cells #[.slice ra rl ca, .int .u32 pc, .slice ma n da] 30)
  have B0 := Bk.new w #[.slice ra rl ca, .int .u32 pc, .slice ma n da] 30 w.heap.size rfl
  have HC : Hid _ := held_regs ra ca rl k _ (hs.1.below hbw) hr (by omega)
  have HS : Hid (BSeg _ _ _ _) := hs.2.below hbw
  have HB : Hid _ := hbw
  clear hs hbw
  go_enter Tryz.func35, Tryz.ntmps35
  go_wp2_with fail
  refine Calls.mono HC.out ?_
  rintro u w2 ⟨rfl, hb2⟩
  replace B0 := B0.below hb2
  have c2 := B0.cell 2 _ rfl
  have HB2 : Hid _ := HB.out.trans (hb2.mono HB.out.size)
  have HD : Hid _ := held_rows da (k + rl) n ma D _ (BSeg.below HS.out hb2) hn ht (by omega)
  clear hb2 B0 HB HS HC
  have hK : k + rl ≤ 10000000 := by omega
  obtain ⟨K, HK⟩ : ∃ K, Hid (k + rl = K) := ⟨_, rfl⟩
  rw [HK.out] at HD hK ⊢
  have hK0 : ¬ ((K : Int) < 0) := by omega
  go_wp2_with fail
  refine Calls.mono HD.out ?_
  rintro u w3 ⟨rfl, hb3⟩
  have HB3 : Hid _ := HB2.out.trans (hb3.mono HB2.out.size)
  clear hb3 c2
  have hK2 : K + btot D n ≤ 12000000 := by omega
  obtain ⟨K2, HK2⟩ : ∃ K2, Hid (K + btot D n = K2) := ⟨_, rfl⟩
  rw [HK2.out] at hK2 ⊢
  have hK20 : ¬ ((K2 : Int) < 0) := by omega
  go_wp2
  go_ret
  exact ⟨ret_int (by rw [HK.out, HK2.out]), HB3.out⟩
set_option maxHeartbeats 1000000 in
theorem to_guest (pc : Int) (ra ma : Option Addr) (rl ca n da : Nat) (rs : List Int) (D : Nat → List Int) (w : World) (hs : GSeg w ra ma rs n D) (hl : rs.length = rl) (hr : rl ≤ 1048576) (hn : n ≤ 1048576) (ht : btot D n ≤ 1048576) :
    Calls Tryz.prog 8 #[gst ra rl ca pc ma n da] w fun e w' => ∃ ra' ma' m, e = .returned (gst ra' rl rl pc ma' n n) ∧ Below w.heap.size w w' ∧ OGst w' w.heap.size m w'.heap.size ra' ma' rs n D ∧ w.heap.size ≤ m ∧ m ≤ w'.heap.size := by
  have HS : Hid _ := And.intro hs hl
  clear hs hl
  have B0 := ((Bk.new w #[.slice ra rl ca, .int .u32 pc, .slice ma n da] 27 w.heap.size rfl).alloc (.cells #[.slice none 0 0, .int .u32 0, .slice none 0 0] 30)).alloc (.cells #[.slice none 0 0, .int .u32 0, .slice none 0 0] 30)
  have B1 := (Bk.new (w.alloc (.cells #[.slice ra rl ca, .int .u32 pc, .slice ma n da] 27)) #[.slice none 0 0, .int .u32 0, .slice none 0 0] 30 (w.heap.size + 1) (by simp)).alloc (.cells #[.slice none 0 0, .int .u32 0, .slice none 0 0] 30)
  have B2 := Bk.new ((w.alloc (.cells #[.slice ra rl ca, .int .u32 pc, .slice ma n da] 27)).alloc (.cells #[.slice none 0 0, .int .u32 0, .slice none 0 0] 30)) #[.slice none 0 0, .int .u32 0, .slice none 0 0] 30 (w.heap.size + 1 + 1) (by simp)
  have HB : Hid _ := (((Below.refl _ w).alloc (Nat.le_refl _) (.cells #[.slice ra rl ca, .int .u32 pc, .slice ma n da] 27)).alloc (by simp) (.cells #[.slice none 0 0, .int .u32 0, .slice none 0 0] 30)).alloc (by simp; omega) (.cells #[.slice none 0 0, .int .u32 0, .slice none 0 0] 30)
  have HC : Hid _ := to_regs ra ca rl rs _ (HS.out.1.1.below HB.out) HS.out.2 hr
  go_enter Tryz.func8, Tryz.ntmps8
  go_wp2_with fail
  refine Calls.mono HC.out ?_
  rintro u w1 ⟨rfl, hb1, how⟩
  have e1 : (((w.alloc (.cells #[.slice ra rl ca, .int .u32 pc, .slice ma n da] 27)).alloc (.cells #[.slice none 0 0, .int .u32 0, .slice none 0 0] 30)).alloc (.cells #[.slice none 0 0, .int .u32 0, .slice none 0 0] 30)).heap.size = w.heap.size + 1 + 1 + 1 := by simp
  rw [e1] at how hb1
  replace B0 := B0.below (e1 ▸ hb1)
  replace B1 := B1.below (e1 ▸ hb1)
  replace B2 := B2.below (e1 ▸ hb1)
  have hbw : Below w.heap.size w w1 := HB.out.trans (hb1.mono (by omega))
  have hz1 : w.heap.size + 1 + 1 + 1 < w1.heap.size := how.lt
  obtain ⟨B, HBB⟩ : ∃ B, Hid (w.heap.size + 1 + 1 + 1 = B) := ⟨_, rfl⟩
  simp only [e1, HBB.out] at how hz1 ⊢
  have hBl : w.heap.size + 1 + 1 < B := by have := HBB.out; omega
  clear HB HC hb1 e1
  have k0 := B2.cell 0 _ rfl
  have kf := B2.free
  have p1 := (B0.other (w.heap.size + 1 + 1) 0 (.slice (some ⟨B, 0, none⟩) rl rl) (by omega)).cell 1 _ rfl
  have C2 := B2.set 0 (.slice (some ⟨B, 0, none⟩) rl rl) (by simp) rfl
  have k1 := C2.cell 1 _ rfl
  have E2 := C2.set 1 (.int .u32 pc) (by simp) rfl
  have E1 := (B1.other (w.heap.size + 1 + 1) 0 (.slice (some ⟨B, 0, none⟩) rl rl) (by omega)).other (w.heap.size + 1 + 1) 1 (.int .u32 pc) (by omega)
  have E0 := (B0.other (w.heap.size + 1 + 1) 0 (.slice (some ⟨B, 0, none⟩) rl rl) (by omega)).other (w.heap.size + 1 + 1) 1 (.int .u32 pc) (by omega)
  have p2 := E0.cell 2 _ rfl
  have hbt : Betw (w.heap.size + 1 + 1) (w.heap.size + 1 + 1 + 1) w1 ((w1.setCell ⟨w.heap.size + 1 + 1, 0, none⟩ (.slice (some ⟨B, 0, none⟩) rl rl)).setCell ⟨w.heap.size + 1 + 1, 1, none⟩ (.int .u32 pc)) :=
    ((Betw.refl _ _ w1).setCell (p := ⟨w.heap.size + 1 + 1, 0, none⟩) (Nat.le_refl _) (by simp) _).setCell (p := ⟨w.heap.size + 1 + 1, 1, none⟩) (Nat.le_refl _) (by simp) _
  have hon : ON .u32 w1 w.heap.size (B + 1) (some ⟨B, 0, none⟩) rs B := ON.own how (by omega) (by omega)
  have HN : Hid (ON _ _ _ _ _ _ _) := hon.betw hbt (fun _ => .inr (by have := HBB.out; omega))
  have HK : Hid _ := And.intro E1 (And.intro E2 (hbw.trans (hbt.below (by omega) hbw.size)))
  clear B0 B1 B2 C2 E0 E1 E2 hbt hon how hbw
  go_wp2_with fail
  refine Calls.mono (to_rows ma da n D _ (HS.out.1.2.below HK.out.2.2) hn ht) ?_
  rintro u w2 ⟨rfl, hb2, hrows⟩
  obtain ⟨C1, C2, hbw2⟩ := HK.out
  have hz : ((w1.setCell ⟨w.heap.size + 1 + 1, 0, none⟩ (.slice (some ⟨B, 0, none⟩) rl rl)).setCell ⟨w.heap.size + 1 + 1, 1, none⟩ (.int .u32 pc)).heap.size = w1.heap.size := by simp
  have hN2 := ON.below HN.out hb2
  rw [hz] at hrows hb2
  have hsz2 := hb2.size
  rw [hz] at hsz2
  have D1 := C1.below (hz ▸ hb2)
  have D2 := C2.below (hz ▸ hb2)
  have hbw3 := hbw2.trans (hb2.mono (by omega))
  simp only [hz]
  obtain ⟨B', HB'⟩ : ∃ B', Hid (w1.heap.size = B') := ⟨_, rfl⟩
  simp only [HB'.out] at hrows hz1 hsz2 ⊢
  have E2 := D2.set 2 (.slice (some ⟨B', 0, none⟩) n n) (by simp) rfl
  have E1 := D1.other (w.heap.size + 1 + 1) 2 (.slice (some ⟨B', 0, none⟩) n n) (by omega)
  have F1 := E1.set 0 (.slice (some ⟨B, 0, none⟩) rl rl) (by simp) rfl
  have F2 := F1.set 1 (.int .u32 pc) (by simp) rfl
  have F3 := F2.set 2 (.slice (some ⟨B', 0, none⟩) n n) (by simp) rfl
  have q3 := D2.cell 2 _ rfl
  have g2 := D2.free
  have g1 := D1.free
  have e0 := E2.cell 0 _ rfl
  have e1 := E2.cell 1 _ rfl
  have e2 := E2.cell 2 _ rfl
  have m0 := E1.cell 0 _ rfl
  have m1 := F1.cell 1 _ rfl
  have m2 := F2.cell 2 _ rfl
  have n0 := F3.cell 0 _ rfl
  have n1 := F3.cell 1 _ rfl
  have n2 := F3.cell 2 _ rfl
  have HZ : Hid (BRows _ _ _ _ _ _ ∧ Below _ _ _ ∧ ON _ _ _ _ _ _ _) := And.intro hrows (And.intro hbw3 hN2)
  clear C1 C2 hbw2 hb2 D1 D2 E1 E2 F1 F2 F3 HK hrows hbw3 hz k0 k1 kf hN2 p1 p2 HN
  go_wp2
  refine bodyPost_ret (v := gst (some ⟨B, 0, none⟩) rl rl pc (some ⟨B', 0, none⟩) n n) (by simp [results, Tryz.results8, go_sem, n0, n1, n2]) rfl ⟨_, _, B', rfl, ?_, ?_, ?_, ?_⟩
  · exact (((HZ.out.2.1.setCell (p := ⟨w.heap.size + 1 + 1, 2, none⟩) (by simp; omega) _).setCell (p := ⟨w.heap.size + 1, 0, none⟩) (by simp) _).setCell (p := ⟨w.heap.size + 1, 1, none⟩) (by simp) _).setCell (p := ⟨w.heap.size + 1, 2, none⟩) (by simp) _
  · have hbt := ((((Betw.refl (w.heap.size + 1) (w.heap.size + 1 + 1 + 1) w2).setCell (p := ⟨w.heap.size + 1 + 1, 2, none⟩) (by simp) (by simp) (.slice (some ⟨B', 0, none⟩) n n)).setCell (p := ⟨w.heap.size + 1, 0, none⟩) (by simp) (by simp) (.slice (some ⟨B, 0, none⟩) rl rl)).setCell (p := ⟨w.heap.size + 1, 1, none⟩) (by simp) (by simp) (.int .u32 pc)).setCell (p := ⟨w.heap.size + 1, 2, none⟩) (by simp) (by simp) (.slice (some ⟨B', 0, none⟩) n n)
    exact ⟨⟨B, (ON.betw HZ.out.2.2 hbt (fun _ => .inr (by omega))).wide (Nat.le_refl _) (by omega)⟩, (HZ.out.1.betw hbt (.inr (by omega))).wide (by omega) (by simp)⟩
  · omega
  · simpa using hsz2
end Go.Proofs.YtjlhkjiccibgdaaGreatDoor
