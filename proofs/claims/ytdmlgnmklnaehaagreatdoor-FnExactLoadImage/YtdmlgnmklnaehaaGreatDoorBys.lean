
/-
  Rows of bytes in memory, a list of such rows, and what stays of them: plain facts on worlds. No function of the program in sight; no conditions but those that each fact names.
-/
import Derived.Test.YtdmlgnmklnaehaaGreatDoorBas
import Derived.Below
namespace Go.Proofs.YtdmlgnmklnaehaaGreatDoor
open Go.ChangeShapes Go.WideShapes Go.ChangeAt Go.RowKit Go.Deep
set_option linter.unusedVariables false

/-- A slice that begins at 'a' reads as 'n' rows, row i the bytes 'D i'. -/
def BSeg (w : World) (a : Option Addr) (n : Nat) (D : Nat → List Int) : Prop :=
  0 < n → ∃ b off, a = some ⟨b, off, none⟩ ∧ b < w.heap.size ∧ ∀ i, i < n → ∃ ai ci, w.cell? ⟨b, off + i, none⟩ = some (.slice ai (D i).length ci) ∧ Seg .u8 w ai (D i) ∧ (D i).length ≤ ci
theorem BSeg.at {w : World} {a : Option Addr} {n : Nat} {D : Nat → List Int} (h : BSeg w a n D) (i : Nat) (hi : i < n) :
    ∃ b off ai ci, a = some ⟨b, off, none⟩ ∧ b < w.heap.size ∧ w.cell? ⟨b, off + i, none⟩ = some (.slice ai (D i).length ci) ∧ Seg .u8 w ai (D i) := by
  obtain ⟨b, off, e, hlt, hc⟩ := h (by omega)
  obtain ⟨ai, ci, h1, h2, _⟩ := hc i hi
  exact ⟨b, off, ai, ci, e, hlt, h1, h2⟩
theorem BSeg.at' {w : World} {a : Option Addr} {n : Nat} {D : Nat → List Int} (h : BSeg w a n D) (i : Nat) (hi : i < n) :
    ∃ b off ai ci, a = some ⟨b, off, none⟩ ∧ b < w.heap.size ∧ w.cell? ⟨b, off + i, none⟩ = some (.slice ai (D i).length ci) ∧ Seg .u8 w ai (D i) ∧ (D i).length ≤ ci := by
  obtain ⟨b, off, e, hlt, hc⟩ := h (by omega)
  obtain ⟨ai, ci, h1, h2, h3⟩ := hc i hi
  exact ⟨b, off, ai, ci, e, hlt, h1, h2, h3⟩
theorem BSeg.below {w w' : World} {a : Option Addr} {n : Nat} {D : Nat → List Int} (h : BSeg w a n D) (hb : Below w.heap.size w w') : BSeg w' a n D := fun h0 => by
  obtain ⟨b, off, e, hlt, hc⟩ := h h0
  refine ⟨b, off, e, Nat.lt_of_lt_of_le hlt hb.size, fun i hi => ?_⟩
  obtain ⟨ai, ci, h1, h2, h3⟩ := hc i hi
  exact ⟨ai, ci, (hb.cell (p := ⟨b, off + i, none⟩) hlt).trans h1, h2.below hb, h3⟩
theorem BSeg.congr {w : World} {a : Option Addr} {n : Nat} {D E : Nat → List Int} (h : BSeg w a n D) (he : ∀ i, i < n → D i = E i) : BSeg w a n E := fun h0 => by
  obtain ⟨b, off, e, hlt, hc⟩ := h h0
  exact ⟨b, off, e, hlt, fun i hi => by rw [← he i hi]; exact hc i hi⟩
def btot (D : Nat → List Int) : Nat → Nat
  | 0 => 0
  | m + 1 => btot D m + (D m).length
theorem btot_mono (D : Nat → List Int) {a b : Nat} (h : a ≤ b) : btot D a ≤ btot D b := by
  induction b with
  | zero => have : a = 0 := by omega
            subst this; exact Nat.le_refl _
  | succ b ih =>
    by_cases e : a = b + 1
    · subst e; exact Nat.le_refl _
    · have := ih (by omega)
      simp only [btot]; omega
theorem btot_row (D : Nat → List Int) {i n : Nat} (h : i < n) : (D i).length ≤ btot D n := by
  have := btot_mono D (show i + 1 ≤ n by omega)
  simp only [btot] at this; omega
theorem btot_congr {D E : Nat → List Int} {n : Nat} (h : ∀ i, i < n → (D i).length = (E i).length) : btot D n = btot E n := by
  induction n with
  | zero => rfl
  | succ n ih => simp only [btot]; rw [ih (fun i hi => h i (by omega)), h n (by omega)]

/-- Numbers that lie in the block 'R', which may be written. -/
def ON (k : IntKind) (w : World) (lo hi : Nat) (a : Option Addr) (ws : List Int) (R : Nat) : Prop :=
  0 < ws.length → ∃ off, a = some ⟨R, off, none⟩ ∧ lo ≤ R ∧ R < hi ∧ R < w.heap.size ∧ (∀ i, i < ws.length → w.cell? ⟨R, off + i, none⟩ = some (.int k (ws.getD i 0))) ∧ ∀ j, w.frozen? ⟨R, j, none⟩ = false
theorem ON.nil (k : IntKind) (w : World) (lo hi : Nat) (a : Option Addr) (R : Nat) : ON k w lo hi a [] R := fun h => absurd h (by simp)
theorem ON.seg {k : IntKind} {w : World} {lo hi : Nat} {a : Option Addr} {ws : List Int} {R : Nat} (h : ON k w lo hi a ws R) : Seg k w a ws := fun h0 => by
  obtain ⟨off, e, _, _, hlt, hc, _⟩ := h h0
  exact ⟨R, off, e, hlt, hc⟩
theorem ON.betw {k : IntKind} {w w' : World} {lo hi l' h' : Nat} {a : Option Addr} {ws : List Int} {R : Nat} (h : ON k w lo hi a ws R) (hb : Betw l' h' w w') (ho : 0 < ws.length → R < l' ∨ h' ≤ R) : ON k w' lo hi a ws R := fun h0 => by
  obtain ⟨off, e, h1, h2, hlt, hc, hf⟩ := h h0
  have ho := ho h0
  exact ⟨off, e, h1, h2, Nat.lt_of_lt_of_le hlt hb.size, fun i hi => (hb.cell (p := ⟨R, off + i, none⟩) hlt ho).trans (hc i hi), fun j => (hb.frozen (p := ⟨R, j, none⟩) hlt ho).trans (hf j)⟩
theorem ON.below {k : IntKind} {w w' : World} {lo hi : Nat} {a : Option Addr} {ws : List Int} {R : Nat} (h : ON k w lo hi a ws R) (hb : Below w.heap.size w w') : ON k w' lo hi a ws R :=
  ON.betw (l' := 0) (h' := 0) h (Below.betw hb) (fun _ => .inr (Nat.zero_le _))
theorem ON.wide {k : IntKind} {w : World} {lo hi l' h' : Nat} {a : Option Addr} {ws : List Int} {R : Nat} (h : ON k w lo hi a ws R) (h1 : l' ≤ lo) (h2 : hi ≤ h') : ON k w l' h' a ws R := fun h0 => by
  obtain ⟨off, e, g1, g2, hlt, hc, hf⟩ := h h0
  exact ⟨off, e, by omega, by omega, hlt, hc, hf⟩
theorem ON.own {k : IntKind} {w : World} {B lo hi : Nat} {zs : List Int} (h : Own k w B zs) (h1 : lo ≤ B) (h2 : B < hi) : ON k w lo hi (some ⟨B, 0, none⟩) zs B := fun _ => ⟨0, rfl, h1, h2, h.lt, fun i hi => by rw [Nat.zero_add]; exact h.cell i hi, h.free⟩
/-- Rows whose blocks, and that of the list itself, lie from 'lo' on and below 'hi', apart from one another. -/
structure BRA (w : World) (lo hi B off : Nat) (A : Nat → Option Addr) (C R : Nat → Nat) (n : Nat) (D : Nat → List Int) : Prop where
  cell : ∀ i, i < n → w.cell? ⟨B, off + i, none⟩ = some (.slice (A i) (D i).length (C i))
  room : ∀ i, i < n → (D i).length ≤ C i
  row : ∀ i, i < n → ON .u8 w lo hi (A i) (D i) (R i)
  base : ∀ i, i < n → 0 < (D i).length → R i ≠ B
  apart : ∀ i j, i < n → j < n → i ≠ j → 0 < (D i).length → 0 < (D j).length → R i ≠ R j
def BRows (w : World) (lo hi : Nat) (a : Option Addr) (n : Nat) (D : Nat → List Int) : Prop :=
  ∃ (B off : Nat) (A : Nat → Option Addr) (C R : Nat → Nat), (0 < n → a = some ⟨B, off, none⟩ ∧ lo ≤ B ∧ B < hi ∧ B < w.heap.size) ∧ BRA w lo hi B off A C R n D
theorem BRA.betw {w w' : World} {lo hi B off l' h' : Nat} {A : Nat → Option Addr} {C R : Nat → Nat} {n : Nat} {D : Nat → List Int} (h : BRA w lo hi B off A C R n D) (hb : Betw l' h' w w') (hB : B < w.heap.size) (ho : hi ≤ l' ∨ h' ≤ lo) (hB1 : lo ≤ B) (hB2 : B < hi) : BRA w' lo hi B off A C R n D :=
  ⟨fun i hi' => (hb.cell (p := ⟨B, off + i, none⟩) hB (by rcases ho with h | h <;> simp <;> omega)).trans (h.cell i hi'), h.room, fun i hi' => (h.row i hi').betw hb (fun h0 => by obtain ⟨_, _, h1, h2, _⟩ := h.row i hi' h0; omega), h.base, h.apart⟩
theorem BRows.betw {w w' : World} {lo hi l' h' : Nat} {a : Option Addr} {n : Nat} {D : Nat → List Int} (h : BRows w lo hi a n D) (hb : Betw l' h' w w') (ho : hi ≤ l' ∨ h' ≤ lo) : BRows w' lo hi a n D := by
  obtain ⟨B, off, A, C, R, h1, h2⟩ := h
  by_cases h0 : 0 < n
  · obtain ⟨e, g1, g2, g3⟩ := h1 h0
    exact ⟨B, off, A, C, R, fun _ => ⟨e, g1, g2, Nat.lt_of_lt_of_le g3 hb.size⟩, h2.betw hb g3 ho g1 g2⟩
  · exact ⟨B, off, A, C, R, fun h => absurd h h0, ⟨fun i hi => absurd hi (by omega), fun i hi => absurd hi (by omega), fun i hi => absurd hi (by omega), fun i hi => absurd hi (by omega), fun i j hi => absurd hi (by omega)⟩⟩
theorem BRows.below {w w' : World} {lo hi : Nat} {a : Option Addr} {n : Nat} {D : Nat → List Int} (h : BRows w lo hi a n D) (hb : Below w.heap.size w w') : BRows w' lo hi a n D :=
  BRows.betw (l' := 0) (h' := 0) h (Below.betw hb) (.inr (Nat.zero_le _))
theorem BRows.seg {w : World} {lo hi : Nat} {a : Option Addr} {n : Nat} {D : Nat → List Int} (h : BRows w lo hi a n D) : BSeg w a n D := fun h0 => by
  obtain ⟨B, off, A, C, R, h1, h2⟩ := h
  obtain ⟨e, g1, g2, g3⟩ := h1 h0
  exact ⟨B, off, e, g3, fun i hi => ⟨A i, C i, h2.cell i hi, (h2.row i hi).seg, h2.room i hi⟩⟩
theorem BRows.congr {w : World} {lo hi : Nat} {a : Option Addr} {n : Nat} {D E : Nat → List Int} (h : BRows w lo hi a n D) (he : ∀ i, i < n → D i = E i) : BRows w lo hi a n E := by
  obtain ⟨B, off, A, C, R, h1, h2⟩ := h
  exact ⟨B, off, A, C, R, h1, ⟨fun i hi => by rw [← he i hi]; exact h2.cell i hi, fun i hi => by rw [← he i hi]; exact h2.room i hi, fun i hi => by rw [← he i hi]; exact h2.row i hi, fun i hi => by rw [← he i hi]; exact h2.base i hi, fun i j hi hj => by rw [← he i hi, ← he j hj]; exact h2.apart i j hi hj⟩⟩
theorem BRows.wide {w : World} {lo hi l' h' : Nat} {a : Option Addr} {n : Nat} {D : Nat → List Int} (h : BRows w lo hi a n D) (g1 : l' ≤ lo) (g2 : hi ≤ h') : BRows w l' h' a n D := by
  obtain ⟨B, off, A, C, R, h1, h2⟩ := h
  exact ⟨B, off, A, C, R, fun h0 => ⟨(h1 h0).1, by have := (h1 h0).2.1; omega, by have := (h1 h0).2.2.1; omega, (h1 h0).2.2.2⟩, ⟨h2.cell, h2.room, fun i hi => (h2.row i hi).wide g1 g2, h2.base, h2.apart⟩⟩
/-- One row is written over by as many bytes. -/
theorem BRA.put {w w' : World} {lo hi B off : Nat} {A : Nat → Option Addr} {C R : Nat → Nat} {n : Nat} {D : Nat → List Int} (h : BRA w lo hi B off A C R n D) (m : Nat) (hm : m < n) (hBw : B < w.heap.size) (ws : List Int) (hl : ws.length = (D m).length)
    (hb : Betw (R m) (R m + 1) w w') (hw : ON .u8 w' lo hi (A m) ws (R m)) (h0 : 0 < (D m).length) : BRA w' lo hi B off A C R n (fun i => if i = m then ws else D i) := by
  have hlen : ∀ i, (if i = m then ws else D i).length = (D i).length := fun i => by
    by_cases e : i = m
    · subst e; rw [if_pos rfl]; exact hl
    · rw [if_neg e]
  refine ⟨fun i hi => ?_, fun i hi => by rw [hlen]; exact h.room i hi, fun i hi => ?_, fun i hi => ?_, fun i j hi hj => ?_⟩
  · rw [hlen]
    have := h.base m hm h0
    exact (hb.cell (p := ⟨B, off + i, none⟩) hBw (by simp; omega)).trans (h.cell i hi)
  · by_cases e : i = m
    · subst e; rw [if_pos rfl]; exact hw
    · rw [if_neg e]
      refine (h.row i hi).betw hb (fun g0 => ?_)
      have := h.apart i m hi hm e g0 h0
      omega
  · rw [hlen]; exact h.base i hi
  · rw [hlen, hlen]; exact h.apart i j hi hj
/-- Rows that are being laid into the block 'B', k of them so far; their own blocks lie below 'm'. -/
structure Bsb (w : World) (lo m B n k : Nat) (D : Nat → List Int) : Prop where
  lt : B < m
  mle : m ≤ w.heap.size
  low : lo ≤ B
  free : ∀ j, w.frozen? ⟨B, j, none⟩ = false
  room : ∀ i, i < n → ∃ u, w.cell? ⟨B, i, none⟩ = some u
  rows : ∃ A C R, BRA w lo m B 0 A C R k D
theorem BRA.keep {w w' : World} {lo hi B off : Nat} {A : Nat → Option Addr} {C R : Nat → Nat} {n : Nat} {D : Nat → List Int} (h : BRA w lo hi B off A C R n D) (hb : Below w.heap.size w w') (hB : B < w.heap.size) : BRA w' lo hi B off A C R n D :=
  ⟨fun i hi' => (hb.cell (p := ⟨B, off + i, none⟩) hB).trans (h.cell i hi'), h.room, fun i hi' => (h.row i hi').below hb, h.base, h.apart⟩
theorem Bsb.below {w w' : World} {lo m B n k : Nat} {D : Nat → List Int} (h : Bsb w lo m B n k D) (hb : Below w.heap.size w w') : Bsb w' lo m B n k D := by
  have hB : B < w.heap.size := Nat.lt_of_lt_of_le h.lt h.mle
  obtain ⟨A, C, R, hr⟩ := h.rows
  exact ⟨h.lt, Nat.le_trans h.mle hb.size, h.low, fun j => (hb.frozen (p := ⟨B, j, none⟩) hB).trans (h.free j), fun i hi => by rw [hb.cell (p := ⟨B, i, none⟩) hB]; exact h.room i hi, A, C, R, hr.keep hb hB⟩
theorem Bsb.put {w : World} {lo m B n k : Nat} {D : Nat → List Int} (h : Bsb w lo m B n k D) (hk : k < n) (a : Option Addr) (ca Rk m' : Nat) (hR : 0 < (D k).length → m ≤ Rk) (how : ON .u8 w lo m' a (D k) Rk) (hca : (D k).length ≤ ca) (hm : m ≤ m') (hm' : m' ≤ w.heap.size) :
    Bsb (w.setCell ⟨B, k, none⟩ (.slice a (D k).length ca)) lo m' B n (k + 1) D := by
  obtain ⟨u, hu⟩ := h.room k hk
  have hB : B < w.heap.size := Nat.lt_of_lt_of_le h.lt h.mle
  have hbt : Betw B (B + 1) w (w.setCell ⟨B, k, none⟩ (.slice a (D k).length ca)) := (Betw.refl _ _ _).setCell (p := ⟨B, k, none⟩) (Nat.le_refl _) (Nat.lt_succ_self _) _
  obtain ⟨A, C, R, hr⟩ := h.rows
  have hlt := h.lt
  refine ⟨by omega, by simpa using hm', h.low, fun j => by rw [World.frozen?_setCell]; exact h.free j, fun i hi => ?_, fun i => if i = k then a else A i, fun i => if i = k then ca else C i, fun i => if i = k then Rk else R i, ⟨fun i hi => ?_, fun i hi => ?_, fun i hi => ?_, fun i hi h0 => ?_, fun i j hi hj hne hi0 hj0 => ?_⟩⟩
  · by_cases e : i = k
    · subst e; exact ⟨_, World.cell?_setCell_same _ _ _ hu⟩
    · rw [World.cell?_setCell_other _ _ _ _ (by intro c; injection c with c1 c2 c3; omega)]; exact h.room i hi
  · simp only [Nat.zero_add]
    by_cases e : i = k
    · subst e; simp only [if_pos]; exact World.cell?_setCell_same _ _ _ hu
    · simp only [if_neg e]
      rw [World.cell?_setCell_other _ _ _ _ (by intro c; injection c with c1 c2 c3; omega)]
      have := hr.cell i (by omega)
      rwa [Nat.zero_add] at this
  · by_cases e : i = k
    · subst e; simp only [if_pos]; exact hca
    · simp only [if_neg e]; exact hr.room i (by omega)
  · by_cases e : i = k
    · subst e
      simp only [if_pos]
      exact how.betw hbt (fun h0 => by have := hR h0; omega)
    · simp only [if_neg e]
      refine ((hr.row i (by omega)).wide (Nat.le_refl _) hm).betw hbt (fun h0 => ?_)
      have := hr.base i (by omega) h0
      omega
  · by_cases e : i = k
    · subst e
      simp only [if_pos]
      have := hR h0; omega
    · simp only [if_neg e]
      exact hr.base i (by omega) h0
  · by_cases e : i = k
    · have e2 : j ≠ k := by omega
      have hj' : j < k := by omega
      rw [e] at hi0
      obtain ⟨_, _, _, g, _⟩ := hr.row j hj' hj0
      simp only [if_pos e, if_neg e2]
      have := hR hi0; omega
    · by_cases e2 : j = k
      · have hi' : i < k := by omega
        rw [e2] at hj0
        obtain ⟨_, _, _, g, _⟩ := hr.row i hi' hi0
        simp only [if_neg e, if_pos e2]
        have := hR hj0; omega
      · simp only [if_neg e, if_neg e2]
        exact hr.apart i j (by omega) (by omega) hne hi0 hj0
theorem Bsb.rows' {w : World} {lo m B n : Nat} {D : Nat → List Int} (h : Bsb w lo m B n n D) : BRows w lo m (some ⟨B, 0, none⟩) n D := by
  obtain ⟨A, C, R, hr⟩ := h.rows
  exact ⟨B, 0, A, C, R, fun _ => ⟨rfl, h.low, h.lt, Nat.lt_of_lt_of_le h.lt h.mle⟩, hr⟩
theorem BRA.congr {w : World} {lo hi B off : Nat} {A : Nat → Option Addr} {C R : Nat → Nat} {n : Nat} {D E : Nat → List Int} (h : BRA w lo hi B off A C R n D) (he : ∀ i, i < n → D i = E i) : BRA w lo hi B off A C R n E :=
  ⟨fun i hi => by rw [← he i hi]; exact h.cell i hi, fun i hi => by rw [← he i hi]; exact h.room i hi, fun i hi => by rw [← he i hi]; exact h.row i hi, fun i hi => by rw [← he i hi]; exact h.base i hi, fun i j hi hj => by rw [← he i hi, ← he j hj]; exact h.apart i j hi hj⟩
def marksM (M k n : Nat) : List Int := (List.range n).map fun (i : Nat) => (((k + i) % M : Nat) : Int)
theorem marksM_len (M k n : Nat) : (marksM M k n).length = n := by simp [marksM]
theorem marksM_at (M k n i : Nat) (hi : i < n) : (marksM M k n).getD i 0 = (((k + i) % M : Nat) : Int) := by simp [marksM, List.getD, hi]
def bmarkD (k : Nat) (D : Nat → List Int) : Nat → List Int := fun i => marksM 256 (k + btot D i) (D i).length
end Go.Proofs.YtdmlgnmklnaehaaGreatDoor
