
/-
  One row of a cache is put in another's place: plain facts on worlds. No function of the program in sight; no conditions but those that each fact names.
-/
import Derived.Test.YtmbpmhmehiiiaaaWys
namespace Go.Proofs.Ytmbpmhmehiiiaaa
open Go.ChangeShapes Go.WideShapes Go.ChangeAt Go.RowKit Go.Deep
set_option linter.unusedVariables false

theorem Rsb.repl {w : World} {lo m B n k : Nat} {D : Nat → List Wy} (h : Rsb w lo m B n n D) (hk : k < n) (ws : List Wy) (a : Option Addr) (ca Rk m' : Nat) (hR : 0 < ws.length → m ≤ Rk) (how : OW w lo m' a ws Rk) (hca : ws.length ≤ ca) (hm : m ≤ m') (hm' : m' ≤ w.heap.size) :
    Rsb (w.setCell ⟨B, k, none⟩ (.slice a ws.length ca)) lo m' B n n (fun i => if i = k then ws else D i) := by
  obtain ⟨u, hu⟩ := h.room k hk
  have hB : B < w.heap.size := Nat.lt_of_lt_of_le h.lt h.mle
  have hbt : Betw B (B + 1) w (w.setCell ⟨B, k, none⟩ (.slice a ws.length ca)) := (Betw.refl _ _ _).setCell (p := ⟨B, k, none⟩) (Nat.le_refl _) (Nat.lt_succ_self _) _
  obtain ⟨A, C, R, hr⟩ := h.rows
  have hlt := h.lt
  refine ⟨by omega, by simpa using hm', h.low, fun j => by rw [World.frozen?_setCell]; exact h.free j, fun i hi => ?_, fun i => if i = k then a else A i, fun i => if i = k then ca else C i, fun i => if i = k then Rk else R i, ⟨fun i hi => ?_, fun i hi => ?_, fun i hi => ?_, fun i hi h0 => ?_, fun i j hi hj hne hi0 hj0 => ?_⟩⟩
  · by_cases e : i = k
    · subst e; exact ⟨_, World.cell?_setCell_same _ _ _ hu⟩
    · rw [World.cell?_setCell_other _ _ _ _ (by intro c; injection c with c1 c2 c3; omega)]; exact h.room i hi
  · simp only [Nat.zero_add]
    by_cases e : i = k
    · subst e; simp only [if_pos]; exact World.cell?_setCell_same _ _ _ hu
    · simp only [if_neg e]
      rw [World.cell?_setCell_other _ _ _ _ (by intro c; injection c with c1 c2 c3; omega)]
      have := hr.cell i hi
      rwa [Nat.zero_add] at this
  · by_cases e : i = k
    · subst e; simp only [if_pos]; exact hca
    · simp only [if_neg e]; exact hr.room i hi
  · by_cases e : i = k
    · subst e
      simp only [if_pos]
      exact how.betw hbt (fun h0 => by have := hR h0; omega)
    · simp only [if_neg e]
      refine ((hr.row i hi).wide (Nat.le_refl _) hm).betw hbt (fun h0 => ?_)
      have := hr.base i hi h0
      omega
  · by_cases e : i = k
    · subst e
      simp only [if_pos] at h0 ⊢
      have := hR h0; omega
    · simp only [if_neg e] at h0 ⊢
      exact hr.base i hi h0
  · by_cases e : i = k
    · have e2 : j ≠ k := by omega
      simp only [if_pos e] at hi0
      simp only [if_neg e2] at hj0
      obtain ⟨_, _, _, g, _⟩ := hr.row j hj hj0
      simp only [if_pos e, if_neg e2]
      have := hR hi0; omega
    · by_cases e2 : j = k
      · simp only [if_neg e] at hi0
        simp only [if_pos e2] at hj0
        obtain ⟨_, _, _, g, _⟩ := hr.row i hi hi0
        simp only [if_neg e, if_pos e2]
        have := hR hj0; omega
      · simp only [if_neg e] at hi0
        simp only [if_neg e2] at hj0
        simp only [if_neg e, if_neg e2]
        exact hr.apart i j hi hj hne hi0 hj0
theorem Rsb.congr {w : World} {lo m B n : Nat} {D E : Nat → List Wy} (h : Rsb w lo m B n n D) (he : ∀ i, i < n → D i = E i) : Rsb w lo m B n n E := by
  obtain ⟨A, C, R, hr⟩ := h.rows
  exact ⟨h.lt, h.mle, h.low, h.free, h.room, A, C, R, hr.congr he⟩
theorem Rsb.chg {w w' : World} {lo m B n k : Nat} {D : Nat → List Wy} (h : Rsb w lo m B n k D) (hb : Below m w w') : Rsb w' lo m B n k D := by
  obtain ⟨A, C, R, hr⟩ := h.rows
  have hB := h.lt
  have hm := h.mle
  refine ⟨h.lt, Nat.le_trans h.mle hb.size, h.low, fun j => (hb.frozen (p := ⟨B, j, none⟩) hB).trans (h.free j), fun i hi => by rw [hb.cell (p := ⟨B, i, none⟩) hB]; exact h.room i hi, A, C, R, ⟨fun i hi' => (hb.cell (p := ⟨B, 0 + i, none⟩) hB).trans (hr.cell i hi'), hr.room, fun i hi' h0 => ?_, hr.base, hr.apart⟩⟩
  obtain ⟨off, e, h1, h2, hlt, hc, hf⟩ := hr.row i hi' h0
  exact ⟨off, e, h1, h2, Nat.lt_of_lt_of_le hlt hb.size, fun j hj => ⟨(hb.cell (p := ⟨R i, off + j * 2, none⟩) h2).trans (hc j hj).1, (hb.cell (p := ⟨R i, off + j * 2 + 1, none⟩) h2).trans (hc j hj).2⟩, fun j => (hb.frozen (p := ⟨R i, j, none⟩) h2).trans (hf j)⟩
end Go.Proofs.Ytmbpmhmehiiiaaa
