
/-
  The next first cycle of a slot, and the cycles at which a partition may begin a step, as plain functions of sound tables. No function of the program in sight; no conditions but those that each fact names.
-/
import Derived.Test.YtlomcdgfcocmmaaGreatDoorBas
import Derived.Test.YtlomcdgfcocmmaaGreatDoorTic
namespace Go.Proofs.YtlomcdgfcocmmaaGreatDoor
open Go.ChangeShapes Go.WideShapes Go.ChangeAt Go.RowKit Go.Deep Go.Joins
set_option linter.unusedVariables false

theorem start_first {t : Tb} (h : Tm t) (p : Int) : ∃ r, r ≤ t.ss.length ∧ ∀ k, k < t.ss.length → (p ≤ (t.ss.getD k sl0).2.1 ↔ r ≤ k) :=
  first_ex _ _ (fun i j hi hj g => by
    have h1 := h.od i j hi hj
    have h2 := h.ln i (by omega)
    have := h.pad1
    have := h.grd1
    omega)
theorem st_lt {t : Tb} (h : Tm t) {i : Nat} (hi : i < t.ss.length) : (t.ss.getD i sl0).2.1 < t.maj := by
  have h1 := h.en i hi
  have h2 := h.ln i hi
  have := h.pad1
  have := h.grd1
  omega
theorem st_le {t : Tb} (h : Tm t) {i j : Nat} (hij : i ≤ j) (hj : j < t.ss.length) : (t.ss.getD i sl0).2.1 ≤ (t.ss.getD j sl0).2.1 := by
  by_cases e : i = j
  · subst e; exact Int.le_refl _
  · have h1 := h.od i j (by omega) hj
    have h2 := h.ln i (by omega)
    have := h.pad1
    have := h.grd1
    omega
/-- A cycle at a place of a frame that begins at a border. -/
theorem place_border {m b x : Int} (hm : 1 ≤ m) (hb : b % m = 0) (h0 : 0 ≤ x) (h1 : x < m) : (b + x) % m = x := by
  rw [Int.add_emod, hb, Int.zero_add, Int.emod_emod_of_dvd _ (Int.dvd_refl _)]
  exact Int.emod_eq_of_lt h0 h1
theorem border_mod {m c : Int} : (c - c % m) % m = 0 := by
  rw [Int.sub_emod, Int.emod_emod_of_dvd _ (Int.dvd_refl _), Int.sub_self, Int.zero_emod]
/-- The next turn: slot i begins at r, the least such cycle not before c. -/
def TN (t : Tb) (c : Int) (i : Nat) (r : Int) : Prop := i < t.ss.length ∧ (t.ss.getD i sl0).2.1 = r % t.maj ∧ NX t c r ∧ r ≤ c + t.maj
theorem next_here {t : Tb} (h : Tm t) {c : Int} {i : Nat} (hi : i < t.ss.length) (hr : ∀ k, k < t.ss.length → (c % t.maj ≤ (t.ss.getD k sl0).2.1 ↔ i ≤ k)) : TN t c i (c - c % t.maj + (t.ss.getD i sl0).2.1) := by
  have hm := h.maj1
  have hp := mod_lt (c := c) hm
  have hb := border_mod (m := t.maj) (c := c)
  have h0 := h.st i hi
  have h1 := st_lt h hi
  have e := place_border hm hb h0 h1
  have g := (hr i hi).2 (Nat.le_refl _)
  refine ⟨hi, e.symm, ⟨by omega, ⟨i, hi, e.symm⟩, fun d hd hdr j hj he => ?_⟩, by omega⟩
  have e2 : d % t.maj = d - (c - c % t.maj) := by
    have := place_border (x := d - (c - c % t.maj)) hm hb (by omega) (by omega)
    rw [show c - c % t.maj + (d - (c - c % t.maj)) = d by omega] at this
    exact this
  have g2 := (hr j hj).1 (by omega)
  have := st_le h g2 hj
  omega
theorem next_later {t : Tb} (h : Tm t) {c : Int} (hr : ∀ k, k < t.ss.length → ¬ c % t.maj ≤ (t.ss.getD k sl0).2.1) : TN t c 0 (c - c % t.maj + t.maj + (t.ss.getD 0 sl0).2.1) := by
  have hm := h.maj1
  have hp := mod_lt (c := c) hm
  have hn := h.n1
  have hb : (c - c % t.maj + t.maj) % t.maj = 0 := by rw [Int.add_emod_right]; exact border_mod
  have h0 := h.st 0 (by omega)
  have h1 := st_lt h (i := 0) (by omega)
  have e := place_border hm hb h0 h1
  have g0 := hr 0 (by omega)
  refine ⟨by omega, e.symm, ⟨by omega, ⟨0, by omega, e.symm⟩, fun d hd hdr j hj he => ?_⟩, by omega⟩
  have gj := hr j hj
  by_cases q : d < c - c % t.maj + t.maj
  · have e2 : d % t.maj = d - (c - c % t.maj) := by
      have := place_border (x := d - (c - c % t.maj)) hm (border_mod (c := c)) (by omega) (by omega)
      rw [show c - c % t.maj + (d - (c - c % t.maj)) = d by omega] at this
      exact this
    omega
  · have e2 : d % t.maj = d - (c - c % t.maj + t.maj) := by
      have := place_border (x := d - (c - c % t.maj + t.maj)) hm hb (by omega) (by omega)
      rw [show c - c % t.maj + t.maj + (d - (c - c % t.maj + t.maj)) = d by omega] at this
      exact this
    have := st_le h (Nat.zero_le j) hj
    omega
theorem TBx.low {X X' : World} {B n : Nat} {t : Tb} {a : Ad} (h : TBx X B t a) (hb : Below n X X') (hB : B < n) : TBx X' B t a := by
  unfold TBx at h ⊢
  rw [hb.block B hB]; exact h
theorem Bk.low {w w' : World} {b B : Nat} {cs : Array Value} (h : Bk w b cs) (hb : Below B w w') (hlt : b < B) : Bk w' b cs :=
  ⟨Nat.lt_of_lt_of_le h.lt hb.size, fun i v e => (hb.cell (p := ⟨b, i, none⟩) hlt).trans (h.cell i v e), fun i => (hb.frozen (p := ⟨b, i, none⟩) hlt).trans (h.free i)⟩
end Go.Proofs.YtlomcdgfcocmmaaGreatDoor
