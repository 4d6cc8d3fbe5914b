/-
  How long a partition may wait for its next turn, as plain facts of sound tables: the gaps behind its slots, the longest of them, and what a count over a frame's cycles knows of it. No function of the program in sight.
  How long a partition waits at most, by the specification. Conditions: the lists lie in memory.
  How long a partition waits at most, by the program. Conditions: the lists lie in memory; the program's table of extras holds what the program's text lays.
  How long a partition waits: the law, walked. Conditions: the lists lie in memory; the program's table of extras holds what the program's text lays.
-/
import Derived.Test.YtlomcdgfcocmmaaGreatDoorBas
import Derived.Test.YtlomcdgfcocmmaaGreatDoorJc1
import Derived.Test.YtlomcdgfcocmmaaGreatDoorSp6
import Derived.Test.YtlomcdgfcocmmaaGreatDoorRl3
import Derived.Deep.LoopGhost
import Derived.Test.YtlomcdgfcocmmaaGreatDoorLsw
namespace Go.Proofs.YtlomcdgfcocmmaaGreatDoor
open Go.ChangeShapes Go.WideShapes Go.ChangeAt Go.RowKit Go.Deep Go.Joins
set_option linter.unusedVariables false

namespace La
def Ows (t : Tb) (p : Int) (i : Nat) : Prop := i < t.ss.length ∧ (t.ss.getD i sl0).1 = p
/-- The first place of a slot at which a step may begin, and the first one behind them. -/
def fF (t : Tb) (i : Nat) : Int := (t.ss.getD i sl0).2.1 + t.pad
def eE (t : Tb) (i : Nat) : Int := (t.ss.getD i sl0).2.1 + (t.ss.getD i sl0).2.2 - t.grd
theorem fe {t : Tb} (h : Tm t) {i : Nat} (hi : i < t.ss.length) : t.pad ≤ fF t i ∧ fF t i < eE t i ∧ eE t i + t.grd ≤ t.maj := by
  have h1 := h.st i hi
  have h2 := h.ln i hi
  have h3 := h.en i hi
  unfold fF eE
  omega
theorem ef {t : Tb} (h : Tm t) {i j : Nat} (hi : i < j) (hj : j < t.ss.length) : eE t i + t.grd + t.pad ≤ fF t j := by
  have h1 := h.od i j hi hj
  unfold fF eE
  omega
/-- The gap behind slot i, up to the partition's next slot, be it a frame later. -/
def GP (t : Tb) (p : Int) (i : Nat) (g : Int) : Prop :=
  (∃ k, i < k ∧ Ows t p k ∧ (∀ j, i < j → j < k → ¬ Ows t p j) ∧ g = fF t k - eE t i) ∨
  ((∀ j, i < j → ¬ Ows t p j) ∧ ∃ k, Ows t p k ∧ (∀ j, j < k → ¬ Ows t p j) ∧ g = fF t k + t.maj - eE t i)
theorem GP.unique {t : Tb} {p g h : Int} {i : Nat} (a : GP t p i g) (b : GP t p i h) : g = h := by
  rcases a with ⟨k, a1, a2, a3, a4⟩ | ⟨a1, k, a2, a3, a4⟩ <;> rcases b with ⟨l, b1, b2, b3, b4⟩ | ⟨b1, l, b2, b3, b4⟩
  · have e : k = l := by
      by_cases c : k < l
      · exact absurd a2 (b3 k a1 c)
      · by_cases c2 : l < k
        · exact absurd b2 (a3 l b1 c2)
        · omega
    subst e
    omega
  · exact absurd a2 (b1 k a1)
  · exact absurd b2 (a1 l b1)
  · have e : k = l := by
      by_cases c : k < l
      · exact absurd a2 (b3 k c)
      · by_cases c2 : l < k
        · exact absurd b2 (a3 l c2)
        · omega
    subst e
    omega
theorem GP.pos {t : Tb} (h : Tm t) {p g : Int} {i : Nat} (hi : i < t.ss.length) (a : GP t p i g) : 0 ≤ g := by
  have h1 := h.pad1
  have h2 := h.grd1
  rcases a with ⟨k, a1, a2, a3, a4⟩ | ⟨a1, k, a2, a3, a4⟩
  · have := ef h a1 a2.1
    omega
  · have := fe h hi
    have := fe h a2.1
    omega
/-- The longest of the first n slots' gaps, or -1. -/
def LN (t : Tb) (p : Int) (n : Nat) (r : Int) : Prop :=
  ((∀ i, i < n → ¬ Ows t p i) ∧ r = -1) ∨ ((∃ i, i < n ∧ Ows t p i ∧ GP t p i r) ∧ ∀ i g, i < n → Ows t p i → GP t p i g → g ≤ r)
theorem LN.unique {t : Tb} {p r s : Int} {n : Nat} (a : LN t p n r) (b : LN t p n s) : r = s := by
  rcases a with ⟨a1, a2⟩ | ⟨⟨i, a1, a2, a3⟩, a4⟩ <;> rcases b with ⟨b1, b2⟩ | ⟨⟨j, b1, b2, b3⟩, b4⟩
  · omega
  · exact absurd b2 (a1 j b1)
  · exact absurd a2 (b1 i a1)
  · have := a4 j s b1 b2 b3
    have := b4 i r a1 a2 a3
    omega
theorem LN.zero (t : Tb) (p : Int) : LN t p 0 (-1) := .inl ⟨fun i hi => by omega, rfl⟩
theorem LN.ge {t : Tb} (h : Tm t) {p r : Int} {n : Nat} (a : LN t p n r) : -1 ≤ r := by
  rcases a with ⟨_, rfl⟩ | ⟨⟨i, _, a2, a3⟩, _⟩
  · omega
  · have := a3.pos h a2.1
    omega
theorem LN.no {t : Tb} {p r : Int} {n : Nat} (a : LN t p n r) (hn : ¬ Ows t p n) : LN t p (n + 1) r := by
  rcases a with ⟨a1, a2⟩ | ⟨⟨i, a1, a2, a3⟩, a4⟩
  · refine .inl ⟨fun i hi => ?_, a2⟩
    by_cases e : i = n
    · subst e; exact hn
    · exact a1 i (by omega)
  · refine .inr ⟨⟨i, by omega, a2, a3⟩, fun j g hj ho hg => ?_⟩
    by_cases e : j = n
    · subst e; exact absurd ho hn
    · exact a4 j g (by omega) ho hg
theorem LN.yes {t : Tb} (h : Tm t) {p r g : Int} {n : Nat} (a : LN t p n r) (hn : Ows t p n) (hg : GP t p n g) : LN t p (n + 1) (if r < g then g else r) := by
  have hp := hg.pos h hn.1
  rcases a with ⟨a1, a2⟩ | ⟨⟨i, a1, a2, a3⟩, a4⟩
  · rw [if_pos (by omega)]
    refine .inr ⟨⟨n, by omega, hn, hg⟩, fun j k hj ho hk => ?_⟩
    by_cases e : j = n
    · subst e
      have := hk.unique hg
      omega
    · exact absurd ho (a1 j (by omega))
  · by_cases c : r < g
    · rw [if_pos c]
      refine .inr ⟨⟨n, by omega, hn, hg⟩, fun j k hj ho hk => ?_⟩
      by_cases e : j = n
      · subst e
        have := hk.unique hg
        omega
      · have := a4 j k (by omega) ho hk
        omega
    · rw [if_neg c]
      refine .inr ⟨⟨i, by omega, a2, a3⟩, fun j k hj ho hk => ?_⟩
      by_cases e : j = n
      · subst e
        have := hk.unique hg
        omega
      · exact a4 j k (by omega) ho hk
/-- What Latency answers. -/
def LR (t : Tb) (p r : Int) : Prop := (¬ Sd t ∧ r = -1) ∨ (Sd t ∧ LN t p t.ss.length r)
theorem LR.unique {t : Tb} {p r s : Int} (a : LR t p r) (b : LR t p s) : r = s := by
  rcases a with ⟨a1, a2⟩ | ⟨a1, a2⟩ <;> rcases b with ⟨b1, b2⟩ | ⟨b1, b2⟩
  · omega
  · exact absurd b1 a1
  · exact absurd a1 b1
  · exact a2.unique b2
/-- Who may begin a step at a place. -/
theorem beg_hit {t : Tb} (h : Tm t) {c p : Int} (hp : 0 ≤ p) (hb : begV t c = p) : ∃ i, Ows t p i ∧ fF t i ≤ c ∧ c < eE t i := by
  unfold begV at hb
  by_cases h2 : phaseV t c = 2
  · rw [if_pos h2] at hb
    obtain ⟨i, hi, hs, hh⟩ := phaseV_slot (t := t) (p := c) (by rw [h2]; decide)
    rw [hs] at hb
    rw [phaseV_at hs] at h2
    refine ⟨i, ⟨hi, hb⟩, ?_⟩
    unfold HasP at hh
    unfold fF eE
    split at h2
    · omega
    · split at h2
      · omega
      · omega
  · rw [if_neg h2] at hb
    omega
theorem hit_beg {t : Tb} (h : Tm t) {c p : Int} {i : Nat} (ho : Ows t p i) (h1 : fF t i ≤ c) (h2 : c < eE t i) : begV t c = p := by
  have hs : slotV t c = (i : Int) := slotV_at h ho.1 (by
    unfold HasP
    have := h.pad1
    have := h.grd1
    unfold fF at h1
    unfold eE at h2
    omega)
  have h3 : phaseV t c = 2 := by
    rw [phaseV_at hs]
    unfold fF at h1
    unfold eE at h2
    rw [if_neg (by omega), if_neg (by omega)]
  unfold begV
  rw [if_pos h3, hs]
  exact ho.2
/-- What a count over the cycles of a frame knows at cycle c. -/
def SI (t : Tb) (p c f l m : Int) : Prop :=
  (f = -1 ∧ l = -1 ∧ m = 0 ∧ ∀ j, Ows t p j → c ≤ fF t j) ∨
  (∃ j0 j1, Ows t p j0 ∧ (∀ j, j < j0 → ¬ Ows t p j) ∧ f = fF t j0 ∧ Ows t p j1 ∧ j0 ≤ j1 ∧ fF t j1 < c ∧ ((c ≤ eE t j1 ∧ l = c - 1) ∨ (eE t j1 < c ∧ l = eE t j1 - 1)) ∧ (∀ k, j1 < k → Ows t p k → c ≤ fF t k) ∧ 0 ≤ m ∧
    (∀ j g, j < j1 → Ows t p j → GP t p j g → g ≤ m) ∧ Hid (m = 0 ∨ ∃ j, j < j1 ∧ Ows t p j ∧ GP t p j m))
theorem SI.start {t : Tb} (h : Tm t) (p : Int) : SI t p 0 (-1) (-1) 0 := .inl ⟨rfl, rfl, rfl, fun j hj => by have := fe h hj.1; have := h.pad1; omega⟩
theorem SI.rng {t : Tb} (h : Tm t) {p c f l m : Int} (hc0 : 0 ≤ c) (hc : c ≤ t.maj) (a : SI t p c f l m) : (-1 ≤ f ∧ f ≤ 5000) ∧ (-1 ≤ l ∧ l ≤ 5000) ∧ (0 ≤ m ∧ m ≤ 10000) := by
  have hm := h.maj2
  rcases a with ⟨a1, a2, a3, a4⟩ | ⟨j0, j1, a1, a2, a3, a4, a5, a6, a7, a8, a9, a10, a11⟩
  · omega
  · have e0 := fe h a1.1
    have e1 := fe h a4.1
    have := h.pad1
    have := h.grd1
    refine ⟨by omega, by omega, by omega, ?_⟩
    rcases a11.out with a11 | ⟨j, hj, ho, hg⟩
    · omega
    · have ej := fe h ho.1
      rcases hg with ⟨k, q1, q2, q3, q4⟩ | ⟨q1, k, q2, q3, q4⟩
      · have := fe h q2.1
        omega
      · have := fe h q2.1
        omega
theorem SI.no {t : Tb} (h : Tm t) {p c f l m : Int} (a : SI t p c f l m) (hn : ∀ i, Ows t p i → ¬ (fF t i ≤ c ∧ c < eE t i)) : SI t p (c + 1) f l m := by
  rcases a with ⟨a1, a2, a3, a4⟩ | ⟨j0, j1, a1, a2, a3, a4, a5, a6, a7, a8, a9, a10, a11⟩
  · refine .inl ⟨a1, a2, a3, fun j hj => ?_⟩
    have := a4 j hj
    have := hn j hj
    have := fe h hj.1
    omega
  · have q := hn j1 a4
    refine .inr ⟨j0, j1, a1, a2, a3, a4, a5, by omega, by omega, fun k hk ho => ?_, a9, a10, a11⟩
    have := a8 k hk ho
    have := hn k ho
    have := fe h ho.1
    omega
theorem SI.first {t : Tb} (h : Tm t) {p c f l m : Int} (hf : f < 0) (a : SI t p c f l m) (hy : ∃ i, Ows t p i ∧ fF t i ≤ c ∧ c < eE t i) : SI t p (c + 1) c c m := by
  obtain ⟨i, ho, h1, h2⟩ := hy
  rcases a with ⟨a1, a2, a3, a4⟩ | ⟨j0, j1, a1, a2, a3, a4, a5, a6, a7, a8, a9, a10, a11⟩
  · have h3 := a4 i ho
    have low : ∀ j, j < i → ¬ Ows t p j := fun j hj hoj => by
      have := a4 j hoj
      have := ef h hj ho.1
      have := fe h hoj.1
      have := h.pad1
      have := h.grd1
      omega
    refine .inr ⟨i, i, ho, low, by omega, ho, Nat.le_refl _, by omega, .inl ⟨by omega, by omega⟩, fun k hk hok => ?_, by omega, fun j g hj hoj => absurd hoj (low j hj), Or.inl a3⟩
    have := ef h hk hok.1
    have := h.pad1
    have := h.grd1
    omega
  · have := fe h a1.1
    have := h.pad1
    omega
theorem SI.more {t : Tb} (h : Tm t) {p c f l m : Int} (hf : ¬ f < 0) (a : SI t p c f l m) (hy : ∃ i, Ows t p i ∧ fF t i ≤ c ∧ c < eE t i) : SI t p (c + 1) f c (if m < c - l - 1 then c - l - 1 else m) := by
  obtain ⟨i, ho, h1, h2⟩ := hy
  have hp1 := h.pad1
  have hg1 := h.grd1
  rcases a with ⟨a1, a2, a3, a4⟩ | ⟨j0, j1, a1, a2, a3, a4, a5, a6, a7, a8, a9, a10, a11⟩
  · omega
  · by_cases e : i = j1
    · subst e
      rw [if_neg (by omega)]
      exact .inr ⟨j0, i, a1, a2, a3, a4, a5, by omega, .inl ⟨by omega, by omega⟩, fun k hk hok => by have := ef h hk hok.1; omega, a9, a10, a11⟩
    · have hlt : j1 < i := by
        by_cases q : i < j1
        · have := ef h q a4.1
          omega
        · omega
      have hce := a8 i hlt ho
      have hef := ef h hlt ho.1
      have hgp : GP t p j1 (c - l - 1) := .inl ⟨i, hlt, ho, fun j hj hji hoj => by
        have := a8 j hj hoj
        have := ef h hji ho.1
        have := fe h hoj.1
        omega, by omega⟩
      have hmid : ∀ j, j1 < j → j < i → ¬ Ows t p j := fun j hj hji hoj => by
        have := a8 j hj hoj
        have := ef h hji ho.1
        have := fe h hoj.1
        omega
      have hall : ∀ j g, j < i → Ows t p j → GP t p j g → g ≤ (if m < c - l - 1 then c - l - 1 else m) := fun j g hj hoj hg => by
        by_cases q : j < j1
        · have := a10 j g q hoj hg
          split <;> omega
        · by_cases q2 : j = j1
          · subst q2
            have := hg.unique hgp
            split <;> omega
          · exact absurd hoj (hmid j (by omega) hj)
      refine .inr ⟨j0, i, a1, a2, a3, ho, by omega, by omega, .inl ⟨by omega, by omega⟩, fun k hk hok => by have := ef h hk hok.1; omega, by split <;> omega, hall, ?_⟩
      by_cases q : m < c - l - 1
      · rw [if_pos q]
        exact Or.inr ⟨j1, hlt, a4, hgp⟩
      · rw [if_neg q]
        rcases a11.out with a11 | ⟨j, b1, b2, b3⟩
        · exact Or.inl a11
        · exact Or.inr ⟨j, by omega, b2, b3⟩
theorem SI.none {t : Tb} (h : Tm t) {p f l m : Int} (hf : f < 0) (a : SI t p t.maj f l m) : LN t p t.ss.length (-1) := by
  rcases a with ⟨a1, a2, a3, a4⟩ | ⟨j0, j1, a1, a2, a3, a4, a5, a6, a7, a8, a9, a10, a11⟩
  · refine .inl ⟨fun i hi ho => ?_, rfl⟩
    have := a4 i ho
    have := fe h hi
    have := h.grd1
    omega
  · have := fe h a1.1
    have := h.pad1
    omega
theorem SI.done {t : Tb} (h : Tm t) {p f l m : Int} (hf : ¬ f < 0) (a : SI t p t.maj f l m) : LN t p t.ss.length (if m < t.maj - 1 - l + f then t.maj - 1 - l + f else m) := by
  have hp1 := h.pad1
  have hg1 := h.grd1
  rcases a with ⟨a1, a2, a3, a4⟩ | ⟨j0, j1, a1, a2, a3, a4, a5, a6, a7, a8, a9, a10, a11⟩
  · omega
  · have e1 := fe h a4.1
    have hl : l = eE t j1 - 1 := by omega
    have hlast : ∀ j, j1 < j → ¬ Ows t p j := fun j hj ho => by
      have := a8 j hj ho
      have := fe h ho.1
      omega
    have hgp : GP t p j1 (t.maj - 1 - l + f) := .inr ⟨hlast, j0, a1, a2, by omega⟩
    have hgpos := hgp.pos h a4.1
    by_cases q : m < t.maj - 1 - l + f
    · rw [if_pos q]
      refine .inr ⟨⟨j1, a4.1, a4, hgp⟩, fun j g hj ho hg => ?_⟩
      by_cases q1 : j < j1
      · have := a10 j g q1 ho hg
        omega
      · by_cases q2 : j = j1
        · subst q2
          have := hg.unique hgp
          omega
        · exact absurd ho (hlast j (by omega))
    · rw [if_neg q]
      refine .inr ⟨?_, fun j g hj ho hg => ?_⟩
      · rcases a11.out with a11 | ⟨j, b1, b2, b3⟩
        · have e : t.maj - 1 - l + f = m := by omega
          rw [e] at hgp
          exact ⟨j1, a4.1, a4, hgp⟩
        · exact ⟨j, b2.1, b2, b3⟩
      · by_cases q1 : j < j1
        · exact a10 j g q1 ho hg
        · by_cases q2 : j = j1
          · subst q2
            have := hg.unique hgp
            omega
          · exact absurd ho (hlast j (by omega))
/-- The turn behind the end of slot k, in frame M. -/
theorem turn_next {t : Tb} (h : Tm t) {k i : Nat} {M r : Int} (hk : k < t.ss.length) (hM : M % t.maj = 0) (ht : TN t (M + ((t.ss.getD k sl0).2.1 + (t.ss.getD k sl0).2.2)) i r) :
    (k + 1 < t.ss.length ∧ i = k + 1 ∧ r = M + (t.ss.getD (k + 1) sl0).2.1) ∨ (k + 1 = t.ss.length ∧ i = 0 ∧ r = M + t.maj + (t.ss.getD 0 sl0).2.1) := by
  have hm := h.maj1
  have hen := h.en k hk
  have hst := h.st k hk
  have hln := h.ln k hk
  have hp1 := h.pad1
  have hg1 := h.grd1
  have key : ∀ j (M' : Int), j < t.ss.length → M' % t.maj = 0 → NX t (M + ((t.ss.getD k sl0).2.1 + (t.ss.getD k sl0).2.2)) (M' + (t.ss.getD j sl0).2.1) → i = j ∧ r = M' + (t.ss.getD j sl0).2.1 := by
    intro j M' hj hM' hn
    have e := ht.2.2.1.unique hn
    refine ⟨?_, e⟩
    have e2 := ht.2.1
    rw [e, place_border hm hM' (h.st j hj) (st_lt h hj)] at e2
    have o1 := h.od
    by_cases q : i < j
    · have := h.od i j q hj
      have := h.ln i ht.1
      omega
    · by_cases q2 : j < i
      · have := h.od j i q2 ht.1
        have := h.ln j hj
        omega
      · omega
  by_cases q : k + 1 < t.ss.length
  · refine .inl ⟨q, ?_⟩
    refine key (k + 1) M q hM ⟨by have := h.od k (k + 1) (by omega) q; omega, ⟨k + 1, q, (place_border hm hM (h.st _ q) (st_lt h q)).symm⟩, fun d hd hdr j hj he => ?_⟩
    have hlt := st_lt h q
    have e2 : d % t.maj = d - M := by
      have := place_border (x := d - M) hm hM (by omega) (by omega)
      rw [show M + (d - M) = d by omega] at this
      exact this
    by_cases q1 : j ≤ k
    · by_cases q2 : j = k
      · subst q2; omega
      · have := h.od j k (by omega) hk
        have := h.ln j hj
        omega
    · by_cases q2 : j = k + 1
      · subst q2; omega
      · have := h.od (k + 1) j (by omega) hj
        have := h.ln (k + 1) q
        omega
  · refine .inr ⟨by omega, ?_⟩
    have hn := h.n1
    have hM2 : (M + t.maj) % t.maj = 0 := by rw [Int.add_emod_right]; exact hM
    have h0 := h.st 0 (by omega)
    have h0l := st_lt h (i := 0) (by omega)
    refine key 0 (M + t.maj) (by omega) hM2 ⟨by omega, ⟨0, by omega, (place_border hm hM2 h0 h0l).symm⟩, fun d hd hdr j hj he => ?_⟩
    have hj0 := h.st j hj
    by_cases q3 : d < M + t.maj
    · have e2 : d % t.maj = d - M := by
        have := place_border (x := d - M) hm hM (by omega) (by omega)
        rw [show M + (d - M) = d by omega] at this
        exact this
      by_cases q2 : j = k
      · subst q2; omega
      · have := h.od j k (by omega) hk
        have := h.ln j hj
        omega
    · have e2 : d % t.maj = d - (M + t.maj) := by
        have := place_border (x := d - (M + t.maj)) hm hM2 (by omega) (by omega)
        rw [show M + t.maj + (d - (M + t.maj)) = d by omega] at this
        exact this
      by_cases q2 : j = 0
      · subst q2; omega
      · have := h.od 0 j (by omega) hj
        have := h.ln 0 (by omega)
        omega
/-- Behind q turns from slot i on none of which, the last aside, was the partition's: the turn at hand is that of slot k, in frame M. -/
structure VI (t : Tb) (p : Int) (i q k : Nat) (M : Int) : Prop where
  k0 : k < t.ss.length
  m : (M = 0 ∧ k = i + q) ∨ (M = t.maj ∧ k + t.ss.length = i + q)
  v : ∀ s, 0 < s → s < q → (i + s < t.ss.length → ¬ Ows t p (i + s)) ∧ (t.ss.length ≤ i + s → ¬ Ows t p (i + s - t.ss.length))
theorem VI.start {t : Tb} {p : Int} {i : Nat} (hi : i < t.ss.length) : VI t p i 0 i 0 := ⟨hi, .inl ⟨rfl, rfl⟩, fun s h1 h2 => by omega⟩
theorem VI.mod {t : Tb} {p : Int} {i q k : Nat} {M : Int} (a : VI t p i q k M) : M % t.maj = 0 := by
  rcases a.m with ⟨rfl, _⟩ | ⟨rfl, _⟩
  · simp
  · exact Int.emod_self
theorem VI.rng {t : Tb} (h : Tm t) {p : Int} {i q k : Nat} {M : Int} (a : VI t p i q k M) : 0 ≤ M ∧ M ≤ 5000 := by
  have := h.maj1
  have := h.maj2
  rcases a.m with ⟨rfl, _⟩ | ⟨rfl, _⟩ <;> omega
/-- One turn on: where the turn at hand, but for the first, was not the partition's. -/
theorem VI.step {t : Tb} (h : Tm t) {p : Int} {i q k k' : Nat} {M r : Int} (hi : i < t.ss.length) (a : VI t p i q k M) (hno : 0 < q → ¬ Ows t p k) (hq : q < t.ss.length) (ht : TN t (M + ((t.ss.getD k sl0).2.1 + (t.ss.getD k sl0).2.2)) k' r) :
    ∃ M', r = M' + (t.ss.getD k' sl0).2.1 ∧ VI t p i (q + 1) k' M' := by
  have hv : ∀ s, 0 < s → s < q + 1 → (i + s < t.ss.length → ¬ Ows t p (i + s)) ∧ (t.ss.length ≤ i + s → ¬ Ows t p (i + s - t.ss.length)) := fun s h1 h2 => by
    by_cases e : s = q
    · subst e
      rcases a.m with ⟨_, hk⟩ | ⟨_, hk⟩
      · have hk0 := a.k0
        refine ⟨fun _ => by rw [← hk]; exact hno h1, fun g => by omega⟩
      · have hk0 := a.k0
        refine ⟨fun g => by omega, fun _ => ?_⟩
        rw [show i + s - t.ss.length = k by omega]
        exact hno h1
    · exact a.v s h1 (by omega)
  have hk0 := a.k0
  rcases turn_next h a.k0 a.mod ht with ⟨c1, rfl, c3⟩ | ⟨c1, rfl, c3⟩
  · refine ⟨M, c3, c1, ?_, hv⟩
    rcases a.m with ⟨e, hk⟩ | ⟨e, hk⟩
    · exact .inl ⟨e, by omega⟩
    · exact .inr ⟨e, by omega⟩
  · rcases a.m with ⟨e, hk⟩ | ⟨e, hk⟩
    · exact ⟨M + t.maj, c3, by omega, .inr ⟨by omega, by omega⟩, hv⟩
    · omega
/-- The turn at hand is the partition's own: its run begins where the gap ends. -/
theorem VI.hit {t : Tb} (h : Tm t) {p : Int} {i q k : Nat} {M : Int} (ho : Ows t p i) (a : VI t p i q k M) (hq : 0 < q) (hqn : q ≤ t.ss.length) (hk : Ows t p k) : GP t p i (M + (t.ss.getD k sl0).2.1 + t.pad - eE t i) := by
  rcases a.m with ⟨rfl, e⟩ | ⟨rfl, e⟩
  · refine .inl ⟨k, by omega, hk, fun j h1 h2 => ?_, by unfold fF; omega⟩
    have := (a.v (j - i) (by omega) (by omega)).1
    rw [show i + (j - i) = j by omega] at this
    exact this (by have := a.k0; omega)
  · refine .inr ⟨fun j h1 h2 => ?_, k, hk, fun j h1 => ?_, by unfold fF; omega⟩
    · have hj := h2.1
      have := (a.v (j - i) (by omega) (by omega)).1
      rw [show i + (j - i) = j by omega] at this
      exact this hj h2
    · by_cases c : i < j + t.ss.length
      · have hkk := a.k0
        have := (a.v (j + t.ss.length - i) (by omega) (by omega)).2
        rw [show i + (j + t.ss.length - i) - t.ss.length = j by omega] at this
        exact this (by omega)
      · have := ho.1
        omega
/-- Before as many turns as there are slots it is the partition's own again. -/
theorem VI.end {t : Tb} {p : Int} {i k : Nat} {M : Int} (ho : Ows t p i) (a : VI t p i t.ss.length k M) : Ows t p k := by
  have hk := a.k0
  rcases a.m with ⟨_, e⟩ | ⟨_, e⟩
  · omega
  · rw [show k = i by omega]
    exact ho
end La
end Go.Proofs.YtlomcdgfcocmmaaGreatDoor
namespace Go.Proofs.YtlomcdgfcocmmaaGreatDoor
open Go.ChangeShapes Go.WideShapes Go.ChangeAt Go.RowKit Go.Deep Go.Joins
set_option linter.unusedVariables false

end Go.Proofs.YtlomcdgfcocmmaaGreatDoor
namespace Go.Proofs.YtlomcdgfcocmmaaGreatDoor
open Go.ChangeShapes Go.WideShapes Go.ChangeAt Go.RowKit Go.Deep Go.Joins
set_option linter.unusedVariables false

namespace La
set_option maxRecDepth 40000 in
set_option maxHeartbeats 4000000 in
theorem run_of2 (t : Tb) (a : Ad) (x1 x2 x3 : Int) (w : World) (hp : 1 ≤ t.pad ∧ t.pad ≤ 5000) (hg : 1 ≤ t.grd ∧ t.grd ≤ 5000) (hx : 0 ≤ x2 ∧ 0 ≤ x3 ∧ x2 + x3 ≤ 1000000) :
    Calls Tryz.prog 78 #[tbV t a, .agg #[.int .i64 x1, .int .i64 x2, .int .i64 x3]] w fun e w' => e = .returned (.tuple #[.int .i64 (x2 + t.pad), .int .i64 (x2 + x3 - t.grd)]) ∧ Below w.heap.size w w' := by
  have HE : Hid (∀ Y, Calls Tryz.prog 65 #[.agg #[.int .i64 x1, .int .i64 x2, .int .i64 x3]] Y fun e w' => e = .returned (.int .i64 (x2 + x3)) ∧ Below Y.heap.size Y w') := fun Y => slot_end x1 x2 x3 Y (by rw [IntKind.wrap_i64]; omega)
  obtain ⟨z, HZ⟩ : ∃ z, Hid (x2 + x3 = z) := ⟨_, rfl⟩
  rw [HZ.out] at HE hx ⊢
  have HB0 : Hid (Below w.heap.size w (w.alloc (.cells (tbA t a) 33))) := (Below.refl _ _).alloc (Nat.le_refl _) _
  have HX0 : Hid (TBx (w.alloc (.cells (tbA t a) 33)) w.heap.size t a) := TBx.new w t a _ rfl
  have hbV : Below (w.alloc (.cells (tbA t a) 33)).heap.size (w.alloc (.cells (tbA t a) 33)) ((w.alloc (.cells (tbA t a) 33)).alloc (.cells #[.int .i64 x1, .int .i64 x2, .int .i64 x3] 42)) := (Below.refl _ _).alloc (Nat.le_refl _) _
  have HBV : Hid (Below w.heap.size w ((w.alloc (.cells (tbA t a) 33)).alloc (.cells #[.int .i64 x1, .int .i64 x2, .int .i64 x3] 42))) := HB0.out.trans (hbV.mono HB0.out.size)
  have k12 : ((w.alloc (.cells (tbA t a) 33)).alloc (.cells #[.int .i64 x1, .int .i64 x2, .int .i64 x3] 42)).cell? ⟨w.heap.size, 12, none⟩ = some (.int .i64 t.pad) := (HX0.out.below hbV).cell 12 rfl
  have k13 : ((w.alloc (.cells (tbA t a) 33)).alloc (.cells #[.int .i64 x1, .int .i64 x2, .int .i64 x3] 42)).cell? ⟨w.heap.size, 13, none⟩ = some (.int .i64 t.grd) := (HX0.out.below hbV).cell 13 rfl
  have K : Hid (CellsAt ((w.alloc (.cells (tbA t a) 33)).alloc (.cells #[.int .i64 x1, .int .i64 x2, .int .i64 x3] 42)) (w.heap.size + 1) 0 [.int .i64 x1, .int .i64 x2, .int .i64 x3]) := CellsAt.new _ [.int .i64 x1, .int .i64 x2, .int .i64 x3] _ (w.heap.size + 1) (by simp)
  have c0 := cell0 K.out 0 rfl
  have c1 := cell0 K.out 1 rfl
  have c2 := cell0 K.out 2 rfl
  have hw1 : IntKind.i64.wrap (x2 + t.pad) = x2 + t.pad := by rw [IntKind.wrap_i64]; have := HZ.out; omega
  have hw2 : IntKind.i64.wrap (z - t.grd) = z - t.grd := by rw [IntKind.wrap_i64]; have := HZ.out; omega
  clear hbV HB0 HX0 K hx hp hg HZ
  go_enter Tryz.func78, Tryz.ntmps78
  go_wp2
  revert HBV k12 k13 c0 c1 c2
  generalize (w.alloc (.cells (tbA t a) 33)).alloc (.cells #[.int .i64 x1, .int .i64 x2, .int .i64 x3] 42) = V
  intro HBV k12 k13 c0 c1 c2
  have G12 := fun Y => gr_cell (W0 := V) k12 Y
  have G13 := fun Y => gr_cell (W0 := V) k13 Y
  have G0 := fun Y => gr_cell (W0 := V) c0 Y
  have G1 := fun Y => gr_cell (W0 := V) c1 Y
  have G2 := fun Y => gr_cell (W0 := V) c2 Y
  have hgr := gr_some V
  refine region_alike (by kernel_rfl) (by kernel_rfl) ?_
  repeat (go_big_quiet_step (first | (go_at_call 65; exact gr_call (HE.out _))))
  refine wpQuiet_nil ?_
  intro _ hw'
  obtain ⟨X1, rfl⟩ := hw'
  have HB2 : Hid (Below w.heap.size w X1.w) := HBV.out.trans (X1.h.mono HBV.out.size)
  generalize X1.w = W2 at HB2 ⊢
  clear G12 G13 G0 G1 G2 HE hgr k12 k13 c0 c1 c2 HBV
  try rw [hw1]
  try rw [hw2]
  go_wp2
  exact bodyPost_ret (v := .tuple #[.int .i64 (x2 + t.pad), .int .i64 (z - t.grd)]) (by simp [results, Tryz.results78, go_sem]) rfl ⟨rfl, HB2.out⟩
/-- The turn behind the one at hand, found in whatever order the tables and the turn are read. -/
structure RgT (t : Tb) (a : Ad) (n0 : Nat) (W0 : World) (NS : Nat) (y1 r y3 : Int) (w' : World) (b0 b1 b2 b3 b4 : Bool) (x38 x39 x40 x41 : Value) : Prop where
  cs : b4 = true → b0 = true ∧ b1 = true ∧ b2 = true ∧ b3 = true
  gb : Below n0 W0 w'
  pre : b4 = false → Below W0.heap.size W0 w'
  f0 : b0 = true → x38 = tbV t a
  f1 : b1 = true → x39 = .agg #[.int .i64 y1, .int .i64 r, .int .i64 y3]
  f2 : b2 = true → x40 = .int .i64 (r + y3)
  f3 : b3 = true → ∃ (k : Nat) (s : Int), x41 = .agg #[.int .i64 (t.ss.getD k sl0).1, .int .i64 s, .int .i64 (t.ss.getD k sl0).2.2] ∧ TN t (r + y3) k s ∧ (b4 = true → SRow w' NS #[.int .i64 (t.ss.getD k sl0).1, .int .i64 s, .int .i64 (t.ss.getD k sl0).2.2])
theorem RgT.below {t : Tb} {a : Ad} {n0 : Nat} {W0 : World} {NS : Nat} {y1 r y3 : Int} {w' w9 : World} {b0 b1 b2 b3 b4 : Bool} {x38 x39 x40 x41 : Value} (h : RgT t a n0 W0 NS y1 r y3 w' b0 b1 b2 b3 b4 x38 x39 x40 x41) (hl : b4 = false) (hn : n0 ≤ W0.heap.size) (hb : Below w'.heap.size w' w9) : RgT t a n0 W0 NS y1 r y3 w9 b0 b1 b2 b3 b4 x38 x39 x40 x41 :=
  ⟨h.cs, h.gb.trans (hb.mono (Nat.le_trans hn (h.pre hl).size)), fun _ => (h.pre hl).trans (hb.mono (h.pre hl).size), h.f0, h.f1, h.f2, fun g => by
    obtain ⟨k, s, e1, e2, _⟩ := h.f3 g
    exact ⟨k, s, e1, e2, fun q => absurd (hl.symm.trans q) Bool.false_ne_true⟩⟩
set_option maxRecDepth 40000 in
set_option maxHeartbeats 16000000 in
theorem longest (t : Tb) (a : Ad) (p : Int) (w : World) (hm : TM 0 w t a) (hw : TW t a) (hs : TS a) (hcs : a.sn ≤ a.sc) (ht : Tm t) :
    Calls Tryz.prog 46 #[tbV t a, .int .i64 p] w fun e w' => (∃ r : Int, e = .returned (.int .i64 r) ∧ LN t p t.ss.length r) ∧ Below w.heap.size w w' := by
  have HTM : Hid (Tm t) := ht
  have HL : Hid (t.ss.length = a.sn) := hw.sl
  have hn : a.sn ≤ 1048576 := hs.s
  have hn16 : a.sn ≤ 16 := by have := ht.n2; have := hw.sl; omega
  have HSL : Hid (∀ X, Below w.heap.size w X → GSeg 3 X a.sa a.sn (slX t.ss)) := fun X hX => (hm.below hX).s.seg
  have HNT : Hid (∀ c : Int, 0 ≤ c → c ≤ 1000000 → ∀ X, Below w.heap.size w X → Calls Tryz.prog 79 #[tbV t a, .int .i64 c] X fun e w' => (∃ (i : Nat) (r : Int), e = .returned (.agg #[.int .i64 (t.ss.getD i sl0).1, .int .i64 r, .int .i64 (t.ss.getD i sl0).2.2]) ∧ TN t c i r) ∧ Below X.heap.size X w') := fun c h1 h2 X hX => next_turn t a c X (hm.below hX) hw hs hcs ht h1 h2
  have HRO : Hid (∀ (x1 x2 x3 : Int), 0 ≤ x2 → 0 ≤ x3 → x2 + x3 ≤ 1000000 → ∀ X, Calls Tryz.prog 78 #[tbV t a, .agg #[.int .i64 x1, .int .i64 x2, .int .i64 x3]] X fun e w' => e = .returned (.tuple #[.int .i64 (x2 + t.pad), .int .i64 (x2 + x3 - t.grd)]) ∧ Below X.heap.size X w') := fun x1 x2 x3 h1 h2 h3 X => run_of2 t a x1 x2 x3 X ⟨ht.pad1, ht.pad2⟩ ⟨ht.grd1, ht.grd2⟩ ⟨h1, h2, h3⟩
  have HEN : Hid (∀ (x1 x2 x3 : Int), 0 ≤ x2 → 0 ≤ x3 → x2 + x3 ≤ 1000000 → ∀ Y, Calls Tryz.prog 65 #[.agg #[.int .i64 x1, .int .i64 x2, .int .i64 x3]] Y fun e w' => e = .returned (.int .i64 (x2 + x3)) ∧ Below Y.heap.size Y w') := fun x1 x2 x3 h1 h2 h3 Y => slot_end x1 x2 x3 Y (by rw [IntKind.wrap_i64]; omega)
  have hpd := ht.pad1
  have hpd2 := ht.pad2
  have hgd := ht.grd1
  have hgd2 := ht.grd2
  have hmj := ht.maj1
  have hmj2 := ht.maj2
  have HB0 : Hid (Below w.heap.size w (w.alloc (.cells (tbA t a) 33))) := (Below.refl _ _).alloc (Nat.le_refl _) _
  have HX0 : Hid (TBx (w.alloc (.cells (tbA t a) 33)) w.heap.size t a) := TBx.new w t a _ rfl
  have k18 : (w.alloc (.cells (tbA t a) 33)).cell? ⟨w.heap.size, 18, none⟩ = some (.slice a.sa a.sn a.sc) := HX0.out.cell 18 rfl
  clear hm hw hs hcs ht
  go_enter Tryz.func46, Tryz.ntmps46
  go_wp2
  go_step3
  go_wp2
  go_step3
  go_wp2
  clear k18
  go_loopg [5, 15] a.sn (fun g vL vi wr => ∃ (i : Nat) (L : Int), i + g = a.sn ∧ vL = .int .i64 L ∧ vi = .int .i64 i ∧ -1 ≤ L ∧ L ≤ 30000 ∧ Hid (LN t p i L) ∧ Hid (Below w.heap.size w wr) ∧ Hid (TBx wr w.heap.size t a))
  case atStart => exact ⟨0, -1, by omega, rfl, rfl, by omega, by omega, LN.zero t p, HB0.out, HX0.out⟩
  case round =>
    clear HB0 HX0
    obtain ⟨i, L, hig, rfl, rfl, hL1, hL2, HLN, HBW, HXW⟩ := hrel
    cases gk with
    | zero =>
      have hiz : ¬ ((i : Int) < (a.sn : Int)) := by omega
      have HE : Hid (LN t p t.ss.length L) := by
        show LN _ _ _ _
        rw [HL.out, ← show i = a.sn by omega]
        exact HLN.out
      clear HLN
      go_wp2
      try rw [Exit.noGoto_ret]
      go_ret
      exact ⟨⟨_, rfl, HE.out⟩, HBW.out⟩
    | succ g =>
      have hiz : ((i : Int) < (a.sn : Int)) := by omega
      have hil : i < a.sn := by omega
      have HI : Hid (i < t.ss.length) := by have := HL.out; show _ < _; omega
      have k18 : wr.cell? ⟨w.heap.size, 18, none⟩ = some (.slice a.sa a.sn a.sc) := HXW.out.cell 18 rfl
      obtain ⟨b1, o1, hsa, hbl1, p1⟩ := (HSL.out _ HBW.out).at i hil
      rw [hsa] at k18
      simp only [slX] at p1
      obtain ⟨c0, c1, c2⟩ := sl_cells p1
      have hst := HTM.out.st i HI.out
      have hln := HTM.out.ln i HI.out
      have hen := HTM.out.en i HI.out
      have HOW : Hid (Ows t p i ↔ (t.ss.getD i sl0).1 = p) := ⟨fun h => h.2, fun h => ⟨HI.out, h⟩⟩
      have HEE : Hid (eE t i = (t.ss.getD i sl0).2.1 + (t.ss.getD i sl0).2.2 - t.grd) := rfl
      have HV0 : Hid (VI t p i 0 i 0) := VI.start HI.out
      obtain ⟨z1, HZ1⟩ : ∃ z, Hid ((t.ss.getD i sl0).1 = z) := ⟨_, rfl⟩
      obtain ⟨z2, HZ2⟩ : ∃ z, Hid ((t.ss.getD i sl0).2.1 = z) := ⟨_, rfl⟩
      obtain ⟨z3, HZ3⟩ : ∃ z, Hid ((t.ss.getD i sl0).2.2 = z) := ⟨_, rfl⟩
      rw [HZ1.out] at c0 HOW
      rw [HZ2.out] at c1 hst hen HEE
      rw [HZ3.out] at c2 hln hen HEE
      have hbS : Below wr.heap.size wr (wr.alloc (.cells #[.int .i64 z1, .int .i64 z2, .int .i64 z3] 42)) := (Below.refl _ _).alloc (Nat.le_refl _) _
      have HBS : Hid (Below w.heap.size w (wr.alloc (.cells #[.int .i64 z1, .int .i64 z2, .int .i64 z3] 42))) := HBW.out.trans (hbS.mono HBW.out.size)
      have HXS : Hid (TBx (wr.alloc (.cells #[.int .i64 z1, .int .i64 z2, .int .i64 z3] 42)) w.heap.size t a) := HXW.out.below hbS
      have HSS : Hid (SRow (wr.alloc (.cells #[.int .i64 z1, .int .i64 z2, .int .i64 z3] 42)) wr.heap.size #[.int .i64 z1, .int .i64 z2, .int .i64 z3]) := srow_new wr _ _ rfl
      have HNW : Hid (w.heap.size < wr.heap.size) := HXW.out.lt
      have q0 : (wr.alloc (.cells #[.int .i64 z1, .int .i64 z2, .int .i64 z3] 42)).cell? ⟨wr.heap.size, 0, none⟩ = some (.int .i64 z1) := new_cell wr #[.int .i64 z1, .int .i64 z2, .int .i64 z3] 42 0 _ rfl
      clear hbS HBW HXW hbl1 p1 hsa
      by_cases ho : z1 = p
      rotate_left
      · have HN : Hid (LN t p (i + 1) L) := HLN.out.no (fun h => ho (HOW.out.1 h))
        have hon : (z1 != p) = true := by simp [ho]
        clear HLN HOW
        go_wp2
        go_roundg g
        case measure => omega
        case rel => exact ⟨i + 1, L, by omega, rfl, by first | rfl | go_num, hL1, hL2, HN.out, HBS.out, HXS.out⟩
      have hon : (z1 != p) = false := by simp [ho]
      have HOI : Hid (Ows t p i) := HOW.out.2 ho
      clear HOW ho
      go_wp2_with (first | (refine wpList_load_row rfl 33 (.tmp 2) rfl w.heap.size rfl 33 (tbA t a) (0, 0) _ HXS.out Tryz.underlying33 rfl (by kernel_rfl) ?_) | (refine wpList_load_row rfl 42 (.tmp 7) rfl wr.heap.size rfl 42 #[.int .i64 z1, .int .i64 z2, .int .i64 z3] (0, 0) _ HSS.out Tryz.underlying42 rfl (by kernel_rfl) ?_) | fail)
      revert HBS HXS HSS q0 HNW
      generalize wr.alloc (.cells #[.int .i64 z1, .int .i64 z2, .int .i64 z3] 42) = V
      generalize wr.heap.size = NS
      intro HBS HXS HSS HNW q0
      refine Calls.mono (HRO.out z1 z2 z3 (by omega) (by omega) (by omega) _) ?_
      rintro e w1 ⟨rfl, hb1⟩
      have HB1 : Hid (Below w.heap.size w w1) := HBS.out.trans (hb1.mono HBS.out.size)
      have HX1 : Hid (TBx w1 w.heap.size t a) := HXS.out.below hb1
      have HS1 : Hid (SRow w1 NS #[.int .i64 z1, .int .i64 z2, .int .i64 z3]) := HSS.out.below hb1
      have k18b : w1.cell? ⟨w.heap.size, 18, none⟩ = some (.slice a.sa a.sn a.sc) := HX1.out.cell 18 rfl
      obtain ⟨E, HE⟩ : ∃ E, Hid (z2 + z3 - t.grd = E) := ⟨_, rfl⟩
      have hE : 0 ≤ E ∧ E ≤ 5000 := by have := HE.out; omega
      rw [HE.out] at HEE
      rw [HE.out]
      clear hb1 HBS HXS HSS q0 HE
      go_wp2
      clear k18b
      go_loopg [5, 36] a.sn (fun g2 vL vq wz => ∃ (q k : Nat) (M y1 r y3 : Int), q + g2 = a.sn ∧ vL = .int .i64 L ∧ vq = .int .i64 q ∧ 0 ≤ r ∧ r ≤ 10000 ∧ 0 ≤ y3 ∧ y3 ≤ 5000 ∧ Hid (VI t p i q k M) ∧ Hid (0 < q → ¬ Ows t p k) ∧ Hid (M + (t.ss.getD k sl0).2.1 = r ∧ (t.ss.getD k sl0).2.2 = y3) ∧ Hid (Below w.heap.size w wz) ∧ Hid (TBx wz w.heap.size t a) ∧ Hid (SRow wz NS #[.int .i64 y1, .int .i64 r, .int .i64 y3]))
      case atStart => exact ⟨0, i, 0, z1, z2, z3, by omega, rfl, rfl, by omega, by omega, by omega, by omega, HV0.out, (fun h => absurd h (Nat.lt_irrefl 0)), ⟨by rw [HZ2.out]; omega, HZ3.out⟩, HB1.out, HX1.out, HS1.out⟩
      case round =>
        clear HB1 HX1 HS1 HV0
        rename World => wz
        obtain ⟨q, k, M, y1, r, y3, hqg, rfl, rfl, hr0, hr1, hy0, hy1, HVI, HNO, HRE, HBZ, HXZ, HSZ⟩ := hrel
        cases gk with
        | zero =>
          exfalso
          have e : q = t.ss.length := by have := HL.out; omega
          have hv := HVI.out
          rw [e] at hv
          exact HNO.out (by omega) (hv.end HOI.out)
        | succ g2 =>
          have hqz : ((q : Int) < (a.sn : Int)) := by omega
          have HNB : Hid (w.heap.size + 1 ≤ wz.heap.size) := by
            have := HSZ.out.lt
            have := HNW.out
            show _ ≤ _
            omega
          have HXS9 : Hid (TBx wz w.heap.size t a) := HXZ.out
          have HZW : Hid (w.heap.size + 1 ≤ NS) := HNW.out
          go_wp2
          refine wp_region_inv (by kernel_rfl) (by kernel_rfl) (fun A ℓ a' w' => ∃ (x38 x39 x40 x41 : Value), a' = ((((A.put (some 38) x38).put (some 39) x39).put (some 40) x40).put (some 41) x41) ∧ RgT t a (w.heap.size + 1) wz NS y1 r y3 w' (ℓ 0) (ℓ 1) (ℓ 2) (ℓ 3) (ℓ 4) x38 x39 x40 x41) ?_ ?_ ?_ ?_
          · exact ⟨u38, u39, u40, u41, (by simp only [Act.put, List.setIfInBounds_toArray, List.set_cons_zero, List.set_cons_succ]), ⟨(fun g => by cases g), ((Below.refl _ _).mono HNB.out).drew, (fun _ => (Below.refl _ _).drew), (fun g => by cases g), (fun g => by cases g), (fun g => by cases g), (fun g => by cases g)⟩⟩
          · intro ℓ a' w' hI hall
            obtain ⟨x38, x39, x40, x41, rfl, hr⟩ := hI
            have hall' : ∀ i, i < 5 → ℓ i = true := hall
            obtain rfl := hr.f0 (hall' 0 (by decide))
            obtain rfl := hr.f1 (hall' 1 (by decide))
            obtain rfl := hr.f2 (hall' 2 (by decide))
            obtain ⟨k9, s9, rfl, ht9, hrow⟩ := hr.f3 (hall' 3 (by decide))
            have HR9 := hrow (hall' 4 (by decide))
            have HG9 := hr.gb
            clear hrow hr hall hall'
            have htn : TN t (M + ((t.ss.getD k sl0).2.1 + (t.ss.getD k sl0).2.2)) k9 s9 := by
              rw [← Int.add_assoc, HRE.out.1, HRE.out.2]
              exact ht9
            obtain ⟨M9, hs9, hv9⟩ := HVI.out.step HTM.out HI.out HNO.out (by have := HL.out; omega) htn
            have HV9 : Hid (VI t p i (q + 1) k9 M9) := hv9
            have HRE9 : Hid (M9 + (t.ss.getD k9 sl0).2.1 = s9) := hs9.symm
            have hm9 := hv9.rng HTM.out
            have hst9 := HTM.out.st k9 hv9.k0
            have hln9 := HTM.out.ln k9 hv9.k0
            have hen9 := HTM.out.en k9 hv9.k0
            have HOW9 : Hid (Ows t p k9 ↔ (t.ss.getD k9 sl0).1 = p) := ⟨fun h => h.2, fun h => ⟨hv9.k0, h⟩⟩
            have HHIT : Hid (Ows t p k9 → GP t p i (M9 + (t.ss.getD k9 sl0).2.1 + t.pad - eE t i)) := fun h => hv9.hit HTM.out HOI.out (by omega) (by have := HL.out; omega) h
            have HNH : Hid (¬ Ows t p k9 → 0 < q + 1 → ¬ Ows t p k9) := fun h _ => h
            clear htn ht9 hv9 hs9 HVI HNO HRE HSZ HXZ
            have HB9 : Hid (Below w.heap.size w w') := HBZ.out.trans (HG9.mono (Nat.le_succ _))
            have HX9 : Hid (TBx w' w.heap.size t a) := HXS9.out.low HG9 (Nat.lt_succ_self _)
            obtain ⟨v1, HV1⟩ : ∃ z, Hid ((t.ss.getD k9 sl0).1 = z) := ⟨_, rfl⟩
            obtain ⟨v3, HV3⟩ : ∃ z, Hid ((t.ss.getD k9 sl0).2.2 = z) := ⟨_, rfl⟩
            have hs9 : 0 ≤ s9 ∧ s9 ≤ 10000 := by have := HRE9.out; omega
            rw [HV1.out] at HR9 HOW9
            rw [HV3.out] at HR9 hln9 hen9
            rw [HV1.out, HV3.out]
            have hv3 : 0 ≤ v3 ∧ v3 ≤ 5000 := by omega
            rw [HRE9.out, HEE.out] at HHIT
            have HS9 : Hid (SRow w' NS #[.int .i64 v1, .int .i64 s9, .int .i64 v3]) := HR9
            have c9 : w'.cell? ⟨NS, 0, none⟩ = some (.int .i64 v1) := HS9.out.cell 0 rfl
            clear HR9 HG9 HBZ hst9 hln9 hen9 hm9
            simp only [Act.put, List.setIfInBounds_toArray, List.set_cons_zero, List.set_cons_succ]
            by_cases h9 : v1 = p
            rotate_left
            · have h9b : (v1 == p) = false := by simp [h9]
              have HNO9 : Hid (0 < q + 1 → ¬ Ows t p k9) := fun _ h => h9 (HOW9.out.1 h)
              clear HHIT HOW9 h9
              go_wp2
              go_roundg g2
              case measure => omega
              case rel => exact ⟨q + 1, k9, M9, v1, s9, v3, by omega, rfl, by first | rfl | go_num, by omega, by omega, by omega, by omega, HV9.out, HNO9.out, ⟨HRE9.out, HV3.out⟩, HB9.out, HX9.out, HS9.out⟩
            · have h9b : (v1 == p) = true := by simp [h9]
              have HG : Hid (GP t p i (s9 + t.pad - E)) := HHIT.out (HOW9.out.2 h9)
              have HLN2 : Hid (LN t p (i + 1) (max L (s9 + t.pad - E))) := by
                have := HLN.out.yes HTM.out HOI.out HG.out
                rw [show (if L < s9 + t.pad - E then s9 + t.pad - E else L) = max L (s9 + t.pad - E) by split <;> omega] at this
                exact this
              clear HHIT HOW9 h9 HG HLN HV9 HRE9
              go_wp2_with (first | (refine wpList_load_row rfl 33 (.tmp 2) rfl w.heap.size rfl 33 (tbA t a) (0, 0) _ HX9.out Tryz.underlying33 rfl (by kernel_rfl) ?_) | (refine wpList_load_row rfl 42 (.tmp 7) rfl NS rfl 42 #[.int .i64 v1, .int .i64 s9, .int .i64 v3] (0, 0) _ HS9.out Tryz.underlying42 rfl (by kernel_rfl) ?_) | fail)
              refine Calls.mono (HRO.out v1 s9 v3 (by omega) (by omega) (by omega) _) ?_
              rintro e w2 ⟨rfl, hb2⟩
              have HB2 : Hid (Below w.heap.size w w2) := HB9.out.trans (hb2.mono HB9.out.size)
              have HX2 : Hid (TBx w2 w.heap.size t a) := HX9.out.below hb2
              clear hb2 HB9 HX9 HS9 c9
              have hwx : IntKind.i64.wrap (s9 + t.pad - E) = s9 + t.pad - E := by rw [IntKind.wrap_i64]; omega
              have hmx : -1 ≤ max L (s9 + t.pad - E) ∧ max L (s9 + t.pad - E) ≤ 30000 := by omega
              go_wp2
              go_roundg g
              case measure => omega
              case rel => exact ⟨i + 1, max L (s9 + t.pad - E), by omega, rfl, by first | rfl | go_num, by omega, by omega, HLN2.out, HB2.out, HX2.out⟩
          · intro ℓ a' w' i2 o hI ho hi hL hdep K hK
            obtain ⟨x38, x39, x40, x41, rfl, hr⟩ := hI
            have hi7 : i2 < 5 := hi
            have hcs : i2 = 0 ∨ i2 = 1 ∨ i2 = 2 ∨ i2 = 3 ∨ i2 = 4 := by omega
            clear hi hi7
            rcases hcs with rfl | rfl | rfl | rfl | rfl
            · replace ho : some ({ dst := some 38, op := .load 33 (.tmp 2), type := 33, pos := "l23_plan.go:82", after := #[], guard := none } : Oper) = some o := ho
              revert hK
              obtain rfl := Option.some.inj ho
              clear hdep ho
              have hl4 : ℓ 4 = false := by
                cases h7 : ℓ 4
                · rfl
                · have := (hr.cs h7).1; rw [this] at hL; cases hL
              intro hK
              rw [if_pos (by rfl)]
              try simp only [Act.put, List.setIfInBounds_toArray, List.set_cons_zero, List.set_cons_succ]
              refine wp_load_row (P := Tryz.prog) 33 (.tmp 2) rfl w.heap.size rfl 33 (tbA t a) (0, 0) _ (HXS9.out.below (hr.pre hl4)) Tryz.underlying33 rfl (by kernel_rfl) ?_
              exact hK.out _ _ (fun j => if j = 0 then true else ℓ j) ⟨tbV t a, x39, x40, x41, (by simp only [Act.put, List.setIfInBounds_toArray, List.set_cons_zero, List.set_cons_succ]), ⟨(fun g => ⟨rfl, (hr.cs g).2.1, (hr.cs g).2.2.1, (hr.cs g).2.2.2⟩), hr.gb, hr.pre, (fun _ => rfl), hr.f1, hr.f2, hr.f3⟩⟩ (if_pos rfl) (fun j hj => if_neg hj)
            · replace ho : some ({ dst := some 39, op := .load 42 (.tmp 7), type := 42, pos := "l23_plan.go:82", after := #[], guard := none } : Oper) = some o := ho
              revert hK
              obtain rfl := Option.some.inj ho
              clear hdep ho
              have hl4 : ℓ 4 = false := by
                cases h7 : ℓ 4
                · rfl
                · have := (hr.cs h7).2.1; rw [this] at hL; cases hL
              intro hK
              rw [if_pos (by rfl)]
              try simp only [Act.put, List.setIfInBounds_toArray, List.set_cons_zero, List.set_cons_succ]
              refine wp_load_row (P := Tryz.prog) 42 (.tmp 7) rfl NS rfl 42 #[.int .i64 y1, .int .i64 r, .int .i64 y3] (0, 0) _ (HSZ.out.below (hr.pre hl4)) Tryz.underlying42 rfl (by kernel_rfl) ?_
              exact hK.out _ _ (fun j => if j = 1 then true else ℓ j) ⟨x38, .agg #[.int .i64 y1, .int .i64 r, .int .i64 y3], x40, x41, (by simp only [Act.put, List.setIfInBounds_toArray, List.set_cons_zero, List.set_cons_succ]), ⟨(fun g => ⟨(hr.cs g).1, rfl, (hr.cs g).2.2.1, (hr.cs g).2.2.2⟩), hr.gb, hr.pre, hr.f0, (fun _ => rfl), hr.f2, hr.f3⟩⟩ (if_pos rfl) (fun j hj => if_neg hj)
            · revert hK
              obtain rfl := Option.some.inj ho
              have g1 : ℓ 1 = true := hdep { on := 1, ground := Ground.data } (by simp) rfl
              clear hdep ho
              have hl4 : ℓ 4 = false := by
                cases h7 : ℓ 4
                · rfl
                · have := (hr.cs h7).2.2.1; rw [this] at hL; cases hL
              obtain rfl := hr.f1 g1
              intro hK
              rw [if_pos (by rfl)]
              try simp only [Act.put, List.setIfInBounds_toArray, List.set_cons_zero, List.set_cons_succ]
              go_simp
              refine Calls.mono (HEN.out y1 r y3 hr0 hy0 (by omega) _) ?_
              rintro e w9 ⟨rfl, hb9⟩
              have hr9 := hr.below hl4 HNB.out hb9
              exact hK.out _ _ (fun j => if j = 2 then true else ℓ j) ⟨x38, .agg #[.int .i64 y1, .int .i64 r, .int .i64 y3], .int .i64 (r + y3), x41, (by simp only [Act.put, List.setIfInBounds_toArray, List.set_cons_zero, List.set_cons_succ]), ⟨(fun g => ⟨(hr9.cs g).1, (hr9.cs g).2.1, rfl, (hr9.cs g).2.2.2⟩), hr9.gb, hr9.pre, hr9.f0, hr9.f1, (fun _ => rfl), hr9.f3⟩⟩ (if_pos rfl) (fun j hj => if_neg hj)
            · revert hK
              obtain rfl := Option.some.inj ho
              have g0 : ℓ 0 = true := hdep { on := 0, ground := Ground.data } (by simp) rfl
              have g2 : ℓ 2 = true := hdep { on := 2, ground := Ground.data } (by simp) rfl
              clear hdep ho
              have hl4 : ℓ 4 = false := by
                cases h7 : ℓ 4
                · rfl
                · have := (hr.cs h7).2.2.2; rw [this] at hL; cases hL
              obtain rfl := hr.f0 g0
              obtain rfl := hr.f2 g2
              have HBC : Hid (Below w.heap.size w w') := HBZ.out.trans (hr.gb.mono (Nat.le_succ _))
              intro hK
              rw [if_pos (by rfl)]
              try simp only [Act.put, List.setIfInBounds_toArray, List.set_cons_zero, List.set_cons_succ]
              go_simp
              refine Calls.mono (HNT.out (r + y3) (by omega) (by omega) _ HBC.out) ?_
              rintro e w9 ⟨⟨k9, s9, rfl, ht9⟩, hb9⟩
              have hr9 := hr.below hl4 HNB.out hb9
              exact hK.out _ _ (fun j => if j = 3 then true else ℓ j) ⟨tbV t a, x39, .int .i64 (r + y3), .agg #[.int .i64 (t.ss.getD k9 sl0).1, .int .i64 s9, .int .i64 (t.ss.getD k9 sl0).2.2], (by simp only [Act.put, List.setIfInBounds_toArray, List.set_cons_zero, List.set_cons_succ]), ⟨(fun g => ⟨(hr9.cs g).1, (hr9.cs g).2.1, (hr9.cs g).2.2.1, rfl⟩), hr9.gb, hr9.pre, hr9.f0, hr9.f1, hr9.f2, (fun _ => ⟨k9, s9, rfl, ht9, fun q => absurd (hl4.symm.trans q) Bool.false_ne_true⟩)⟩⟩ (if_pos rfl) (fun j hj => if_neg hj)
            · replace ho : some ({ dst := none, op := .store 42 (.tmp 7) (.tmp 41), type := 0, pos := "l23_plan.go:82", after := #[{ on := 3, ground := Ground.data }, { on := 3, ground := Ground.chain }, { on := 0, ground := Ground.phase }, { on := 1, ground := Ground.phase }, { on := 2, ground := Ground.phase }, { on := 3, ground := Ground.phase }], guard := none } : Oper) = some o := ho
              revert hK
              obtain rfl := Option.some.inj ho
              have g0 : ℓ 0 = true := hdep { on := 0, ground := Ground.phase } (by simp) rfl
              have g1 : ℓ 1 = true := hdep { on := 1, ground := Ground.phase } (by simp) rfl
              have g2 : ℓ 2 = true := hdep { on := 2, ground := Ground.phase } (by simp) rfl
              have g3 : ℓ 3 = true := hdep { on := 3, ground := Ground.data } (by simp) rfl
              clear hdep ho
              obtain ⟨k9, s9, rfl, ht9, _⟩ := hr.f3 g3
              have hrz := HSZ.out.below (hr.pre hL)
              intro hK
              rw [if_pos (by rfl)]
              try simp only [Act.put, List.setIfInBounds_toArray, List.set_cons_zero, List.set_cons_succ]
              refine wp_store_row (P := Tryz.prog) 42 (.tmp 7) (.tmp 41) rfl NS #[.int .i64 (t.ss.getD k9 sl0).1, .int .i64 s9, .int .i64 (t.ss.getD k9 sl0).2.2] rfl rfl 42 #[.int .i64 y1, .int .i64 r, .int .i64 y3] hrz (by kernel_rfl) rfl (by simp [Value.oneCell']) ?_
              exact hK.out _ _ (fun j => if j = 4 then true else ℓ j) ⟨x38, x39, x40, .agg #[.int .i64 (t.ss.getD k9 sl0).1, .int .i64 s9, .int .i64 (t.ss.getD k9 sl0).2.2], (by simp only [Act.put, List.setIfInBounds_toArray, List.set_cons_zero, List.set_cons_succ]), ⟨(fun _ => ⟨g0, g1, g2, g3⟩), below_setRow hr.gb HZW.out _, (fun g => by cases g), hr.f0, hr.f1, hr.f2, (fun _ => ⟨k9, s9, rfl, ht9, fun _ => setRow_heap _ _ _ _ _ _ hrz⟩)⟩⟩ (if_pos rfl) (fun j hj => if_neg hj)
          · rintro a' w' ℓ ℓ' hℓ hI
            rw [← show ℓ = ℓ' from funext hℓ]
            exact hI
end La
end Go.Proofs.YtlomcdgfcocmmaaGreatDoor
namespace Go.Proofs.YtlomcdgfcocmmaaGreatDoor
open Go.ChangeShapes Go.WideShapes Go.ChangeAt Go.RowKit Go.Deep Go.Joins
set_option linter.unusedVariables false

set_option maxRecDepth 40000 in
set_option maxHeartbeats 4000000 in
theorem impl_lat (t : Tb) (a : Ad) (p : Int) (w : World) (hm : TM 0 w t a) (hw : TW t a) (hs : TS a) (he : TabE w) (hcp : a.pn ≤ a.pc) (hcs : a.sn ≤ a.sc) :
    Calls Tryz.prog 19 #[tbV t a, .int .i64 p] w fun e w' => (∃ r : Int, e = .returned (.int .i64 r) ∧ La.LR t p r) ∧ Below w.heap.size w w' := by
  obtain ⟨q, hq⟩ := told (Sd t)
  have HB0 : Hid (Below w.heap.size w (w.alloc (.cells (tbA t a) 33))) := (Below.refl _ _).alloc (Nat.le_refl _) _
  have HX0 : Hid (TBx (w.alloc (.cells (tbA t a) 33)) w.heap.size t a) := TBx.new w t a _ rfl
  have HSP : Hid (Calls Tryz.prog 13 #[tbV t a] (w.alloc (.cells (tbA t a) 33)) fun e w' => e = .returned (.bool q) ∧ Below (w.alloc (.cells (tbA t a) 33)).heap.size (w.alloc (.cells (tbA t a) 33)) w') := impl_sound t a q _ (hm.below HB0.out) hw hs (he.below HB0.out) hcp hq
  have HLG : Hid (Sd t → ∀ X, Below w.heap.size w X → Calls Tryz.prog 46 #[tbV t a, .int .i64 p] X fun e w' => (∃ r : Int, e = .returned (.int .i64 r) ∧ La.LN t p t.ss.length r) ∧ Below X.heap.size X w') := fun h X hX => La.longest t a p X (hm.below hX) hw hs hcs (sd_tm h)
  have HQ : Hid (q = true ↔ Sd t) := hq
  clear hq hm hw hs he hcp hcs
  go_enter Tryz.func19, Tryz.ntmps19
  go_wp2_with (first | (refine wpList_load_row rfl 33 (.tmp 2) rfl w.heap.size rfl 33 (tbA t a) (0, 0) _ HX0.out Tryz.underlying33 rfl (by kernel_rfl) ?_) | fail)
  refine Calls.mono HSP.out ?_
  rintro e w1 ⟨rfl, hb1⟩
  have HB1 : Hid (Below w.heap.size w w1) := HB0.out.trans (hb1.mono HB0.out.size)
  have HX1 : Hid (TBx w1 w.heap.size t a) := HX0.out.below hb1
  clear hb1 HB0 HX0 HSP
  cases q
  · have HN : Hid (La.LR t p (-1)) := Or.inl ⟨fun h => (by have := HQ.out.2 h; cases this), rfl⟩
    go_wp2
    go_ret
    exact ⟨⟨_, rfl, HN.out⟩, HB1.out⟩
  have HSD : Hid (Sd t) := HQ.out.1 rfl
  clear HQ
  go_wp2_with (first | (refine wpList_load_row rfl 33 (.tmp 2) rfl w.heap.size rfl 33 (tbA t a) (0, 0) _ HX1.out Tryz.underlying33 rfl (by kernel_rfl) ?_) | fail)
  refine Calls.mono (HLG.out HSD.out _ HB1.out) ?_
  rintro e w2 ⟨⟨r, rfl, hr⟩, hb2⟩
  have HB2 : Hid (Below w.heap.size w w2) := HB1.out.trans (hb2.mono HB1.out.size)
  have HR : Hid (La.LR t p r) := Or.inr ⟨HSD.out, hr⟩
  clear hb2 hr HB1 HX1 HLG
  go_wp2
  go_ret
  exact ⟨⟨_, rfl, HR.out⟩, HB2.out⟩
end Go.Proofs.YtlomcdgfcocmmaaGreatDoor
