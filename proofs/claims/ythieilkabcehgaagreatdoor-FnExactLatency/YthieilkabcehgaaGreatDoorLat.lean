
/-
  How long a partition may wait for its next turn, as plain facts of sound tables: the gaps behind its slots, the longest of them, and what a count over a frame's cycles knows of it. No function of the program in sight.
-/
import Derived.Test.YthieilkabcehgaaGreatDoorBas
import Derived.Test.YthieilkabcehgaaGreatDoorTin
namespace Go.Proofs.YthieilkabcehgaaGreatDoor
open Go.ChangeShapes Go.WideShapes Go.ChangeAt Go.RowKit Go.Deep Go.Joins
set_option linter.unusedVariables false

namespace La
def Ows (t : Tb) (p : Int) (i : Nat) : Prop := i < t.ss.length ∧ (t.ss.getD i sl0).1 = p
/-- The first place of a slot at which a step may begin, and the first one behind them. -/
def fF (t : Tb) (i : Nat) : Int := (t.ss.getD i sl0).2.1 + t.pad
def eE (t : Tb) (i : Nat) : Int := (t.ss.getD i sl0).2.1 + (t.ss.getD i sl0).2.2 - t.grd
theorem fe {t : Tb} (h : Tm t) {i : Nat} (hi : i < t.ss.length) : t.pad ≤ fF t i ∧ fF t i < eE t i ∧ eE t i + t.grd ≤ t.maj := by
  have h1 := h.st i hi
  have h2 := h.ln i hi
  have h3 := h.en i hi
  unfold fF eE
  omega
theorem ef {t : Tb} (h : Tm t) {i j : Nat} (hi : i < j) (hj : j < t.ss.length) : eE t i + t.grd + t.pad ≤ fF t j := by
  have h1 := h.od i j hi hj
  unfold fF eE
  omega
/-- The gap behind slot i, up to the partition's next slot, be it a frame later. -/
def GP (t : Tb) (p : Int) (i : Nat) (g : Int) : Prop :=
  (∃ k, i < k ∧ Ows t p k ∧ (∀ j, i < j → j < k → ¬ Ows t p j) ∧ g = fF t k - eE t i) ∨
  ((∀ j, i < j → ¬ Ows t p j) ∧ ∃ k, Ows t p k ∧ (∀ j, j < k → ¬ Ows t p j) ∧ g = fF t k + t.maj - eE t i)
theorem GP.unique {t : Tb} {p g h : Int} {i : Nat} (a : GP t p i g) (b : GP t p i h) : g = h := by
  rcases a with ⟨k, a1, a2, a3, a4⟩ | ⟨a1, k, a2, a3, a4⟩ <;> rcases b with ⟨l, b1, b2, b3, b4⟩ | ⟨b1, l, b2, b3, b4⟩
  · have e : k = l := by
      by_cases c : k < l
      · exact absurd a2 (b3 k a1 c)
      · by_cases c2 : l < k
        · exact absurd b2 (a3 l b1 c2)
        · omega
    subst e
    omega
  · exact absurd a2 (b1 k a1)
  · exact absurd b2 (a1 l b1)
  · have e : k = l := by
      by_cases c : k < l
      · exact absurd a2 (b3 k c)
      · by_cases c2 : l < k
        · exact absurd b2 (a3 l c2)
        · omega
    subst e
    omega
theorem GP.pos {t : Tb} (h : Tm t) {p g : Int} {i : Nat} (hi : i < t.ss.length) (a : GP t p i g) : 0 ≤ g := by
  have h1 := h.pad1
  have h2 := h.grd1
  rcases a with ⟨k, a1, a2, a3, a4⟩ | ⟨a1, k, a2, a3, a4⟩
  · have := ef h a1 a2.1
    omega
  · have := fe h hi
    have := fe h a2.1
    omega
/-- The longest of the first n slots' gaps, or -1. -/
def LN (t : Tb) (p : Int) (n : Nat) (r : Int) : Prop :=
  ((∀ i, i < n → ¬ Ows t p i) ∧ r = -1) ∨ ((∃ i, i < n ∧ Ows t p i ∧ GP t p i r) ∧ ∀ i g, i < n → Ows t p i → GP t p i g → g ≤ r)
theorem LN.unique {t : Tb} {p r s : Int} {n : Nat} (a : LN t p n r) (b : LN t p n s) : r = s := by
  rcases a with ⟨a1, a2⟩ | ⟨⟨i, a1, a2, a3⟩, a4⟩ <;> rcases b with ⟨b1, b2⟩ | ⟨⟨j, b1, b2, b3⟩, b4⟩
  · omega
  · exact absurd b2 (a1 j b1)
  · exact absurd a2 (b1 i a1)
  · have := a4 j s b1 b2 b3
    have := b4 i r a1 a2 a3
    omega
theorem LN.zero (t : Tb) (p : Int) : LN t p 0 (-1) := .inl ⟨fun i hi => by omega, rfl⟩
theorem LN.ge {t : Tb} (h : Tm t) {p r : Int} {n : Nat} (a : LN t p n r) : -1 ≤ r := by
  rcases a with ⟨_, rfl⟩ | ⟨⟨i, _, a2, a3⟩, _⟩
  · omega
  · have := a3.pos h a2.1
    omega
theorem LN.no {t : Tb} {p r : Int} {n : Nat} (a : LN t p n r) (hn : ¬ Ows t p n) : LN t p (n + 1) r := by
  rcases a with ⟨a1, a2⟩ | ⟨⟨i, a1, a2, a3⟩, a4⟩
  · refine .inl ⟨fun i hi => ?_, a2⟩
    by_cases e : i = n
    · subst e; exact hn
    · exact a1 i (by omega)
  · refine .inr ⟨⟨i, by omega, a2, a3⟩, fun j g hj ho hg => ?_⟩
    by_cases e : j = n
    · subst e; exact absurd ho hn
    · exact a4 j g (by omega) ho hg
theorem LN.yes {t : Tb} (h : Tm t) {p r g : Int} {n : Nat} (a : LN t p n r) (hn : Ows t p n) (hg : GP t p n g) : LN t p (n + 1) (if r < g then g else r) := by
  have hp := hg.pos h hn.1
  rcases a with ⟨a1, a2⟩ | ⟨⟨i, a1, a2, a3⟩, a4⟩
  · rw [if_pos (by omega)]
    refine .inr ⟨⟨n, by omega, hn, hg⟩, fun j k hj ho hk => ?_⟩
    by_cases e : j = n
    · subst e
      have := hk.unique hg
      omega
    · exact absurd ho (a1 j (by omega))
  · by_cases c : r < g
    · rw [if_pos c]
      refine .inr ⟨⟨n, by omega, hn, hg⟩, fun j k hj ho hk => ?_⟩
      by_cases e : j = n
      · subst e
        have := hk.unique hg
        omega
      · have := a4 j k (by omega) ho hk
        omega
    · rw [if_neg c]
      refine .inr ⟨⟨i, by omega, a2, a3⟩, fun j k hj ho hk => ?_⟩
      by_cases e : j = n
      · subst e
        have := hk.unique hg
        omega
      · exact a4 j k (by omega) ho hk
/-- What Latency answers. -/
def LR (t : Tb) (p r : Int) : Prop := (¬ Sd t ∧ r = -1) ∨ (Sd t ∧ LN t p t.ss.length r)
theorem LR.unique {t : Tb} {p r s : Int} (a : LR t p r) (b : LR t p s) : r = s := by
  rcases a with ⟨a1, a2⟩ | ⟨a1, a2⟩ <;> rcases b with ⟨b1, b2⟩ | ⟨b1, b2⟩
  · omega
  · exact absurd b1 a1
  · exact absurd a1 b1
  · exact a2.unique b2
/-- Who may begin a step at a place. -/
theorem beg_hit {t : Tb} (h : Tm t) {c p : Int} (hp : 0 ≤ p) (hb : begV t c = p) : ∃ i, Ows t p i ∧ fF t i ≤ c ∧ c < eE t i := by
  unfold begV at hb
  by_cases h2 : phaseV t c = 2
  · rw [if_pos h2] at hb
    obtain ⟨i, hi, hs, hh⟩ := phaseV_slot (t := t) (p := c) (by rw [h2]; decide)
    rw [hs] at hb
    rw [phaseV_at hs] at h2
    refine ⟨i, ⟨hi, hb⟩, ?_⟩
    unfold HasP at hh
    unfold fF eE
    split at h2
    · omega
    · split at h2
      · omega
      · omega
  · rw [if_neg h2] at hb
    omega
theorem hit_beg {t : Tb} (h : Tm t) {c p : Int} {i : Nat} (ho : Ows t p i) (h1 : fF t i ≤ c) (h2 : c < eE t i) : begV t c = p := by
  have hs : slotV t c = (i : Int) := slotV_at h ho.1 (by
    unfold HasP
    have := h.pad1
    have := h.grd1
    unfold fF at h1
    unfold eE at h2
    omega)
  have h3 : phaseV t c = 2 := by
    rw [phaseV_at hs]
    unfold fF at h1
    unfold eE at h2
    rw [if_neg (by omega), if_neg (by omega)]
  unfold begV
  rw [if_pos h3, hs]
  exact ho.2
/-- What a count over the cycles of a frame knows at cycle c. -/
def SI (t : Tb) (p c f l m : Int) : Prop :=
  (f = -1 ∧ l = -1 ∧ m = 0 ∧ ∀ j, Ows t p j → c ≤ fF t j) ∨
  (∃ j0 j1, Ows t p j0 ∧ (∀ j, j < j0 → ¬ Ows t p j) ∧ f = fF t j0 ∧ Ows t p j1 ∧ j0 ≤ j1 ∧ fF t j1 < c ∧ ((c ≤ eE t j1 ∧ l = c - 1) ∨ (eE t j1 < c ∧ l = eE t j1 - 1)) ∧ (∀ k, j1 < k → Ows t p k → c ≤ fF t k) ∧ 0 ≤ m ∧
    (∀ j g, j < j1 → Ows t p j → GP t p j g → g ≤ m) ∧ Hid (m = 0 ∨ ∃ j, j < j1 ∧ Ows t p j ∧ GP t p j m))
theorem SI.start {t : Tb} (h : Tm t) (p : Int) : SI t p 0 (-1) (-1) 0 := .inl ⟨rfl, rfl, rfl, fun j hj => by have := fe h hj.1; have := h.pad1; omega⟩
theorem SI.rng {t : Tb} (h : Tm t) {p c f l m : Int} (hc0 : 0 ≤ c) (hc : c ≤ t.maj) (a : SI t p c f l m) : (-1 ≤ f ∧ f ≤ 5000) ∧ (-1 ≤ l ∧ l ≤ 5000) ∧ (0 ≤ m ∧ m ≤ 10000) := by
  have hm := h.maj2
  rcases a with ⟨a1, a2, a3, a4⟩ | ⟨j0, j1, a1, a2, a3, a4, a5, a6, a7, a8, a9, a10, a11⟩
  · omega
  · have e0 := fe h a1.1
    have e1 := fe h a4.1
    have := h.pad1
    have := h.grd1
    refine ⟨by omega, by omega, by omega, ?_⟩
    rcases a11.out with a11 | ⟨j, hj, ho, hg⟩
    · omega
    · have ej := fe h ho.1
      rcases hg with ⟨k, q1, q2, q3, q4⟩ | ⟨q1, k, q2, q3, q4⟩
      · have := fe h q2.1
        omega
      · have := fe h q2.1
        omega
theorem SI.no {t : Tb} (h : Tm t) {p c f l m : Int} (a : SI t p c f l m) (hn : ∀ i, Ows t p i → ¬ (fF t i ≤ c ∧ c < eE t i)) : SI t p (c + 1) f l m := by
  rcases a with ⟨a1, a2, a3, a4⟩ | ⟨j0, j1, a1, a2, a3, a4, a5, a6, a7, a8, a9, a10, a11⟩
  · refine .inl ⟨a1, a2, a3, fun j hj => ?_⟩
    have := a4 j hj
    have := hn j hj
    have := fe h hj.1
    omega
  · have q := hn j1 a4
    refine .inr ⟨j0, j1, a1, a2, a3, a4, a5, by omega, by omega, fun k hk ho => ?_, a9, a10, a11⟩
    have := a8 k hk ho
    have := hn k ho
    have := fe h ho.1
    omega
theorem SI.first {t : Tb} (h : Tm t) {p c f l m : Int} (hf : f < 0) (a : SI t p c f l m) (hy : ∃ i, Ows t p i ∧ fF t i ≤ c ∧ c < eE t i) : SI t p (c + 1) c c m := by
  obtain ⟨i, ho, h1, h2⟩ := hy
  rcases a with ⟨a1, a2, a3, a4⟩ | ⟨j0, j1, a1, a2, a3, a4, a5, a6, a7, a8, a9, a10, a11⟩
  · have h3 := a4 i ho
    have low : ∀ j, j < i → ¬ Ows t p j := fun j hj hoj => by
      have := a4 j hoj
      have := ef h hj ho.1
      have := fe h hoj.1
      have := h.pad1
      have := h.grd1
      omega
    refine .inr ⟨i, i, ho, low, by omega, ho, Nat.le_refl _, by omega, .inl ⟨by omega, by omega⟩, fun k hk hok => ?_, by omega, fun j g hj hoj => absurd hoj (low j hj), Or.inl a3⟩
    have := ef h hk hok.1
    have := h.pad1
    have := h.grd1
    omega
  · have := fe h a1.1
    have := h.pad1
    omega
theorem SI.more {t : Tb} (h : Tm t) {p c f l m : Int} (hf : ¬ f < 0) (a : SI t p c f l m) (hy : ∃ i, Ows t p i ∧ fF t i ≤ c ∧ c < eE t i) : SI t p (c + 1) f c (if m < c - l - 1 then c - l - 1 else m) := by
  obtain ⟨i, ho, h1, h2⟩ := hy
  have hp1 := h.pad1
  have hg1 := h.grd1
  rcases a with ⟨a1, a2, a3, a4⟩ | ⟨j0, j1, a1, a2, a3, a4, a5, a6, a7, a8, a9, a10, a11⟩
  · omega
  · by_cases e : i = j1
    · subst e
      rw [if_neg (by omega)]
      exact .inr ⟨j0, i, a1, a2, a3, a4, a5, by omega, .inl ⟨by omega, by omega⟩, fun k hk hok => by have := ef h hk hok.1; omega, a9, a10, a11⟩
    · have hlt : j1 < i := by
        by_cases q : i < j1
        · have := ef h q a4.1
          omega
        · omega
      have hce := a8 i hlt ho
      have hef := ef h hlt ho.1
      have hgp : GP t p j1 (c - l - 1) := .inl ⟨i, hlt, ho, fun j hj hji hoj => by
        have := a8 j hj hoj
        have := ef h hji ho.1
        have := fe h hoj.1
        omega, by omega⟩
      have hmid : ∀ j, j1 < j → j < i → ¬ Ows t p j := fun j hj hji hoj => by
        have := a8 j hj hoj
        have := ef h hji ho.1
        have := fe h hoj.1
        omega
      have hall : ∀ j g, j < i → Ows t p j → GP t p j g → g ≤ (if m < c - l - 1 then c - l - 1 else m) := fun j g hj hoj hg => by
        by_cases q : j < j1
        · have := a10 j g q hoj hg
          split <;> omega
        · by_cases q2 : j = j1
          · subst q2
            have := hg.unique hgp
            split <;> omega
          · exact absurd hoj (hmid j (by omega) hj)
      refine .inr ⟨j0, i, a1, a2, a3, ho, by omega, by omega, .inl ⟨by omega, by omega⟩, fun k hk hok => by have := ef h hk hok.1; omega, by split <;> omega, hall, ?_⟩
      by_cases q : m < c - l - 1
      · rw [if_pos q]
        exact Or.inr ⟨j1, hlt, a4, hgp⟩
      · rw [if_neg q]
        rcases a11.out with a11 | ⟨j, b1, b2, b3⟩
        · exact Or.inl a11
        · exact Or.inr ⟨j, by omega, b2, b3⟩
theorem SI.none {t : Tb} (h : Tm t) {p f l m : Int} (hf : f < 0) (a : SI t p t.maj f l m) : LN t p t.ss.length (-1) := by
  rcases a with ⟨a1, a2, a3, a4⟩ | ⟨j0, j1, a1, a2, a3, a4, a5, a6, a7, a8, a9, a10, a11⟩
  · refine .inl ⟨fun i hi ho => ?_, rfl⟩
    have := a4 i ho
    have := fe h hi
    have := h.grd1
    omega
  · have := fe h a1.1
    have := h.pad1
    omega
theorem SI.done {t : Tb} (h : Tm t) {p f l m : Int} (hf : ¬ f < 0) (a : SI t p t.maj f l m) : LN t p t.ss.length (if m < t.maj - 1 - l + f then t.maj - 1 - l + f else m) := by
  have hp1 := h.pad1
  have hg1 := h.grd1
  rcases a with ⟨a1, a2, a3, a4⟩ | ⟨j0, j1, a1, a2, a3, a4, a5, a6, a7, a8, a9, a10, a11⟩
  · omega
  · have e1 := fe h a4.1
    have hl : l = eE t j1 - 1 := by omega
    have hlast : ∀ j, j1 < j → ¬ Ows t p j := fun j hj ho => by
      have := a8 j hj ho
      have := fe h ho.1
      omega
    have hgp : GP t p j1 (t.maj - 1 - l + f) := .inr ⟨hlast, j0, a1, a2, by omega⟩
    have hgpos := hgp.pos h a4.1
    by_cases q : m < t.maj - 1 - l + f
    · rw [if_pos q]
      refine .inr ⟨⟨j1, a4.1, a4, hgp⟩, fun j g hj ho hg => ?_⟩
      by_cases q1 : j < j1
      · have := a10 j g q1 ho hg
        omega
      · by_cases q2 : j = j1
        · subst q2
          have := hg.unique hgp
          omega
        · exact absurd ho (hlast j (by omega))
    · rw [if_neg q]
      refine .inr ⟨?_, fun j g hj ho hg => ?_⟩
      · rcases a11.out with a11 | ⟨j, b1, b2, b3⟩
        · have e : t.maj - 1 - l + f = m := by omega
          rw [e] at hgp
          exact ⟨j1, a4.1, a4, hgp⟩
        · exact ⟨j, b2.1, b2, b3⟩
      · by_cases q1 : j < j1
        · exact a10 j g q1 ho hg
        · by_cases q2 : j = j1
          · subst q2
            have := hg.unique hgp
            omega
          · exact absurd ho (hlast j (by omega))
/-- The turn behind the end of slot k, in frame M. -/
theorem turn_next {t : Tb} (h : Tm t) {k i : Nat} {M r : Int} (hk : k < t.ss.length) (hM : M % t.maj = 0) (ht : TN t (M + ((t.ss.getD k sl0).2.1 + (t.ss.getD k sl0).2.2)) i r) :
    (k + 1 < t.ss.length ∧ i = k + 1 ∧ r = M + (t.ss.getD (k + 1) sl0).2.1) ∨ (k + 1 = t.ss.length ∧ i = 0 ∧ r = M + t.maj + (t.ss.getD 0 sl0).2.1) := by
  have hm := h.maj1
  have hen := h.en k hk
  have hst := h.st k hk
  have hln := h.ln k hk
  have hp1 := h.pad1
  have hg1 := h.grd1
  have key : ∀ j (M' : Int), j < t.ss.length → M' % t.maj = 0 → NX t (M + ((t.ss.getD k sl0).2.1 + (t.ss.getD k sl0).2.2)) (M' + (t.ss.getD j sl0).2.1) → i = j ∧ r = M' + (t.ss.getD j sl0).2.1 := by
    intro j M' hj hM' hn
    have e := ht.2.2.1.unique hn
    refine ⟨?_, e⟩
    have e2 := ht.2.1
    rw [e, place_border hm hM' (h.st j hj) (st_lt h hj)] at e2
    have o1 := h.od
    by_cases q : i < j
    · have := h.od i j q hj
      have := h.ln i ht.1
      omega
    · by_cases q2 : j < i
      · have := h.od j i q2 ht.1
        have := h.ln j hj
        omega
      · omega
  by_cases q : k + 1 < t.ss.length
  · refine .inl ⟨q, ?_⟩
    refine key (k + 1) M q hM ⟨by have := h.od k (k + 1) (by omega) q; omega, ⟨k + 1, q, (place_border hm hM (h.st _ q) (st_lt h q)).symm⟩, fun d hd hdr j hj he => ?_⟩
    have hlt := st_lt h q
    have e2 : d % t.maj = d - M := by
      have := place_border (x := d - M) hm hM (by omega) (by omega)
      rw [show M + (d - M) = d by omega] at this
      exact this
    by_cases q1 : j ≤ k
    · by_cases q2 : j = k
      · subst q2; omega
      · have := h.od j k (by omega) hk
        have := h.ln j hj
        omega
    · by_cases q2 : j = k + 1
      · subst q2; omega
      · have := h.od (k + 1) j (by omega) hj
        have := h.ln (k + 1) q
        omega
  · refine .inr ⟨by omega, ?_⟩
    have hn := h.n1
    have hM2 : (M + t.maj) % t.maj = 0 := by rw [Int.add_emod_right]; exact hM
    have h0 := h.st 0 (by omega)
    have h0l := st_lt h (i := 0) (by omega)
    refine key 0 (M + t.maj) (by omega) hM2 ⟨by omega, ⟨0, by omega, (place_border hm hM2 h0 h0l).symm⟩, fun d hd hdr j hj he => ?_⟩
    have hj0 := h.st j hj
    by_cases q3 : d < M + t.maj
    · have e2 : d % t.maj = d - M := by
        have := place_border (x := d - M) hm hM (by omega) (by omega)
        rw [show M + (d - M) = d by omega] at this
        exact this
      by_cases q2 : j = k
      · subst q2; omega
      · have := h.od j k (by omega) hk
        have := h.ln j hj
        omega
    · have e2 : d % t.maj = d - (M + t.maj) := by
        have := place_border (x := d - (M + t.maj)) hm hM2 (by omega) (by omega)
        rw [show M + t.maj + (d - (M + t.maj)) = d by omega] at this
        exact this
      by_cases q2 : j = 0
      · subst q2; omega
      · have := h.od 0 j (by omega) hj
        have := h.ln 0 (by omega)
        omega
/-- Behind q turns from slot i on none of which, the last aside, was the partition's: the turn at hand is that of slot k, in frame M. -/
structure VI (t : Tb) (p : Int) (i q k : Nat) (M : Int) : Prop where
  k0 : k < t.ss.length
  m : (M = 0 ∧ k = i + q) ∨ (M = t.maj ∧ k + t.ss.length = i + q)
  v : ∀ s, 0 < s → s < q → (i + s < t.ss.length → ¬ Ows t p (i + s)) ∧ (t.ss.length ≤ i + s → ¬ Ows t p (i + s - t.ss.length))
theorem VI.start {t : Tb} {p : Int} {i : Nat} (hi : i < t.ss.length) : VI t p i 0 i 0 := ⟨hi, .inl ⟨rfl, rfl⟩, fun s h1 h2 => by omega⟩
theorem VI.mod {t : Tb} {p : Int} {i q k : Nat} {M : Int} (a : VI t p i q k M) : M % t.maj = 0 := by
  rcases a.m with ⟨rfl, _⟩ | ⟨rfl, _⟩
  · simp
  · exact Int.emod_self
theorem VI.rng {t : Tb} (h : Tm t) {p : Int} {i q k : Nat} {M : Int} (a : VI t p i q k M) : 0 ≤ M ∧ M ≤ 5000 := by
  have := h.maj1
  have := h.maj2
  rcases a.m with ⟨rfl, _⟩ | ⟨rfl, _⟩ <;> omega
/-- One turn on: where the turn at hand, but for the first, was not the partition's. -/
theorem VI.step {t : Tb} (h : Tm t) {p : Int} {i q k k' : Nat} {M r : Int} (hi : i < t.ss.length) (a : VI t p i q k M) (hno : 0 < q → ¬ Ows t p k) (hq : q < t.ss.length) (ht : TN t (M + ((t.ss.getD k sl0).2.1 + (t.ss.getD k sl0).2.2)) k' r) :
    ∃ M', r = M' + (t.ss.getD k' sl0).2.1 ∧ VI t p i (q + 1) k' M' := by
  have hv : ∀ s, 0 < s → s < q + 1 → (i + s < t.ss.length → ¬ Ows t p (i + s)) ∧ (t.ss.length ≤ i + s → ¬ Ows t p (i + s - t.ss.length)) := fun s h1 h2 => by
    by_cases e : s = q
    · subst e
      rcases a.m with ⟨_, hk⟩ | ⟨_, hk⟩
      · have hk0 := a.k0
        refine ⟨fun _ => by rw [← hk]; exact hno h1, fun g => by omega⟩
      · have hk0 := a.k0
        refine ⟨fun g => by omega, fun _ => ?_⟩
        rw [show i + s - t.ss.length = k by omega]
        exact hno h1
    · exact a.v s h1 (by omega)
  have hk0 := a.k0
  rcases turn_next h a.k0 a.mod ht with ⟨c1, rfl, c3⟩ | ⟨c1, rfl, c3⟩
  · refine ⟨M, c3, c1, ?_, hv⟩
    rcases a.m with ⟨e, hk⟩ | ⟨e, hk⟩
    · exact .inl ⟨e, by omega⟩
    · exact .inr ⟨e, by omega⟩
  · rcases a.m with ⟨e, hk⟩ | ⟨e, hk⟩
    · exact ⟨M + t.maj, c3, by omega, .inr ⟨by omega, by omega⟩, hv⟩
    · omega
/-- The turn at hand is the partition's own: its run begins where the gap ends. -/
theorem VI.hit {t : Tb} (h : Tm t) {p : Int} {i q k : Nat} {M : Int} (ho : Ows t p i) (a : VI t p i q k M) (hq : 0 < q) (hqn : q ≤ t.ss.length) (hk : Ows t p k) : GP t p i (M + (t.ss.getD k sl0).2.1 + t.pad - eE t i) := by
  rcases a.m with ⟨rfl, e⟩ | ⟨rfl, e⟩
  · refine .inl ⟨k, by omega, hk, fun j h1 h2 => ?_, by unfold fF; omega⟩
    have := (a.v (j - i) (by omega) (by omega)).1
    rw [show i + (j - i) = j by omega] at this
    exact this (by have := a.k0; omega)
  · refine .inr ⟨fun j h1 h2 => ?_, k, hk, fun j h1 => ?_, by unfold fF; omega⟩
    · have hj := h2.1
      have := (a.v (j - i) (by omega) (by omega)).1
      rw [show i + (j - i) = j by omega] at this
      exact this hj h2
    · by_cases c : i < j + t.ss.length
      · have hkk := a.k0
        have := (a.v (j + t.ss.length - i) (by omega) (by omega)).2
        rw [show i + (j + t.ss.length - i) - t.ss.length = j by omega] at this
        exact this (by omega)
      · have := ho.1
        omega
/-- Before as many turns as there are slots it is the partition's own again. -/
theorem VI.end {t : Tb} {p : Int} {i k : Nat} {M : Int} (ho : Ows t p i) (a : VI t p i t.ss.length k M) : Ows t p k := by
  have hk := a.k0
  rcases a.m with ⟨_, e⟩ | ⟨_, e⟩
  · omega
  · rw [show k = i by omega]
    exact ho
end La
end Go.Proofs.YthieilkabcehgaaGreatDoor
