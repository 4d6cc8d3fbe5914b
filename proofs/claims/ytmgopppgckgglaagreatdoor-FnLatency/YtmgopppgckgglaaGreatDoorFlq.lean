/-
  How long a partition may wait for its next turn, as plain facts of sound tables: the gaps behind its slots, the longest of them, and what a count over a frame's cycles knows of it. No function of the program in sight.
  The share of a partition: both sides, and the law, walked. Conditions: the lists lie in memory; the program's table of extras holds what the program's text lays.
  What a count of waiting cycles over three frames comes to: the longest gap of a partition's slots. Plain facts of sound tables; no function of the program in sight.
  How long a partition waits at most, by the specification. Conditions: the lists lie in memory.
  How long a partition waits at most, by the program. Conditions: the lists lie in memory; the program's table of extras holds what the program's text lays.
  How long a partition waits: the law, walked. Conditions: the lists lie in memory; the program's table of extras holds what the program's text lays.
  What the laws read of the bytes that they are handed: one byte, four as a word, whether there are too many. Conditions: the bytes are at most 1048576 where one is read.
  The law on waiting, walked: of all bytes it returns true. Conditions: the bytes are bytes; the program's table of extras holds what the program's text lays.
-/
import Derived.Test.YtmgopppgckgglaaGreatDoorBas
import Derived.Test.YtmgopppgckgglaaGreatDoorTin
import Derived.Test.YtmgopppgckgglaaGreatDoorLsw
import Derived.Test.YtmgopppgckgglaaGreatDoorTig
import Derived.Test.YtmgopppgckgglaaGreatDoorSp6
import Derived.Test.YtmgopppgckgglaaGreatDoorTid
import Derived.Test.YtmgopppgckgglaaGreatDoorTio
import Derived.Test.YtmgopppgckgglaaGreatDoorTiu
import Derived.Test.YtmgopppgckgglaaGreatDoorRl3
import Derived.Deep.LoopGhost
import Derived.Test.YtmgopppgckgglaaGreatDoorProg
import Derived.Deep.QuietTactic
import Derived.BigQuiet
import Derived.Test.YtmgopppgckgglaaGreatDoorDtd
import Derived.Test.YtmgopppgckgglaaGreatDoorTih
import Derived.Test.YtmgopppgckgglaaGreatDoorGen
namespace Go.Proofs.YtmgopppgckgglaaGreatDoor
open Go.ChangeShapes Go.WideShapes Go.ChangeAt Go.RowKit Go.Deep Go.Joins
set_option linter.unusedVariables false

namespace La
def Ows (t : Tb) (p : Int) (i : Nat) : Prop := i < t.ss.length ∧ (t.ss.getD i sl0).1 = p
/-- The first place of a slot at which a step may begin, and the first one behind them. -/
def fF (t : Tb) (i : Nat) : Int := (t.ss.getD i sl0).2.1 + t.pad
def eE (t : Tb) (i : Nat) : Int := (t.ss.getD i sl0).2.1 + (t.ss.getD i sl0).2.2 - t.grd
theorem fe {t : Tb} (h : Tm t) {i : Nat} (hi : i < t.ss.length) : t.pad ≤ fF t i ∧ fF t i < eE t i ∧ eE t i + t.grd ≤ t.maj := by
  have h1 := h.st i hi
  have h2 := h.ln i hi
  have h3 := h.en i hi
  unfold fF eE
  omega
theorem ef {t : Tb} (h : Tm t) {i j : Nat} (hi : i < j) (hj : j < t.ss.length) : eE t i + t.grd + t.pad ≤ fF t j := by
  have h1 := h.od i j hi hj
  unfold fF eE
  omega
/-- The gap behind slot i, up to the partition's next slot, be it a frame later. -/
def GP (t : Tb) (p : Int) (i : Nat) (g : Int) : Prop :=
  (∃ k, i < k ∧ Ows t p k ∧ (∀ j, i < j → j < k → ¬ Ows t p j) ∧ g = fF t k - eE t i) ∨
  ((∀ j, i < j → ¬ Ows t p j) ∧ ∃ k, Ows t p k ∧ (∀ j, j < k → ¬ Ows t p j) ∧ g = fF t k + t.maj - eE t i)
theorem GP.unique {t : Tb} {p g h : Int} {i : Nat} (a : GP t p i g) (b : GP t p i h) : g = h := by
  rcases a with ⟨k, a1, a2, a3, a4⟩ | ⟨a1, k, a2, a3, a4⟩ <;> rcases b with ⟨l, b1, b2, b3, b4⟩ | ⟨b1, l, b2, b3, b4⟩
  · have e : k = l := by
      by_cases c : k < l
      · exact absurd a2 (b3 k a1 c)
      · by_cases c2 : l < k
        · exact absurd b2 (a3 l b1 c2)
        · omega
    subst e
    omega
  · exact absurd a2 (b1 k a1)
  · exact absurd b2 (a1 l b1)
  · have e : k = l := by
      by_cases c : k < l
      · exact absurd a2 (b3 k c)
      · by_cases c2 : l < k
        · exact absurd b2 (a3 l c2)
        · omega
    subst e
    omega
theorem GP.pos {t : Tb} (h : Tm t) {p g : Int} {i : Nat} (hi : i < t.ss.length) (a : GP t p i g) : 0 ≤ g := by
  have h1 := h.pad1
  have h2 := h.grd1
  rcases a with ⟨k, a1, a2, a3, a4⟩ | ⟨a1, k, a2, a3, a4⟩
  · have := ef h a1 a2.1
    omega
  · have := fe h hi
    have := fe h a2.1
    omega
/-- The longest of the first n slots' gaps, or -1. -/
def LN (t : Tb) (p : Int) (n : Nat) (r : Int) : Prop :=
  ((∀ i, i < n → ¬ Ows t p i) ∧ r = -1) ∨ ((∃ i, i < n ∧ Ows t p i ∧ GP t p i r) ∧ ∀ i g, i < n → Ows t p i → GP t p i g → g ≤ r)
theorem LN.unique {t : Tb} {p r s : Int} {n : Nat} (a : LN t p n r) (b : LN t p n s) : r = s := by
  rcases a with ⟨a1, a2⟩ | ⟨⟨i, a1, a2, a3⟩, a4⟩ <;> rcases b with ⟨b1, b2⟩ | ⟨⟨j, b1, b2, b3⟩, b4⟩
  · omega
  · exact absurd b2 (a1 j b1)
  · exact absurd a2 (b1 i a1)
  · have := a4 j s b1 b2 b3
    have := b4 i r a1 a2 a3
    omega
theorem LN.zero (t : Tb) (p : Int) : LN t p 0 (-1) := .inl ⟨fun i hi => by omega, rfl⟩
theorem LN.ge {t : Tb} (h : Tm t) {p r : Int} {n : Nat} (a : LN t p n r) : -1 ≤ r := by
  rcases a with ⟨_, rfl⟩ | ⟨⟨i, _, a2, a3⟩, _⟩
  · omega
  · have := a3.pos h a2.1
    omega
theorem LN.no {t : Tb} {p r : Int} {n : Nat} (a : LN t p n r) (hn : ¬ Ows t p n) : LN t p (n + 1) r := by
  rcases a with ⟨a1, a2⟩ | ⟨⟨i, a1, a2, a3⟩, a4⟩
  · refine .inl ⟨fun i hi => ?_, a2⟩
    by_cases e : i = n
    · subst e; exact hn
    · exact a1 i (by omega)
  · refine .inr ⟨⟨i, by omega, a2, a3⟩, fun j g hj ho hg => ?_⟩
    by_cases e : j = n
    · subst e; exact absurd ho hn
    · exact a4 j g (by omega) ho hg
theorem LN.yes {t : Tb} (h : Tm t) {p r g : Int} {n : Nat} (a : LN t p n r) (hn : Ows t p n) (hg : GP t p n g) : LN t p (n + 1) (if r < g then g else r) := by
  have hp := hg.pos h hn.1
  rcases a with ⟨a1, a2⟩ | ⟨⟨i, a1, a2, a3⟩, a4⟩
  · rw [if_pos (by omega)]
    refine .inr ⟨⟨n, by omega, hn, hg⟩, fun j k hj ho hk => ?_⟩
    by_cases e : j = n
    · subst e
      have := hk.unique hg
      omega
    · exact absurd ho (a1 j (by omega))
  · by_cases c : r < g
    · rw [if_pos c]
      refine .inr ⟨⟨n, by omega, hn, hg⟩, fun j k hj ho hk => ?_⟩
      by_cases e : j = n
      · subst e
        have := hk.unique hg
        omega
      · have := a4 j k (by omega) ho hk
        omega
    · rw [if_neg c]
      refine .inr ⟨⟨i, by omega, a2, a3⟩, fun j k hj ho hk => ?_⟩
      by_cases e : j = n
      · subst e
        have := hk.unique hg
        omega
      · exact a4 j k (by omega) ho hk
/-- What Latency answers. -/
def LR (t : Tb) (p r : Int) : Prop := (¬ Sd t ∧ r = -1) ∨ (Sd t ∧ LN t p t.ss.length r)
theorem LR.unique {t : Tb} {p r s : Int} (a : LR t p r) (b : LR t p s) : r = s := by
  rcases a with ⟨a1, a2⟩ | ⟨a1, a2⟩ <;> rcases b with ⟨b1, b2⟩ | ⟨b1, b2⟩
  · omega
  · exact absurd b1 a1
  · exact absurd a1 b1
  · exact a2.unique b2
/-- Who may begin a step at a place. -/
theorem beg_hit {t : Tb} (h : Tm t) {c p : Int} (hp : 0 ≤ p) (hb : begV t c = p) : ∃ i, Ows t p i ∧ fF t i ≤ c ∧ c < eE t i := by
  unfold begV at hb
  by_cases h2 : phaseV t c = 2
  · rw [if_pos h2] at hb
    obtain ⟨i, hi, hs, hh⟩ := phaseV_slot (t := t) (p := c) (by rw [h2]; decide)
    rw [hs] at hb
    rw [phaseV_at hs] at h2
    refine ⟨i, ⟨hi, hb⟩, ?_⟩
    unfold HasP at hh
    unfold fF eE
    split at h2
    · omega
    · split at h2
      · omega
      · omega
  · rw [if_neg h2] at hb
    omega
theorem hit_beg {t : Tb} (h : Tm t) {c p : Int} {i : Nat} (ho : Ows t p i) (h1 : fF t i ≤ c) (h2 : c < eE t i) : begV t c = p := by
  have hs : slotV t c = (i : Int) := slotV_at h ho.1 (by
    unfold HasP
    have := h.pad1
    have := h.grd1
    unfold fF at h1
    unfold eE at h2
    omega)
  have h3 : phaseV t c = 2 := by
    rw [phaseV_at hs]
    unfold fF at h1
    unfold eE at h2
    rw [if_neg (by omega), if_neg (by omega)]
  unfold begV
  rw [if_pos h3, hs]
  exact ho.2
/-- What a count over the cycles of a frame knows at cycle c. -/
def SI (t : Tb) (p c f l m : Int) : Prop :=
  (f = -1 ∧ l = -1 ∧ m = 0 ∧ ∀ j, Ows t p j → c ≤ fF t j) ∨
  (∃ j0 j1, Ows t p j0 ∧ (∀ j, j < j0 → ¬ Ows t p j) ∧ f = fF t j0 ∧ Ows t p j1 ∧ j0 ≤ j1 ∧ fF t j1 < c ∧ ((c ≤ eE t j1 ∧ l = c - 1) ∨ (eE t j1 < c ∧ l = eE t j1 - 1)) ∧ (∀ k, j1 < k → Ows t p k → c ≤ fF t k) ∧ 0 ≤ m ∧
    (∀ j g, j < j1 → Ows t p j → GP t p j g → g ≤ m) ∧ Hid (m = 0 ∨ ∃ j, j < j1 ∧ Ows t p j ∧ GP t p j m))
theorem SI.start {t : Tb} (h : Tm t) (p : Int) : SI t p 0 (-1) (-1) 0 := .inl ⟨rfl, rfl, rfl, fun j hj => by have := fe h hj.1; have := h.pad1; omega⟩
theorem SI.rng {t : Tb} (h : Tm t) {p c f l m : Int} (hc0 : 0 ≤ c) (hc : c ≤ t.maj) (a : SI t p c f l m) : (-1 ≤ f ∧ f ≤ 5000) ∧ (-1 ≤ l ∧ l ≤ 5000) ∧ (0 ≤ m ∧ m ≤ 10000) := by
  have hm := h.maj2
  rcases a with ⟨a1, a2, a3, a4⟩ | ⟨j0, j1, a1, a2, a3, a4, a5, a6, a7, a8, a9, a10, a11⟩
  · omega
  · have e0 := fe h a1.1
    have e1 := fe h a4.1
    have := h.pad1
    have := h.grd1
    refine ⟨by omega, by omega, by omega, ?_⟩
    rcases a11.out with a11 | ⟨j, hj, ho, hg⟩
    · omega
    · have ej := fe h ho.1
      rcases hg with ⟨k, q1, q2, q3, q4⟩ | ⟨q1, k, q2, q3, q4⟩
      · have := fe h q2.1
        omega
      · have := fe h q2.1
        omega
theorem SI.no {t : Tb} (h : Tm t) {p c f l m : Int} (a : SI t p c f l m) (hn : ∀ i, Ows t p i → ¬ (fF t i ≤ c ∧ c < eE t i)) : SI t p (c + 1) f l m := by
  rcases a with ⟨a1, a2, a3, a4⟩ | ⟨j0, j1, a1, a2, a3, a4, a5, a6, a7, a8, a9, a10, a11⟩
  · refine .inl ⟨a1, a2, a3, fun j hj => ?_⟩
    have := a4 j hj
    have := hn j hj
    have := fe h hj.1
    omega
  · have q := hn j1 a4
    refine .inr ⟨j0, j1, a1, a2, a3, a4, a5, by omega, by omega, fun k hk ho => ?_, a9, a10, a11⟩
    have := a8 k hk ho
    have := hn k ho
    have := fe h ho.1
    omega
theorem SI.first {t : Tb} (h : Tm t) {p c f l m : Int} (hf : f < 0) (a : SI t p c f l m) (hy : ∃ i, Ows t p i ∧ fF t i ≤ c ∧ c < eE t i) : SI t p (c + 1) c c m := by
  obtain ⟨i, ho, h1, h2⟩ := hy
  rcases a with ⟨a1, a2, a3, a4⟩ | ⟨j0, j1, a1, a2, a3, a4, a5, a6, a7, a8, a9, a10, a11⟩
  · have h3 := a4 i ho
    have low : ∀ j, j < i → ¬ Ows t p j := fun j hj hoj => by
      have := a4 j hoj
      have := ef h hj ho.1
      have := fe h hoj.1
      have := h.pad1
      have := h.grd1
      omega
    refine .inr ⟨i, i, ho, low, by omega, ho, Nat.le_refl _, by omega, .inl ⟨by omega, by omega⟩, fun k hk hok => ?_, by omega, fun j g hj hoj => absurd hoj (low j hj), Or.inl a3⟩
    have := ef h hk hok.1
    have := h.pad1
    have := h.grd1
    omega
  · have := fe h a1.1
    have := h.pad1
    omega
theorem SI.more {t : Tb} (h : Tm t) {p c f l m : Int} (hf : ¬ f < 0) (a : SI t p c f l m) (hy : ∃ i, Ows t p i ∧ fF t i ≤ c ∧ c < eE t i) : SI t p (c + 1) f c (if m < c - l - 1 then c - l - 1 else m) := by
  obtain ⟨i, ho, h1, h2⟩ := hy
  have hp1 := h.pad1
  have hg1 := h.grd1
  rcases a with ⟨a1, a2, a3, a4⟩ | ⟨j0, j1, a1, a2, a3, a4, a5, a6, a7, a8, a9, a10, a11⟩
  · omega
  · by_cases e : i = j1
    · subst e
      rw [if_neg (by omega)]
      exact .inr ⟨j0, i, a1, a2, a3, a4, a5, by omega, .inl ⟨by omega, by omega⟩, fun k hk hok => by have := ef h hk hok.1; omega, a9, a10, a11⟩
    · have hlt : j1 < i := by
        by_cases q : i < j1
        · have := ef h q a4.1
          omega
        · omega
      have hce := a8 i hlt ho
      have hef := ef h hlt ho.1
      have hgp : GP t p j1 (c - l - 1) := .inl ⟨i, hlt, ho, fun j hj hji hoj => by
        have := a8 j hj hoj
        have := ef h hji ho.1
        have := fe h hoj.1
        omega, by omega⟩
      have hmid : ∀ j, j1 < j → j < i → ¬ Ows t p j := fun j hj hji hoj => by
        have := a8 j hj hoj
        have := ef h hji ho.1
        have := fe h hoj.1
        omega
      have hall : ∀ j g, j < i → Ows t p j → GP t p j g → g ≤ (if m < c - l - 1 then c - l - 1 else m) := fun j g hj hoj hg => by
        by_cases q : j < j1
        · have := a10 j g q hoj hg
          split <;> omega
        · by_cases q2 : j = j1
          · subst q2
            have := hg.unique hgp
            split <;> omega
          · exact absurd hoj (hmid j (by omega) hj)
      refine .inr ⟨j0, i, a1, a2, a3, ho, by omega, by omega, .inl ⟨by omega, by omega⟩, fun k hk hok => by have := ef h hk hok.1; omega, by split <;> omega, hall, ?_⟩
      by_cases q : m < c - l - 1
      · rw [if_pos q]
        exact Or.inr ⟨j1, hlt, a4, hgp⟩
      · rw [if_neg q]
        rcases a11.out with a11 | ⟨j, b1, b2, b3⟩
        · exact Or.inl a11
        · exact Or.inr ⟨j, by omega, b2, b3⟩
theorem SI.none {t : Tb} (h : Tm t) {p f l m : Int} (hf : f < 0) (a : SI t p t.maj f l m) : LN t p t.ss.length (-1) := by
  rcases a with ⟨a1, a2, a3, a4⟩ | ⟨j0, j1, a1, a2, a3, a4, a5, a6, a7, a8, a9, a10, a11⟩
  · refine .inl ⟨fun i hi ho => ?_, rfl⟩
    have := a4 i ho
    have := fe h hi
    have := h.grd1
    omega
  · have := fe h a1.1
    have := h.pad1
    omega
theorem SI.done {t : Tb} (h : Tm t) {p f l m : Int} (hf : ¬ f < 0) (a : SI t p t.maj f l m) : LN t p t.ss.length (if m < t.maj - 1 - l + f then t.maj - 1 - l + f else m) := by
  have hp1 := h.pad1
  have hg1 := h.grd1
  rcases a with ⟨a1, a2, a3, a4⟩ | ⟨j0, j1, a1, a2, a3, a4, a5, a6, a7, a8, a9, a10, a11⟩
  · omega
  · have e1 := fe h a4.1
    have hl : l = eE t j1 - 1 := by omega
    have hlast : ∀ j, j1 < j → ¬ Ows t p j := fun j hj ho => by
      have := a8 j hj ho
      have := fe h ho.1
      omega
    have hgp : GP t p j1 (t.maj - 1 - l + f) := .inr ⟨hlast, j0, a1, a2, by omega⟩
    have hgpos := hgp.pos h a4.1
    by_cases q : m < t.maj - 1 - l + f
    · rw [if_pos q]
      refine .inr ⟨⟨j1, a4.1, a4, hgp⟩, fun j g hj ho hg => ?_⟩
      by_cases q1 : j < j1
      · have := a10 j g q1 ho hg
        omega
      · by_cases q2 : j = j1
        · subst q2
          have := hg.unique hgp
          omega
        · exact absurd ho (hlast j (by omega))
    · rw [if_neg q]
      refine .inr ⟨?_, fun j g hj ho hg => ?_⟩
      · rcases a11.out with a11 | ⟨j, b1, b2, b3⟩
        · have e : t.maj - 1 - l + f = m := by omega
          rw [e] at hgp
          exact ⟨j1, a4.1, a4, hgp⟩
        · exact ⟨j, b2.1, b2, b3⟩
      · by_cases q1 : j < j1
        · exact a10 j g q1 ho hg
        · by_cases q2 : j = j1
          · subst q2
            have := hg.unique hgp
            omega
          · exact absurd ho (hlast j (by omega))
/-- The turn behind the end of slot k, in frame M. -/
theorem turn_next {t : Tb} (h : Tm t) {k i : Nat} {M r : Int} (hk : k < t.ss.length) (hM : M % t.maj = 0) (ht : TN t (M + ((t.ss.getD k sl0).2.1 + (t.ss.getD k sl0).2.2)) i r) :
    (k + 1 < t.ss.length ∧ i = k + 1 ∧ r = M + (t.ss.getD (k + 1) sl0).2.1) ∨ (k + 1 = t.ss.length ∧ i = 0 ∧ r = M + t.maj + (t.ss.getD 0 sl0).2.1) := by
  have hm := h.maj1
  have hen := h.en k hk
  have hst := h.st k hk
  have hln := h.ln k hk
  have hp1 := h.pad1
  have hg1 := h.grd1
  have key : ∀ j (M' : Int), j < t.ss.length → M' % t.maj = 0 → NX t (M + ((t.ss.getD k sl0).2.1 + (t.ss.getD k sl0).2.2)) (M' + (t.ss.getD j sl0).2.1) → i = j ∧ r = M' + (t.ss.getD j sl0).2.1 := by
    intro j M' hj hM' hn
    have e := ht.2.2.1.unique hn
    refine ⟨?_, e⟩
    have e2 := ht.2.1
    rw [e, place_border hm hM' (h.st j hj) (st_lt h hj)] at e2
    have o1 := h.od
    by_cases q : i < j
    · have := h.od i j q hj
      have := h.ln i ht.1
      omega
    · by_cases q2 : j < i
      · have := h.od j i q2 ht.1
        have := h.ln j hj
        omega
      · omega
  by_cases q : k + 1 < t.ss.length
  · refine .inl ⟨q, ?_⟩
    refine key (k + 1) M q hM ⟨by have := h.od k (k + 1) (by omega) q; omega, ⟨k + 1, q, (place_border hm hM (h.st _ q) (st_lt h q)).symm⟩, fun d hd hdr j hj he => ?_⟩
    have hlt := st_lt h q
    have e2 : d % t.maj = d - M := by
      have := place_border (x := d - M) hm hM (by omega) (by omega)
      rw [show M + (d - M) = d by omega] at this
      exact this
    by_cases q1 : j ≤ k
    · by_cases q2 : j = k
      · subst q2; omega
      · have := h.od j k (by omega) hk
        have := h.ln j hj
        omega
    · by_cases q2 : j = k + 1
      · subst q2; omega
      · have := h.od (k + 1) j (by omega) hj
        have := h.ln (k + 1) q
        omega
  · refine .inr ⟨by omega, ?_⟩
    have hn := h.n1
    have hM2 : (M + t.maj) % t.maj = 0 := by rw [Int.add_emod_right]; exact hM
    have h0 := h.st 0 (by omega)
    have h0l := st_lt h (i := 0) (by omega)
    refine key 0 (M + t.maj) (by omega) hM2 ⟨by omega, ⟨0, by omega, (place_border hm hM2 h0 h0l).symm⟩, fun d hd hdr j hj he => ?_⟩
    have hj0 := h.st j hj
    by_cases q3 : d < M + t.maj
    · have e2 : d % t.maj = d - M := by
        have := place_border (x := d - M) hm hM (by omega) (by omega)
        rw [show M + (d - M) = d by omega] at this
        exact this
      by_cases q2 : j = k
      · subst q2; omega
      · have := h.od j k (by omega) hk
        have := h.ln j hj
        omega
    · have e2 : d % t.maj = d - (M + t.maj) := by
        have := place_border (x := d - (M + t.maj)) hm hM2 (by omega) (by omega)
        rw [show M + t.maj + (d - (M + t.maj)) = d by omega] at this
        exact this
      by_cases q2 : j = 0
      · subst q2; omega
      · have := h.od 0 j (by omega) hj
        have := h.ln 0 (by omega)
        omega
/-- Behind q turns from slot i on none of which, the last aside, was the partition's: the turn at hand is that of slot k, in frame M. -/
structure VI (t : Tb) (p : Int) (i q k : Nat) (M : Int) : Prop where
  k0 : k < t.ss.length
  m : (M = 0 ∧ k = i + q) ∨ (M = t.maj ∧ k + t.ss.length = i + q)
  v : ∀ s, 0 < s → s < q → (i + s < t.ss.length → ¬ Ows t p (i + s)) ∧ (t.ss.length ≤ i + s → ¬ Ows t p (i + s - t.ss.length))
theorem VI.start {t : Tb} {p : Int} {i : Nat} (hi : i < t.ss.length) : VI t p i 0 i 0 := ⟨hi, .inl ⟨rfl, rfl⟩, fun s h1 h2 => by omega⟩
theorem VI.mod {t : Tb} {p : Int} {i q k : Nat} {M : Int} (a : VI t p i q k M) : M % t.maj = 0 := by
  rcases a.m with ⟨rfl, _⟩ | ⟨rfl, _⟩
  · simp
  · exact Int.emod_self
theorem VI.rng {t : Tb} (h : Tm t) {p : Int} {i q k : Nat} {M : Int} (a : VI t p i q k M) : 0 ≤ M ∧ M ≤ 5000 := by
  have := h.maj1
  have := h.maj2
  rcases a.m with ⟨rfl, _⟩ | ⟨rfl, _⟩ <;> omega
/-- One turn on: where the turn at hand, but for the first, was not the partition's. -/
theorem VI.step {t : Tb} (h : Tm t) {p : Int} {i q k k' : Nat} {M r : Int} (hi : i < t.ss.length) (a : VI t p i q k M) (hno : 0 < q → ¬ Ows t p k) (hq : q < t.ss.length) (ht : TN t (M + ((t.ss.getD k sl0).2.1 + (t.ss.getD k sl0).2.2)) k' r) :
    ∃ M', r = M' + (t.ss.getD k' sl0).2.1 ∧ VI t p i (q + 1) k' M' := by
  have hv : ∀ s, 0 < s → s < q + 1 → (i + s < t.ss.length → ¬ Ows t p (i + s)) ∧ (t.ss.length ≤ i + s → ¬ Ows t p (i + s - t.ss.length)) := fun s h1 h2 => by
    by_cases e : s = q
    · subst e
      rcases a.m with ⟨_, hk⟩ | ⟨_, hk⟩
      · have hk0 := a.k0
        refine ⟨fun _ => by rw [← hk]; exact hno h1, fun g => by omega⟩
      · have hk0 := a.k0
        refine ⟨fun g => by omega, fun _ => ?_⟩
        rw [show i + s - t.ss.length = k by omega]
        exact hno h1
    · exact a.v s h1 (by omega)
  have hk0 := a.k0
  rcases turn_next h a.k0 a.mod ht with ⟨c1, rfl, c3⟩ | ⟨c1, rfl, c3⟩
  · refine ⟨M, c3, c1, ?_, hv⟩
    rcases a.m with ⟨e, hk⟩ | ⟨e, hk⟩
    · exact .inl ⟨e, by omega⟩
    · exact .inr ⟨e, by omega⟩
  · rcases a.m with ⟨e, hk⟩ | ⟨e, hk⟩
    · exact ⟨M + t.maj, c3, by omega, .inr ⟨by omega, by omega⟩, hv⟩
    · omega
/-- The turn at hand is the partition's own: its run begins where the gap ends. -/
theorem VI.hit {t : Tb} (h : Tm t) {p : Int} {i q k : Nat} {M : Int} (ho : Ows t p i) (a : VI t p i q k M) (hq : 0 < q) (hqn : q ≤ t.ss.length) (hk : Ows t p k) : GP t p i (M + (t.ss.getD k sl0).2.1 + t.pad - eE t i) := by
  rcases a.m with ⟨rfl, e⟩ | ⟨rfl, e⟩
  · refine .inl ⟨k, by omega, hk, fun j h1 h2 => ?_, by unfold fF; omega⟩
    have := (a.v (j - i) (by omega) (by omega)).1
    rw [show i + (j - i) = j by omega] at this
    exact this (by have := a.k0; omega)
  · refine .inr ⟨fun j h1 h2 => ?_, k, hk, fun j h1 => ?_, by unfold fF; omega⟩
    · have hj := h2.1
      have := (a.v (j - i) (by omega) (by omega)).1
      rw [show i + (j - i) = j by omega] at this
      exact this hj h2
    · by_cases c : i < j + t.ss.length
      · have hkk := a.k0
        have := (a.v (j + t.ss.length - i) (by omega) (by omega)).2
        rw [show i + (j + t.ss.length - i) - t.ss.length = j by omega] at this
        exact this (by omega)
      · have := ho.1
        omega
/-- Before as many turns as there are slots it is the partition's own again. -/
theorem VI.end {t : Tb} {p : Int} {i k : Nat} {M : Int} (ho : Ows t p i) (a : VI t p i t.ss.length k M) : Ows t p k := by
  have hk := a.k0
  rcases a.m with ⟨_, e⟩ | ⟨_, e⟩
  · omega
  · rw [show k = i by omega]
    exact ho
end La
end Go.Proofs.YtmgopppgckgglaaGreatDoor
namespace Go.Proofs.YtmgopppgckgglaaGreatDoor
open Go.ChangeShapes Go.WideShapes Go.ChangeAt Go.RowKit Go.Deep Go.Joins
set_option linter.unusedVariables false

/-- What soundness says of slots, in numbers. -/
theorem sd_slots {t : Tb} (h : Sd t) : (1 ≤ t.pad ∧ t.pad ≤ 5000) ∧ (1 ≤ t.grd ∧ t.grd ≤ 5000) ∧ (1 ≤ t.maj ∧ t.maj ≤ 5000) ∧ t.ss.length ≤ 16 ∧ ∀ i, i < t.ss.length → 0 ≤ freeN t.ss i ∧ freeN t.ss i ≤ (t.ss.getD i sl0).2.1 ∧ t.pad + t.grd < (t.ss.getD i sl0).2.2 ∧ (t.ss.getD i sl0).2.1 + (t.ss.getD i sl0).2.2 ≤ t.maj := by
  have h4 : 1 ≤ t.pad ∧ t.pad ≤ 5000 := h 4 (by omega)
  have h5 : 1 ≤ t.grd ∧ t.grd ≤ 5000 := h 5 (by omega)
  have h6 : 1 ≤ t.maj ∧ t.maj ≤ 5000 := h 6 (by omega)
  have h21 := h 21 (by omega)
  have h23 := h 23 (by omega)
  have h24 := h 24 (by omega)
  simp only [R] at h21 h23 h24
  have hf := free_pos (ss := t.ss) (n := t.ss.length) (fun i hi => ⟨(h24 i hi).1, by have := h23 i hi; omega⟩)
  exact ⟨h4, h5, h6, h21.2, fun i hi => ⟨hf i (by omega), (h24 i hi).1, h23 i hi, (h24 i hi).2⟩⟩
def shareN (t : Tb) (x : Int) : Nat → Int
  | 0 => 0
  | i + 1 => shareN t x i + (if (t.ss.getD i sl0).1 = x then (t.ss.getD i sl0).2.2 - (t.pad + t.grd) else 0)
theorem share_yes {t : Tb} {x : Int} {i : Nat} (h : (t.ss.getD i sl0).1 = x) : shareN t x (i + 1) = shareN t x i + ((t.ss.getD i sl0).2.2 - (t.pad + t.grd)) := by
  show _ + (if _ then _ else _) = _
  rw [if_pos h]
theorem share_no {t : Tb} {x : Int} {i : Nat} (h : ¬ (t.ss.getD i sl0).1 = x) : shareN t x (i + 1) = shareN t x i := by
  show _ + (if _ then _ else _) = _
  rw [if_neg h]
  omega
def SR (t : Tb) (x : Int) (r : Int) : Prop := (¬ Sd t ∧ r = 0) ∨ (Sd t ∧ r = shareN t x t.ss.length)
theorem SR.unique {t : Tb} {x r s : Int} (h : SR t x r) (g : SR t x s) : r = s := by
  rcases h with ⟨h, rfl⟩ | ⟨h, h1⟩ <;> rcases g with ⟨g, rfl⟩ | ⟨g, g1⟩
  · rfl
  · exact absurd g h
  · exact absurd h g
  · rw [h1, g1]
set_option maxRecDepth 40000 in
set_option maxHeartbeats 8000000 in
theorem spec_share0 (t : Tb) (pa da ca sa : Option Addr) (pn pc dn dc cn cc n sc : Nat) (Y : Nat → Rw) (x : Int) (w : World) (hm : TM 0 w t ⟨pa, pn, pc, da, dn, dc, ca, cn, cc, sa, n, sc, Y⟩) (hw : TW t ⟨pa, pn, pc, da, dn, dc, ca, cn, cc, sa, n, sc, Y⟩) (hs : TS ⟨pa, pn, pc, da, dn, dc, ca, cn, cc, sa, n, sc, Y⟩) :
    Calls Tryz.prog 25 #[.agg #[.int .i64 t.mem, .int .i64 t.s1, .int .i64 t.s2, .int .i64 t.s3, .int .i64 t.tlb, .int .i64 t.c1, .int .i64 t.c2, .int .i64 t.c3, .int .i64 t.c4, .int .i64 t.c5, .int .i64 t.c6, .int .i64 t.c7, .int .i64 t.pad, .int .i64 t.grd, .int .i64 t.maj, .slice pa pn pc, .slice da dn dc, .slice ca cn cc, .slice sa n sc], .int .i64 x] w fun e w' => (∃ r : Int, e = .returned (.int .i64 r) ∧ SR t x r) ∧ Below w.heap.size w w' := by
  obtain ⟨q, hq⟩ := told (Sd t)
  have HB0 : Hid (Below w.heap.size w (w.alloc (.cells #[.int .i64 t.mem, .int .i64 t.s1, .int .i64 t.s2, .int .i64 t.s3, .int .i64 t.tlb, .int .i64 t.c1, .int .i64 t.c2, .int .i64 t.c3, .int .i64 t.c4, .int .i64 t.c5, .int .i64 t.c6, .int .i64 t.c7, .int .i64 t.pad, .int .i64 t.grd, .int .i64 t.maj, .slice pa pn pc, .slice da dn dc, .slice ca cn cc, .slice sa n sc] 33))) := (Below.refl _ _).alloc (Nat.le_refl _) _
  have HX0 : Hid (TBx (w.alloc (.cells #[.int .i64 t.mem, .int .i64 t.s1, .int .i64 t.s2, .int .i64 t.s3, .int .i64 t.tlb, .int .i64 t.c1, .int .i64 t.c2, .int .i64 t.c3, .int .i64 t.c4, .int .i64 t.c5, .int .i64 t.c6, .int .i64 t.c7, .int .i64 t.pad, .int .i64 t.grd, .int .i64 t.maj, .slice pa pn pc, .slice da dn dc, .slice ca cn cc, .slice sa n sc] 33)) w.heap.size t ⟨pa, pn, pc, da, dn, dc, ca, cn, cc, sa, n, sc, Y⟩) := TBx.new w t ⟨pa, pn, pc, da, dn, dc, ca, cn, cc, sa, n, sc, Y⟩ _ rfl
  have HSP : Hid (Calls Tryz.prog 31 #[.agg #[.int .i64 t.mem, .int .i64 t.s1, .int .i64 t.s2, .int .i64 t.s3, .int .i64 t.tlb, .int .i64 t.c1, .int .i64 t.c2, .int .i64 t.c3, .int .i64 t.c4, .int .i64 t.c5, .int .i64 t.c6, .int .i64 t.c7, .int .i64 t.pad, .int .i64 t.grd, .int .i64 t.maj, .slice pa pn pc, .slice da dn dc, .slice ca cn cc, .slice sa n sc]] (w.alloc (.cells #[.int .i64 t.mem, .int .i64 t.s1, .int .i64 t.s2, .int .i64 t.s3, .int .i64 t.tlb, .int .i64 t.c1, .int .i64 t.c2, .int .i64 t.c3, .int .i64 t.c4, .int .i64 t.c5, .int .i64 t.c6, .int .i64 t.c7, .int .i64 t.pad, .int .i64 t.grd, .int .i64 t.maj, .slice pa pn pc, .slice da dn dc, .slice ca cn cc, .slice sa n sc] 33)) fun e w' => e = .returned (.bool q) ∧ Below (w.alloc (.cells #[.int .i64 t.mem, .int .i64 t.s1, .int .i64 t.s2, .int .i64 t.s3, .int .i64 t.tlb, .int .i64 t.c1, .int .i64 t.c2, .int .i64 t.c3, .int .i64 t.c4, .int .i64 t.c5, .int .i64 t.c6, .int .i64 t.c7, .int .i64 t.pad, .int .i64 t.grd, .int .i64 t.maj, .slice pa pn pc, .slice da dn dc, .slice ca cn cc, .slice sa n sc] 33)).heap.size (w.alloc (.cells #[.int .i64 t.mem, .int .i64 t.s1, .int .i64 t.s2, .int .i64 t.s3, .int .i64 t.tlb, .int .i64 t.c1, .int .i64 t.c2, .int .i64 t.c3, .int .i64 t.c4, .int .i64 t.c5, .int .i64 t.c6, .int .i64 t.c7, .int .i64 t.pad, .int .i64 t.grd, .int .i64 t.maj, .slice pa pn pc, .slice da dn dc, .slice ca cn cc, .slice sa n sc] 33)) w') := spec_sound t ⟨pa, pn, pc, da, dn, dc, ca, cn, cc, sa, n, sc, Y⟩ q _ (hm.below HB0.out) hw hs hq
  have HS : Hid (GSeg 3 w sa n (slX t.ss)) := hm.s.seg
  have HL : Hid (t.ss.length = n) := hw.sl
  have hn : n ≤ 1048576 := hs.s
  have HQ : Hid (q = true ↔ Sd t) := hq
  clear hm hw hs hq
  go_enter Tryz.func25, Tryz.ntmps25
  go_wp2_with (first | (refine wpList_load_row rfl 33 (.tmp 2) rfl w.heap.size rfl 33 #[.int .i64 t.mem, .int .i64 t.s1, .int .i64 t.s2, .int .i64 t.s3, .int .i64 t.tlb, .int .i64 t.c1, .int .i64 t.c2, .int .i64 t.c3, .int .i64 t.c4, .int .i64 t.c5, .int .i64 t.c6, .int .i64 t.c7, .int .i64 t.pad, .int .i64 t.grd, .int .i64 t.maj, .slice pa pn pc, .slice da dn dc, .slice ca cn cc, .slice sa n sc] (0, 0) _ HX0.out Tryz.underlying33 rfl (by kernel_rfl) ?_) | fail)
  refine Calls.mono HSP.out ?_
  rintro e w1 ⟨rfl, hb1⟩
  have HB1 : Hid (Below w.heap.size w w1) := HB0.out.trans (hb1.mono HB0.out.size)
  have HX1 : Hid (TBx w1 w.heap.size t ⟨pa, pn, pc, da, dn, dc, ca, cn, cc, sa, n, sc, Y⟩) := HX0.out.below hb1
  clear hb1 HB0 HX0 HSP
  cases q
  · have HT : Hid (¬ Sd t) := fun h => by have := HQ.out.2 h; cases this
    go_wp2
    go_ret
    exact ⟨⟨_, rfl, .inl ⟨HT.out, rfl⟩⟩, HB1.out⟩
  have HT : Hid (Sd t) := HQ.out.1 rfl
  clear HQ
  obtain ⟨⟨hp1, hp2⟩, ⟨hg1, hg2⟩, _, hn16, hlf⟩ := sd_slots HT.out
  rw [HL.out] at hn16 hlf
  have HLF : Hid (∀ i, i < n → t.pad + t.grd < (t.ss.getD i sl0).2.2 ∧ (t.ss.getD i sl0).2.2 ≤ 5000) := fun i hi => by
    have := hlf i hi
    have := (sd_slots HT.out).2.2.1
    omega
  clear hlf
  go_wp2
  go_loopw [5, 6] (fun v i wr => ∃ (m : Nat) (f : Int), m ≤ n ∧ 0 ≤ f ∧ f ≤ 5000 * m ∧ i = .int .i64 m ∧ v = .int .i64 f ∧ Hid (f = shareN t x m ∧ Below w1.heap.size w1 wr)) (fun _ i _ => n - (intOf i).toNat)
  case atStart => exact ⟨0, 0, by omega, by omega, by omega, rfl, rfl, rfl, Below.refl _ _⟩
  case round =>
    obtain ⟨m, f, hm, hf0, hf1, rfl, rfl, HR⟩ := hrel
    have k18 : wr.cell? ⟨w.heap.size, 18, none⟩ = some (.slice sa n sc) := (HX1.out.below HR.out.2).cell 18 rfl
    have k12 : wr.cell? ⟨w.heap.size, 12, none⟩ = some (.int .i64 t.pad) := (HX1.out.below HR.out.2).cell 12 rfl
    have k13 : wr.cell? ⟨w.heap.size, 13, none⟩ = some (.int .i64 t.grd) := (HX1.out.below HR.out.2).cell 13 rfl
    have HBR : Hid (Below w.heap.size w wr) := HB1.out.trans (HR.out.2.mono HB1.out.size)
    by_cases hmn : m < n
    rotate_left
    · obtain rfl : m = n := by omega
      have HF : Hid (SR t x f) := .inr ⟨HT.out, by rw [HL.out]; exact HR.out.1⟩
      go_wp2
      go_ret
      exact ⟨⟨_, rfl, HF.out⟩, HBR.out⟩
    have hmn' : (m : Int) < (n : Int) := by omega
    obtain ⟨b1, o1, rfl, hbl1, p1⟩ := HS.out.at m hmn
    replace p1 := p1.of (w' := wr) (fun j => HBR.out.cell (p := ⟨b1, j, none⟩) hbl1)
    have hlf := HLF.out m hmn
    have HY : Hid ((t.ss.getD m sl0).1 = x → f + ((t.ss.getD m sl0).2.2 - (t.pad + t.grd)) = shareN t x (m + 1)) := fun h => by rw [share_yes h, HR.out.1]
    have HNO : Hid (¬ (t.ss.getD m sl0).1 = x → f = shareN t x (m + 1)) := fun h => by rw [share_no h]; exact HR.out.1
    have HRB : Hid (Below w1.heap.size w1 wr) := HR.out.2
    simp only [slX] at p1
    generalize t.ss.getD m sl0 = y at p1 hlf HY HNO
    obtain ⟨c0, c1, c2⟩ := sl_cells p1
    obtain ⟨x1, x2, x3⟩ := y
    simp only at c0 c1 c2 hlf HY HNO
    obtain ⟨hl1, hl2⟩ := hlf
    clear p1 hbl1 HR
    by_cases hx : x1 = x
    · have HE : Hid (f + (x3 - (t.pad + t.grd)) = shareN t x (m + 1)) := HY.out hx
      subst hx
      have hw1 : IntKind.i64.wrap (f + x3) = f + x3 := by rw [IntKind.wrap_i64]; omega
      have hw2 : IntKind.i64.wrap (f + x3 - t.pad) = f + x3 - t.pad := by rw [IntKind.wrap_i64]; omega
      have hw3 : IntKind.i64.wrap (f + x3 - t.pad - t.grd) = f + x3 - t.pad - t.grd := by rw [IntKind.wrap_i64]; omega
      have G18 := fun X => gr_cell k18 X
      have G12 := fun X => gr_cell k12 X
      have G13 := fun X => gr_cell k13 X
      have G2 := fun X => gr_cell c2 X
      clear HY HNO
      go_wp2
      have hgr := gr_some wr
      refine region_alike (by kernel_rfl) (by kernel_rfl) ?_
      repeat (go_big_quiet_step (fail))
      refine wpQuiet_nil ?_
      intro _ hw'
      obtain ⟨X1, rfl⟩ := hw'
      have hb9 := X1.h
      generalize X1.w = W2 at hb9 ⊢
      have HRB2 : Hid (Below w1.heap.size w1 W2) := HRB.out.trans (hb9.mono HRB.out.size)
      obtain ⟨fe, HFE⟩ : ∃ fe, Hid (f + x3 - t.pad - t.grd = fe) := ⟨_, rfl⟩
      have HE2 : Hid (fe = shareN t x1 (m + 1)) := by show _ = _; rw [← HE.out, ← HFE.out]; omega
      have hfe0 : 0 ≤ fe := by have := HFE.out; omega
      have hfe1 : fe ≤ 5000 * ((m + 1 : Nat) : Int) := by have := HFE.out; omega
      rw [HFE.out] at hw3
      try rw [hw1]
      try rw [hw2]
      try rw [hw3]
      try rw [HFE.out]
      clear hb9 G18 G12 G13 G2 k18 k12 k13 c0 c1 c2 hw1 hw2 hw3 HFE HE
      go_wp2
      go_roundw
      case rel => exact ⟨m + 1, fe, by omega, hfe0, hfe1, by go_num, rfl, HE2.out, HRB2.out⟩
      case measure => simp [intOf]; omega
    · have HE2 : Hid (f = shareN t x (m + 1)) := HNO.out hx
      clear HY HNO
      go_wp2
      go_roundw
      case rel => exact ⟨m + 1, f, by omega, hf0, by omega, by go_num, rfl, HE2.out, HRB.out⟩
      case measure => simp [intOf]; omega
theorem spec_share (t : Tb) (a : Ad) (x : Int) (w : World) (hm : TM 0 w t a) (hw : TW t a) (hs : TS a) :
    Calls Tryz.prog 25 #[tbV t a, .int .i64 x] w fun e w' => (∃ r : Int, e = .returned (.int .i64 r) ∧ SR t x r) ∧ Below w.heap.size w w' :=
  spec_share0 t a.pa a.da a.ca a.sa a.pn a.pc a.dn a.dc a.cn a.cc a.sn a.sc a.Y x w hm hw hs
set_option maxRecDepth 40000 in
set_option maxHeartbeats 8000000 in
theorem impl_share0 (t : Tb) (pa da ca sa : Option Addr) (pn pc dn dc cn cc n sc : Nat) (Y : Nat → Rw) (x : Int) (w : World) (hm : TM 0 w t ⟨pa, pn, pc, da, dn, dc, ca, cn, cc, sa, n, sc, Y⟩) (hw : TW t ⟨pa, pn, pc, da, dn, dc, ca, cn, cc, sa, n, sc, Y⟩) (hs : TS ⟨pa, pn, pc, da, dn, dc, ca, cn, cc, sa, n, sc, Y⟩) (he : TabE w) (hcp : pn ≤ pc) :
    Calls Tryz.prog 12 #[.agg #[.int .i64 t.mem, .int .i64 t.s1, .int .i64 t.s2, .int .i64 t.s3, .int .i64 t.tlb, .int .i64 t.c1, .int .i64 t.c2, .int .i64 t.c3, .int .i64 t.c4, .int .i64 t.c5, .int .i64 t.c6, .int .i64 t.c7, .int .i64 t.pad, .int .i64 t.grd, .int .i64 t.maj, .slice pa pn pc, .slice da dn dc, .slice ca cn cc, .slice sa n sc], .int .i64 x] w fun e w' => (∃ r : Int, e = .returned (.int .i64 r) ∧ SR t x r) ∧ Below w.heap.size w w' := by
  obtain ⟨q, hq⟩ := told (Sd t)
  have HB0 : Hid (Below w.heap.size w (w.alloc (.cells #[.int .i64 t.mem, .int .i64 t.s1, .int .i64 t.s2, .int .i64 t.s3, .int .i64 t.tlb, .int .i64 t.c1, .int .i64 t.c2, .int .i64 t.c3, .int .i64 t.c4, .int .i64 t.c5, .int .i64 t.c6, .int .i64 t.c7, .int .i64 t.pad, .int .i64 t.grd, .int .i64 t.maj, .slice pa pn pc, .slice da dn dc, .slice ca cn cc, .slice sa n sc] 33))) := (Below.refl _ _).alloc (Nat.le_refl _) _
  have HX0 : Hid (TBx (w.alloc (.cells #[.int .i64 t.mem, .int .i64 t.s1, .int .i64 t.s2, .int .i64 t.s3, .int .i64 t.tlb, .int .i64 t.c1, .int .i64 t.c2, .int .i64 t.c3, .int .i64 t.c4, .int .i64 t.c5, .int .i64 t.c6, .int .i64 t.c7, .int .i64 t.pad, .int .i64 t.grd, .int .i64 t.maj, .slice pa pn pc, .slice da dn dc, .slice ca cn cc, .slice sa n sc] 33)) w.heap.size t ⟨pa, pn, pc, da, dn, dc, ca, cn, cc, sa, n, sc, Y⟩) := TBx.new w t ⟨pa, pn, pc, da, dn, dc, ca, cn, cc, sa, n, sc, Y⟩ _ rfl
  have HSP : Hid (Calls Tryz.prog 11 #[.agg #[.int .i64 t.mem, .int .i64 t.s1, .int .i64 t.s2, .int .i64 t.s3, .int .i64 t.tlb, .int .i64 t.c1, .int .i64 t.c2, .int .i64 t.c3, .int .i64 t.c4, .int .i64 t.c5, .int .i64 t.c6, .int .i64 t.c7, .int .i64 t.pad, .int .i64 t.grd, .int .i64 t.maj, .slice pa pn pc, .slice da dn dc, .slice ca cn cc, .slice sa n sc]] (w.alloc (.cells #[.int .i64 t.mem, .int .i64 t.s1, .int .i64 t.s2, .int .i64 t.s3, .int .i64 t.tlb, .int .i64 t.c1, .int .i64 t.c2, .int .i64 t.c3, .int .i64 t.c4, .int .i64 t.c5, .int .i64 t.c6, .int .i64 t.c7, .int .i64 t.pad, .int .i64 t.grd, .int .i64 t.maj, .slice pa pn pc, .slice da dn dc, .slice ca cn cc, .slice sa n sc] 33)) fun e w' => e = .returned (.bool q) ∧ Below (w.alloc (.cells #[.int .i64 t.mem, .int .i64 t.s1, .int .i64 t.s2, .int .i64 t.s3, .int .i64 t.tlb, .int .i64 t.c1, .int .i64 t.c2, .int .i64 t.c3, .int .i64 t.c4, .int .i64 t.c5, .int .i64 t.c6, .int .i64 t.c7, .int .i64 t.pad, .int .i64 t.grd, .int .i64 t.maj, .slice pa pn pc, .slice da dn dc, .slice ca cn cc, .slice sa n sc] 33)).heap.size (w.alloc (.cells #[.int .i64 t.mem, .int .i64 t.s1, .int .i64 t.s2, .int .i64 t.s3, .int .i64 t.tlb, .int .i64 t.c1, .int .i64 t.c2, .int .i64 t.c3, .int .i64 t.c4, .int .i64 t.c5, .int .i64 t.c6, .int .i64 t.c7, .int .i64 t.pad, .int .i64 t.grd, .int .i64 t.maj, .slice pa pn pc, .slice da dn dc, .slice ca cn cc, .slice sa n sc] 33)) w') := impl_sound t ⟨pa, pn, pc, da, dn, dc, ca, cn, cc, sa, n, sc, Y⟩ q _ (hm.below HB0.out) hw hs (he.below HB0.out) hcp hq
  have HS : Hid (GSeg 3 w sa n (slX t.ss)) := hm.s.seg
  have HL : Hid (t.ss.length = n) := hw.sl
  have hn : n ≤ 1048576 := hs.s
  have HQ : Hid (q = true ↔ Sd t) := hq
  clear hm hw hs hq he hcp
  go_enter Tryz.func12, Tryz.ntmps12
  go_wp2_with (first | (refine wpList_load_row rfl 33 (.tmp 2) rfl w.heap.size rfl 33 #[.int .i64 t.mem, .int .i64 t.s1, .int .i64 t.s2, .int .i64 t.s3, .int .i64 t.tlb, .int .i64 t.c1, .int .i64 t.c2, .int .i64 t.c3, .int .i64 t.c4, .int .i64 t.c5, .int .i64 t.c6, .int .i64 t.c7, .int .i64 t.pad, .int .i64 t.grd, .int .i64 t.maj, .slice pa pn pc, .slice da dn dc, .slice ca cn cc, .slice sa n sc] (0, 0) _ HX0.out Tryz.underlying33 rfl (by kernel_rfl) ?_) | fail)
  refine Calls.mono HSP.out ?_
  rintro e w1 ⟨rfl, hb1⟩
  have HB1 : Hid (Below w.heap.size w w1) := HB0.out.trans (hb1.mono HB0.out.size)
  have HX1 : Hid (TBx w1 w.heap.size t ⟨pa, pn, pc, da, dn, dc, ca, cn, cc, sa, n, sc, Y⟩) := HX0.out.below hb1
  clear hb1 HB0 HX0 HSP
  cases q
  · have HT : Hid (¬ Sd t) := fun h => by have := HQ.out.2 h; cases this
    go_wp2
    go_ret
    exact ⟨⟨_, rfl, .inl ⟨HT.out, rfl⟩⟩, HB1.out⟩
  have HT : Hid (Sd t) := HQ.out.1 rfl
  clear HQ
  obtain ⟨⟨hp1, hp2⟩, ⟨hg1, hg2⟩, _, hn16, hlf⟩ := sd_slots HT.out
  rw [HL.out] at hn16 hlf
  have HLF : Hid (∀ i, i < n → t.pad + t.grd < (t.ss.getD i sl0).2.2 ∧ (t.ss.getD i sl0).2.2 ≤ 5000) := fun i hi => by
    have := hlf i hi
    have := (sd_slots HT.out).2.2.1
    omega
  clear hlf
  obtain ⟨v, HV⟩ : ∃ v, Hid (t.pad + t.grd = v) := ⟨_, rfl⟩
  have HLO : Hid (∀ Z, Calls Tryz.prog 40 #[.agg #[.int .i64 t.mem, .int .i64 t.s1, .int .i64 t.s2, .int .i64 t.s3, .int .i64 t.tlb, .int .i64 t.c1, .int .i64 t.c2, .int .i64 t.c3, .int .i64 t.c4, .int .i64 t.c5, .int .i64 t.c6, .int .i64 t.c7, .int .i64 t.pad, .int .i64 t.grd, .int .i64 t.maj, .slice pa pn pc, .slice da dn dc, .slice ca cn cc, .slice sa n sc]] Z fun e w' => e = .returned (.int .i64 v) ∧ Below Z.heap.size Z w') := fun Z => by rw [← HV.out]; exact lost_any t ⟨pa, pn, pc, da, dn, dc, ca, cn, cc, sa, n, sc, Y⟩ Z ⟨hp1, hp2⟩ ⟨hg1, hg2⟩
  have k18 : w1.cell? ⟨w.heap.size, 18, none⟩ = some (.slice sa n sc) := HX1.out.cell 18 rfl
  go_wp2
  clear k18
  go_loopw [5, 14] (fun v i wr => ∃ (m : Nat) (f : Int), m ≤ n ∧ 0 ≤ f ∧ f ≤ 5000 * m ∧ i = .int .i64 m ∧ v = .int .i64 f ∧ Hid (f = shareN t x m ∧ Below w1.heap.size w1 wr)) (fun _ i _ => n - (intOf i).toNat)
  case atStart => exact ⟨0, 0, by omega, by omega, by omega, rfl, rfl, rfl, Below.refl _ _⟩
  case round =>
    obtain ⟨m, f, hm, hf0, hf1, rfl, rfl, HR⟩ := hrel
    have HBR : Hid (Below w.heap.size w wr) := HB1.out.trans (HR.out.2.mono HB1.out.size)
    by_cases hmn : m < n
    rotate_left
    · obtain rfl : m = n := by omega
      have HF : Hid (SR t x f) := .inr ⟨HT.out, by rw [HL.out]; exact HR.out.1⟩
      go_wp2
      go_ret
      exact ⟨⟨_, rfl, HF.out⟩, HBR.out⟩
    have hmn' : (m : Int) < (n : Int) := by omega
    obtain ⟨b1, o1, rfl, hbl1, p1⟩ := HS.out.at m hmn
    replace p1 := p1.of (w' := wr) (fun j => HBR.out.cell (p := ⟨b1, j, none⟩) hbl1)
    have hlf := HLF.out m hmn
    have HY : Hid ((t.ss.getD m sl0).1 = x → f + ((t.ss.getD m sl0).2.2 - (t.pad + t.grd)) = shareN t x (m + 1)) := fun h => by rw [share_yes h, HR.out.1]
    have HNO : Hid (¬ (t.ss.getD m sl0).1 = x → f = shareN t x (m + 1)) := fun h => by rw [share_no h]; exact HR.out.1
    have HRB : Hid (Below w1.heap.size w1 wr) := HR.out.2
    simp only [slX] at p1
    generalize t.ss.getD m sl0 = y at p1 hlf HY HNO
    obtain ⟨c0, c1, c2⟩ := sl_cells p1
    obtain ⟨x1, x2, x3⟩ := y
    simp only at c0 c1 c2 hlf HY HNO
    obtain ⟨hl1, hl2⟩ := hlf
    rw [HV.out] at hl1 HY
    have hal : Below wr.heap.size wr (wr.alloc (.cells #[.int .i64 x1, .int .i64 x2, .int .i64 x3] 46)) := (Below.refl _ _).alloc (Nat.le_refl _) _
    have HRV : Hid (Below w1.heap.size w1 (wr.alloc (.cells #[.int .i64 x1, .int .i64 x2, .int .i64 x3] 46))) := HRB.out.trans (hal.mono HRB.out.size)
    have HE3 : Hid ((wr.alloc (.cells #[.int .i64 x1, .int .i64 x2, .int .i64 x3] 46)).cell? ⟨wr.heap.size, 2, none⟩ = some (.int .i64 x3)) := cell0 (CellsAt.new wr [.int .i64 x1, .int .i64 x2, .int .i64 x3] 46 _ rfl) 2 rfl
    clear p1 hbl1 HR hal
    by_cases hx : x1 = x
    · have HE : Hid (f + (x3 - v) = shareN t x (m + 1)) := HY.out hx
      subst hx
      have hv := HV.out
      have hw1 : IntKind.i64.wrap (x3 - v) = x3 - v := by rw [IntKind.wrap_i64]; omega
      have hw2 : IntKind.i64.wrap (f + (x3 - v)) = f + (x3 - v) := by rw [IntKind.wrap_i64]; omega
      clear HY HNO hv
      go_wp2
      revert HRV HE3
      generalize (wr.alloc (.cells #[.int .i64 x1, .int .i64 x2, .int .i64 x3] 46)) = V
      intro HRV HE3
      have G2 := fun X => gr_cell HE3.out X
      have HXX : Hid (∀ w', (∃ X : Gr V, w' = X.w) → w'.heap[w.heap.size]? = some (.cells #[.int .i64 t.mem, .int .i64 t.s1, .int .i64 t.s2, .int .i64 t.s3, .int .i64 t.tlb, .int .i64 t.c1, .int .i64 t.c2, .int .i64 t.c3, .int .i64 t.c4, .int .i64 t.c5, .int .i64 t.c6, .int .i64 t.c7, .int .i64 t.pad, .int .i64 t.grd, .int .i64 t.maj, .slice pa pn pc, .slice da dn dc, .slice ca cn cc, .slice (some ⟨b1, o1, none⟩) n sc] 33 (0, 0))) := fun w' hX => by
        obtain ⟨X, rfl⟩ := hX
        exact (HX1.out.below HRV.out).below X.h
      have hgr := gr_some V
      refine region_alike (by kernel_rfl) (by kernel_rfl) ?_
      repeat (first | (refine wpQuiet_load_row rfl 33 (.tmp 2) rfl w.heap.size rfl 33 #[.int .i64 t.mem, .int .i64 t.s1, .int .i64 t.s2, .int .i64 t.s3, .int .i64 t.tlb, .int .i64 t.c1, .int .i64 t.c2, .int .i64 t.c3, .int .i64 t.c4, .int .i64 t.c5, .int .i64 t.c6, .int .i64 t.c7, .int .i64 t.pad, .int .i64 t.grd, .int .i64 t.maj, .slice pa pn pc, .slice da dn dc, .slice ca cn cc, .slice (some ⟨b1, o1, none⟩) n sc] (0, 0) _ HXX.out Tryz.underlying33 rfl (by kernel_rfl) ?_; simp only [Act.put, List.setIfInBounds_toArray, List.set_cons_zero, List.set_cons_succ]) | go_big_quiet_step (first | (go_at_call 40; exact gr_call (HLO.out _))))
      refine wpQuiet_nil ?_
      intro _ hw'
      obtain ⟨X1, rfl⟩ := hw'
      have hb9 := X1.h
      generalize X1.w = W2 at hb9 ⊢
      have HRB2 : Hid (Below w1.heap.size w1 W2) := HRV.out.trans (hb9.mono HRV.out.size)
      obtain ⟨fe, HFE⟩ : ∃ fe, Hid (f + (x3 - v) = fe) := ⟨_, rfl⟩
      have HE2 : Hid (fe = shareN t x1 (m + 1)) := HFE.out.symm.trans HE.out
      have hv := HV.out
      have hfe0 : 0 ≤ fe := by have := HFE.out; omega
      have hfe1 : fe ≤ 5000 * ((m + 1 : Nat) : Int) := by have := HFE.out; omega
      try rw [hw1]
      try rw [hw2]
      try rw [HFE.out]
      clear hb9 G2 c0 c1 c2 hw1 hw2 HFE HE hv HXX HE3 hgr HRV
      go_wp2
      go_roundw
      case rel => exact ⟨m + 1, fe, by omega, hfe0, hfe1, by go_num, rfl, HE2.out, HRB2.out⟩
      case measure => simp [intOf]; omega
    · have HE2 : Hid (f = shareN t x (m + 1)) := HNO.out hx
      clear HY HNO
      go_wp2
      go_roundw
      case rel => exact ⟨m + 1, f, by omega, hf0, by omega, by go_num, rfl, HE2.out, HRV.out⟩
      case measure => simp [intOf]; omega
theorem impl_share (t : Tb) (a : Ad) (x : Int) (w : World) (hm : TM 0 w t a) (hw : TW t a) (hs : TS a) (he : TabE w) (hcp : a.pn ≤ a.pc) :
    Calls Tryz.prog 12 #[tbV t a, .int .i64 x] w fun e w' => (∃ r : Int, e = .returned (.int .i64 r) ∧ SR t x r) ∧ Below w.heap.size w w' :=
  impl_share0 t a.pa a.da a.ca a.sa a.pn a.pc a.dn a.dc a.cn a.cc a.sn a.sc a.Y x w hm hw hs he hcp
end Go.Proofs.YtmgopppgckgglaaGreatDoor
namespace Go.Proofs.YtmgopppgckgglaaGreatDoor
open Go.ChangeShapes Go.WideShapes Go.ChangeAt Go.RowKit Go.Deep Go.Joins
set_option linter.unusedVariables false

namespace La
theorem least (P : Nat → Prop) : ∀ n, P n → ∃ k, P k ∧ ∀ j, j < k → ¬ P j := by
  intro n
  induction n using Nat.strongRecOn with
  | _ n ih =>
    intro hn
    by_cases h : ∃ j, j < n ∧ P j
    · obtain ⟨j, hj, hp⟩ := h
      exact ih j hj hp
    · exact ⟨n, hn, fun j hj hp => h ⟨j, hj, hp⟩⟩
theorem GP.ex {t : Tb} {p : Int} {i : Nat} (ho : Ows t p i) : ∃ g, GP t p i g := by
  by_cases h : ∃ j, i < j ∧ Ows t p j
  · obtain ⟨j, hj⟩ := h
    obtain ⟨k, hk, hl⟩ := least (fun j => i < j ∧ Ows t p j) j hj
    exact ⟨_, Or.inl ⟨k, hk.1, hk.2, fun j h1 h2 h3 => hl j h2 ⟨h1, h3⟩, rfl⟩⟩
  · obtain ⟨k, hk, hl⟩ := least (fun j => Ows t p j) i ho
    exact ⟨_, Or.inr ⟨fun j h1 h2 => h ⟨j, h1, h2⟩, k, hk, hl, rfl⟩⟩
theorem GP.two {t : Tb} (h : Tm t) {p g : Int} {i : Nat} (hi : i < t.ss.length) (a : GP t p i g) : t.pad + t.grd ≤ g := by
  rcases a with ⟨k, a1, a2, a3, a4⟩ | ⟨a1, k, a2, a3, a4⟩
  · have := ef h a1 a2.1
    omega
  · have := fe h hi
    have := fe h a2.1
    omega
def FR (t : Tb) (M : Int) : Prop := M = 0 ∨ M = t.maj ∨ M = 2 * t.maj
theorem f_mono {t : Tb} (h : Tm t) {i j : Nat} (hij : i ≤ j) (hj : j < t.ss.length) : fF t i ≤ fF t j := by
  by_cases e : i = j
  · subst e; exact Int.le_refl _
  · have := ef h (show i < j by omega) hj
    have := fe h (show i < t.ss.length by omega)
    have := h.pad1
    have := h.grd1
    omega
theorem f_inj {t : Tb} (h : Tm t) {i j : Nat} (hi : i < t.ss.length) (hj : j < t.ss.length) (e : fF t i = fF t j) : i = j := by
  have hp := h.pad1
  have hg := h.grd1
  by_cases a : i < j
  · have := ef h a hj
    have := fe h hi
    omega
  · by_cases b : j < i
    · have := ef h b hi
      have := fe h hj
      omega
    · omega
/-- Between a run's beginning and the end of its gap no other run of the partition begins. -/
theorem gap_free {t : Tb} (h : Tm t) {p g M N : Int} {j k : Nat} (ho : Ows t p j) (hg : GP t p j g) (hM : FR t M) (hN : FR t N) (hk : Ows t p k) : N + fF t k ≤ M + fF t j ∨ M + eE t j + g ≤ N + fF t k := by
  have hm := h.maj1
  have hp := h.pad1
  have hd := h.grd1
  have hfk := fe h hk.1
  have hfj := fe h ho.1
  unfold FR at hM hN
  by_cases e1 : N = M
  · subst e1
    by_cases c : k ≤ j
    · have := f_mono h c ho.1
      exact Or.inl (by omega)
    · rcases hg with ⟨k0, a1, a2, a3, a4⟩ | ⟨a1, _⟩
      · have hle : k0 ≤ k := by
          by_cases q : k < k0
          · exact absurd hk (a3 k (by omega) q)
          · omega
        have := f_mono h hle hk.1
        exact Or.inr (by omega)
      · exact absurd hk (a1 k (by omega))
  · by_cases e2 : N < M
    · have : N + t.maj ≤ M := by omega
      exact Or.inl (by omega)
    · have : M + t.maj ≤ N := by omega
      rcases hg with ⟨k0, a1, a2, a3, a4⟩ | ⟨a1, k0, a2, a3, a4⟩
      · have := fe h a2.1
        exact Or.inr (by omega)
      · have hle : k0 ≤ k := by
          by_cases q : k < k0
          · exact absurd hk (a3 k q)
          · omega
        have := f_mono h hle hk.1
        exact Or.inr (by omega)
theorem frame_ex {t : Tb} (h : Tm t) {T : Int} (h0 : 0 ≤ T) (h1 : T < 3 * t.maj) : ∃ M, FR t M ∧ M ≤ T ∧ T < M + t.maj ∧ T % t.maj = T - M := by
  have hm := h.maj1
  have key : ∀ M, M % t.maj = 0 → M ≤ T → T < M + t.maj → T % t.maj = T - M := fun M hM a b => by
    have := place_border (x := T - M) hm hM (by omega) (by omega)
    rw [show M + (T - M) = T by omega] at this
    exact this
  by_cases a : T < t.maj
  · exact ⟨0, Or.inl rfl, by omega, by omega, key 0 (by simp) (by omega) (by omega)⟩
  · by_cases b : T < 2 * t.maj
    · exact ⟨t.maj, Or.inr (Or.inl rfl), by omega, by omega, key _ Int.emod_self (by omega) (by omega)⟩
    · exact ⟨2 * t.maj, Or.inr (Or.inr rfl), by omega, by omega, key _ (by simp) (by omega) (by omega)⟩
theorem frame_at {t : Tb} (h : Tm t) {T M : Int} (hM : FR t M) (a : M ≤ T) (b : T < M + t.maj) : T % t.maj = T - M := by
  have hm := h.maj1
  have hM0 : M % t.maj = 0 := by
    rcases hM with rfl | rfl | rfl
    · simp
    · exact Int.emod_self
    · simp
  have := place_border (x := T - M) hm hM0 (by omega) (by omega)
  rw [show M + (T - M) = T by omega] at this
  exact this
/-- A run at cycle T. -/
def Run (t : Tb) (p T : Int) : Prop := ∃ k, Ows t p k ∧ fF t k ≤ T % t.maj ∧ T % t.maj < eE t k
theorem run_at {t : Tb} (h : Tm t) {p T M : Int} {k : Nat} (ho : Ows t p k) (hM : FR t M) (a : M + fF t k ≤ T) (b : T < M + eE t k) : Run t p T := by
  have hf := fe h ho.1
  have hp := h.pad1
  have hg := h.grd1
  have e := frame_at h hM (show M ≤ T by omega) (by omega)
  exact ⟨k, ho, by omega, by omega⟩
/-- What a count of waiting cycles knows behind cycle T. -/
def WI (t : Tb) (p T wt lg : Int) (bg : Bool) : Prop :=
  (bg = false ∧ wt = 0 ∧ lg = 0 ∧ ∀ k, Ows t p k → T ≤ fF t k) ∨
  (bg = true ∧ (∃ j g M, Ows t p j ∧ GP t p j g ∧ FR t M ∧ M + fF t j < T ∧ T ≤ M + eE t j + g ∧ ((T ≤ M + eE t j ∧ wt = 0) ∨ (M + eE t j < T ∧ wt = T - (M + eE t j)))) ∧ 0 ≤ wt ∧ wt ≤ lg ∧ Hid (lg = 0 ∨ ∃ j g, Ows t p j ∧ GP t p j g ∧ lg ≤ g) ∧ Hid (∀ j g, Ows t p j → GP t p j g → eE t j + g ≤ T → g ≤ lg))
theorem WI.start {t : Tb} (h : Tm t) (p : Int) : WI t p 0 0 0 false := Or.inl ⟨rfl, rfl, rfl, fun k hk => by have := fe h hk.1; have := h.pad1; omega⟩
theorem WI.rng {t : Tb} (h : Tm t) {p T wt lg : Int} {bg : Bool} (a : WI t p T wt lg bg) : 0 ≤ wt ∧ wt ≤ lg ∧ lg ≤ 20000 := by
  have hm := h.maj2
  rcases a with ⟨_, a1, a2, _⟩ | ⟨_, _, a2, a3, a4, _⟩
  · omega
  · refine ⟨a2, a3, ?_⟩
    rcases a4.out with a4 | ⟨j, g, ho, hg, hl⟩
    · omega
    · have hf := fe h ho.1
      have hp := h.pad1
      rcases hg with ⟨k, _, b2, _, b4⟩ | ⟨_, k, b2, _, b4⟩
      · have := fe h b2.1
        have := h.grd1
        omega
      · have := fe h b2.1
        have := h.grd1
        omega
theorem same_run {t : Tb} (h : Tm t) {p g g' M T : Int} {j j' : Nat} (ho : Ows t p j) (hg : GP t p j g) (hM : FR t M) (h1 : M + fF t j < T) (h2 : T ≤ M + eE t j + g) (ho' : Ows t p j') (hg' : GP t p j' g') (h3 : eE t j' + g' = T) : M = 0 ∧ j' = j := by
  have hf := fe h ho.1
  have hf' := fe h ho'.1
  have h2' := hg'.two h ho'.1
  have hp := h.pad1
  have hd := h.grd1
  have z : FR t 0 := Or.inl rfl
  have a := gap_free h ho hg hM z ho'
  have b := gap_free h ho' hg' z hM ho
  have e : M + fF t j = fF t j' := by
    rcases a with a | a <;> rcases b with b | b <;> omega
  have hm := h.maj1
  have hM0 : M = 0 := by
    unfold FR at hM
    omega
  refine ⟨hM0, f_inj h ho'.1 ho.1 (by omega)⟩
theorem WI.run {t : Tb} (h : Tm t) {p T wt lg : Int} {bg : Bool} (h0 : 0 ≤ T) (h1 : T < 3 * t.maj) (a : WI t p T wt lg bg) (hr : Run t p T) : WI t p (T + 1) 0 lg true := by
  obtain ⟨k, hk, hk1, hk2⟩ := hr
  obtain ⟨M, hM, hM1, hM2, hME⟩ := frame_ex h h0 h1
  rw [hME] at hk1 hk2
  obtain ⟨g, hg⟩ := GP.ex hk
  have hg2 := hg.two h hk.1
  have hp := h.pad1
  have hd := h.grd1
  have hlg := a.rng h
  have hD : ∀ j g', Ows t p j → GP t p j g' → eE t j + g' = T + 1 → False := fun j g' ho hg' he => by
    have := same_run h hk hg hM (show M + fF t k < T + 1 by omega) (by omega) ho hg' he
    obtain ⟨e1, e2⟩ := this
    subst e2
    have := hg.unique hg'
    omega
  refine Or.inr ⟨rfl, ⟨k, g, M, hk, hg, hM, by omega, by omega, Or.inl ⟨by omega, rfl⟩⟩, by omega, by omega, ?_, ?_⟩
  · rcases a with ⟨_, _, a2, _⟩ | ⟨_, _, _, _, a4, _⟩
    · exact Or.inl a2
    · exact a4.out
  · intro j g' ho hg' he
    have hne := hD j g' ho hg'
    rcases a with ⟨_, _, a2, a3⟩ | ⟨_, _, _, _, _, a5⟩
    · have := a3 j ho
      have := hg'.two h ho.1
      have := fe h ho.1
      omega
    · exact a5.out j g' ho hg' (by
        by_cases q : eE t j + g' = T + 1
        · exact absurd q (fun q => hne q)
        · omega)
theorem WI.none {t : Tb} (h : Tm t) {p T wt lg : Int} (h0 : 0 ≤ T) (a : WI t p T wt lg false) (hr : ¬ Run t p T) : WI t p (T + 1) wt lg false := by
  rcases a with ⟨_, a1, a2, a3⟩ | ⟨a0, _⟩
  · refine Or.inl ⟨rfl, a1, a2, fun k hk => ?_⟩
    have := a3 k hk
    have hf := fe h hk.1
    by_cases q : T = fF t k
    · exact absurd (run_at h hk (Or.inl rfl) (show 0 + fF t k ≤ T by omega) (by omega)) hr
    · omega
  · cases a0
theorem WI.idle {t : Tb} (h : Tm t) {p T wt lg : Int} (h0 : 0 ≤ T) (h1 : T < 3 * t.maj) (a : WI t p T wt lg true) (hr : ¬ Run t p T) : WI t p (T + 1) (wt + 1) (if lg < wt + 1 then wt + 1 else lg) true := by
  have hp := h.pad1
  have hd := h.grd1
  have hm := h.maj1
  rcases a with ⟨a0, _⟩ | ⟨_, ⟨j, g, M, ho, hg, hM, b1, b2, b3⟩, a2, a3, a4, a5⟩
  · cases a0
  · have hf := fe h ho.1
    have hge : M + eE t j ≤ T := by
      by_cases q : T < M + eE t j
      · exact absurd (run_at h ho hM (by omega) q) hr
      · omega
    have hlt : T < M + eE t j + g := by
      by_cases q : T = M + eE t j + g
      · exfalso
        rcases hg with ⟨k, _, c2, _, c4⟩ | ⟨_, k, c2, _, c4⟩
        · have hfk := fe h c2.1
          exact hr (run_at h c2 hM (by omega) (by omega))
        · have hfk := fe h c2.1
          refine hr (run_at (M := M + t.maj) h c2 ?_ (by omega) (by omega))
          unfold FR at hM ⊢
          rcases hM with e | e | e
          · exact Or.inr (Or.inl (by omega))
          · exact Or.inr (Or.inr (by omega))
          · omega
      · omega
    have hwt : wt + 1 = T + 1 - (M + eE t j) := by omega
    have hle : lg ≤ (if lg < wt + 1 then wt + 1 else lg) := by split <;> omega
    have hle2 : wt + 1 ≤ (if lg < wt + 1 then wt + 1 else lg) := by split <;> omega
    refine Or.inr ⟨rfl, ⟨j, g, M, ho, hg, hM, by omega, by omega, Or.inr ⟨by omega, hwt⟩⟩, by omega, hle2, ?_, ?_⟩
    · by_cases q : lg < wt + 1
      · rw [if_pos q]
        exact Or.inr ⟨j, g, ho, hg, by omega⟩
      · rw [if_neg q]
        exact a4.out
    · intro j' g' ho' hg' he
      by_cases q : eE t j' + g' = T + 1
      · obtain ⟨e1, e2⟩ := same_run h ho hg hM (show M + fF t j < T + 1 by omega) (by omega) ho' hg' q
        subst e2
        have := hg.unique hg'
        refine Int.le_trans ?_ hle2
        omega
      · exact Int.le_trans (a5.out j' g' ho' hg' (by omega)) hle
theorem WI.done {t : Tb} (h : Tm t) {p wt lg : Int} {bg : Bool} (a : WI t p (3 * t.maj) wt lg bg) (hex : ∃ k, Ows t p k) : LN t p t.ss.length lg := by
  obtain ⟨k, hk⟩ := hex
  have hm := h.maj1
  have hp := h.pad1
  have hd := h.grd1
  have clo : ∀ j g, Ows t p j → GP t p j g → eE t j + g ≤ 3 * t.maj := fun j g ho hg => by
    have hf := fe h ho.1
    rcases hg with ⟨k0, _, c2, _, c4⟩ | ⟨_, k0, c2, _, c4⟩
    · have := fe h c2.1; omega
    · have := fe h c2.1; omega
  rcases a with ⟨_, _, _, a3⟩ | ⟨_, _, a2, a3, a4, a5⟩
  · have := a3 k hk
    have := fe h hk.1
    omega
  · refine Or.inr ⟨?_, fun i g _ ho hg => a5.out i g ho hg (clo i g ho hg)⟩
    rcases a4.out with a4 | ⟨j, g, ho, hg, hl⟩
    · obtain ⟨g, hg⟩ := GP.ex hk
      have := a5.out k g hk hg (clo k g hk hg)
      have := hg.two h hk.1
      omega
    · have := a5.out j g ho hg (clo j g ho hg)
      have e : g = lg := by omega
      subst e
      exact ⟨j, ho.1, ho, hg⟩
/-- A partition's share is 0 just when it has no slot. -/
theorem share_none {t : Tb} (h : Tm t) (p : Int) : ∀ n, n ≤ t.ss.length → (0 ≤ shareN t p n ∧ (shareN t p n = 0 ↔ ∀ k, k < n → ¬ Ows t p k)) := by
  intro n
  induction n with
  | zero => intro _; exact ⟨Int.le_refl _, fun _ k hk => by omega, fun _ => rfl⟩
  | succ n ih =>
    intro hn
    obtain ⟨i1, i2⟩ := ih (by omega)
    have hl := h.ln n (by omega)
    by_cases e : (t.ss.getD n sl0).1 = p
    · rw [share_yes e]
      refine ⟨by omega, fun q => by omega, fun q => ?_⟩
      exact absurd ⟨by omega, e⟩ (q n (by omega))
    · rw [share_no e]
      refine ⟨i1, fun q k hk ho => ?_, fun q => i2.2 fun k hk => q k (by omega)⟩
      by_cases c : k = n
      · subst c; exact e ho.2
      · exact i2.1 q k (by omega) ho
/-- Whether one of the first n slots runs at a place, as the law counts it. -/
def hitN (t : Tb) (p c : Int) : Nat → Bool
  | 0 => false
  | n + 1 => (decide ((t.ss.getD n sl0).1 = p) && (decide (t.pad ≤ c - (t.ss.getD n sl0).2.1) && decide (c - (t.ss.getD n sl0).2.1 < (t.ss.getD n sl0).2.2 - t.grd))) || hitN t p c n
theorem hitN_iff {t : Tb} {p c : Int} : ∀ n, n ≤ t.ss.length → (hitN t p c n = true ↔ ∃ k, k < n ∧ Ows t p k ∧ fF t k ≤ c ∧ c < eE t k) := by
  intro n
  induction n with
  | zero => intro _; exact ⟨fun h => (by cases h), fun ⟨k, hk, _⟩ => by omega⟩
  | succ n ih =>
    intro hn
    have i := ih (by omega)
    simp only [hitN, Bool.or_eq_true, Bool.and_eq_true, decide_eq_true_eq, i]
    constructor
    · rintro (⟨e, a, b⟩ | ⟨k, hk, r⟩)
      · exact ⟨n, by omega, ⟨by omega, e⟩, by unfold fF; omega, by unfold eE; omega⟩
      · exact ⟨k, by omega, r⟩
    · rintro ⟨k, hk, ho, a, b⟩
      by_cases e : k = n
      · subst e
        unfold fF at a
        unfold eE at b
        exact Or.inl ⟨ho.2, by omega, by omega⟩
      · exact Or.inr ⟨k, by omega, ho, a, b⟩
theorem hit_run {t : Tb} {p T : Int} : hitN t p (T % t.maj) t.ss.length = true ↔ Run t p T :=
  (hitN_iff _ (Nat.le_refl _)).trans ⟨fun ⟨k, _, r⟩ => ⟨k, r⟩, fun ⟨k, r⟩ => ⟨k, r.1.1, r⟩⟩
/-- MayBegin tells the partition just when it runs. -/
theorem run_beg {t : Tb} (h : Tm t) {p T : Int} (hp : 0 ≤ p) : begV t (T % t.maj) = p ↔ Run t p T :=
  ⟨fun e => beg_hit h hp e, fun ⟨k, ho, a, b⟩ => hit_beg h ho a b⟩
end La
end Go.Proofs.YtmgopppgckgglaaGreatDoor
namespace Go.Proofs.YtmgopppgckgglaaGreatDoor
open Go.ChangeShapes Go.WideShapes Go.ChangeAt Go.RowKit Go.Deep Go.Joins
set_option linter.unusedVariables false

end Go.Proofs.YtmgopppgckgglaaGreatDoor
namespace Go.Proofs.YtmgopppgckgglaaGreatDoor
open Go.ChangeShapes Go.WideShapes Go.ChangeAt Go.RowKit Go.Deep Go.Joins
set_option linter.unusedVariables false

namespace La
set_option maxRecDepth 40000 in
set_option maxHeartbeats 4000000 in
theorem run_of2 (t : Tb) (a : Ad) (x1 x2 x3 : Int) (w : World) (hp : 1 ≤ t.pad ∧ t.pad ≤ 5000) (hg : 1 ≤ t.grd ∧ t.grd ≤ 5000) (hx : 0 ≤ x2 ∧ 0 ≤ x3 ∧ x2 + x3 ≤ 1000000) :
    Calls Tryz.prog 70 #[tbV t a, .agg #[.int .i64 x1, .int .i64 x2, .int .i64 x3]] w fun e w' => e = .returned (.tuple #[.int .i64 (x2 + t.pad), .int .i64 (x2 + x3 - t.grd)]) ∧ Below w.heap.size w w' := by
  have HE : Hid (∀ Y, Calls Tryz.prog 62 #[.agg #[.int .i64 x1, .int .i64 x2, .int .i64 x3]] Y fun e w' => e = .returned (.int .i64 (x2 + x3)) ∧ Below Y.heap.size Y w') := fun Y => slot_end x1 x2 x3 Y (by rw [IntKind.wrap_i64]; omega)
  obtain ⟨z, HZ⟩ : ∃ z, Hid (x2 + x3 = z) := ⟨_, rfl⟩
  rw [HZ.out] at HE hx ⊢
  have HB0 : Hid (Below w.heap.size w (w.alloc (.cells (tbA t a) 33))) := (Below.refl _ _).alloc (Nat.le_refl _) _
  have HX0 : Hid (TBx (w.alloc (.cells (tbA t a) 33)) w.heap.size t a) := TBx.new w t a _ rfl
  have hbV : Below (w.alloc (.cells (tbA t a) 33)).heap.size (w.alloc (.cells (tbA t a) 33)) ((w.alloc (.cells (tbA t a) 33)).alloc (.cells #[.int .i64 x1, .int .i64 x2, .int .i64 x3] 46)) := (Below.refl _ _).alloc (Nat.le_refl _) _
  have HBV : Hid (Below w.heap.size w ((w.alloc (.cells (tbA t a) 33)).alloc (.cells #[.int .i64 x1, .int .i64 x2, .int .i64 x3] 46))) := HB0.out.trans (hbV.mono HB0.out.size)
  have k12 : ((w.alloc (.cells (tbA t a) 33)).alloc (.cells #[.int .i64 x1, .int .i64 x2, .int .i64 x3] 46)).cell? ⟨w.heap.size, 12, none⟩ = some (.int .i64 t.pad) := (HX0.out.below hbV).cell 12 rfl
  have k13 : ((w.alloc (.cells (tbA t a) 33)).alloc (.cells #[.int .i64 x1, .int .i64 x2, .int .i64 x3] 46)).cell? ⟨w.heap.size, 13, none⟩ = some (.int .i64 t.grd) := (HX0.out.below hbV).cell 13 rfl
  have K : Hid (CellsAt ((w.alloc (.cells (tbA t a) 33)).alloc (.cells #[.int .i64 x1, .int .i64 x2, .int .i64 x3] 46)) (w.heap.size + 1) 0 [.int .i64 x1, .int .i64 x2, .int .i64 x3]) := CellsAt.new _ [.int .i64 x1, .int .i64 x2, .int .i64 x3] _ (w.heap.size + 1) (by simp)
  have c0 := cell0 K.out 0 rfl
  have c1 := cell0 K.out 1 rfl
  have c2 := cell0 K.out 2 rfl
  have hw1 : IntKind.i64.wrap (x2 + t.pad) = x2 + t.pad := by rw [IntKind.wrap_i64]; have := HZ.out; omega
  have hw2 : IntKind.i64.wrap (z - t.grd) = z - t.grd := by rw [IntKind.wrap_i64]; have := HZ.out; omega
  clear hbV HB0 HX0 K hx hp hg HZ
  go_enter Tryz.func70, Tryz.ntmps70
  go_wp2
  revert HBV k12 k13 c0 c1 c2
  generalize (w.alloc (.cells (tbA t a) 33)).alloc (.cells #[.int .i64 x1, .int .i64 x2, .int .i64 x3] 46) = V
  intro HBV k12 k13 c0 c1 c2
  have G12 := fun Y => gr_cell (W0 := V) k12 Y
  have G13 := fun Y => gr_cell (W0 := V) k13 Y
  have G0 := fun Y => gr_cell (W0 := V) c0 Y
  have G1 := fun Y => gr_cell (W0 := V) c1 Y
  have G2 := fun Y => gr_cell (W0 := V) c2 Y
  have hgr := gr_some V
  refine region_alike (by kernel_rfl) (by kernel_rfl) ?_
  repeat (go_big_quiet_step (first | (go_at_call 62; exact gr_call (HE.out _))))
  refine wpQuiet_nil ?_
  intro _ hw'
  obtain ⟨X1, rfl⟩ := hw'
  have HB2 : Hid (Below w.heap.size w X1.w) := HBV.out.trans (X1.h.mono HBV.out.size)
  generalize X1.w = W2 at HB2 ⊢
  clear G12 G13 G0 G1 G2 HE hgr k12 k13 c0 c1 c2 HBV
  try rw [hw1]
  try rw [hw2]
  go_wp2
  exact bodyPost_ret (v := .tuple #[.int .i64 (x2 + t.pad), .int .i64 (z - t.grd)]) (by simp [results, Tryz.results70, go_sem]) rfl ⟨rfl, HB2.out⟩
/-- The turn behind the one at hand, found in whatever order the tables and the turn are read. -/
structure RgT (t : Tb) (a : Ad) (n0 : Nat) (W0 : World) (NS : Nat) (y1 r y3 : Int) (w' : World) (b0 b1 b2 b3 b4 : Bool) (x38 x39 x40 x41 : Value) : Prop where
  cs : b4 = true → b0 = true ∧ b1 = true ∧ b2 = true ∧ b3 = true
  gb : Below n0 W0 w'
  pre : b4 = false → Below W0.heap.size W0 w'
  f0 : b0 = true → x38 = tbV t a
  f1 : b1 = true → x39 = .agg #[.int .i64 y1, .int .i64 r, .int .i64 y3]
  f2 : b2 = true → x40 = .int .i64 (r + y3)
  f3 : b3 = true → ∃ (k : Nat) (s : Int), x41 = .agg #[.int .i64 (t.ss.getD k sl0).1, .int .i64 s, .int .i64 (t.ss.getD k sl0).2.2] ∧ TN t (r + y3) k s ∧ (b4 = true → SRow w' NS #[.int .i64 (t.ss.getD k sl0).1, .int .i64 s, .int .i64 (t.ss.getD k sl0).2.2])
theorem RgT.below {t : Tb} {a : Ad} {n0 : Nat} {W0 : World} {NS : Nat} {y1 r y3 : Int} {w' w9 : World} {b0 b1 b2 b3 b4 : Bool} {x38 x39 x40 x41 : Value} (h : RgT t a n0 W0 NS y1 r y3 w' b0 b1 b2 b3 b4 x38 x39 x40 x41) (hl : b4 = false) (hn : n0 ≤ W0.heap.size) (hb : Below w'.heap.size w' w9) : RgT t a n0 W0 NS y1 r y3 w9 b0 b1 b2 b3 b4 x38 x39 x40 x41 :=
  ⟨h.cs, h.gb.trans (hb.mono (Nat.le_trans hn (h.pre hl).size)), fun _ => (h.pre hl).trans (hb.mono (h.pre hl).size), h.f0, h.f1, h.f2, fun g => by
    obtain ⟨k, s, e1, e2, _⟩ := h.f3 g
    exact ⟨k, s, e1, e2, fun q => absurd (hl.symm.trans q) Bool.false_ne_true⟩⟩
set_option maxRecDepth 40000 in
set_option maxHeartbeats 16000000 in
theorem longest (t : Tb) (a : Ad) (p : Int) (w : World) (hm : TM 0 w t a) (hw : TW t a) (hs : TS a) (hcs : a.sn ≤ a.sc) (ht : Tm t) :
    Calls Tryz.prog 50 #[tbV t a, .int .i64 p] w fun e w' => (∃ r : Int, e = .returned (.int .i64 r) ∧ LN t p t.ss.length r) ∧ Below w.heap.size w w' := by
  have HTM : Hid (Tm t) := ht
  have HL : Hid (t.ss.length = a.sn) := hw.sl
  have hn : a.sn ≤ 1048576 := hs.s
  have hn16 : a.sn ≤ 16 := by have := ht.n2; have := hw.sl; omega
  have HSL : Hid (∀ X, Below w.heap.size w X → GSeg 3 X a.sa a.sn (slX t.ss)) := fun X hX => (hm.below hX).s.seg
  have HNT : Hid (∀ c : Int, 0 ≤ c → c ≤ 1000000 → ∀ X, Below w.heap.size w X → Calls Tryz.prog 71 #[tbV t a, .int .i64 c] X fun e w' => (∃ (i : Nat) (r : Int), e = .returned (.agg #[.int .i64 (t.ss.getD i sl0).1, .int .i64 r, .int .i64 (t.ss.getD i sl0).2.2]) ∧ TN t c i r) ∧ Below X.heap.size X w') := fun c h1 h2 X hX => next_turn t a c X (hm.below hX) hw hs hcs ht h1 h2
  have HRO : Hid (∀ (x1 x2 x3 : Int), 0 ≤ x2 → 0 ≤ x3 → x2 + x3 ≤ 1000000 → ∀ X, Calls Tryz.prog 70 #[tbV t a, .agg #[.int .i64 x1, .int .i64 x2, .int .i64 x3]] X fun e w' => e = .returned (.tuple #[.int .i64 (x2 + t.pad), .int .i64 (x2 + x3 - t.grd)]) ∧ Below X.heap.size X w') := fun x1 x2 x3 h1 h2 h3 X => run_of2 t a x1 x2 x3 X ⟨ht.pad1, ht.pad2⟩ ⟨ht.grd1, ht.grd2⟩ ⟨h1, h2, h3⟩
  have HEN : Hid (∀ (x1 x2 x3 : Int), 0 ≤ x2 → 0 ≤ x3 → x2 + x3 ≤ 1000000 → ∀ Y, Calls Tryz.prog 62 #[.agg #[.int .i64 x1, .int .i64 x2, .int .i64 x3]] Y fun e w' => e = .returned (.int .i64 (x2 + x3)) ∧ Below Y.heap.size Y w') := fun x1 x2 x3 h1 h2 h3 Y => slot_end x1 x2 x3 Y (by rw [IntKind.wrap_i64]; omega)
  have hpd := ht.pad1
  have hpd2 := ht.pad2
  have hgd := ht.grd1
  have hgd2 := ht.grd2
  have hmj := ht.maj1
  have hmj2 := ht.maj2
  have HB0 : Hid (Below w.heap.size w (w.alloc (.cells (tbA t a) 33))) := (Below.refl _ _).alloc (Nat.le_refl _) _
  have HX0 : Hid (TBx (w.alloc (.cells (tbA t a) 33)) w.heap.size t a) := TBx.new w t a _ rfl
  have k18 : (w.alloc (.cells (tbA t a) 33)).cell? ⟨w.heap.size, 18, none⟩ = some (.slice a.sa a.sn a.sc) := HX0.out.cell 18 rfl
  clear hm hw hs hcs ht
  go_enter Tryz.func50, Tryz.ntmps50
  go_wp2
  go_step3
  go_wp2
  go_step3
  go_wp2
  clear k18
  go_loopg [5, 15] a.sn (fun g vL vi wr => ∃ (i : Nat) (L : Int), i + g = a.sn ∧ vL = .int .i64 L ∧ vi = .int .i64 i ∧ -1 ≤ L ∧ L ≤ 30000 ∧ Hid (LN t p i L) ∧ Hid (Below w.heap.size w wr) ∧ Hid (TBx wr w.heap.size t a))
  case atStart => exact ⟨0, -1, by omega, rfl, rfl, by omega, by omega, LN.zero t p, HB0.out, HX0.out⟩
  case round =>
    clear HB0 HX0
    obtain ⟨i, L, hig, rfl, rfl, hL1, hL2, HLN, HBW, HXW⟩ := hrel
    cases gk with
    | zero =>
      have hiz : ¬ ((i : Int) < (a.sn : Int)) := by omega
      have HE : Hid (LN t p t.ss.length L) := by
        show LN _ _ _ _
        rw [HL.out, ← show i = a.sn by omega]
        exact HLN.out
      clear HLN
      go_wp2
      try rw [Exit.noGoto_ret]
      go_ret
      exact ⟨⟨_, rfl, HE.out⟩, HBW.out⟩
    | succ g =>
      have hiz : ((i : Int) < (a.sn : Int)) := by omega
      have hil : i < a.sn := by omega
      have HI : Hid (i < t.ss.length) := by have := HL.out; show _ < _; omega
      have k18 : wr.cell? ⟨w.heap.size, 18, none⟩ = some (.slice a.sa a.sn a.sc) := HXW.out.cell 18 rfl
      obtain ⟨b1, o1, hsa, hbl1, p1⟩ := (HSL.out _ HBW.out).at i hil
      rw [hsa] at k18
      simp only [slX] at p1
      obtain ⟨c0, c1, c2⟩ := sl_cells p1
      have hst := HTM.out.st i HI.out
      have hln := HTM.out.ln i HI.out
      have hen := HTM.out.en i HI.out
      have HOW : Hid (Ows t p i ↔ (t.ss.getD i sl0).1 = p) := ⟨fun h => h.2, fun h => ⟨HI.out, h⟩⟩
      have HEE : Hid (eE t i = (t.ss.getD i sl0).2.1 + (t.ss.getD i sl0).2.2 - t.grd) := rfl
      have HV0 : Hid (VI t p i 0 i 0) := VI.start HI.out
      obtain ⟨z1, HZ1⟩ : ∃ z, Hid ((t.ss.getD i sl0).1 = z) := ⟨_, rfl⟩
      obtain ⟨z2, HZ2⟩ : ∃ z, Hid ((t.ss.getD i sl0).2.1 = z) := ⟨_, rfl⟩
      obtain ⟨z3, HZ3⟩ : ∃ z, Hid ((t.ss.getD i sl0).2.2 = z) := ⟨_, rfl⟩
      rw [HZ1.out] at c0 HOW
      rw [HZ2.out] at c1 hst hen HEE
      rw [HZ3.out] at c2 hln hen HEE
      have hbS : Below wr.heap.size wr (wr.alloc (.cells #[.int .i64 z1, .int .i64 z2, .int .i64 z3] 46)) := (Below.refl _ _).alloc (Nat.le_refl _) _
      have HBS : Hid (Below w.heap.size w (wr.alloc (.cells #[.int .i64 z1, .int .i64 z2, .int .i64 z3] 46))) := HBW.out.trans (hbS.mono HBW.out.size)
      have HXS : Hid (TBx (wr.alloc (.cells #[.int .i64 z1, .int .i64 z2, .int .i64 z3] 46)) w.heap.size t a) := HXW.out.below hbS
      have HSS : Hid (SRow (wr.alloc (.cells #[.int .i64 z1, .int .i64 z2, .int .i64 z3] 46)) wr.heap.size #[.int .i64 z1, .int .i64 z2, .int .i64 z3]) := srow_new wr _ _ rfl
      have HNW : Hid (w.heap.size < wr.heap.size) := HXW.out.lt
      have q0 : (wr.alloc (.cells #[.int .i64 z1, .int .i64 z2, .int .i64 z3] 46)).cell? ⟨wr.heap.size, 0, none⟩ = some (.int .i64 z1) := new_cell wr #[.int .i64 z1, .int .i64 z2, .int .i64 z3] 46 0 _ rfl
      clear hbS HBW HXW hbl1 p1 hsa
      by_cases ho : z1 = p
      rotate_left
      · have HN : Hid (LN t p (i + 1) L) := HLN.out.no (fun h => ho (HOW.out.1 h))
        have hon : (z1 != p) = true := by simp [ho]
        clear HLN HOW
        go_wp2
        go_roundg g
        case measure => omega
        case rel => exact ⟨i + 1, L, by omega, rfl, by first | rfl | go_num, hL1, hL2, HN.out, HBS.out, HXS.out⟩
      have hon : (z1 != p) = false := by simp [ho]
      have HOI : Hid (Ows t p i) := HOW.out.2 ho
      clear HOW ho
      go_wp2_with (first | (refine wpList_load_row rfl 33 (.tmp 2) rfl w.heap.size rfl 33 (tbA t a) (0, 0) _ HXS.out Tryz.underlying33 rfl (by kernel_rfl) ?_) | (refine wpList_load_row rfl 46 (.tmp 7) rfl wr.heap.size rfl 46 #[.int .i64 z1, .int .i64 z2, .int .i64 z3] (0, 0) _ HSS.out Tryz.underlying46 rfl (by kernel_rfl) ?_) | fail)
      revert HBS HXS HSS q0 HNW
      generalize wr.alloc (.cells #[.int .i64 z1, .int .i64 z2, .int .i64 z3] 46) = V
      generalize wr.heap.size = NS
      intro HBS HXS HSS HNW q0
      refine Calls.mono (HRO.out z1 z2 z3 (by omega) (by omega) (by omega) _) ?_
      rintro e w1 ⟨rfl, hb1⟩
      have HB1 : Hid (Below w.heap.size w w1) := HBS.out.trans (hb1.mono HBS.out.size)
      have HX1 : Hid (TBx w1 w.heap.size t a) := HXS.out.below hb1
      have HS1 : Hid (SRow w1 NS #[.int .i64 z1, .int .i64 z2, .int .i64 z3]) := HSS.out.below hb1
      have k18b : w1.cell? ⟨w.heap.size, 18, none⟩ = some (.slice a.sa a.sn a.sc) := HX1.out.cell 18 rfl
      obtain ⟨E, HE⟩ : ∃ E, Hid (z2 + z3 - t.grd = E) := ⟨_, rfl⟩
      have hE : 0 ≤ E ∧ E ≤ 5000 := by have := HE.out; omega
      rw [HE.out] at HEE
      rw [HE.out]
      clear hb1 HBS HXS HSS q0 HE
      go_wp2
      clear k18b
      go_loopg [5, 36] a.sn (fun g2 vL vq wz => ∃ (q k : Nat) (M y1 r y3 : Int), q + g2 = a.sn ∧ vL = .int .i64 L ∧ vq = .int .i64 q ∧ 0 ≤ r ∧ r ≤ 10000 ∧ 0 ≤ y3 ∧ y3 ≤ 5000 ∧ Hid (VI t p i q k M) ∧ Hid (0 < q → ¬ Ows t p k) ∧ Hid (M + (t.ss.getD k sl0).2.1 = r ∧ (t.ss.getD k sl0).2.2 = y3) ∧ Hid (Below w.heap.size w wz) ∧ Hid (TBx wz w.heap.size t a) ∧ Hid (SRow wz NS #[.int .i64 y1, .int .i64 r, .int .i64 y3]))
      case atStart => exact ⟨0, i, 0, z1, z2, z3, by omega, rfl, rfl, by omega, by omega, by omega, by omega, HV0.out, (fun h => absurd h (Nat.lt_irrefl 0)), ⟨by rw [HZ2.out]; omega, HZ3.out⟩, HB1.out, HX1.out, HS1.out⟩
      case round =>
        clear HB1 HX1 HS1 HV0
        rename World => wz
        obtain ⟨q, k, M, y1, r, y3, hqg, rfl, rfl, hr0, hr1, hy0, hy1, HVI, HNO, HRE, HBZ, HXZ, HSZ⟩ := hrel
        cases gk with
        | zero =>
          exfalso
          have e : q = t.ss.length := by have := HL.out; omega
          have hv := HVI.out
          rw [e] at hv
          exact HNO.out (by omega) (hv.end HOI.out)
        | succ g2 =>
          have hqz : ((q : Int) < (a.sn : Int)) := by omega
          have HNB : Hid (w.heap.size + 1 ≤ wz.heap.size) := by
            have := HSZ.out.lt
            have := HNW.out
            show _ ≤ _
            omega
          have HXS9 : Hid (TBx wz w.heap.size t a) := HXZ.out
          have HZW : Hid (w.heap.size + 1 ≤ NS) := HNW.out
          go_wp2
          refine wp_region_inv (by kernel_rfl) (by kernel_rfl) (fun A ℓ a' w' => ∃ (x38 x39 x40 x41 : Value), a' = ((((A.put (some 38) x38).put (some 39) x39).put (some 40) x40).put (some 41) x41) ∧ RgT t a (w.heap.size + 1) wz NS y1 r y3 w' (ℓ 0) (ℓ 1) (ℓ 2) (ℓ 3) (ℓ 4) x38 x39 x40 x41) ?_ ?_ ?_ ?_
          · exact ⟨u38, u39, u40, u41, (by simp only [Act.put, List.setIfInBounds_toArray, List.set_cons_zero, List.set_cons_succ]), ⟨(fun g => by cases g), ((Below.refl _ _).mono HNB.out).drew, (fun _ => (Below.refl _ _).drew), (fun g => by cases g), (fun g => by cases g), (fun g => by cases g), (fun g => by cases g)⟩⟩
          · intro ℓ a' w' hI hall
            obtain ⟨x38, x39, x40, x41, rfl, hr⟩ := hI
            have hall' : ∀ i, i < 5 → ℓ i = true := hall
            obtain rfl := hr.f0 (hall' 0 (by decide))
            obtain rfl := hr.f1 (hall' 1 (by decide))
            obtain rfl := hr.f2 (hall' 2 (by decide))
            obtain ⟨k9, s9, rfl, ht9, hrow⟩ := hr.f3 (hall' 3 (by decide))
            have HR9 := hrow (hall' 4 (by decide))
            have HG9 := hr.gb
            clear hrow hr hall hall'
            have htn : TN t (M + ((t.ss.getD k sl0).2.1 + (t.ss.getD k sl0).2.2)) k9 s9 := by
              rw [← Int.add_assoc, HRE.out.1, HRE.out.2]
              exact ht9
            obtain ⟨M9, hs9, hv9⟩ := HVI.out.step HTM.out HI.out HNO.out (by have := HL.out; omega) htn
            have HV9 : Hid (VI t p i (q + 1) k9 M9) := hv9
            have HRE9 : Hid (M9 + (t.ss.getD k9 sl0).2.1 = s9) := hs9.symm
            have hm9 := hv9.rng HTM.out
            have hst9 := HTM.out.st k9 hv9.k0
            have hln9 := HTM.out.ln k9 hv9.k0
            have hen9 := HTM.out.en k9 hv9.k0
            have HOW9 : Hid (Ows t p k9 ↔ (t.ss.getD k9 sl0).1 = p) := ⟨fun h => h.2, fun h => ⟨hv9.k0, h⟩⟩
            have HHIT : Hid (Ows t p k9 → GP t p i (M9 + (t.ss.getD k9 sl0).2.1 + t.pad - eE t i)) := fun h => hv9.hit HTM.out HOI.out (by omega) (by have := HL.out; omega) h
            have HNH : Hid (¬ Ows t p k9 → 0 < q + 1 → ¬ Ows t p k9) := fun h _ => h
            clear htn ht9 hv9 hs9 HVI HNO HRE HSZ HXZ
            have HB9 : Hid (Below w.heap.size w w') := HBZ.out.trans (HG9.mono (Nat.le_succ _))
            have HX9 : Hid (TBx w' w.heap.size t a) := HXS9.out.low HG9 (Nat.lt_succ_self _)
            obtain ⟨v1, HV1⟩ : ∃ z, Hid ((t.ss.getD k9 sl0).1 = z) := ⟨_, rfl⟩
            obtain ⟨v3, HV3⟩ : ∃ z, Hid ((t.ss.getD k9 sl0).2.2 = z) := ⟨_, rfl⟩
            have hs9 : 0 ≤ s9 ∧ s9 ≤ 10000 := by have := HRE9.out; omega
            rw [HV1.out] at HR9 HOW9
            rw [HV3.out] at HR9 hln9 hen9
            rw [HV1.out, HV3.out]
            have hv3 : 0 ≤ v3 ∧ v3 ≤ 5000 := by omega
            rw [HRE9.out, HEE.out] at HHIT
            have HS9 : Hid (SRow w' NS #[.int .i64 v1, .int .i64 s9, .int .i64 v3]) := HR9
            have c9 : w'.cell? ⟨NS, 0, none⟩ = some (.int .i64 v1) := HS9.out.cell 0 rfl
            clear HR9 HG9 HBZ hst9 hln9 hen9 hm9
            simp only [Act.put, List.setIfInBounds_toArray, List.set_cons_zero, List.set_cons_succ]
            by_cases h9 : v1 = p
            rotate_left
            · have h9b : (v1 == p) = false := by simp [h9]
              have HNO9 : Hid (0 < q + 1 → ¬ Ows t p k9) := fun _ h => h9 (HOW9.out.1 h)
              clear HHIT HOW9 h9
              go_wp2
              go_roundg g2
              case measure => omega
              case rel => exact ⟨q + 1, k9, M9, v1, s9, v3, by omega, rfl, by first | rfl | go_num, by omega, by omega, by omega, by omega, HV9.out, HNO9.out, ⟨HRE9.out, HV3.out⟩, HB9.out, HX9.out, HS9.out⟩
            · have h9b : (v1 == p) = true := by simp [h9]
              have HG : Hid (GP t p i (s9 + t.pad - E)) := HHIT.out (HOW9.out.2 h9)
              have HLN2 : Hid (LN t p (i + 1) (max L (s9 + t.pad - E))) := by
                have := HLN.out.yes HTM.out HOI.out HG.out
                rw [show (if L < s9 + t.pad - E then s9 + t.pad - E else L) = max L (s9 + t.pad - E) by split <;> omega] at this
                exact this
              clear HHIT HOW9 h9 HG HLN HV9 HRE9
              go_wp2_with (first | (refine wpList_load_row rfl 33 (.tmp 2) rfl w.heap.size rfl 33 (tbA t a) (0, 0) _ HX9.out Tryz.underlying33 rfl (by kernel_rfl) ?_) | (refine wpList_load_row rfl 46 (.tmp 7) rfl NS rfl 46 #[.int .i64 v1, .int .i64 s9, .int .i64 v3] (0, 0) _ HS9.out Tryz.underlying46 rfl (by kernel_rfl) ?_) | fail)
              refine Calls.mono (HRO.out v1 s9 v3 (by omega) (by omega) (by omega) _) ?_
              rintro e w2 ⟨rfl, hb2⟩
              have HB2 : Hid (Below w.heap.size w w2) := HB9.out.trans (hb2.mono HB9.out.size)
              have HX2 : Hid (TBx w2 w.heap.size t a) := HX9.out.below hb2
              clear hb2 HB9 HX9 HS9 c9
              have hwx : IntKind.i64.wrap (s9 + t.pad - E) = s9 + t.pad - E := by rw [IntKind.wrap_i64]; omega
              have hmx : -1 ≤ max L (s9 + t.pad - E) ∧ max L (s9 + t.pad - E) ≤ 30000 := by omega
              go_wp2
              go_roundg g
              case measure => omega
              case rel => exact ⟨i + 1, max L (s9 + t.pad - E), by omega, rfl, by first | rfl | go_num, by omega, by omega, HLN2.out, HB2.out, HX2.out⟩
          · intro ℓ a' w' i2 o hI ho hi hL hdep K hK
            obtain ⟨x38, x39, x40, x41, rfl, hr⟩ := hI
            have hi7 : i2 < 5 := hi
            have hcs : i2 = 0 ∨ i2 = 1 ∨ i2 = 2 ∨ i2 = 3 ∨ i2 = 4 := by omega
            clear hi hi7
            rcases hcs with rfl | rfl | rfl | rfl | rfl
            · replace ho : some ({ dst := some 38, op := .load 33 (.tmp 2), type := 33, pos := "l23_plan.go:82", after := #[], guard := none } : Oper) = some o := ho
              revert hK
              obtain rfl := Option.some.inj ho
              clear hdep ho
              have hl4 : ℓ 4 = false := by
                cases h7 : ℓ 4
                · rfl
                · have := (hr.cs h7).1; rw [this] at hL; cases hL
              intro hK
              rw [if_pos (by rfl)]
              try simp only [Act.put, List.setIfInBounds_toArray, List.set_cons_zero, List.set_cons_succ]
              refine wp_load_row (P := Tryz.prog) 33 (.tmp 2) rfl w.heap.size rfl 33 (tbA t a) (0, 0) _ (HXS9.out.below (hr.pre hl4)) Tryz.underlying33 rfl (by kernel_rfl) ?_
              exact hK.out _ _ (fun j => if j = 0 then true else ℓ j) ⟨tbV t a, x39, x40, x41, (by simp only [Act.put, List.setIfInBounds_toArray, List.set_cons_zero, List.set_cons_succ]), ⟨(fun g => ⟨rfl, (hr.cs g).2.1, (hr.cs g).2.2.1, (hr.cs g).2.2.2⟩), hr.gb, hr.pre, (fun _ => rfl), hr.f1, hr.f2, hr.f3⟩⟩ (if_pos rfl) (fun j hj => if_neg hj)
            · replace ho : some ({ dst := some 39, op := .load 46 (.tmp 7), type := 46, pos := "l23_plan.go:82", after := #[], guard := none } : Oper) = some o := ho
              revert hK
              obtain rfl := Option.some.inj ho
              clear hdep ho
              have hl4 : ℓ 4 = false := by
                cases h7 : ℓ 4
                · rfl
                · have := (hr.cs h7).2.1; rw [this] at hL; cases hL
              intro hK
              rw [if_pos (by rfl)]
              try simp only [Act.put, List.setIfInBounds_toArray, List.set_cons_zero, List.set_cons_succ]
              refine wp_load_row (P := Tryz.prog) 46 (.tmp 7) rfl NS rfl 46 #[.int .i64 y1, .int .i64 r, .int .i64 y3] (0, 0) _ (HSZ.out.below (hr.pre hl4)) Tryz.underlying46 rfl (by kernel_rfl) ?_
              exact hK.out _ _ (fun j => if j = 1 then true else ℓ j) ⟨x38, .agg #[.int .i64 y1, .int .i64 r, .int .i64 y3], x40, x41, (by simp only [Act.put, List.setIfInBounds_toArray, List.set_cons_zero, List.set_cons_succ]), ⟨(fun g => ⟨(hr.cs g).1, rfl, (hr.cs g).2.2.1, (hr.cs g).2.2.2⟩), hr.gb, hr.pre, hr.f0, (fun _ => rfl), hr.f2, hr.f3⟩⟩ (if_pos rfl) (fun j hj => if_neg hj)
            · revert hK
              obtain rfl := Option.some.inj ho
              have g1 : ℓ 1 = true := hdep { on := 1, ground := Ground.data } (by simp) rfl
              clear hdep ho
              have hl4 : ℓ 4 = false := by
                cases h7 : ℓ 4
                · rfl
                · have := (hr.cs h7).2.2.1; rw [this] at hL; cases hL
              obtain rfl := hr.f1 g1
              intro hK
              rw [if_pos (by rfl)]
              try simp only [Act.put, List.setIfInBounds_toArray, List.set_cons_zero, List.set_cons_succ]
              go_simp
              refine Calls.mono (HEN.out y1 r y3 hr0 hy0 (by omega) _) ?_
              rintro e w9 ⟨rfl, hb9⟩
              have hr9 := hr.below hl4 HNB.out hb9
              exact hK.out _ _ (fun j => if j = 2 then true else ℓ j) ⟨x38, .agg #[.int .i64 y1, .int .i64 r, .int .i64 y3], .int .i64 (r + y3), x41, (by simp only [Act.put, List.setIfInBounds_toArray, List.set_cons_zero, List.set_cons_succ]), ⟨(fun g => ⟨(hr9.cs g).1, (hr9.cs g).2.1, rfl, (hr9.cs g).2.2.2⟩), hr9.gb, hr9.pre, hr9.f0, hr9.f1, (fun _ => rfl), hr9.f3⟩⟩ (if_pos rfl) (fun j hj => if_neg hj)
            · revert hK
              obtain rfl := Option.some.inj ho
              have g0 : ℓ 0 = true := hdep { on := 0, ground := Ground.data } (by simp) rfl
              have g2 : ℓ 2 = true := hdep { on := 2, ground := Ground.data } (by simp) rfl
              clear hdep ho
              have hl4 : ℓ 4 = false := by
                cases h7 : ℓ 4
                · rfl
                · have := (hr.cs h7).2.2.2; rw [this] at hL; cases hL
              obtain rfl := hr.f0 g0
              obtain rfl := hr.f2 g2
              have HBC : Hid (Below w.heap.size w w') := HBZ.out.trans (hr.gb.mono (Nat.le_succ _))
              intro hK
              rw [if_pos (by rfl)]
              try simp only [Act.put, List.setIfInBounds_toArray, List.set_cons_zero, List.set_cons_succ]
              go_simp
              refine Calls.mono (HNT.out (r + y3) (by omega) (by omega) _ HBC.out) ?_
              rintro e w9 ⟨⟨k9, s9, rfl, ht9⟩, hb9⟩
              have hr9 := hr.below hl4 HNB.out hb9
              exact hK.out _ _ (fun j => if j = 3 then true else ℓ j) ⟨tbV t a, x39, .int .i64 (r + y3), .agg #[.int .i64 (t.ss.getD k9 sl0).1, .int .i64 s9, .int .i64 (t.ss.getD k9 sl0).2.2], (by simp only [Act.put, List.setIfInBounds_toArray, List.set_cons_zero, List.set_cons_succ]), ⟨(fun g => ⟨(hr9.cs g).1, (hr9.cs g).2.1, (hr9.cs g).2.2.1, rfl⟩), hr9.gb, hr9.pre, hr9.f0, hr9.f1, hr9.f2, (fun _ => ⟨k9, s9, rfl, ht9, fun q => absurd (hl4.symm.trans q) Bool.false_ne_true⟩)⟩⟩ (if_pos rfl) (fun j hj => if_neg hj)
            · replace ho : some ({ dst := none, op := .store 46 (.tmp 7) (.tmp 41), type := 0, pos := "l23_plan.go:82", after := #[{ on := 3, ground := Ground.data }, { on := 3, ground := Ground.chain }, { on := 0, ground := Ground.phase }, { on := 1, ground := Ground.phase }, { on := 2, ground := Ground.phase }, { on := 3, ground := Ground.phase }], guard := none } : Oper) = some o := ho
              revert hK
              obtain rfl := Option.some.inj ho
              have g0 : ℓ 0 = true := hdep { on := 0, ground := Ground.phase } (by simp) rfl
              have g1 : ℓ 1 = true := hdep { on := 1, ground := Ground.phase } (by simp) rfl
              have g2 : ℓ 2 = true := hdep { on := 2, ground := Ground.phase } (by simp) rfl
              have g3 : ℓ 3 = true := hdep { on := 3, ground := Ground.data } (by simp) rfl
              clear hdep ho
              obtain ⟨k9, s9, rfl, ht9, _⟩ := hr.f3 g3
              have hrz := HSZ.out.below (hr.pre hL)
              intro hK
              rw [if_pos (by rfl)]
              try simp only [Act.put, List.setIfInBounds_toArray, List.set_cons_zero, List.set_cons_succ]
              refine wp_store_row (P := Tryz.prog) 46 (.tmp 7) (.tmp 41) rfl NS #[.int .i64 (t.ss.getD k9 sl0).1, .int .i64 s9, .int .i64 (t.ss.getD k9 sl0).2.2] rfl rfl 46 #[.int .i64 y1, .int .i64 r, .int .i64 y3] hrz (by kernel_rfl) rfl (by simp [Value.oneCell']) ?_
              exact hK.out _ _ (fun j => if j = 4 then true else ℓ j) ⟨x38, x39, x40, .agg #[.int .i64 (t.ss.getD k9 sl0).1, .int .i64 s9, .int .i64 (t.ss.getD k9 sl0).2.2], (by simp only [Act.put, List.setIfInBounds_toArray, List.set_cons_zero, List.set_cons_succ]), ⟨(fun _ => ⟨g0, g1, g2, g3⟩), below_setRow hr.gb HZW.out _, (fun g => by cases g), hr.f0, hr.f1, hr.f2, (fun _ => ⟨k9, s9, rfl, ht9, fun _ => setRow_heap _ _ _ _ _ _ hrz⟩)⟩⟩ (if_pos rfl) (fun j hj => if_neg hj)
          · rintro a' w' ℓ ℓ' hℓ hI
            rw [← show ℓ = ℓ' from funext hℓ]
            exact hI
end La
end Go.Proofs.YtmgopppgckgglaaGreatDoor
namespace Go.Proofs.YtmgopppgckgglaaGreatDoor
open Go.ChangeShapes Go.WideShapes Go.ChangeAt Go.RowKit Go.Deep Go.Joins
set_option linter.unusedVariables false

set_option maxRecDepth 40000 in
set_option maxHeartbeats 4000000 in
theorem impl_lat (t : Tb) (a : Ad) (p : Int) (w : World) (hm : TM 0 w t a) (hw : TW t a) (hs : TS a) (he : TabE w) (hcp : a.pn ≤ a.pc) (hcs : a.sn ≤ a.sc) :
    Calls Tryz.prog 22 #[tbV t a, .int .i64 p] w fun e w' => (∃ r : Int, e = .returned (.int .i64 r) ∧ La.LR t p r) ∧ Below w.heap.size w w' := by
  obtain ⟨q, hq⟩ := told (Sd t)
  have HB0 : Hid (Below w.heap.size w (w.alloc (.cells (tbA t a) 33))) := (Below.refl _ _).alloc (Nat.le_refl _) _
  have HX0 : Hid (TBx (w.alloc (.cells (tbA t a) 33)) w.heap.size t a) := TBx.new w t a _ rfl
  have HSP : Hid (Calls Tryz.prog 11 #[tbV t a] (w.alloc (.cells (tbA t a) 33)) fun e w' => e = .returned (.bool q) ∧ Below (w.alloc (.cells (tbA t a) 33)).heap.size (w.alloc (.cells (tbA t a) 33)) w') := impl_sound t a q _ (hm.below HB0.out) hw hs (he.below HB0.out) hcp hq
  have HLG : Hid (Sd t → ∀ X, Below w.heap.size w X → Calls Tryz.prog 50 #[tbV t a, .int .i64 p] X fun e w' => (∃ r : Int, e = .returned (.int .i64 r) ∧ La.LN t p t.ss.length r) ∧ Below X.heap.size X w') := fun h X hX => La.longest t a p X (hm.below hX) hw hs hcs (sd_tm h)
  have HQ : Hid (q = true ↔ Sd t) := hq
  clear hq hm hw hs he hcp hcs
  go_enter Tryz.func22, Tryz.ntmps22
  go_wp2_with (first | (refine wpList_load_row rfl 33 (.tmp 2) rfl w.heap.size rfl 33 (tbA t a) (0, 0) _ HX0.out Tryz.underlying33 rfl (by kernel_rfl) ?_) | fail)
  refine Calls.mono HSP.out ?_
  rintro e w1 ⟨rfl, hb1⟩
  have HB1 : Hid (Below w.heap.size w w1) := HB0.out.trans (hb1.mono HB0.out.size)
  have HX1 : Hid (TBx w1 w.heap.size t a) := HX0.out.below hb1
  clear hb1 HB0 HX0 HSP
  cases q
  · have HN : Hid (La.LR t p (-1)) := Or.inl ⟨fun h => (by have := HQ.out.2 h; cases this), rfl⟩
    go_wp2
    go_ret
    exact ⟨⟨_, rfl, HN.out⟩, HB1.out⟩
  have HSD : Hid (Sd t) := HQ.out.1 rfl
  clear HQ
  go_wp2_with (first | (refine wpList_load_row rfl 33 (.tmp 2) rfl w.heap.size rfl 33 (tbA t a) (0, 0) _ HX1.out Tryz.underlying33 rfl (by kernel_rfl) ?_) | fail)
  refine Calls.mono (HLG.out HSD.out _ HB1.out) ?_
  rintro e w2 ⟨⟨r, rfl, hr⟩, hb2⟩
  have HB2 : Hid (Below w.heap.size w w2) := HB1.out.trans (hb2.mono HB1.out.size)
  have HR : Hid (La.LR t p r) := Or.inr ⟨HSD.out, hr⟩
  clear hb2 hr HB1 HX1 HLG
  go_wp2
  go_ret
  exact ⟨⟨_, rfl, HR.out⟩, HB2.out⟩
end Go.Proofs.YtmgopppgckgglaaGreatDoor
namespace Go.Proofs.YtmgopppgckgglaaGreatDoor
open Go.ChangeShapes Go.WideShapes Go.ChangeAt Go.RowKit Go.Deep
set_option linter.unusedVariables false

theorem big_no (a : Option Addr) (n cap : Nat) (w : World) (h : n ≤ 1048576) : Calls Tryz.prog 7 #[.slice a n cap] w fun e w' => e = .returned (.bool false) ∧ w' = w := by
  have h2 : ¬ (1048576 : Int) < (n : Int) := by omega
  go_enter Tryz.func7, Tryz.ntmps7
  go_wp2
  go_ret
  exact ⟨rfl, rfl⟩
theorem big_yes (a : Option Addr) (n cap : Nat) (w : World) (h : ¬ n ≤ 1048576) : Calls Tryz.prog 7 #[.slice a n cap] w fun e w' => e = .returned (.bool true) ∧ w' = w := by
  have h2 : (1048576 : Int) < (n : Int) := by omega
  go_enter Tryz.func7, Tryz.ntmps7
  go_wp2
  go_ret
  exact ⟨rfl, rfl⟩
set_option maxHeartbeats 400000 in
theorem at_any (a : Option Addr) (cap n : Nat) (zs : List Int) (i : Nat) (w : World) (hn : n ≤ 1048576) (hl : zs.length = n) (hi : i ≤ 1000) (hs : Seg .u8 w a zs) (hb : ∀ z ∈ zs, (Lit.int .u8 z).wf = true) :
    Calls Tryz.prog 24 #[.slice a n cap, .int .i64 i] w fun e w' => ∃ x : Int, e = .returned (.int .i64 x) ∧ 0 ≤ x ∧ x ≤ 255 ∧ w' = w := by
  by_cases h : i < n
  · obtain ⟨b, off, he, hbl, hc⟩ := hs.at i (by omega)
    have hz := bounds_u8 (hb _ (getD_mem zs i (by omega)))
    obtain ⟨hz0, hz1⟩ := hz
    subst he
    generalize zs.getD i 0 = z at hc hz0 hz1
    clear hs hb hl
    have h2 : (i : Int) < (n : Int) := by omega
    go_enter Tryz.func24, Tryz.ntmps24
    go_wp2
    go_ret
    exact ⟨z, rfl, by omega, by omega, rfl⟩
  · have h2 : ¬ (i : Int) < (n : Int) := by omega
    have HM : Hid (0 ≤ (((i : Int) * 7 + n) % 256) ∧ (((i : Int) * 7 + n) % 256) ≤ 255) := ⟨Int.emod_nonneg _ (by decide), by omega⟩
    clear hs hb hl
    go_enter Tryz.func24, Tryz.ntmps24
    go_wp2
    go_ret
    exact ⟨_, rfl, HM.out.1, HM.out.2, rfl⟩
end Go.Proofs.YtmgopppgckgglaaGreatDoor
namespace Go.Proofs.YtmgopppgckgglaaGreatDoor
open Go.ChangeShapes Go.WideShapes Go.ChangeAt Go.RowKit Go.Deep Go.Joins
set_option linter.unusedVariables false

def atV (n : Nat) (zs : List Int) (i : Nat) : Int := if i < n then zs.getD i 0 else ((i : Int) * 7 + n) % 256
set_option maxHeartbeats 400000 in
theorem at_val (a : Option Addr) (cap n : Nat) (zs : List Int) (i : Nat) (w : World) (hn : n ≤ 1048576) (hl : zs.length = n) (hi : i ≤ 1000) (hs : Seg .u8 w a zs) (hb : ∀ z ∈ zs, (Lit.int .u8 z).wf = true) :
    (0 ≤ atV n zs i ∧ atV n zs i ≤ 255) ∧ Calls Tryz.prog 24 #[.slice a n cap, .int .i64 i] w fun e w' => e = .returned (.int .i64 (atV n zs i)) ∧ w' = w := by
  by_cases h : i < n
  · obtain ⟨b, off, he, hbl, hc⟩ := hs.at i (by omega)
    have hz := bounds_u8 (hb _ (getD_mem zs i (by omega)))
    obtain ⟨hz0, hz1⟩ := hz
    subst he
    have e : atV n zs i = zs.getD i 0 := if_pos h
    rw [e]
    generalize zs.getD i 0 = z at hc hz0 hz1
    clear hs hb hl e
    have h2 : (i : Int) < (n : Int) := by omega
    refine ⟨⟨by omega, by omega⟩, ?_⟩
    go_enter Tryz.func24, Tryz.ntmps24
    go_wp2
    go_ret
    exact ⟨rfl, rfl⟩
  · have h2 : ¬ (i : Int) < (n : Int) := by omega
    have e : atV n zs i = ((i : Int) * 7 + n) % 256 := if_neg h
    rw [e]
    have HM : Hid (0 ≤ (((i : Int) * 7 + n) % 256) ∧ (((i : Int) * 7 + n) % 256) ≤ 255) := ⟨Int.emod_nonneg _ (by decide), by omega⟩
    clear hs hb hl e
    refine ⟨⟨HM.out.1, HM.out.2⟩, ?_⟩
    go_enter Tryz.func24, Tryz.ntmps24
    go_wp2
    go_ret
    exact ⟨rfl, rfl⟩
set_option maxRecDepth 40000 in
set_option maxHeartbeats 16000000 in
theorem walk_lat (a : Option Addr) (zs : List Int) (cap n : Nat) (w : World) (hs : Seg .u8 w a zs) (hb : ∀ z ∈ zs, (Lit.int .u8 z).wf = true) (hl : zs.length = n) (he : TabE w) :
    Calls Tryz.prog 6 #[.slice a n cap] w fun e w' => e = .returned (.bool true) ∧ Below w.heap.size w w' := by
  by_cases hn : n ≤ 1048576
  rotate_left
  · have HY : Hid _ := big_yes a n cap w hn
    go_enter Tryz.func6, Tryz.ntmps6
    go_wp2_with fail
    refine Calls.mono HY.out ?_
    rintro e w1 ⟨rfl, rfl⟩
    go_wp2
    go_ret
    exact ⟨rfl, Below.refl _ _⟩
  have HNO : Hid _ := big_no a n cap w hn
  have HDR : Hid _ := draw_tables w a zs cap n hs hb hl hn
  have hv0 := (at_val a cap n zs 1 w hn hl (by omega) hs hb).1
  have HAT : Hid (∀ X, Below w.heap.size w X → Calls Tryz.prog 24 #[.slice a n cap, .int .i64 1] X fun e w' => e = .returned (.int .i64 (atV n zs 1)) ∧ Below X.heap.size X w') := fun X hX => (at_val a cap n zs 1 X hn hl (by omega) (hs.below hX) hb).2.mono fun e w' ⟨h1, h2⟩ => ⟨h1, by rw [h2]; exact Below.refl _ _⟩
  have HTE : Hid (∀ X, Below w.heap.size w X → TabE X) := fun X hX => he.below hX
  obtain ⟨v, HV⟩ : ∃ v, Hid (atV n zs 1 = v) := ⟨_, rfl⟩
  rw [HV.out] at hv0 HAT
  clear hs hb hl he HV
  go_enter Tryz.func6, Tryz.ntmps6
  go_wp2_with fail
  refine Calls.mono HNO.out ?_
  rintro e w ⟨rfl, rfl⟩
  go_wp2_with fail
  refine Calls.mono HDR.out ?_
  rintro e w1 ⟨⟨t, ad, rfl, hD⟩, hb⟩
  have hT : Tm t := sd_tm hD.d.sd
  have HSD : Hid (Sd t) := hD.d.sd
  have HTM : Hid (Tm t) := hT
  have HNR : Hid ((w1.alloc (.cells #[.int .i64 0, .int .i64 0, .int .i64 0, .int .i64 0, .int .i64 0, .int .i64 0, .int .i64 0, .int .i64 0, .int .i64 0, .int .i64 0, .int .i64 0, .int .i64 0, .int .i64 0, .int .i64 0, .int .i64 0, .slice none 0 0, .slice none 0 0, .slice none 0 0, .slice none 0 0] 33)).heap[w1.heap.size]? = some (.cells #[.int .i64 0, .int .i64 0, .int .i64 0, .int .i64 0, .int .i64 0, .int .i64 0, .int .i64 0, .int .i64 0, .int .i64 0, .int .i64 0, .int .i64 0, .int .i64 0, .int .i64 0, .int .i64 0, .int .i64 0, .slice none 0 0, .slice none 0 0, .slice none 0 0, .slice none 0 0] 33 (0, 0))) := new_row w1 _ _ _ rfl
  have hbV : Below w1.heap.size w1 ((w1.alloc (.cells #[.int .i64 0, .int .i64 0, .int .i64 0, .int .i64 0, .int .i64 0, .int .i64 0, .int .i64 0, .int .i64 0, .int .i64 0, .int .i64 0, .int .i64 0, .int .i64 0, .int .i64 0, .int .i64 0, .int .i64 0, .slice none 0 0, .slice none 0 0, .slice none 0 0, .slice none 0 0] 33)).setRow w1.heap.size (tbA t ad)) := below_setRow ((Below.refl _ _).alloc (Nat.le_refl _) _) (Nat.le_refl _) _
  have HX : Hid (∀ X, Below ((w1.alloc (.cells #[.int .i64 0, .int .i64 0, .int .i64 0, .int .i64 0, .int .i64 0, .int .i64 0, .int .i64 0, .int .i64 0, .int .i64 0, .int .i64 0, .int .i64 0, .int .i64 0, .int .i64 0, .int .i64 0, .int .i64 0, .slice none 0 0, .slice none 0 0, .slice none 0 0, .slice none 0 0] 33)).setRow w1.heap.size (tbA t ad)).heap.size ((w1.alloc (.cells #[.int .i64 0, .int .i64 0, .int .i64 0, .int .i64 0, .int .i64 0, .int .i64 0, .int .i64 0, .int .i64 0, .int .i64 0, .int .i64 0, .int .i64 0, .int .i64 0, .int .i64 0, .int .i64 0, .int .i64 0, .slice none 0 0, .slice none 0 0, .slice none 0 0, .slice none 0 0] 33)).setRow w1.heap.size (tbA t ad)) X → X.heap[w1.heap.size]? = some (.cells (tbA t ad) 33 (0, 0))) := fun X hX => row_below (setRow_heap _ _ _ _ _ _ HNR.out) hX
  have HB1 : Hid (Below w.heap.size w ((w1.alloc (.cells #[.int .i64 0, .int .i64 0, .int .i64 0, .int .i64 0, .int .i64 0, .int .i64 0, .int .i64 0, .int .i64 0, .int .i64 0, .int .i64 0, .int .i64 0, .int .i64 0, .int .i64 0, .int .i64 0, .int .i64 0, .slice none 0 0, .slice none 0 0, .slice none 0 0, .slice none 0 0] 33)).setRow w1.heap.size (tbA t ad))) := hb.trans (hbV.mono hb.size)
  have HM : Hid (∀ X, Below ((w1.alloc (.cells #[.int .i64 0, .int .i64 0, .int .i64 0, .int .i64 0, .int .i64 0, .int .i64 0, .int .i64 0, .int .i64 0, .int .i64 0, .int .i64 0, .int .i64 0, .int .i64 0, .int .i64 0, .int .i64 0, .int .i64 0, .slice none 0 0, .slice none 0 0, .slice none 0 0, .slice none 0 0] 33)).setRow w1.heap.size (tbA t ad)).heap.size ((w1.alloc (.cells #[.int .i64 0, .int .i64 0, .int .i64 0, .int .i64 0, .int .i64 0, .int .i64 0, .int .i64 0, .int .i64 0, .int .i64 0, .int .i64 0, .int .i64 0, .int .i64 0, .int .i64 0, .int .i64 0, .int .i64 0, .slice none 0 0, .slice none 0 0, .slice none 0 0, .slice none 0 0] 33)).setRow w1.heap.size (tbA t ad)) X → TM 0 X t ad ∧ TabE X) := fun X hX => ⟨hD.m X (hbV.trans (hX.mono hbV.size)), HTE.out X (HB1.out.trans (hX.mono HB1.out.size))⟩
  have HLA : Hid (∀ (x : Int) X, Below ((w1.alloc (.cells #[.int .i64 0, .int .i64 0, .int .i64 0, .int .i64 0, .int .i64 0, .int .i64 0, .int .i64 0, .int .i64 0, .int .i64 0, .int .i64 0, .int .i64 0, .int .i64 0, .int .i64 0, .int .i64 0, .int .i64 0, .slice none 0 0, .slice none 0 0, .slice none 0 0, .slice none 0 0] 33)).setRow w1.heap.size (tbA t ad)).heap.size ((w1.alloc (.cells #[.int .i64 0, .int .i64 0, .int .i64 0, .int .i64 0, .int .i64 0, .int .i64 0, .int .i64 0, .int .i64 0, .int .i64 0, .int .i64 0, .int .i64 0, .int .i64 0, .int .i64 0, .int .i64 0, .int .i64 0, .slice none 0 0, .slice none 0 0, .slice none 0 0, .slice none 0 0] 33)).setRow w1.heap.size (tbA t ad)) X → Calls Tryz.prog 22 #[tbV t ad, .int .i64 x] X fun e w' => (∃ r : Int, e = .returned (.int .i64 r) ∧ La.LN t x t.ss.length r) ∧ Below X.heap.size X w') := fun x X hX => (impl_lat t ad x X (HM.out X hX).1 hD.w hD.s (HM.out X hX).2 hD.c1 hD.c2).mono fun e w' ⟨⟨r, h1, h2⟩, h3⟩ => by
    rcases h2 with ⟨h2, _⟩ | ⟨_, h2⟩
    · exact absurd hD.d.sd h2
    · exact ⟨⟨r, h1, h2⟩, h3⟩
  have HSH : Hid (∀ (x : Int) X, Below ((w1.alloc (.cells #[.int .i64 0, .int .i64 0, .int .i64 0, .int .i64 0, .int .i64 0, .int .i64 0, .int .i64 0, .int .i64 0, .int .i64 0, .int .i64 0, .int .i64 0, .int .i64 0, .int .i64 0, .int .i64 0, .int .i64 0, .slice none 0 0, .slice none 0 0, .slice none 0 0, .slice none 0 0] 33)).setRow w1.heap.size (tbA t ad)).heap.size ((w1.alloc (.cells #[.int .i64 0, .int .i64 0, .int .i64 0, .int .i64 0, .int .i64 0, .int .i64 0, .int .i64 0, .int .i64 0, .int .i64 0, .int .i64 0, .int .i64 0, .int .i64 0, .int .i64 0, .int .i64 0, .int .i64 0, .slice none 0 0, .slice none 0 0, .slice none 0 0, .slice none 0 0] 33)).setRow w1.heap.size (tbA t ad)) X → Calls Tryz.prog 25 #[tbV t ad, .int .i64 x] X fun e w' => e = .returned (.int .i64 (shareN t x t.ss.length)) ∧ Below X.heap.size X w') := fun x X hX => (spec_share t ad x X (HM.out X hX).1 hD.w hD.s).mono fun e w' ⟨⟨r, h1, h2⟩, h3⟩ => by
    rcases h2 with ⟨h2, _⟩ | ⟨_, h2⟩
    · exact absurd hD.d.sd h2
    · exact ⟨by rw [h1, h2], h3⟩
  have HMB : Hid (∀ (c : Int) X, 0 ≤ c → c ≤ 50000 → Below ((w1.alloc (.cells #[.int .i64 0, .int .i64 0, .int .i64 0, .int .i64 0, .int .i64 0, .int .i64 0, .int .i64 0, .int .i64 0, .int .i64 0, .int .i64 0, .int .i64 0, .int .i64 0, .int .i64 0, .int .i64 0, .int .i64 0, .slice none 0 0, .slice none 0 0, .slice none 0 0, .slice none 0 0] 33)).setRow w1.heap.size (tbA t ad)).heap.size ((w1.alloc (.cells #[.int .i64 0, .int .i64 0, .int .i64 0, .int .i64 0, .int .i64 0, .int .i64 0, .int .i64 0, .int .i64 0, .int .i64 0, .int .i64 0, .int .i64 0, .int .i64 0, .int .i64 0, .int .i64 0, .int .i64 0, .slice none 0 0, .slice none 0 0, .slice none 0 0, .slice none 0 0] 33)).setRow w1.heap.size (tbA t ad)) X → Calls Tryz.prog 26 #[tbV t ad, .int .i64 c] X fun e w' => e = .returned (.int .i64 (begV t (c % t.maj))) ∧ Below X.heap.size X w') := fun c X h0 h1 hX => (impl_maybegin t ad c X (HM.out X hX).1 hD.w hD.s (HM.out X hX).2 hD.c1 hD.c2).mono fun e w' ⟨⟨r, e1, e2⟩, h3⟩ => by
    rcases e2 with ⟨e2, _⟩ | ⟨_, e2⟩
    · exact absurd ⟨hD.d.sd, h0, h1⟩ e2
    · exact ⟨by rw [e1, e2], h3⟩
  have HSL : Hid (∀ X, Below ((w1.alloc (.cells #[.int .i64 0, .int .i64 0, .int .i64 0, .int .i64 0, .int .i64 0, .int .i64 0, .int .i64 0, .int .i64 0, .int .i64 0, .int .i64 0, .int .i64 0, .int .i64 0, .int .i64 0, .int .i64 0, .int .i64 0, .slice none 0 0, .slice none 0 0, .slice none 0 0, .slice none 0 0] 33)).setRow w1.heap.size (tbA t ad)).heap.size ((w1.alloc (.cells #[.int .i64 0, .int .i64 0, .int .i64 0, .int .i64 0, .int .i64 0, .int .i64 0, .int .i64 0, .int .i64 0, .int .i64 0, .int .i64 0, .int .i64 0, .int .i64 0, .int .i64 0, .int .i64 0, .int .i64 0, .slice none 0 0, .slice none 0 0, .slice none 0 0, .slice none 0 0] 33)).setRow w1.heap.size (tbA t ad)) X → GSeg 3 X ad.sa ad.sn (slX t.ss)) := fun X hX => (HM.out X hX).1.s.seg
  have HL : Hid (t.ss.length = ad.sn) := hD.w.sl
  have hpn0 : 1 ≤ ad.pn := by
    have h1 := hT.pt 0 (by have := hT.n1; omega)
    have := hD.w.pl
    omega
  have hpn1 : ad.pn ≤ 1048576 := hD.s.p
  have hsn : ad.sn ≤ 16 := by rw [← hD.w.sl]; exact hT.n2
  have hp1 := hT.pad1
  have hp2 := hT.pad2
  have hr1 := hT.grd1
  have hr2 := hT.grd2
  have hm1 := hT.maj1
  have hm2 := hT.maj2
  have c15 : ((w1.alloc (.cells #[.int .i64 0, .int .i64 0, .int .i64 0, .int .i64 0, .int .i64 0, .int .i64 0, .int .i64 0, .int .i64 0, .int .i64 0, .int .i64 0, .int .i64 0, .int .i64 0, .int .i64 0, .int .i64 0, .int .i64 0, .slice none 0 0, .slice none 0 0, .slice none 0 0, .slice none 0 0] 33)).setRow w1.heap.size (tbA t ad)).cell? ⟨w1.heap.size, 15, none⟩ = some (.slice ad.pa ad.pn ad.pc) := TBx.cell (HX.out _ (Below.refl _ _)) 15 rfl
  clear hb hbV hD hT HDR HNO HTE HM
  go_wp2_with (first | (refine wpList_store_row rfl 33 (.tmp 3) (.tmp 17) rfl w1.heap.size (tbA t ad) rfl rfl 33 #[.int .i64 0, .int .i64 0, .int .i64 0, .int .i64 0, .int .i64 0, .int .i64 0, .int .i64 0, .int .i64 0, .int .i64 0, .int .i64 0, .int .i64 0, .int .i64 0, .int .i64 0, .int .i64 0, .int .i64 0, .slice none 0 0, .slice none 0 0, .slice none 0 0, .slice none 0 0] HNR.out (by kernel_rfl) rfl (by simp [Value.oneCell']) ?_) | fail)
  clear HNR
  revert HX HB1 HLA HSH HMB HSL c15
  generalize ((w1.alloc (.cells #[.int .i64 0, .int .i64 0, .int .i64 0, .int .i64 0, .int .i64 0, .int .i64 0, .int .i64 0, .int .i64 0, .int .i64 0, .int .i64 0, .int .i64 0, .int .i64 0, .int .i64 0, .int .i64 0, .int .i64 0, .slice none 0 0, .slice none 0 0, .slice none 0 0, .slice none 0 0] 33)).setRow w1.heap.size (tbA t ad)) = V
  generalize w1.heap.size = N
  intro HX HB1 HLA HSH HMB HSL c15
  have G15 := fun X => gr_cell c15 X
  have HAG : Hid (∀ x : Gr V, Calls Tryz.prog 24 #[.slice a n cap, .int .i64 1] x.w fun e w' => e = .returned (.int .i64 v) ∧ Below x.w.heap.size x.w w') := fun x => HAT.out x.w (HB1.out.trans (x.h.mono HB1.out.size))
  have hq0 : ¬ ((ad.pn : Int) = 0) := by omega
  have hqn : ¬ (ad.pn = 0) := by omega
  obtain ⟨p, HP⟩ : ∃ p, Hid (Int.tmod v (ad.pn : Int) = p) := ⟨_, rfl⟩
  have hp0 : 0 ≤ p ∧ p ≤ 255 := by
    have h1 := HP.out
    rw [Int.tmod_eq_emod_of_nonneg hv0.1] at h1
    have h2 := Int.emod_nonneg v hq0
    have h3 : v % (ad.pn : Int) ≤ v := by
      by_cases q : v < (ad.pn : Int)
      · rw [Int.emod_eq_of_lt hv0.1 q]; exact Int.le_refl _
      · have := Int.emod_lt_of_pos v (show (0 : Int) < ad.pn by omega)
        omega
    omega
  have hPE := HP.out
  rw [Int.tmod_eq_emod_of_nonneg hv0.1] at hPE
  have hwp : IntKind.i64.wrap (v % (ad.pn : Int)) = p := by rw [hPE, IntKind.wrap_i64]; omega
  have hwp2 : IntKind.i64.wrap (Int.tmod v (ad.pn : Int)) = p := by rw [HP.out, IntKind.wrap_i64]; omega
  have HPE : Hid (v % (ad.pn : Int) = p) := hPE
  clear HP hPE
  have hgr := gr_some V
  try simp only [Act.put]
  refine region_alike (by kernel_rfl) (by kernel_rfl) ?_
  repeat (go_big_quiet_step (first | (go_at_call 24; exact gr_call (HAG.out _))))
  refine wpQuiet_nil ?_
  intro _ hw'
  obtain ⟨X1, rfl⟩ := hw'
  have HBX : Hid (Below V.heap.size V X1.w) := X1.h
  generalize X1.w = w2 at HBX ⊢
  rw [HPE.out]
  clear G15 hgr HAG HAT c15 hwp hwp2
  go_wp2_with (first | (refine wpList_load_row rfl 33 (.tmp 3) rfl N rfl 33 (tbA t ad) (0, 0) _ (HX.out _ HBX.out) Tryz.underlying33 rfl (by kernel_rfl) ?_) | fail)
  refine Calls.mono (HLA.out p _ HBX.out) ?_
  rintro e w3 ⟨⟨L, rfl, hLN⟩, hb3⟩
  have HB3 : Hid (Below V.heap.size V w3) := HBX.out.trans (hb3.mono HBX.out.size)
  have HLN : Hid (La.LN t p t.ss.length L) := hLN
  clear hb3 hLN HBX HLA
  go_wp2_with (first | (refine wpList_load_row rfl 33 (.tmp 3) rfl N rfl 33 (tbA t ad) (0, 0) _ (HX.out _ HB3.out) Tryz.underlying33 rfl (by kernel_rfl) ?_) | fail)
  refine Calls.mono (HSH.out p _ HB3.out) ?_
  rintro e w4 ⟨rfl, hb4⟩
  have HB4 : Hid (Below V.heap.size V w4) := HB3.out.trans (hb4.mono HB3.out.size)
  have HSN := La.share_none HTM.out p t.ss.length (Nat.le_refl _)
  obtain ⟨s, HS⟩ : ∃ s, Hid (shareN t p t.ss.length = s) := ⟨_, rfl⟩
  rw [HS.out] at HSN
  rw [HS.out]
  have hsn0 := HSN.1
  have HSN2 : Hid (s = 0 ↔ ∀ k, k < t.ss.length → ¬ La.Ows t p k) := HSN.2
  clear hb4 HB3 HSH HSN HS
  by_cases hs0 : s = 0
  · have hL1 : L = -1 := HLN.out.unique (Or.inl ⟨HSN2.out.1 hs0, rfl⟩)
    subst hL1
    subst hs0
    have HBE : Hid (Below w.heap.size w w4) := HB1.out.trans (HB4.out.mono HB1.out.size)
    clear HLN HSN2 HB4 HX HSL HMB
    go_wp2
    go_ret
    exact ⟨rfl, HBE.out⟩
  have HEX : Hid (∃ k, La.Ows t p k) := by
    by_cases q : ∃ k, La.Ows t p k
    · exact q
    · exact absurd (HSN2.out.2 fun k _ ho => q ⟨k, ho⟩) hs0
  have hsb : (s == 0) = false := by simp [hs0]
  obtain ⟨M3, HM3⟩ : ∃ M : Nat, Hid (3 * t.maj = (M : Int)) := ⟨(3 * t.maj).toNat, by show _ = _; omega⟩
  have hM3 : M3 ≤ 15000 := by have := HM3.out; omega
  have hw3 : IntKind.i64.wrap (3 * t.maj) = (M3 : Int) := by rw [HM3.out, IntKind.wrap_i64]; omega
  clear HSN2
  go_wp2
  clear hsb hs0
  go_loopw [6, 7, 8, 9] (fun vw vl vb vc wr => ∃ (c : Nat) (wt lg : Int) (bg : Bool), c ≤ M3 ∧ 0 ≤ wt ∧ wt ≤ lg ∧ lg ≤ 20000 ∧ vw = .int .i64 wt ∧ vl = .int .i64 lg ∧ vb = .bool bg ∧ vc = .int .i64 c ∧ Hid (La.WI t p c wt lg bg) ∧ Hid (Below V.heap.size V wr)) (fun _ _ _ vc _ => M3 - (intOf vc).toNat)
  case atStart => exact ⟨0, 0, 0, false, by omega, by omega, by omega, by omega, rfl, rfl, rfl, rfl, La.WI.start HTM.out p, HB4.out⟩
  case round =>
    clear HB4
    obtain ⟨c, wt, lg, bg, hc, hw0, hwl, hlg, rfl, rfl, rfl, rfl, HWI, HBW⟩ := hrel
    have k14 : wr.cell? ⟨N, 14, none⟩ = some (.int .i64 t.maj) := TBx.cell (HX.out _ HBW.out) 14 rfl
    by_cases hlt : c < M3
    rotate_left
    · obtain rfl : c = M3 := by omega
      have HE : Hid (L = lg) := by
        have h := HWI.out
        rw [← HM3.out] at h
        exact HLN.out.unique (h.done HTM.out HEX.out)
      have hle : (L == lg) = true := by rw [HE.out]; simp
      have hnc : ¬ ((c : Int) < (c : Int)) := by omega
      have HBE : Hid (Below w.heap.size w wr) := HB1.out.trans (HBW.out.mono HB1.out.size)
      clear HWI HLN HX HSL HMB
      go_wp2
      go_ret
      exact ⟨rfl, HBE.out⟩
    have hlt' : (c : Int) < (M3 : Int) := by omega
    have HCT : Hid ((c : Int) < 3 * t.maj) := by rw [HM3.out]; exact hlt'
    have HRUN : Hid (La.hitN t p ((c : Int) % t.maj) t.ss.length = true ↔ La.Run t p c) := La.hit_run
    have HBEG : Hid (begV t ((c : Int) % t.maj) = p ↔ La.Run t p c) := La.run_beg HTM.out hp0.1
    have HMBC : Hid (∀ X, Below V.heap.size V X → Calls Tryz.prog 26 #[tbV t ad, .int .i64 c] X fun e w' => e = .returned (.int .i64 (begV t ((c : Int) % t.maj))) ∧ Below X.heap.size X w') := fun X hX => HMB.out c X (by omega) (by omega) hX
    have hpp : 0 ≤ (c : Int) % t.maj ∧ (c : Int) % t.maj < t.maj := mod_lt hm1
    obtain ⟨m0, HM0⟩ : ∃ m, Hid ((c : Int) % t.maj = m) := ⟨_, rfl⟩
    rw [HM0.out] at HRUN HBEG HMBC hpp
    obtain ⟨b, HB⟩ : ∃ b, Hid (begV t m0 = b) := ⟨_, rfl⟩
    rw [HB.out] at HBEG HMBC
    have htm : Int.tmod (c : Int) t.maj = m0 := by rw [Int.tmod_eq_emod_of_nonneg (by omega)]; exact HM0.out
    have HTMOD : Hid (Int.tmod (c : Int) t.maj = m0) := htm
    clear htm HB
    go_wp2
    clear k14
    go_loopw [10, 11] (fun vr vi wz => ∃ (i : Nat) (r : Bool), i ≤ ad.sn ∧ vr = .bool r ∧ vi = .int .i64 i ∧ Hid (La.hitN t p m0 i = r) ∧ Hid (Below V.heap.size V wz)) (fun _ vi _ => ad.sn - (intOf vi).toNat)
    case atStart => exact ⟨0, false, by omega, rfl, rfl, rfl, HBW.out⟩
    case round =>
      clear HBW
      rename World => wz
      obtain ⟨i, r, hi, rfl, rfl, HH, HBZ⟩ := hrel
      have k18 : wz.cell? ⟨N, 18, none⟩ = some (.slice ad.sa ad.sn ad.sc) := TBx.cell (HX.out _ HBZ.out) 18 rfl
      by_cases hil : i < ad.sn
      rotate_left
      · obtain rfl : i = ad.sn := by omega
        have hni : ¬ ((ad.sn : Int) < (ad.sn : Int)) := by omega
        have HR : Hid (r = true ↔ La.Run t p c) := by
          have h := HRUN.out
          rw [HL.out, HH.out] at h
          exact h
        have hbr : (b == p) = r := by
          cases r
          · have : ¬ b = p := fun q => by have := HR.out.2 (HBEG.out.1 q); cases this
            simp [this]
          · simp [HBEG.out.2 (HR.out.1 rfl)]
        have HR0 : Hid (r = false → ¬ La.Run t p c) := fun q h => by have := HR.out.2 h; rw [q] at this; cases this
        have hc0 : (0 : Int) ≤ (c : Int) := by omega
        obtain ⟨m7, HM7⟩ : ∃ m, Hid ((c : Int) % 97 = m) := ⟨_, rfl⟩
        have hm70 : 0 ≤ m7 ∧ m7 ≤ 96 := by have := HM7.out; omega
        have hwA : IntKind.i64.wrap ((c : Int) % 97) = m7 := by rw [HM7.out, IntKind.wrap_i64]; omega
        have hwB : IntKind.i64.wrap (Int.tmod (c : Int) 97) = m7 := by rw [Int.tmod_eq_emod_of_nonneg hc0]; exact hwA
        have hwC : (c : Int) % 97 = m7 := HM7.out
        have hwD : Int.tmod (c : Int) 97 = m7 := by rw [Int.tmod_eq_emod_of_nonneg hc0]; exact hwC
        have hwW : IntKind.i64.wrap m7 = m7 := by rw [IntKind.wrap_i64]; omega
        have hw1 : IntKind.i64.wrap (wt + 1) = wt + 1 := by rw [IntKind.wrap_i64]; omega
        clear HM7 HRUN HBEG HH HM0 HTMOD HSL HMB
        by_cases h7 : m7 = 0
        · have h7b : (m7 == 0) = true := by simp [h7]
          clear h7
          go_wp2_with (first | (refine wpList_load_rowG rfl 33 (.tmp 3) rfl N rfl 33 (tbA t ad) (0, 0) _ (HX.out _ HBZ.out) Tryz.underlying33 rfl (by kernel_rfl) ?_) | fail)
          refine Calls.mono (HMBC.out _ HBZ.out) ?_
          rintro e w6 ⟨rfl, hb6⟩
          have HB6 : Hid (Below V.heap.size V w6) := HBZ.out.trans (hb6.mono HBZ.out.size)
          clear hb6 HBZ HMBC
          have HRNG : Hid (3 * t.maj = (M3 : Int)) := HM3.out
          cases r
          · have hnr := HR0.out rfl
            cases bg
            · have HE : Hid (La.WI t p ((c : Int) + 1) wt lg false) := HWI.out.none HTM.out (by omega) hnr
              have hgt : ¬ (lg < wt) := by omega
              clear hnr HWI HR HR0
              go_wp2
              go_roundw
              case rel => exact ⟨c + 1, wt, lg, false, by omega, by omega, by omega, by omega, rfl, rfl, rfl, by first | rfl | go_num, HE.out, HB6.out⟩
              case measure => simp [intOf]; omega
            · have HE0 : Hid (La.WI t p ((c : Int) + 1) (wt + 1) (if lg < wt + 1 then wt + 1 else lg) true) := HWI.out.idle HTM.out (by omega) HCT.out hnr
              have hrg := HE0.out.rng HTM.out
              clear hnr HWI HR HR0
              by_cases hgt : lg < wt + 1
              · rw [if_pos hgt] at HE0 hrg
                have HE : Hid (La.WI t p ((c : Int) + 1) (wt + 1) (wt + 1) true) := HE0.out
                clear HE0
                go_wp2
                go_roundw
                case rel => exact ⟨c + 1, wt + 1, wt + 1, true, by omega, by omega, by omega, by omega, rfl, rfl, rfl, by first | rfl | go_num, HE.out, HB6.out⟩
                case measure => simp [intOf]; omega
              · rw [if_neg hgt] at HE0 hrg
                have HE : Hid (La.WI t p ((c : Int) + 1) (wt + 1) lg true) := HE0.out
                clear HE0
                go_wp2
                go_roundw
                case rel => exact ⟨c + 1, wt + 1, lg, true, by omega, by omega, by omega, by omega, rfl, rfl, rfl, by first | rfl | go_num, HE.out, HB6.out⟩
                case measure => simp [intOf]; omega
          · have HE : Hid (La.WI t p ((c : Int) + 1) 0 lg true) := HWI.out.run HTM.out (by omega) HCT.out (HR.out.1 rfl)
            have hgt : ¬ (lg < 0) := by omega
            clear HWI HR HR0
            go_wp2
            go_roundw
            case rel => exact ⟨c + 1, 0, lg, true, by omega, by omega, by omega, by omega, rfl, rfl, rfl, by first | rfl | go_num, HE.out, HB6.out⟩
            case measure => simp [intOf]; omega
        · have h7b : (m7 == 0) = false := by simp [h7]
          have HB6 : Hid (Below V.heap.size V wz) := HBZ.out
          clear h7 HBZ HMBC hbr
          have HRNG : Hid (3 * t.maj = (M3 : Int)) := HM3.out
          cases r
          · have hnr := HR0.out rfl
            cases bg
            · have HE : Hid (La.WI t p ((c : Int) + 1) wt lg false) := HWI.out.none HTM.out (by omega) hnr
              have hgt : ¬ (lg < wt) := by omega
              clear hnr HWI HR HR0
              go_wp2
              go_roundw
              case rel => exact ⟨c + 1, wt, lg, false, by omega, by omega, by omega, by omega, rfl, rfl, rfl, by first | rfl | go_num, HE.out, HB6.out⟩
              case measure => simp [intOf]; omega
            · have HE0 : Hid (La.WI t p ((c : Int) + 1) (wt + 1) (if lg < wt + 1 then wt + 1 else lg) true) := HWI.out.idle HTM.out (by omega) HCT.out hnr
              have hrg := HE0.out.rng HTM.out
              clear hnr HWI HR HR0
              by_cases hgt : lg < wt + 1
              · rw [if_pos hgt] at HE0 hrg
                have HE : Hid (La.WI t p ((c : Int) + 1) (wt + 1) (wt + 1) true) := HE0.out
                clear HE0
                go_wp2
                go_roundw
                case rel => exact ⟨c + 1, wt + 1, wt + 1, true, by omega, by omega, by omega, by omega, rfl, rfl, rfl, by first | rfl | go_num, HE.out, HB6.out⟩
                case measure => simp [intOf]; omega
              · rw [if_neg hgt] at HE0 hrg
                have HE : Hid (La.WI t p ((c : Int) + 1) (wt + 1) lg true) := HE0.out
                clear HE0
                go_wp2
                go_roundw
                case rel => exact ⟨c + 1, wt + 1, lg, true, by omega, by omega, by omega, by omega, rfl, rfl, rfl, by first | rfl | go_num, HE.out, HB6.out⟩
                case measure => simp [intOf]; omega
          · have HE : Hid (La.WI t p ((c : Int) + 1) 0 lg true) := HWI.out.run HTM.out (by omega) HCT.out (HR.out.1 rfl)
            have hgt : ¬ (lg < 0) := by omega
            clear HWI HR HR0
            go_wp2
            go_roundw
            case rel => exact ⟨c + 1, 0, lg, true, by omega, by omega, by omega, by omega, rfl, rfl, rfl, by first | rfl | go_num, HE.out, HB6.out⟩
            case measure => simp [intOf]; omega
      · have hil' : (i : Int) < (ad.sn : Int) := by omega
        obtain ⟨b1, o1, hsa, hbl1, p1⟩ := (HSL.out _ HBZ.out).at i hil
        rw [hsa] at k18
        simp only [slX] at p1
        obtain ⟨d0, d1, d2⟩ := sl_cells p1
        have hIL : i < t.ss.length := by have := HL.out; omega
        have hst := HTM.out.st i hIL
        have hln := HTM.out.ln i hIL
        have hen := HTM.out.en i hIL
        have HHS : Hid (La.hitN t p m0 (i + 1) = ((decide ((t.ss.getD i sl0).1 = p) && (decide (t.pad ≤ m0 - (t.ss.getD i sl0).2.1) && decide (m0 - (t.ss.getD i sl0).2.1 < (t.ss.getD i sl0).2.2 - t.grd))) || r)) := by show _ = _; rw [La.hitN, HH.out]
        generalize (t.ss.getD i sl0) = y at d0 d1 d2 hst hln hen HHS
        obtain ⟨z1, z2, z3⟩ := y
        simp only at d0 d1 d2 hst hln hen HHS
        have hbS : Below wz.heap.size wz (wz.alloc (.cells #[.int .i64 z1, .int .i64 z2, .int .i64 z3] 46)) := (Below.refl _ _).alloc (Nat.le_refl _) _
        have HBS : Hid (Below V.heap.size V (wz.alloc (.cells #[.int .i64 z1, .int .i64 z2, .int .i64 z3] 46))) := HBZ.out.trans (hbS.mono HBZ.out.size)
        have q0 : (wz.alloc (.cells #[.int .i64 z1, .int .i64 z2, .int .i64 z3] 46)).cell? ⟨wz.heap.size, 0, none⟩ = some (.int .i64 z1) := new_cell wz #[.int .i64 z1, .int .i64 z2, .int .i64 z3] 46 0 _ rfl
        have q1 : (wz.alloc (.cells #[.int .i64 z1, .int .i64 z2, .int .i64 z3] 46)).cell? ⟨wz.heap.size, 1, none⟩ = some (.int .i64 z2) := new_cell wz #[.int .i64 z1, .int .i64 z2, .int .i64 z3] 46 1 _ rfl
        have q2 : (wz.alloc (.cells #[.int .i64 z1, .int .i64 z2, .int .i64 z3] 46)).cell? ⟨wz.heap.size, 2, none⟩ = some (.int .i64 z3) := new_cell wz #[.int .i64 z1, .int .i64 z2, .int .i64 z3] 46 2 _ rfl
        have e14 : (wz.alloc (.cells #[.int .i64 z1, .int .i64 z2, .int .i64 z3] 46)).cell? ⟨N, 14, none⟩ = some (.int .i64 t.maj) := TBx.cell (HX.out _ HBS.out) 14 rfl
        have e12 : (wz.alloc (.cells #[.int .i64 z1, .int .i64 z2, .int .i64 z3] 46)).cell? ⟨N, 12, none⟩ = some (.int .i64 t.pad) := TBx.cell (HX.out _ HBS.out) 12 rfl
        have e13 : (wz.alloc (.cells #[.int .i64 z1, .int .i64 z2, .int .i64 z3] 46)).cell? ⟨N, 13, none⟩ = some (.int .i64 t.grd) := TBx.cell (HX.out _ HBS.out) 13 rfl
        obtain ⟨x, HXV⟩ : ∃ x, Hid (m0 - z2 = x) := ⟨_, rfl⟩
        obtain ⟨y, HYV⟩ : ∃ y, Hid (z3 - t.grd = y) := ⟨_, rfl⟩
        rw [HXV.out, HYV.out] at HHS
        have hwx : IntKind.i64.wrap (m0 - z2) = x := by rw [HXV.out, IntKind.wrap_i64]; have := HXV.out; omega
        have hwy : IntKind.i64.wrap (z3 - t.grd) = y := by rw [HYV.out, IntKind.wrap_i64]; have := HYV.out; omega
        have hmz : ¬ (t.maj = 0) := by omega
        have hwm : IntKind.i64.wrap m0 = m0 := by rw [IntKind.wrap_i64]; omega
        have htm := HTMOD.out
        have hem := HM0.out
        clear p1 hbl1 hsa hbS HBZ HH
        go_wp2
        clear k18 d0 d1 d2
        revert HBS q0 q1 q2 e14 e12 e13
        generalize wz.alloc (.cells #[.int .i64 z1, .int .i64 z2, .int .i64 z3] 46) = VZ
        generalize wz.heap.size = NZ
        intro HBS q0 q1 q2 e14 e12 e13
        have G1 := fun X => gr_cell q1 X
        have G2 := fun X => gr_cell e14 X
        have hgr := gr_some VZ
        refine region_alike (by kernel_rfl) (by kernel_rfl) ?_
        repeat (go_big_quiet_step (fail))
        refine wpQuiet_nil ?_
        intro _ hw'
        obtain ⟨X1, rfl⟩ := hw'
        have hX1 := X1.h
        have HBY : Hid (Below V.heap.size V X1.w) := HBS.out.trans (hX1.mono HBS.out.size)
        have r0 := kept_cell hX1 q0
        have r2 := kept_cell hX1 q2
        have r12 := kept_cell hX1 e12
        have r13 := kept_cell hX1 e13
        generalize X1.w = w7 at HBY r0 r2 r12 r13 ⊢
        try rw [htm]
        try rw [hem]
        try rw [hwm]
        try rw [hwx]
        clear G1 G2 hgr q0 q1 q2 e14 e12 e13 HBS hX1 htm hem hwm hmz hwx
        have hb1 : ∀ q : Prop, True := fun _ => trivial
        clear hb1
        by_cases h1 : z1 = p
        rotate_left
        · have h1b : (z1 == p) = false := by simp [h1]
          have HE : Hid (La.hitN t p m0 (i + 1) = r) := by show _ = _; rw [HHS.out]; simp [h1]
          clear HHS h1
          go_wp2
          go_roundw
          case rel => exact ⟨i + 1, r, by omega, rfl, by first | rfl | go_num, HE.out, HBY.out⟩
          case measure => simp [intOf]; omega
        have h1b : (z1 == p) = true := by simp [h1]
        by_cases h2 : t.pad ≤ x
        rotate_left
        · have h2b : decide (t.pad ≤ x) = false := decide_eq_false h2
          have h2c : ¬ x ≥ t.pad := h2
          have HE : Hid (La.hitN t p m0 (i + 1) = r) := by show _ = _; rw [HHS.out, h2b]; simp
          clear HHS h1
          go_wp2
          go_roundw
          case rel => exact ⟨i + 1, r, by omega, rfl, by first | rfl | go_num, HE.out, HBY.out⟩
          case measure => simp [intOf]; omega
        have h2b : decide (t.pad ≤ x) = true := decide_eq_true h2
        by_cases h3 : x < y
        rotate_left
        · have h3b : decide (x < y) = false := decide_eq_false h3
          have HE : Hid (La.hitN t p m0 (i + 1) = r) := by show _ = _; rw [HHS.out, h3b]; simp
          clear HHS h1
          go_wp2
          go_roundw
          case rel => exact ⟨i + 1, r, by omega, rfl, by first | rfl | go_num, HE.out, HBY.out⟩
          case measure => simp [intOf]; omega
        have h3b : decide (x < y) = true := decide_eq_true h3
        have HE : Hid (La.hitN t p m0 (i + 1) = true) := by show _ = _; rw [HHS.out, h2b, h3b]; simp [h1]
        clear HHS h1
        go_wp2
        go_roundw
        case rel => exact ⟨i + 1, true, by omega, rfl, by first | rfl | go_num, HE.out, HBY.out⟩
        case measure => simp [intOf]; omega
end Go.Proofs.YtmgopppgckgglaaGreatDoor
