
/-
  Cycles a frame apart, phases and the next switch, in numbers. No function of the program in sight; the condition is that the tables are sound.
-/
import Derived.Test.YtgfinojlmbfkdaaGreatDoorBas
import Derived.Test.YtgfinojlmbfkdaaGreatDoorTiu
import Derived.Test.YtgfinojlmbfkdaaGreatDoorTin
import Derived.Test.YtgfinojlmbfkdaaGreatDoorTir
namespace Go.Proofs.YtgfinojlmbfkdaaGreatDoor
open Go.ChangeShapes Go.WideShapes Go.ChangeAt Go.RowKit Go.Deep Go.Joins
set_option linter.unusedVariables false

theorem tn_ex {t : Tb} (h : Tm t) (c : Int) : ∃ (i : Nat) (r : Int), TN t c i r := by
  have hl : ∀ n, n ≤ t.ss.length → (∃ i, i < n ∧ c % t.maj ≤ (t.ss.getD i sl0).2.1 ∧ ∀ k, k < i → ¬ c % t.maj ≤ (t.ss.getD k sl0).2.1) ∨ ∀ k, k < n → ¬ c % t.maj ≤ (t.ss.getD k sl0).2.1 := by
    intro n
    induction n with
    | zero => intro _; exact .inr (fun k hk => absurd hk (by omega))
    | succ n ih =>
      intro hn
      rcases ih (by omega) with ⟨i, hi, h1, h2⟩ | hno
      · exact .inl ⟨i, by omega, h1, h2⟩
      · by_cases q : c % t.maj ≤ (t.ss.getD n sl0).2.1
        · exact .inl ⟨n, by omega, q, hno⟩
        · refine .inr (fun k hk => ?_)
          by_cases e : k = n
          · subst e; exact q
          · exact hno k (by omega)
  rcases hl t.ss.length (Nat.le_refl _) with ⟨i, hi, h1, h2⟩ | hno
  · refine ⟨i, _, next_here h hi (fun k hk => ⟨fun g => ?_, fun g => ?_⟩)⟩
    · by_cases e : i ≤ k
      · exact e
      · exact absurd g (h2 k (by omega))
    · have := st_le h g hk
      omega
  · exact ⟨0, _, next_later h hno⟩
theorem nx_tn {t : Tb} (h : Tm t) {c n : Int} (hn : NX t c n) : ∃ i, TN t c i n := by
  obtain ⟨i, r, hr⟩ := tn_ex h c
  have e : r = n := NX.unique hr.2.2.1 hn
  subst e
  exact ⟨i, hr⟩
theorem frame_later {m c : Int} (hm : 1 ≤ m) : (c + m) % m = c % m ∧ (c + m) / m = c / m + 1 := by
  refine ⟨by simp, ?_⟩
  exact Int.add_ediv_of_dvd_right (Int.dvd_refl _) |>.trans (by rw [Int.ediv_self (by omega)])
/-- What is so at a place: free, or in a slot and in one of its phases. -/
theorem cyc_cases {t : Tb} (h : Tm t) (p : Int) : (slotV t p = -1 ∧ phaseV t p = 0 ∧ holdV t p = -1 ∧ begV t p = -1) ∨ ∃ i : Nat, i < t.ss.length ∧ slotV t p = (i : Int) ∧ 0 ≤ (t.ss.getD i sl0).1 ∧ ((phaseV t p = 1 ∧ holdV t p = -1 ∧ begV t p = -1) ∨ (phaseV t p = 2 ∧ holdV t p = (t.ss.getD i sl0).1 ∧ begV t p = (t.ss.getD i sl0).1) ∨ (phaseV t p = 3 ∧ holdV t p = (t.ss.getD i sl0).1 ∧ begV t p = -1)) := by
  rcases slotV_cases t p with ⟨hs, _⟩ | ⟨i, hi, hs, _⟩
  · have hp := phaseV_free hs
    exact .inl ⟨hs, hp, by unfold holdV; rw [if_neg (by omega)], by unfold begV; rw [if_neg (by omega)]⟩
  · refine .inr ⟨i, hi, hs, (h.pt i hi).1, ?_⟩
    have ht : (slotV t p).toNat = i := by rw [hs]; simp
    have hp := phaseV_at hs
    by_cases q1 : p - (t.ss.getD i sl0).2.1 < t.pad
    · rw [if_pos q1] at hp
      exact .inl ⟨hp, by unfold holdV; rw [if_neg (by omega)], by unfold begV; rw [if_neg (by omega)]⟩
    · rw [if_neg q1] at hp
      by_cases q2 : (t.ss.getD i sl0).2.2 - t.grd ≤ p - (t.ss.getD i sl0).2.1
      · rw [if_pos q2] at hp
        exact .inr (.inr ⟨hp, by unfold holdV; rw [if_pos (by omega), ht], by unfold begV; rw [if_neg (by omega)]⟩)
      · rw [if_neg q2] at hp
        exact .inr (.inl ⟨hp, by unfold holdV; rw [if_pos (by omega), ht], by unfold begV; rw [if_pos hp, ht]⟩)
/-- At the first cycle of a slot. -/
theorem tn_facts {t : Tb} (h : Tm t) {c n : Int} {i : Nat} (hT : TN t c i n) : slotV t (n % t.maj) = (i : Int) ∧ phaseV t (n % t.maj) = 1 ∧ NX t n n ∧ c ≤ n ∧ n ≤ c + t.maj ∧ stL t (t.ss.getD i sl0).1 c (n + 1 - c).toNat = [n] := by
  obtain ⟨hi, he, hnx, hle⟩ := hT
  have h1 := h.ln i hi
  have h2 := h.pad1
  have h3 := h.grd1
  have hs := slotV_at h hi (p := n % t.maj) ⟨by omega, by omega⟩
  have hp := phaseV_at hs
  rw [if_pos (by omega)] at hp
  refine ⟨hs, hp, ⟨Int.le_refl _, hnx.2.1, fun d hd hdr => absurd hd (by omega)⟩, hnx.1, hle, ?_⟩
  have := stL_hit h (x := (t.ss.getD i sl0).1) (c := c) (h.pt i hi).1 (⟨hi, he, hnx, hle⟩ : TN t c i n) (Int.le_refl _)
  rw [this, if_pos rfl]
  have e : (c - c).toNat = 0 := by simp
  rw [e]
  rfl
end Go.Proofs.YtgfinojlmbfkdaaGreatDoor
