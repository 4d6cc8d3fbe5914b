
/-
  Pages that were seen, and pages that a table knows: plain facts on lists. No function of the program in sight; no conditions but those that each fact names.
-/
import Derived.Test.YtdjfijkgmeapdaaProg
import Derived.Test.YtdjfijkgmeapdaaTri
import Derived.Test.YtdjfijkgmeapdaaTho
namespace Go.Proofs.Ytdjfijkgmeapdaa
open Go.ChangeShapes Go.WideShapes Go.ChangeAt Go.RowKit Go.Deep
set_option linter.unusedVariables false

/-- The pages of the first k addresses, each once, in their order. -/
def seenT (zs : List Int) : Nat → List Int
  | 0 => []
  | k + 1 => if pgZ zs k ∈ seenT zs k then seenT zs k else seenT zs k ++ [pgZ zs k]
theorem seen_yes {zs : List Int} {k : Nat} (h : pgZ zs k ∈ seenT zs k) : seenT zs (k + 1) = seenT zs k := by
  show (if _ then _ else _) = _
  rw [if_pos h]
theorem seen_no {zs : List Int} {k : Nat} (h : ¬ pgZ zs k ∈ seenT zs k) : seenT zs (k + 1) = seenT zs k ++ [pgZ zs k] := by
  show (if _ then _ else _) = _
  rw [if_neg h]
theorem seen_len (zs : List Int) (k : Nat) : (seenT zs k).length ≤ k := by
  induction k with
  | zero => exact Nat.le_refl _
  | succ k ih =>
    by_cases h : pgZ zs k ∈ seenT zs k
    · rw [seen_yes h]; omega
    · rw [seen_no h]; simp; omega
theorem mem_use {s : Int} {L : List Int} {x y : Int} (h : y ∈ useU s L x) : y ∈ L ∨ y = x := by
  unfold useU at h
  split at h
  · exact .inl h
  · unfold pushU at h
    rw [List.mem_append] at h
    rcases h with h | h
    · split at h
      · exact .inl (List.mem_of_mem_drop h)
      · exact .inl h
    · exact .inr (by simpa using h)
theorem run_sub (s : Int) (zs : List Int) (k : Nat) : ∀ x ∈ runT s zs k, x ∈ seenT zs k := by
  induction k with
  | zero => intro x h; simp [runT] at h
  | succ k ih =>
    intro x h
    have h2 : x ∈ useU s (runT s zs k) (pgZ zs k) := h
    by_cases hs : pgZ zs k ∈ seenT zs k
    · rw [seen_yes hs]
      rcases mem_use h2 with g | g
      · exact ih x g
      · rw [g]; exact hs
    · rw [seen_no hs, List.mem_append]
      rcases mem_use h2 with g | g
      · exact .inl (ih x g)
      · exact .inr (by simp [g])
theorem run_all (s : Int) (zs : List Int) (k : Nat) : ((seenT zs k).length : Int) ≤ s → runT s zs k = seenT zs k := by
  induction k with
  | zero => intro _; rfl
  | succ k ih =>
    intro h
    by_cases hs : pgZ zs k ∈ seenT zs k
    · rw [seen_yes hs] at h ⊢
      have e := ih h
      show useU s (runT s zs k) (pgZ zs k) = _
      rw [e]
      unfold useU
      rw [if_pos hs]
    · rw [seen_no hs] at h ⊢
      rw [List.length_append, List.length_singleton] at h
      have e := ih (by omega)
      show useU s (runT s zs k) (pgZ zs k) = _
      rw [e]
      unfold useU pushU
      rw [if_neg hs, if_neg (by omega)]
theorem ok_of {s : Int} {L : List Int} (h1 : inr s 1 8 = true) (h2 : (L.length : Int) ≤ s) (h3 : L.Nodup) (h4 : ∀ x ∈ L, 0 ≤ x ∧ x ≤ 1023) : TlbOkP s L := by
  have hg : ∀ i (hi : i < L.length), L.getD i 0 = L[i] := fun i hi => by simp [List.getD, hi]
  refine ⟨h1, h2, fun i hi => ⟨?_, fun k hk e => ?_⟩⟩
  · rw [hg i hi]
    exact h4 _ (List.getElem_mem hi)
  · rw [hg i hi, hg k (by omega)] at e
    exact (List.pairwise_iff_getElem.1 h3) k i (by omega) hi hk e
theorem run_good {s : Int} {zs : List Int} {n : Nat} (hs : inr s 1 8 = true) (hz : ∀ i, i < n → inr (zs.getD i 0) 0 65535 = true) : ∀ k, k ≤ n → (runT s zs k).Nodup ∧ (∀ x ∈ runT s zs k, 0 ≤ x ∧ x ≤ 1023) ∧ ((runT s zs k).length : Int) ≤ s := by
  intro k
  induction k with
  | zero =>
    intro _
    have := of_inr hs
    exact ⟨List.nodup_nil, fun x h => by simp [runT] at h, by simp [runT]; omega⟩
  | succ k ih =>
    intro hk
    obtain ⟨g1, g2, g3⟩ := ih (by omega)
    have hp := of_inr (hz k (by omega))
    have hpg : 0 ≤ pgZ zs k ∧ pgZ zs k ≤ 1023 := by unfold pgZ; omega
    have hs1 := of_inr hs
    show (useU s (runT s zs k) (pgZ zs k)).Nodup ∧ (∀ x ∈ useU s (runT s zs k) (pgZ zs k), 0 ≤ x ∧ x ≤ 1023) ∧ ((useU s (runT s zs k) (pgZ zs k)).length : Int) ≤ s
    refine ⟨?_, fun x hx => ?_, ?_⟩
    · unfold useU
      split
      · exact g1
      · rename_i hn
        unfold pushU
        rw [List.nodup_append]
        refine ⟨?_, by simp, fun a ha b hb => ?_⟩
        · split
          · exact g1.sublist (List.drop_sublist _ _)
          · exact g1
        · simp at hb
          subst hb
          intro e
          subst e
          split at ha
          · exact hn (List.mem_of_mem_drop ha)
          · exact hn ha
    · rcases mem_use hx with h | h
      · exact g2 x h
      · rw [h]; exact hpg
    · unfold useU
      split
      · exact g3
      · unfold pushU
        rw [List.length_append, List.length_singleton]
        split
        · rw [List.length_drop]; omega
        · omega
theorem run_ok {s : Int} {zs : List Int} {n : Nat} (hs : inr s 1 8 = true) (hz : ∀ i, i < n → inr (zs.getD i 0) 0 65535 = true) (k : Nat) (hk : k ≤ n) : TlbOkP s (runT s zs k) := by
  obtain ⟨g1, g2, g3⟩ := run_good hs hz k hk
  exact ok_of hs g3 g1 g2
theorem use_has (s : Int) (L : List Int) (x : Int) : x ∈ useU s L x := by
  unfold useU
  split
  · assumption
  · unfold pushU; simp
theorem use_same {s : Int} {L : List Int} {x : Int} (h : L.contains x = true) : useU s L x = L := by
  unfold useU
  rw [if_pos (by simpa using h)]
theorem pgN (zs : List Int) (k : Nat) : pgZ zs k = pageN (zs.getD k 0) := rfl
end Go.Proofs.Ytdjfijkgmeapdaa
