
/-
  PermText and PermOf of both sides, as plain functions of their argument.
-/
import Derived.Test.YtmibfajjgdndbaaBas
import Derived.Test.YtmibfajjgdndbaaRows
import Derived.WalkKit
import Derived.LoopN
import Derived.ProofKit
import Derived.OpenShut
import Derived.Below
namespace Go.Proofs.Ytmibfajjgdndbaa
open Go.ChangeShapes Go.WideShapes Go.ChangeAt Go.RowKit
set_option linter.unusedVariables false

/-- the text of a number of kinds -/
def pt (p : Int) : ByteArray :=
  if p = 1 then ⟨#[114]⟩ else if p = 2 then ⟨#[119]⟩ else if p = 3 then ⟨#[114, 119]⟩ else if p = 4 then ⟨#[120]⟩
  else if p = 5 then ⟨#[114, 120]⟩ else if p = 6 then ⟨#[119, 120]⟩ else if p = 7 then ⟨#[114, 119, 120]⟩ else ⟨#[]⟩

theorem spec_in (x a b : Int) (w : World) :
    Calls Try.prog 9 #[.int .i64 x, .int .i64 a, .int .i64 b] w fun e w' => e = .returned (.bool (decide (a ≤ x ∧ x ≤ b))) ∧ w' = w := by
  go_enter Try.func9, Try.ntmps9
  by_cases h1 : a ≤ x <;> by_cases h2 : x ≤ b
  all_goals
    go_wp2
    go_ret
    simp [h1, h2]

theorem impl_isperm (x : Int) (w : World) :
    Calls Try.prog 10 #[.int .i64 x] w fun e w' => e = .returned (.bool (decide (1 ≤ x ∧ x ≤ 7))) ∧ w' = w := by
  go_enter Try.func10, Try.ntmps10
  by_cases h1 : 1 ≤ x <;> by_cases h2 : x ≤ 7
  all_goals
    go_wp2
    go_ret
    simp [h1, h2]

theorem seven {p : Int} (h1 : 1 ≤ p) (h2 : p ≤ 7) : p = 1 ∨ p = 2 ∨ p = 3 ∨ p = 4 ∨ p = 5 ∨ p = 6 ∨ p = 7 := by omega

theorem pt_out {p : Int} (h : ¬ (1 ≤ p ∧ p ≤ 7)) : pt p = ⟨#[]⟩ := by
  unfold pt
  repeat rw [if_neg (by omega)]

theorem spec_pt (p : Int) (w : World) :
    Calls Try.prog 5 #[.int .i64 p] w fun e w' => e = .returned (.string (pt p)) ∧ w' = w := by
  by_cases h : 1 ≤ p ∧ p ≤ 7
  · obtain ⟨h1, h2⟩ := h
    rcases seven h1 h2 with rfl | rfl | rfl | rfl | rfl | rfl | rfl
    all_goals
      clear h1 h2
      go_enter Try.func5, Try.ntmps5
      go_wp2_with fail
      refine (spec_in _ _ _ _).mono ?_
      rintro e w1 ⟨rfl, rfl⟩
      go_wp2
      go_ret
      exact ⟨rfl, rfl⟩
  · rw [pt_out h]
    have hd : decide (1 ≤ p ∧ p ≤ 7) = false := by simp only [h, decide_false]
    go_enter Try.func5, Try.ntmps5
    go_wp2_with fail
    refine (spec_in _ _ _ _).mono ?_
    rw [hd]
    rintro e w1 ⟨rfl, rfl⟩
    go_wp2
    go_ret
    exact ⟨rfl, rfl⟩

theorem impl_pt (p : Int) (w : World) :
    Calls Try.prog 6 #[.int .i64 p] w fun e w' => e = .returned (.string (pt p)) ∧ w' = w := by
  by_cases h : 1 ≤ p ∧ p ≤ 7
  · obtain ⟨h1, h2⟩ := h
    rcases seven h1 h2 with rfl | rfl | rfl | rfl | rfl | rfl | rfl
    all_goals
      clear h1 h2
      go_enter Try.func6, Try.ntmps6
      go_wp2_with fail
      refine (impl_isperm _ _).mono ?_
      rintro e w1 ⟨rfl, rfl⟩
      go_wp2
      refine wp_loop_rounds 4 ?_
      rw [rounds_succ]; go_wp2
      rw [rounds_succ]; go_wp2
      rw [rounds_succ]; go_wp2
      rw [rounds_succ]; go_wp2
      go_ret
      exact ⟨rfl, rfl⟩
  · rw [pt_out h]
    have hd : decide (1 ≤ p ∧ p ≤ 7) = false := by simp only [h, decide_false]
    go_enter Try.func6, Try.ntmps6
    go_wp2_with fail
    refine (impl_isperm _ _).mono ?_
    rw [hd]
    rintro e w1 ⟨rfl, rfl⟩
    go_wp2
    go_ret
    exact ⟨rfl, rfl⟩

end Go.Proofs.Ytmibfajjgdndbaa
