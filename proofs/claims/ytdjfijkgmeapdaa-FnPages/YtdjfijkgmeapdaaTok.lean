
/-
  Whether a table of pages is right: the specification's and the program's own functions answer alike. Conditions: the pages read as integers, at most 1048576 of them.
-/
import Derived.Test.YtdjfijkgmeapdaaProg
import Derived.Test.YtdjfijkgmeapdaaTin
import Derived.Deep.QuietTactic
import Derived.BigQuiet
namespace Go.Proofs.Ytdjfijkgmeapdaa
open Go.ChangeShapes Go.WideShapes Go.ChangeAt Go.RowKit Go.Deep
set_option linter.unusedVariables false

def inr (x lo hi : Int) : Bool := decide (lo ≤ x) && decide (x ≤ hi)
theorem inr_yes {x lo hi : Int} (h : lo ≤ x ∧ x ≤ hi) : inr x lo hi = true := by simp [inr, h.1, h.2]
theorem inr_no {x lo hi : Int} (h : ¬ (lo ≤ x ∧ x ≤ hi)) : inr x lo hi = false := by
  unfold inr; rw [← Bool.decide_and]; exact decide_eq_false h
theorem of_inr {x lo hi : Int} (h : inr x lo hi = true) : lo ≤ x ∧ x ≤ hi := by
  unfold inr at h; rw [← Bool.decide_and] at h; exact of_decide_eq_true h
theorem in_any (x a b : Int) (w : World) : Calls Try.prog 23 #[.int .i64 x, .int .i64 a, .int .i64 b] w fun e w' => e = .returned (.bool (inr x a b)) ∧ w' = w := by
  by_cases h1 : a ≤ x
  · by_cases h2 : x ≤ b
    · rw [inr_yes ⟨h1, h2⟩]
      go_enter Try.func23, Try.ntmps23
      go_wp2
      go_ret
      exact ⟨rfl, rfl⟩
    · rw [inr_no (fun g => h2 g.2)]
      go_enter Try.func23, Try.ntmps23
      go_wp2
      go_ret
      exact ⟨rfl, rfl⟩
  · rw [inr_no (fun g => h1 g.1)]
    go_enter Try.func23, Try.ntmps23
    go_wp2
    go_ret
    exact ⟨rfl, rfl⟩
theorem told (P : Prop) : ∃ q : Bool, q = true ↔ P := by
  by_cases h : P
  · exact ⟨true, by simp [h]⟩
  · exact ⟨false, by simp [h]⟩
theorem told_no {P : Prop} {q : Bool} (hq : q = true ↔ P) (h : ¬ P) : false = q := by
  cases q
  · rfl
  · exact absurd (hq.1 rfl) h
theorem told_yes {P : Prop} {q : Bool} (hq : q = true ↔ P) (h : P) : true = q := (hq.2 h).symm
theorem size_any (x : Int) (w : World) : Calls Try.prog 18 #[.int .i64 x] w fun e w' => e = .returned (.bool (inr x 1 8)) ∧ w' = w := by
  by_cases h1 : 1 ≤ x
  · by_cases h2 : x ≤ 8
    · rw [inr_yes ⟨h1, h2⟩]
      go_enter Try.func18, Try.ntmps18
      go_wp2
      go_ret
      exact ⟨rfl, rfl⟩
    · rw [inr_no (fun g => h2 g.2)]
      go_enter Try.func18, Try.ntmps18
      go_wp2
      go_ret
      exact ⟨rfl, rfl⟩
  · rw [inr_no (fun g => h1 g.1)]
    go_enter Try.func18, Try.ntmps18
    go_wp2
    go_ret
    exact ⟨rfl, rfl⟩
def pgGood (zs : List Int) (i : Nat) : Prop := (0 ≤ zs.getD i 0 ∧ zs.getD i 0 ≤ 1023) ∧ ∀ k, k < i → zs.getD k 0 ≠ zs.getD i 0
def TlbOkP (s : Int) (zs : List Int) : Prop := inr s 1 8 = true ∧ (zs.length : Int) ≤ s ∧ ∀ i, i < zs.length → pgGood zs i
end Go.Proofs.Ytdjfijkgmeapdaa
