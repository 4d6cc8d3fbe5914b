
/-
  The cycles that the spans of a list have with a part and a phase, on plain numbers; the specification and the program tell the same. Conditions: lists are at most as long as 64 bits count.
-/
import Derived.Test.YtphdijkpjjokaaaGreatDoorBas
import Derived.Test.YtphdijkpjjokaaaGreatDoorSps
import Derived.Test.YtphdijkpjjokaaaGreatDoorTia
namespace Go.Proofs.YtphdijkpjjokaaaGreatDoor
open Go.ChangeShapes Go.WideShapes Go.ChangeAt Go.RowKit Go.Deep Go.Joins
set_option linter.unusedVariables false

def saIn (p q : Int) (x : saT) : Prop := x.2.2.1 = p ∧ x.2.2.2 = q ∧ 0 ≤ x.1 ∧ x.1 ≤ x.2.1 ∧ x.2.1 ≤ 50000
instance (p q : Int) (x : saT) : Decidable (saIn p q x) := by unfold saIn; infer_instance
def smN (xs : List saT) (p q : Int) : Nat → Int
  | 0 => 0
  | m + 1 => if saIn p q (xs.getD m sa0) then smN xs p q m + (xs.getD m sa0).2.1 - (xs.getD m sa0).1 else smN xs p q m
def smV (xs : List saT) (p q : Int) (n : Nat) : Int := if n ≤ 5000 then smN xs p q n else 0
theorem sm_yes {xs : List saT} {p q : Int} {m : Nat} {x : saT} {v : Int} (hx : xs.getD m sa0 = x) (hv : v = smN xs p q m) (h : saIn p q x) : v + x.2.1 - x.1 = smN xs p q (m + 1) := by
  rw [smN, hx, ← hv, if_pos h]
theorem sm_no {xs : List saT} {p q : Int} {m : Nat} {x : saT} {v : Int} (hx : xs.getD m sa0 = x) (hv : v = smN xs p q m) (h : ¬ saIn p q x) : v = smN xs p q (m + 1) := by
  rw [smN, hx, ← hv, if_neg h]
theorem is_within (x1 x2 x3 x4 : Int) (w : World) : Calls Tryz.prog 75 #[.agg #[.int .i64 x1, .int .i64 x2, .int .i64 x3, .int .i64 x4]] w fun e w' => e = .returned (.bool (inr x1 0 50000 && inr x2 0 50000)) ∧ Below w.heap.size w w' := by
  have HF : Hid (∀ (x : Int) (X : World), Calls Tryz.prog 62 #[.int .i64 x] X fun e w' => e = .returned (.bool (inr x 0 50000)) ∧ w' = X) := is_cyc
  by_cases h1 : 0 ≤ x1 ∧ x1 ≤ 50000
  rotate_left
  · have k1 := inr_no h1
    rw [k1, Bool.false_and]
    clear h1
    go_enter Tryz.func75, Tryz.ntmps75
    go_wp2_with (first | (go_at_call 62; refine (HF.out _ _).mono ?_; rintro u w1 ⟨rfl, rfl⟩; rw [k1]))
    go_ret
    exact ⟨rfl, (Below.refl _ _).alloc (Nat.le_refl _) _⟩
  have k1 := inr_yes h1
  obtain ⟨q2, k2⟩ : ∃ q, inr x2 0 50000 = q := ⟨_, rfl⟩
  rw [k1, k2, Bool.true_and]
  clear h1
  go_enter Tryz.func75, Tryz.ntmps75
  go_wp2_with (first | (go_at_call 62; refine (HF.out _ _).mono ?_; rintro u w1 ⟨rfl, rfl⟩; first | rw [k1] | rw [k2]))
  go_ret
  exact ⟨rfl, (Below.refl _ _).alloc (Nat.le_refl _) _⟩
end Go.Proofs.YtphdijkpjjokaaaGreatDoor
