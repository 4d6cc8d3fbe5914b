
/-
  Events on plain numbers: whether one is timed, how many have ended at a cycle, what they cost; the specification and the program tell the same. Conditions: lists are at most as long as 64 bits count.
-/
import Derived.Test.YtiheojmknhgjfaaGreatDoorBas
import Derived.Test.YtiheojmknhgjfaaGreatDoorEvs
namespace Go.Proofs.YtiheojmknhgjfaaGreatDoor
open Go.ChangeShapes Go.WideShapes Go.ChangeAt Go.RowKit Go.Deep Go.Joins
set_option linter.unusedVariables false

def evFit (x : evT) : Bool := inr x.1 0 50000 && inr x.2.1 0 50000
def evRet (c : Int) (x : evT) : Bool := evFit x && decide (x.1 + x.2.1 ≤ c)
def retN (xs : List evT) (c : Int) : Nat → Nat
  | 0 => 0
  | m + 1 => retN xs c m + (if evRet c (xs.getD m ev0) then 1 else 0)
def busN (xs : List evT) : Nat → Int
  | 0 => 0
  | m + 1 => busN xs m + (if inr (xs.getD m ev0).2.1 0 50000 then (xs.getD m ev0).2.1 else 0)
def retV (xs : List evT) (c : Int) (n : Nat) : Int := if n ≤ 50000 then (retN xs c n : Int) else 0
def busV (xs : List evT) (n : Nat) : Int := if n ≤ 50000 then busN xs n else 0
theorem retN_le (xs : List evT) (c : Int) (m : Nat) : retN xs c m ≤ m := by
  induction m with
  | zero => exact Nat.le_refl _
  | succ m ih => unfold retN; split <;> omega
theorem busN_le (xs : List evT) (m : Nat) : 0 ≤ busN xs m ∧ busN xs m ≤ 50000 * (m : Int) := by
  induction m with
  | zero => exact ⟨Int.le_refl _, by simp [busN]⟩
  | succ m ih =>
    unfold busN
    by_cases h : inr (xs.getD m ev0).2.1 0 50000 = true
    · rw [if_pos h]
      have := of_inr h
      omega
    · rw [if_neg h]
      omega
theorem ev_cyc (x : Int) (w : World) : Calls Tryz.prog 33 #[.int .i64 x] w fun e w' => e = .returned (.bool (inr x 0 50000)) ∧ w' = w := by
  by_cases h1 : 0 ≤ x
  · by_cases h2 : x ≤ 50000
    · rw [inr_yes ⟨h1, h2⟩]
      go_enter Tryz.func33, Tryz.ntmps33
      go_wp2
      go_ret
      exact ⟨rfl, rfl⟩
    · rw [inr_no (fun h => h2 h.2)]
      go_enter Tryz.func33, Tryz.ntmps33
      go_wp2
      go_ret
      exact ⟨rfl, rfl⟩
  · rw [inr_no (fun h => h1 h.1)]
    go_enter Tryz.func33, Tryz.ntmps33
    go_wp2
    go_ret
    exact ⟨rfl, rfl⟩
theorem impl_evend (x : evT) (w : World) : Calls Tryz.prog 54 #[evV x] w fun e w' => e = .returned (.int .i64 (wrap64 (x.1 + x.2.1))) ∧ Below w.heap.size w w' := by
  obtain ⟨x1, x2, x3, x4, x5, x6, x7⟩ := x
  simp only [evV]
  have HB : Hid (Below w.heap.size w (w.alloc (.cells #[.int .i64 x1, .int .i64 x2, .int .u32 x3, .int .i64 x4, .int .i64 x5, .int .i64 x6, .int .u32 x7] 89))) := (Below.refl _ w).alloc (Nat.le_refl _) _
  go_enter Tryz.func54, Tryz.ntmps54
  go_wp2
  go_ret
  exact ⟨rfl, HB.out⟩
end Go.Proofs.YtiheojmknhgjfaaGreatDoor
