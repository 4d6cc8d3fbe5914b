
/-
  Health, right or not: both sides. No conditions.
-/
import Derived.Test.YtknipnenipdgiaaGreatDoorProg
import Derived.Test.YtknipnenipdgiaaGreatDoorBas
import Derived.Test.YtknipnenipdgiaaGreatDoorVha
import Derived.WalkKit
import Derived.Deep.QuietTactic
import Derived.Deep.RegionWith
import Derived.BigQuiet
import Derived.Handy
import Derived.Deep.RegionHeld3
import Derived.Deep.RegionHeldLaw
import Derived.Lib.SmallJoins
import Derived.Below
import Derived.ProofKit
import Derived.OpenShut

namespace Go.Proofs.YtknipnenipdgiaaGreatDoor
open Go.ChangeShapes Go.WideShapes Go.ChangeAt Go.RowKit Go.Deep Go.Joins
set_option linter.unusedVariables false
namespace Hq
theorem is_count (x : Int) (w : World) : Calls Tryz.prog 139 #[.int .i64 x] w fun e w' => e = .returned (.bool (inr x 0 1000000000)) ∧ w' = w := by
  by_cases h1 : 0 ≤ x
  · by_cases h2 : x ≤ 1000000000
    · rw [inr_yes ⟨h1, h2⟩]
      go_enter Tryz.func139, Tryz.ntmps139
      go_wp2
      go_ret
      exact ⟨rfl, rfl⟩
    · rw [inr_no (fun g => h2 g.2)]
      go_enter Tryz.func139, Tryz.ntmps139
      go_wp2
      go_ret
      exact ⟨rfl, rfl⟩
  · rw [inr_no (fun g => h1 g.1)]
    go_enter Tryz.func139, Tryz.ntmps139
    go_wp2
    go_ret
    exact ⟨rfl, rfl⟩
theorem is_fault (x : Int) (w : World) : Calls Tryz.prog 140 #[.int .i64 x] w fun e w' => e = .returned (.bool (inr x 1 9)) ∧ w' = w := by
  by_cases h1 : x > 0
  · by_cases h2 : x ≤ 9
    · rw [inr_yes ⟨by omega, h2⟩]
      go_enter Tryz.func140, Tryz.ntmps140
      go_wp2
      go_ret
      exact ⟨rfl, rfl⟩
    · rw [inr_no (fun g => h2 g.2)]
      go_enter Tryz.func140, Tryz.ntmps140
      go_wp2
      go_ret
      exact ⟨rfl, rfl⟩
  · rw [inr_no (fun g => h1 (by omega))]
    go_enter Tryz.func140, Tryz.ntmps140
    go_wp2
    go_ret
    exact ⟨rfl, rfl⟩
def hltOk (f r l : Int) : Bool := inr f 0 1000000000 && (inr r 0 1000000000 && inr l 0 9)
set_option maxHeartbeats 400000 in
theorem spec_hok (f r l : Int) (h : Bool) (w : World) : Calls Tryz.prog 43 #[hlt f r l h] w fun e w' => e = .returned (.bool (hltOk f r l)) ∧ Below w.heap.size w w' := by
  have hb := (Below.refl _ w).alloc (Nat.le_refl _) (.cells (hrow f r l h) 64)
  have A := fun x y z w => in_any x y z w
  unfold hltOk
  generalize HA : inr f 0 1000000000 = qa
  generalize HB : inr r 0 1000000000 = qb
  generalize HC : inr l 0 9 = qc
  have A0 : Hid (∀ w, Calls Tryz.prog 46 #[.int .i64 f, .int .i64 0, .int .i64 1000000000] w fun e w' => e = .returned (.bool qa) ∧ w' = w) := fun w => by rw [← HA]; exact in_any _ _ _ w
  have A1 : Hid (∀ w, Calls Tryz.prog 46 #[.int .i64 r, .int .i64 0, .int .i64 1000000000] w fun e w' => e = .returned (.bool qb) ∧ w' = w) := fun w => by rw [← HB]; exact in_any _ _ _ w
  have A2 : Hid (∀ w, Calls Tryz.prog 46 #[.int .i64 l, .int .i64 0, .int .i64 9] w fun e w' => e = .returned (.bool qc) ∧ w' = w) := fun w => by rw [← HC]; exact in_any _ _ _ w
  clear HA HB HC A
  go_enter Tryz.func43, Tryz.ntmps43
  go_wp2_with fail
  refine (A0.out _).mono ?_
  rintro x w1 ⟨rfl, rfl⟩
  cases qa
  · go_wp2
    go_ret
    exact ⟨rfl, hb⟩
  go_wp2_with fail
  refine (A1.out _).mono ?_
  rintro x w1 ⟨rfl, rfl⟩
  cases qb
  · go_wp2
    go_ret
    exact ⟨rfl, hb⟩
  go_wp2_with fail
  refine (A2.out _).mono ?_
  rintro x w1 ⟨rfl, rfl⟩
  go_wp2
  go_ret
  exact ⟨rfl, hb⟩
theorem last_eq (l : Int) (h : (l == 0) = false) : inr l 0 9 = inr l 1 9 := by
  have : ¬ l = 0 := by simpa using h
  by_cases g : 1 ≤ l ∧ l ≤ 9
  · rw [inr_yes g, inr_yes ⟨by omega, g.2⟩]
  · rw [inr_no g, inr_no (by omega)]
set_option maxHeartbeats 400000 in
theorem impl_hok (f r l : Int) (h : Bool) (w : World) : Calls Tryz.prog 64 #[hlt f r l h] w fun e w' => e = .returned (.bool (hltOk f r l)) ∧ Below w.heap.size w w' := by
  have hb := (Below.refl _ w).alloc (Nat.le_refl _) (.cells (hrow f r l h) 64)
  unfold hltOk
  have HL : Hid ((l == 0) = true → inr l 0 9 = true) := fun h => by
    have : l = 0 := by simpa using h
    rw [this]; rfl
  have HM : Hid ((l == 0) = false → inr l 0 9 = inr l 1 9) := last_eq l
  generalize HA : inr f 0 1000000000 = qa
  generalize HB : inr r 0 1000000000 = qb
  have A0 : Hid (∀ w, Calls Tryz.prog 139 #[.int .i64 f] w fun e w' => e = .returned (.bool qa) ∧ w' = w) := fun w => by rw [← HA]; exact is_count _ w
  have A1 : Hid (∀ w, Calls Tryz.prog 139 #[.int .i64 r] w fun e w' => e = .returned (.bool qb) ∧ w' = w) := fun w => by rw [← HB]; exact is_count _ w
  clear HA HB
  cases h0 : (l == 0)
  all_goals
    first | rw [HM.out h0] | rw [HL.out h0]
    clear HM HL
    go_enter Tryz.func64, Tryz.ntmps64
    go_wp2_with fail
    refine (A0.out _).mono ?_
    rintro x w1 ⟨rfl, rfl⟩
    cases qa
    · go_wp2
      go_ret
      exact ⟨rfl, hb⟩
    go_wp2_with fail
    refine (A1.out _).mono ?_
    rintro x w1 ⟨rfl, rfl⟩
    cases qb
    · go_wp2
      go_ret
      exact ⟨rfl, hb⟩
    first
    | (go_wp2_with fail
       refine (is_fault l _).mono ?_
       rintro x w1 ⟨rfl, rfl⟩
       go_wp2
       go_ret
       exact ⟨rfl, hb⟩)
    | (go_wp2
       go_ret
       exact ⟨rfl, hb⟩)
end Hq
end Go.Proofs.YtknipnenipdgiaaGreatDoor
