
/-
  Right policies and right health, the specification's and the program's own: the same answer at every argument. No conditions.
-/
import Derived.Test.YtnjjjcmomjcmfaaRows
import Derived.Test.YtnjjjcmomjcmfaaHlt
import Derived.WalkKit
import Derived.Deep.QuietTactic
import Derived.Deep.RegionWith
import Derived.BigQuiet
import Derived.Handy
import Derived.Deep.RegionHeld3
namespace Go.Proofs.Ytnjjjcmomjcmfaa
open Go.ChangeShapes Go.WideShapes Go.ChangeAt Go.RowKit
set_option linter.unusedVariables false

def inr (x lo hi : Int) : Bool := decide (lo ≤ x) && decide (x ≤ hi)
theorem inr_yes {x lo hi : Int} (h : lo ≤ x ∧ x ≤ hi) : inr x lo hi = true := by simp [inr, h.1, h.2]
theorem inr_no {x lo hi : Int} (h : ¬ (lo ≤ x ∧ x ≤ hi)) : inr x lo hi = false := by
  unfold inr; rw [← Bool.decide_and]; exact decide_eq_false h
theorem inr_iff {x lo hi : Int} : inr x lo hi = true ↔ lo ≤ x ∧ x ≤ hi := by simp [inr]
theorem inr_niff {x lo hi : Int} : inr x lo hi = false ↔ ¬ (lo ≤ x ∧ x ≤ hi) := by rw [← inr_iff]; simp
theorem in_any (x a b : Int) (w : World) : Calls Try.prog 28 #[.int .i64 x, .int .i64 a, .int .i64 b] w fun e w' => e = .returned (.bool (inr x a b)) ∧ w' = w := by
  by_cases h1 : a ≤ x
  · by_cases h2 : x ≤ b
    · rw [inr_yes ⟨h1, h2⟩]
      go_enter Try.func28, Try.ntmps28
      go_wp2
      go_ret
      exact ⟨rfl, rfl⟩
    · rw [inr_no (fun g => h2 g.2)]
      go_enter Try.func28, Try.ntmps28
      go_wp2
      go_ret
      exact ⟨rfl, rfl⟩
  · rw [inr_no (fun g => h1 g.1)]
    go_enter Try.func28, Try.ntmps28
    go_wp2
    go_ret
    exact ⟨rfl, rfl⟩
theorem is_count (x : Int) (w : World) : Calls Try.prog 30 #[.int .i64 x] w fun e w' => e = .returned (.bool (inr x 0 1000000000)) ∧ w' = w := by
  by_cases h1 : 0 ≤ x
  · by_cases h2 : x ≤ 1000000000
    · rw [inr_yes ⟨h1, h2⟩]
      go_enter Try.func30, Try.ntmps30
      go_wp2
      go_ret
      exact ⟨rfl, rfl⟩
    · rw [inr_no (fun g => h2 g.2)]
      go_enter Try.func30, Try.ntmps30
      go_wp2
      go_ret
      exact ⟨rfl, rfl⟩
  · rw [inr_no (fun g => h1 g.1)]
    go_enter Try.func30, Try.ntmps30
    go_wp2
    go_ret
    exact ⟨rfl, rfl⟩
theorem is_fault (x : Int) (w : World) : Calls Try.prog 31 #[.int .i64 x] w fun e w' => e = .returned (.bool (inr x 1 9)) ∧ w' = w := by
  by_cases h1 : x > 0
  · by_cases h2 : x ≤ 9
    · rw [inr_yes ⟨by omega, h2⟩]
      go_enter Try.func31, Try.ntmps31
      go_wp2
      go_ret
      exact ⟨rfl, rfl⟩
    · rw [inr_no (fun g => h2 g.2)]
      go_enter Try.func31, Try.ntmps31
      go_wp2
      go_ret
      exact ⟨rfl, rfl⟩
  · rw [inr_no (fun g => h1 (by omega))]
    go_enter Try.func31, Try.ntmps31
    go_wp2
    go_ret
    exact ⟨rfl, rfl⟩
def polOk (k m : Int) : Bool := (k == 1 && inr m 0 100) || ((k == 0 || k == 2) && m == 0)
def hltOk (f r l : Int) : Bool := inr f 0 1000000000 && (inr r 0 1000000000 && inr l 0 9)
set_option maxHeartbeats 400000 in
theorem spec_pok (k m : Int) (w : World) : Calls Try.prog 9 #[pol k m] w fun e w' => e = .returned (.bool (polOk k m)) ∧ Below w.heap.size w w' := by
  have hb := (Below.refl _ w).alloc (Nat.le_refl _) (.cells (prow k m) 25)
  cases h1 : (k == 1)
  · cases h0 : (k == 0)
    · cases h2 : (k == 2)
      · have e : polOk k m = false := by simp [polOk, h1, h0, h2]
        rw [e]
        go_enter Try.func9, Try.ntmps9
        go_wp2
        go_ret
        exact ⟨rfl, hb⟩
      · cases h3 : (m == 0)
        · have e : polOk k m = false := by simp [polOk, h1, h0, h2, h3]
          rw [e]
          go_enter Try.func9, Try.ntmps9
          go_wp2
          go_ret
          exact ⟨rfl, hb⟩
        · have e : polOk k m = true := by simp [polOk, h1, h0, h2, h3]
          rw [e]
          go_enter Try.func9, Try.ntmps9
          go_wp2
          go_ret
          exact ⟨rfl, hb⟩
    · cases h3 : (m == 0)
      · have e : polOk k m = false := by simp [polOk, h1, h0, h3]
        rw [e]
        go_enter Try.func9, Try.ntmps9
        go_wp2
        go_ret
        exact ⟨rfl, hb⟩
      · have e : polOk k m = true := by simp [polOk, h1, h0, h3]
        rw [e]
        go_enter Try.func9, Try.ntmps9
        go_wp2
        go_ret
        exact ⟨rfl, hb⟩
  · have hk : k = 1 := by simpa using h1
    subst hk
    have e : polOk 1 m = inr m 0 100 := by simp [polOk]
    rw [e]
    go_enter Try.func9, Try.ntmps9
    go_wp2_with fail
    refine (in_any m 0 100 _).mono ?_
    rintro x w1 ⟨rfl, rfl⟩
    go_wp2
    go_ret
    exact ⟨rfl, hb⟩
set_option maxHeartbeats 400000 in
theorem spec_hok (f r l : Int) (h : Bool) (w : World) : Calls Try.prog 12 #[hlt f r l h] w fun e w' => e = .returned (.bool (hltOk f r l)) ∧ Below w.heap.size w w' := by
  have hb := (Below.refl _ w).alloc (Nat.le_refl _) (.cells (hrow f r l h) 31)
  have A := fun x y z w => in_any x y z w
  unfold hltOk
  generalize HA : inr f 0 1000000000 = qa
  generalize HB : inr r 0 1000000000 = qb
  generalize HC : inr l 0 9 = qc
  have A0 : Hid (∀ w, Calls Try.prog 28 #[.int .i64 f, .int .i64 0, .int .i64 1000000000] w fun e w' => e = .returned (.bool qa) ∧ w' = w) := fun w => by rw [← HA]; exact in_any _ _ _ w
  have A1 : Hid (∀ w, Calls Try.prog 28 #[.int .i64 r, .int .i64 0, .int .i64 1000000000] w fun e w' => e = .returned (.bool qb) ∧ w' = w) := fun w => by rw [← HB]; exact in_any _ _ _ w
  have A2 : Hid (∀ w, Calls Try.prog 28 #[.int .i64 l, .int .i64 0, .int .i64 9] w fun e w' => e = .returned (.bool qc) ∧ w' = w) := fun w => by rw [← HC]; exact in_any _ _ _ w
  clear HA HB HC A
  go_enter Try.func12, Try.ntmps12
  go_wp2_with fail
  refine (A0.out _).mono ?_
  rintro x w1 ⟨rfl, rfl⟩
  cases qa
  · go_wp2
    go_ret
    exact ⟨rfl, hb⟩
  go_wp2_with fail
  refine (A1.out _).mono ?_
  rintro x w1 ⟨rfl, rfl⟩
  cases qb
  · go_wp2
    go_ret
    exact ⟨rfl, hb⟩
  go_wp2_with fail
  refine (A2.out _).mono ?_
  rintro x w1 ⟨rfl, rfl⟩
  go_wp2
  go_ret
  exact ⟨rfl, hb⟩
theorem last_eq (l : Int) (h : (l == 0) = false) : inr l 0 9 = inr l 1 9 := by
  have : ¬ l = 0 := by simpa using h
  by_cases g : 1 ≤ l ∧ l ≤ 9
  · rw [inr_yes g, inr_yes ⟨by omega, g.2⟩]
  · rw [inr_no g, inr_no (by omega)]
set_option maxHeartbeats 400000 in
theorem impl_hok (f r l : Int) (h : Bool) (w : World) : Calls Try.prog 14 #[hlt f r l h] w fun e w' => e = .returned (.bool (hltOk f r l)) ∧ Below w.heap.size w w' := by
  have hb := (Below.refl _ w).alloc (Nat.le_refl _) (.cells (hrow f r l h) 31)
  unfold hltOk
  have HL : Hid ((l == 0) = true → inr l 0 9 = true) := fun h => by
    have : l = 0 := by simpa using h
    rw [this]; rfl
  have HM : Hid ((l == 0) = false → inr l 0 9 = inr l 1 9) := last_eq l
  generalize HA : inr f 0 1000000000 = qa
  generalize HB : inr r 0 1000000000 = qb
  have A0 : Hid (∀ w, Calls Try.prog 30 #[.int .i64 f] w fun e w' => e = .returned (.bool qa) ∧ w' = w) := fun w => by rw [← HA]; exact is_count _ w
  have A1 : Hid (∀ w, Calls Try.prog 30 #[.int .i64 r] w fun e w' => e = .returned (.bool qb) ∧ w' = w) := fun w => by rw [← HB]; exact is_count _ w
  clear HA HB
  cases h0 : (l == 0)
  all_goals
    first | rw [HM.out h0] | rw [HL.out h0]
    clear HM HL
    go_enter Try.func14, Try.ntmps14
    go_wp2_with fail
    refine (A0.out _).mono ?_
    rintro x w1 ⟨rfl, rfl⟩
    cases qa
    · go_wp2
      go_ret
      exact ⟨rfl, hb⟩
    go_wp2_with fail
    refine (A1.out _).mono ?_
    rintro x w1 ⟨rfl, rfl⟩
    cases qb
    · go_wp2
      go_ret
      exact ⟨rfl, hb⟩
    first
    | (go_wp2_with fail
       refine (is_fault l _).mono ?_
       rintro x w1 ⟨rfl, rfl⟩
       go_wp2
       go_ret
       exact ⟨rfl, hb⟩)
    | (go_wp2
       go_ret
       exact ⟨rfl, hb⟩)
/-- What a policy's kind is as a value behind the interface. -/
def kindV (k : Int) : Value := if k = 0 then .iface 65 (.agg #[]) else if k = 1 then .iface 66 (.agg #[]) else if k = 2 then .iface 67 (.agg #[]) else .nilIface
theorem kind_of (k m : Int) (w : World) : Calls Try.prog 29 #[pol k m] w fun e w' => e = .returned (kindV k) ∧ Below w.heap.size w w' := by
  have hb := (Below.refl _ w).alloc (Nat.le_refl _) (.cells (prow k m) 25)
  unfold kindV
  by_cases h0 : k = 0
  · subst h0
    go_enter Try.func29, Try.ntmps29
    go_wp2
    go_ret
    exact ⟨rfl, hb⟩
  by_cases h1 : k = 1
  · subst h1
    go_enter Try.func29, Try.ntmps29
    go_wp2
    go_ret
    exact ⟨rfl, hb⟩
  by_cases h2 : k = 2
  · subst h2
    go_enter Try.func29, Try.ntmps29
    go_wp2
    go_ret
    exact ⟨rfl, hb⟩
  rw [if_neg h0, if_neg h1, if_neg h2]
  go_enter Try.func29, Try.ntmps29
  go_wp2
  go_ret
  exact ⟨rfl, hb⟩
end Go.Proofs.Ytnjjjcmomjcmfaa
