
/-
  Rows of channels: right or not, how many words one can hold, by both sides. No conditions.
-/
import Derived.Test.YtklgkgmkeocjdaaBas
import Derived.Test.YtklgkgmkeocjdaaAlk
import Derived.WalkKit
import Derived.Deep.QuietTactic
import Derived.Deep.RegionHeldLaw
import Derived.Deep.RegionWith
import Derived.BigRegion
import Derived.BigQuiet
namespace Go.Proofs.Ytklgkgmkeocjdaa
open Go.ChangeShapes Go.WideShapes Go.ChangeAt Go.RowKit Go.Deep
set_option linter.unusedVariables false

abbrev crw (k f t d : Int) : Value := .agg #[.int .i64 k, .int .i64 f, .int .i64 t, .int .i64 d]
abbrev chrow (k f t d : Int) : Array Value := #[.int .i64 k, .int .i64 f, .int .i64 t, .int .i64 d]
set_option maxHeartbeats 400000 in
theorem to_row (k f t d : Int) (w : World) : Calls Try.prog 19 #[crw k f t d] w fun x w' => x = .returned (crw k f t d) ∧ Below w.heap.size w w' := by
  go_enter Try.func19, Try.ntmps19
  go_wp2
  exact bodyPost_ret (v := crw k f t d) (by simp [results, Try.results19, go_sem]) rfl ⟨rfl, (((Below.refl _ _).alloc (Nat.le_refl _) _).alloc (by simp) _).alloc (by simp; omega) _⟩
/-- A row that is right. -/
def chOk (k f t d : Int) : Bool := inr f 0 5 && (inr t 0 5 && (!(f == t) && ((k == 0 && d == 0) || (k == 1 && inr d 1 8))))
theorem chOk_k {k f t d : Int} (h : chOk k f t d = true) : (k = 0 ∧ d = 0) ∨ (k = 1 ∧ 1 ≤ d ∧ d ≤ 8) := by
  unfold chOk at h
  simp [inr] at h
  omega
set_option maxHeartbeats 1000000 in
theorem spec_chok (k f t d : Int) (q : Bool) (w : World) (HQ : Hid (chOk k f t d = q)) : Calls Try.prog 18 #[crw k f t d] w fun e w' => e = .returned (.bool q) ∧ Below w.heap.size w w' := by
  have hb : Below w.heap.size w (w.alloc (.cells (chrow k f t d) 48)) := (Below.refl _ w).alloc (Nat.le_refl _) _
  obtain ⟨qa, HA⟩ : ∃ q, Hid (inr f 0 5 = q) := ⟨_, rfl⟩
  obtain ⟨qb, HB⟩ : ∃ q, Hid (inr t 0 5 = q) := ⟨_, rfl⟩
  obtain ⟨qd, HD⟩ : ∃ q, Hid (inr d 1 8 = q) := ⟨_, rfl⟩
  have A0 : Hid (∀ w, Calls Try.prog 27 #[.int .i64 f, .int .i64 0, .int .i64 5] w fun e w' => e = .returned (.bool qa) ∧ w' = w) := fun w => by rw [← HA.out]; exact in_any _ _ _ w
  have A1 : Hid (∀ w, Calls Try.prog 27 #[.int .i64 t, .int .i64 0, .int .i64 5] w fun e w' => e = .returned (.bool qb) ∧ w' = w) := fun w => by rw [← HB.out]; exact in_any _ _ _ w
  have A2 : Hid (∀ w, Calls Try.prog 27 #[.int .i64 d, .int .i64 1, .int .i64 8] w fun e w' => e = .returned (.bool qd) ∧ w' = w) := fun w => by rw [← HD.out]; exact in_any _ _ _ w
  have HE : Hid ((qa && (qb && (!(f == t) && ((k == 0 && d == 0) || (k == 1 && qd))))) = q) := by rw [← HQ.out]; unfold chOk; rw [HA.out, HB.out, HD.out]; exact rfl
  clear HA HB HD HQ
  go_enter Try.func18, Try.ntmps18
  go_wp2_with fail
  refine (A0.out _).mono ?_
  rintro x w1 ⟨rfl, h1⟩
  rw [h1]
  clear h1 w1
  cases qa
  · have e : q = false := by rw [← HE.out]; rfl
    subst e
    go_wp2
    go_ret
    exact ⟨rfl, hb⟩
  go_wp2_with fail
  refine (A1.out _).mono ?_
  rintro x w1 ⟨rfl, h1⟩
  rw [h1]
  clear h1 w1
  cases qb
  · have e : q = false := by rw [← HE.out]; rfl
    subst e
    go_wp2
    go_ret
    exact ⟨rfl, hb⟩
  cases hft : (f == t)
  rotate_left
  · have e : q = false := by rw [← HE.out, hft]; rfl
    subst e
    go_wp2
    go_ret
    exact ⟨rfl, hb⟩
  cases hk0 : (k == 0)
  · cases hk1 : (k == 1)
    · have e : q = false := by rw [← HE.out, hft, hk0, hk1]; rfl
      subst e
      go_wp2
      go_ret
      exact ⟨rfl, hb⟩
    · have e : q = qd := by rw [← HE.out, hft, hk0, hk1]; simp
      subst e
      go_wp2_with fail
      refine (A2.out _).mono ?_
      rintro x w1 ⟨rfl, h1⟩
      rw [h1]
      clear h1 w1
      go_wp2
      go_ret
      exact ⟨rfl, hb⟩
  · have hk1 : (k == 1) = false := by
      have : k = 0 := by simpa using hk0
      subst this; rfl
    cases hd0 : (d == 0)
    · have e : q = false := by rw [← HE.out, hft, hk0, hk1, hd0]; rfl
      subst e
      go_wp2
      go_ret
      exact ⟨rfl, hb⟩
    · have e : q = true := by rw [← HE.out, hft, hk0, hd0]; simp
      subst e
      go_wp2
      go_ret
      exact ⟨rfl, hb⟩
theorem part_any (x : Int) (w : World) : Calls Try.prog 29 #[.int .i64 x] w fun e w' => e = .returned (.bool (inr x 0 5)) ∧ w' = w := by
  by_cases h1 : 0 ≤ x
  · by_cases h2 : x < 6
    · rw [inr_yes ⟨h1, by omega⟩]
      go_enter Try.func29, Try.ntmps29
      go_wp2
      go_ret
      exact ⟨rfl, rfl⟩
    · rw [inr_no (fun g => h2 (by omega))]
      go_enter Try.func29, Try.ntmps29
      go_wp2
      go_ret
      exact ⟨rfl, rfl⟩
  · rw [inr_no (fun g => h1 g.1)]
    go_enter Try.func29, Try.ntmps29
    go_wp2
    go_ret
    exact ⟨rfl, rfl⟩
/-- A depth that is right for its kind. -/
def depF (k d : Int) : Bool := (k == 0 && d == 0) || (k == 1 && inr d 1 8)
theorem depth_any (k d : Int) (w : World) : Calls Try.prog 30 #[.int .i64 k, .int .i64 d] w fun e w' => e = .returned (.bool (depF k d)) ∧ w' = w := by
  cases hk0 : (k == 0)
  · cases hk1 : (k == 1)
    · have e : depF k d = false := by unfold depF; rw [hk0, hk1]; rfl
      rw [e]
      go_enter Try.func30, Try.ntmps30
      go_wp2
      go_ret
      exact ⟨rfl, rfl⟩
    · have e : depF k d = inr d 1 8 := by unfold depF; rw [hk0, hk1]; simp
      rw [e]
      by_cases h1 : 1 ≤ d
      · by_cases h2 : d ≤ 8
        · rw [inr_yes ⟨h1, h2⟩]
          go_enter Try.func30, Try.ntmps30
          go_wp2
          go_ret
          exact ⟨rfl, rfl⟩
        · rw [inr_no (fun g => h2 g.2)]
          go_enter Try.func30, Try.ntmps30
          go_wp2
          go_ret
          exact ⟨rfl, rfl⟩
      · rw [inr_no (fun g => h1 g.1)]
        go_enter Try.func30, Try.ntmps30
        go_wp2
        go_ret
        exact ⟨rfl, rfl⟩
  · have hk : k = 0 := by simpa using hk0
    subst hk
    have e : depF 0 d = (d == 0) := by unfold depF; simp
    rw [e]
    cases hd : (d == 0)
    · go_enter Try.func30, Try.ntmps30
      go_wp2
      go_ret
      exact ⟨rfl, rfl⟩
    · go_enter Try.func30, Try.ntmps30
      go_wp2
      go_ret
      exact ⟨rfl, rfl⟩
set_option maxHeartbeats 1000000 in
theorem impl_chok (k f t d : Int) (q : Bool) (w : World) (HQ : Hid (chOk k f t d = q)) : Calls Try.prog 23 #[crw k f t d] w fun e w' => e = .returned (.bool q) ∧ Below w.heap.size w w' := by
  have hb : Below w.heap.size w (w.alloc (.cells (chrow k f t d) 48)) := (Below.refl _ w).alloc (Nat.le_refl _) _
  obtain ⟨qa, HA⟩ : ∃ q, Hid (inr f 0 5 = q) := ⟨_, rfl⟩
  obtain ⟨qb, HB⟩ : ∃ q, Hid (inr t 0 5 = q) := ⟨_, rfl⟩
  obtain ⟨qd, HD⟩ : ∃ q, Hid (depF k d = q) := ⟨_, rfl⟩
  have A0 : Hid (∀ w, Calls Try.prog 29 #[.int .i64 f] w fun e w' => e = .returned (.bool qa) ∧ w' = w) := fun w => by rw [← HA.out]; exact part_any _ w
  have A1 : Hid (∀ w, Calls Try.prog 29 #[.int .i64 t] w fun e w' => e = .returned (.bool qb) ∧ w' = w) := fun w => by rw [← HB.out]; exact part_any _ w
  have A2 : Hid (∀ w, Calls Try.prog 30 #[.int .i64 k, .int .i64 d] w fun e w' => e = .returned (.bool qd) ∧ w' = w) := fun w => by rw [← HD.out]; exact depth_any _ _ w
  have HE : Hid ((qa && (qb && ((f != t) && qd))) = q) := by rw [← HQ.out]; unfold chOk; rw [HA.out, HB.out]; have := HD.out; unfold depF at this; rw [this]; exact rfl
  clear HA HB HD HQ
  go_enter Try.func23, Try.ntmps23
  go_wp2_with fail
  refine (A0.out _).mono ?_
  rintro x w1 ⟨rfl, h1⟩
  rw [h1]
  clear h1 w1
  cases qa
  · have e : q = false := by rw [← HE.out]; rfl
    subst e
    go_wp2
    go_ret
    exact ⟨rfl, hb⟩
  go_wp2_with fail
  refine (A1.out _).mono ?_
  rintro x w1 ⟨rfl, h1⟩
  rw [h1]
  clear h1 w1
  cases qb
  · have e : q = false := by rw [← HE.out]; rfl
    subst e
    go_wp2
    go_ret
    exact ⟨rfl, hb⟩
  cases hft : (f != t)
  · have e : q = false := by rw [← HE.out, hft]; rfl
    subst e
    go_wp2
    go_ret
    exact ⟨rfl, hb⟩
  have e : q = qd := by rw [← HE.out, hft]; simp
  subst e
  go_wp2_with fail
  refine (A2.out _).mono ?_
  rintro x w1 ⟨rfl, h1⟩
  rw [h1]
  clear h1 w1
  go_wp2
  go_ret
  exact ⟨rfl, hb⟩
set_option maxHeartbeats 1000000 in
theorem impl_queues (k f t d : Int) (q : Bool) (w : World) (HQ : (k == 1) = q) : Calls Try.prog 33 #[crw k f t d] w fun e w' => e = .returned (.bool q) ∧ Below w.heap.size w w' := by
  have hb : Below w.heap.size w (w.alloc (.cells (chrow k f t d) 62)) := (Below.refl _ w).alloc (Nat.le_refl _) _
  cases q
  · go_enter Try.func33, Try.ntmps33
    go_wp2
    go_ret
    exact ⟨rfl, hb⟩
  · go_enter Try.func33, Try.ntmps33
    go_wp2
    go_ret
    exact ⟨rfl, hb⟩
/-- How many words an end may have. -/
def mostF (k d : Int) : Int := if k = 1 then d else 1
set_option maxHeartbeats 1000000 in
theorem impl_most (k f t d : Int) (m : Int) (w : World) (HM : Hid (mostF k d = m)) : Calls Try.prog 31 #[crw k f t d] w fun e w' => e = .returned (.int .i64 m) ∧ Below w.heap.size w w' := by
  have HB : Hid (Below w.heap.size w (w.alloc (.cells (chrow k f t d) 62))) := (Below.refl _ w).alloc (Nat.le_refl _) _
  have HK : Hid (Bk (w.alloc (.cells (chrow k f t d) 62)) w.heap.size (chrow k f t d)) := Bk.new w _ _ _ rfl
  obtain ⟨q, HQ⟩ : ∃ q, Hid ((k == 1) = q) := ⟨_, rfl⟩
  go_enter Try.func31, Try.ntmps31
  go_wp2_with fail
  refine (impl_queues k f t d q _ HQ.out).mono ?_
  rintro x w1 ⟨rfl, hb1⟩
  have HB1 : Hid (Below w.heap.size w w1) := HB.out.trans (hb1.mono HB.out.size)
  have K1 : Hid (Bk w1 w.heap.size (chrow k f t d)) := HK.out.below hb1
  clear hb1 HB HK
  have c0 := K1.out.cell 0 _ rfl
  have c3 := K1.out.cell 3 _ rfl
  cases q
  · have hk : ¬ k = 1 := by simpa using HQ.out
    have e : m = 1 := by rw [← HM.out]; exact if_neg hk
    subst e
    clear HQ hk
    go_wp2
    go_ret
    exact ⟨rfl, HB1.out⟩
  · have hk : k = 1 := by simpa using HQ.out
    have e : m = d := by rw [← HM.out]; exact if_pos hk
    subst e
    clear HQ hk
    go_wp2
    go_ret
    exact ⟨rfl, HB1.out⟩
end Go.Proofs.Ytklgkgmkeocjdaa
