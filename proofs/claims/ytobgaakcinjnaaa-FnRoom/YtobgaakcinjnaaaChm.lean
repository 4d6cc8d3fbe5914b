
/-
  Rows and ends that are right or not, and room, by the program: the plain functions of the specification's text. Conditions: lengths are at most 1048576.
-/
import Derived.Test.YtobgaakcinjnaaaProg
import Derived.Test.YtobgaakcinjnaaaCht
import Derived.WalkKit
import Derived.Deep.QuietTactic
import Derived.Deep.RegionHeldLaw
import Derived.Test.YtobgaakcinjnaaaAlk
namespace Go.Proofs.Ytobgaakcinjnaaa
open Go.ChangeShapes Go.WideShapes Go.ChangeAt Go.RowKit Go.Deep
set_option linter.unusedVariables false

theorem ret_boolc {q r : Bool} (h : q = r) : Ending.returned (.bool q) = .returned (.bool r) := by rw [h]
theorem part_any (x : Int) (w : World) : Calls Try.prog 45 #[.int .i64 x] w fun e w' => e = .returned (.bool (inr x 0 5)) ∧ w' = w := by
  by_cases h1 : 0 ≤ x
  · by_cases h2 : x < 6
    · rw [inr_yes ⟨h1, by omega⟩]
      go_enter Try.func45, Try.ntmps45
      go_wp2
      go_ret
      exact ⟨rfl, rfl⟩
    · rw [inr_no (fun g => h2 (by omega))]
      go_enter Try.func45, Try.ntmps45
      go_wp2
      go_ret
      exact ⟨rfl, rfl⟩
  · rw [inr_no (fun g => h1 g.1)]
    go_enter Try.func45, Try.ntmps45
    go_wp2
    go_ret
    exact ⟨rfl, rfl⟩
/-- A depth that is right for its kind. -/
def depF (k d : Int) : Bool := (k == 0 && d == 0) || (k == 1 && inr d 1 8)
theorem depth_any (k d : Int) (w : World) : Calls Try.prog 46 #[.int .i64 k, .int .i64 d] w fun e w' => e = .returned (.bool (depF k d)) ∧ w' = w := by
  cases hk0 : (k == 0)
  · cases hk1 : (k == 1)
    · have e : depF k d = false := by unfold depF; rw [hk0, hk1]; rfl
      rw [e]
      go_enter Try.func46, Try.ntmps46
      go_wp2
      go_ret
      exact ⟨rfl, rfl⟩
    · have e : depF k d = inr d 1 8 := by unfold depF; rw [hk0, hk1]; simp
      rw [e]
      by_cases h1 : 1 ≤ d
      · by_cases h2 : d ≤ 8
        · rw [inr_yes ⟨h1, h2⟩]
          go_enter Try.func46, Try.ntmps46
          go_wp2
          go_ret
          exact ⟨rfl, rfl⟩
        · rw [inr_no (fun g => h2 g.2)]
          go_enter Try.func46, Try.ntmps46
          go_wp2
          go_ret
          exact ⟨rfl, rfl⟩
      · rw [inr_no (fun g => h1 g.1)]
        go_enter Try.func46, Try.ntmps46
        go_wp2
        go_ret
        exact ⟨rfl, rfl⟩
  · have hk : k = 0 := by simpa using hk0
    subst hk
    have e : depF 0 d = (d == 0) := by unfold depF; simp
    rw [e]
    cases hd : (d == 0)
    · go_enter Try.func46, Try.ntmps46
      go_wp2
      go_ret
      exact ⟨rfl, rfl⟩
    · go_enter Try.func46, Try.ntmps46
      go_wp2
      go_ret
      exact ⟨rfl, rfl⟩
set_option maxHeartbeats 1000000 in
theorem impl_chok (k f t d : Int) (q : Bool) (w : World) (HQ : Hid (chOk k f t d = q)) : Calls Try.prog 44 #[crw k f t d] w fun e w' => e = .returned (.bool q) ∧ Below w.heap.size w w' := by
  have hb : Below w.heap.size w (w.alloc (.cells (crow k f t d) 25)) := (Below.refl _ w).alloc (Nat.le_refl _) _
  obtain ⟨qa, HA⟩ : ∃ q, Hid (inr f 0 5 = q) := ⟨_, rfl⟩
  obtain ⟨qb, HB⟩ : ∃ q, Hid (inr t 0 5 = q) := ⟨_, rfl⟩
  obtain ⟨qd, HD⟩ : ∃ q, Hid (depF k d = q) := ⟨_, rfl⟩
  have A0 : Hid (∀ w, Calls Try.prog 45 #[.int .i64 f] w fun e w' => e = .returned (.bool qa) ∧ w' = w) := fun w => by rw [← HA.out]; exact part_any _ w
  have A1 : Hid (∀ w, Calls Try.prog 45 #[.int .i64 t] w fun e w' => e = .returned (.bool qb) ∧ w' = w) := fun w => by rw [← HB.out]; exact part_any _ w
  have A2 : Hid (∀ w, Calls Try.prog 46 #[.int .i64 k, .int .i64 d] w fun e w' => e = .returned (.bool qd) ∧ w' = w) := fun w => by rw [← HD.out]; exact depth_any _ _ w
  have HE : Hid ((qa && (qb && ((f != t) && qd))) = q) := by rw [← HQ.out]; unfold chOk; rw [HA.out, HB.out]; have := HD.out; unfold depF at this; rw [this]; exact rfl
  clear HA HB HD HQ
  go_enter Try.func44, Try.ntmps44
  go_wp2_with fail
  refine (A0.out _).mono ?_
  rintro x w1 ⟨rfl, h1⟩
  rw [h1]
  clear h1 w1
  cases qa
  · have e : q = false := by rw [← HE.out]; rfl
    subst e
    go_wp2
    go_ret
    exact ⟨rfl, hb⟩
  go_wp2_with fail
  refine (A1.out _).mono ?_
  rintro x w1 ⟨rfl, h1⟩
  rw [h1]
  clear h1 w1
  cases qb
  · have e : q = false := by rw [← HE.out]; rfl
    subst e
    go_wp2
    go_ret
    exact ⟨rfl, hb⟩
  cases hft : (f != t)
  · have e : q = false := by rw [← HE.out, hft]; rfl
    subst e
    go_wp2
    go_ret
    exact ⟨rfl, hb⟩
  have e : q = qd := by rw [← HE.out, hft]; simp
  subst e
  go_wp2_with fail
  refine (A2.out _).mono ?_
  rintro x w1 ⟨rfl, h1⟩
  rw [h1]
  clear h1 w1
  go_wp2
  go_ret
  exact ⟨rfl, hb⟩
set_option maxHeartbeats 1000000 in
theorem impl_queues (k f t d : Int) (q : Bool) (w : World) (HQ : (k == 1) = q) : Calls Try.prog 39 #[crw k f t d] w fun e w' => e = .returned (.bool q) ∧ Below w.heap.size w w' := by
  have hb : Below w.heap.size w (w.alloc (.cells (crow k f t d) 50)) := (Below.refl _ w).alloc (Nat.le_refl _) _
  cases q
  · go_enter Try.func39, Try.ntmps39
    go_wp2
    go_ret
    exact ⟨rfl, hb⟩
  · go_enter Try.func39, Try.ntmps39
    go_wp2
    go_ret
    exact ⟨rfl, hb⟩
set_option maxHeartbeats 1000000 in
theorem impl_right (k f t d : Int) (q : Bool) (w : World) (HQ : Hid (chOk k f t d = q)) : Calls Try.prog 37 #[crw k f t d] w fun e w' => e = .returned (.bool q) ∧ Below w.heap.size w w' := by
  have HB : Hid (Below w.heap.size w (w.alloc (.cells (crow k f t d) 50))) := (Below.refl _ w).alloc (Nat.le_refl _) _
  go_enter Try.func37, Try.ntmps37
  go_wp2_with fail
  refine (impl_chok k f t d q _ HQ).mono ?_
  rintro x w1 ⟨rfl, hb1⟩
  have HB1 : Hid (Below w.heap.size w w1) := HB.out.trans (hb1.mono HB.out.size)
  clear hb1 HB
  go_wp2
  go_ret
  exact ⟨rfl, HB1.out⟩
/-- How many words an end may have. -/
def mostF (k d : Int) : Int := if k = 1 then d else 1
set_option maxHeartbeats 1000000 in
theorem impl_most (k f t d : Int) (m : Int) (w : World) (HM : Hid (mostF k d = m)) : Calls Try.prog 38 #[crw k f t d] w fun e w' => e = .returned (.int .i64 m) ∧ Below w.heap.size w w' := by
  have HB : Hid (Below w.heap.size w (w.alloc (.cells (crow k f t d) 50))) := (Below.refl _ w).alloc (Nat.le_refl _) _
  have HK : Hid (Bk (w.alloc (.cells (crow k f t d) 50)) w.heap.size (crow k f t d)) := Bk.new w _ _ _ rfl
  obtain ⟨q, HQ⟩ : ∃ q, Hid ((k == 1) = q) := ⟨_, rfl⟩
  go_enter Try.func38, Try.ntmps38
  go_wp2_with fail
  refine (impl_queues k f t d q _ HQ.out).mono ?_
  rintro x w1 ⟨rfl, hb1⟩
  have HB1 : Hid (Below w.heap.size w w1) := HB.out.trans (hb1.mono HB.out.size)
  have K1 : Hid (Bk w1 w.heap.size (crow k f t d)) := HK.out.below hb1
  clear hb1 HB HK
  have c0 := K1.out.cell 0 _ rfl
  have c3 := K1.out.cell 3 _ rfl
  cases q
  · have hk : ¬ k = 1 := by simpa using HQ.out
    have e : m = 1 := by rw [← HM.out]; exact if_neg hk
    subst e
    clear HQ hk
    go_wp2
    go_ret
    exact ⟨rfl, HB1.out⟩
  · have hk : k = 1 := by simpa using HQ.out
    have e : m = d := by rw [← HM.out]; exact if_pos hk
    subst e
    clear HQ hk
    go_wp2
    go_ret
    exact ⟨rfl, HB1.out⟩
abbrev ssd (k f t d h : Int) (a : Option Addr) (n c : Nat) : Value := .agg #[.int .i64 k, .int .i64 f, .int .i64 t, .int .i64 d, .int .i64 h, .slice a n c]
abbrev ssr (k f t d h : Int) (a : Option Addr) (n c : Nat) : Array Value := #[.int .i64 k, .int .i64 f, .int .i64 t, .int .i64 d, .int .i64 h, .slice a n c]
abbrev rsd (k f t d : Int) (a : Option Addr) (n c : Nat) : Value := .agg #[.int .i64 k, .int .i64 f, .int .i64 t, .int .i64 d, .slice a n c]
abbrev rsr (k f t d : Int) (a : Option Addr) (n c : Nat) : Array Value := #[.int .i64 k, .int .i64 f, .int .i64 t, .int .i64 d, .slice a n c]
set_option maxHeartbeats 1000000 in
theorem impl_sside (k f t d h : Int) (a : Option Addr) (n c : Nat) (w : World) : Calls Try.prog 20 #[crw k f t d, oen h a n c] w fun e w' => e = .returned (ssd k f t d h a n c) ∧ Below w.heap.size w w' := by
  have HB : Hid (Below w.heap.size w (((w.alloc (.cells (crow k f t d) 25)).alloc (.cells (orow h a n c) 28)).alloc (.cells (ssr k f t d h a n c) 52))) := (((Below.refl _ w).alloc (Nat.le_refl _) _).alloc (by simp) _).alloc (by simp; omega) _
  go_enter Try.func20, Try.ntmps20
  go_wp2
  exact bodyPost_ret (v := ssd k f t d h a n c) (by simp [results, Try.results20, go_sem]) rfl ⟨rfl, HB.out⟩
set_option maxHeartbeats 1000000 in
theorem impl_rside (k f t d : Int) (a : Option Addr) (n c : Nat) (w : World) : Calls Try.prog 28 #[crw k f t d, ien a n c] w fun e w' => e = .returned (rsd k f t d a n c) ∧ Below w.heap.size w w' := by
  have HB : Hid (Below w.heap.size w (((w.alloc (.cells (crow k f t d) 25)).alloc (.cells (irow a n c) 30)).alloc (.cells (rsr k f t d a n c) 62))) := (((Below.refl _ w).alloc (Nat.le_refl _) _).alloc (by simp) _).alloc (by simp; omega) _
  go_enter Try.func28, Try.ntmps28
  go_wp2
  exact bodyPost_ret (v := rsd k f t d a n c) (by simp [results, Try.results28, go_sem]) rfl ⟨rfl, HB.out⟩
/-- How a sender's end is right: kind by kind. -/
theorem outOk_eq (k f t d h n : Int) : outOk k f t d h n = (chOk k f t d && (decide (0 ≤ h) && (decide (h ≤ d) && decide (h + n ≤ mostF k d)))) := by
  unfold outOk
  cases hc : chOk k f t d
  · rfl
  rcases chOk_k hc with ⟨rfl, rfl⟩ | ⟨rfl, h1, h2⟩
  · rw [if_pos rfl]
    unfold mostF
    rw [if_neg (by decide)]
    by_cases h0 : h = 0
    · subst h0; simp
    · have : (h == 0) = false := by simpa using h0
      rw [this]
      by_cases h3 : 0 ≤ h
      · have : ¬ h ≤ 0 := by omega
        simp [this]
      · simp [h3]
  · rw [if_neg (by decide)]
    unfold mostF inr
    rw [if_pos rfl, Bool.and_assoc]
theorem inOk_eq (k f t d n : Int) : inOk k f t d n = (chOk k f t d && decide (n ≤ mostF k d)) := by
  unfold inOk
  cases hc : chOk k f t d
  · rfl
  rcases chOk_k hc with ⟨rfl, rfl⟩ | ⟨rfl, h1, h2⟩
  · rw [if_pos rfl]
    unfold mostF
    rw [if_neg (by decide)]
  · rw [if_neg (by decide)]
    unfold mostF
    rw [if_pos rfl]
set_option maxHeartbeats 4000000 in
theorem impl_ssound (k f t d h : Int) (a : Option Addr) (n c : Nat) (q : Bool) (w : World) (HQ : Hid (outOk k f t d h (n : Int) = q)) (hn : n ≤ 1048576) : Calls Try.prog 21 #[ssd k f t d h a n c] w fun e w' => e = .returned (.bool q) ∧ Below w.heap.size w w' := by
  obtain ⟨qc, HC⟩ : ∃ q, Hid (chOk k f t d = q) := ⟨_, rfl⟩
  obtain ⟨mm, HMM⟩ : ∃ m, Hid (mostF k d = m) := ⟨_, rfl⟩
  have HE : Hid ((qc && (decide (0 ≤ h) && (decide (h ≤ d) && decide (h + (n : Int) ≤ mm)))) = q) := by rw [← HQ.out, outOk_eq, HC.out, HMM.out]; exact rfl
  have HKD : Hid (qc = true → (k = 0 ∧ d = 0) ∨ (k = 1 ∧ 1 ≤ d ∧ d ≤ 8)) := fun g => chOk_k (HC.out.trans g)
  have HX : Hid (∀ X, Calls Try.prog 37 #[crw k f t d] X fun e w' => e = .returned (.bool qc) ∧ Below X.heap.size X w') := fun X => impl_right k f t d qc X HC
  have HM : Hid (∀ X, Calls Try.prog 38 #[crw k f t d] X fun e w' => e = .returned (.int .i64 mm) ∧ Below X.heap.size X w') := fun X => impl_most k f t d mm X HMM
  have hb : Below w.heap.size w (w.alloc (.cells (ssr k f t d h a n c) 52)) := (Below.refl _ w).alloc (Nat.le_refl _) _
  have K1 : Bk (w.alloc (.cells (ssr k f t d h a n c) 52)) w.heap.size (ssr k f t d h a n c) := Bk.new w _ _ _ rfl
  generalize HW0 : (w.alloc (.cells (ssr k f t d h a n c) 52)) = W0 at hb K1
  have c0 := fun x => gr_cell (K1.cell 0 _ rfl) x
  have c1 := fun x => gr_cell (K1.cell 1 _ rfl) x
  have c2 := fun x => gr_cell (K1.cell 2 _ rfl) x
  have c3 := fun x => gr_cell (K1.cell 3 _ rfl) x
  have c4 := fun x => gr_cell (K1.cell 4 _ rfl) x
  have c5 := fun x => gr_cell (K1.cell 5 _ rfl) x
  clear K1
  clear HQ HC HMM
  cases qc
  · have HT : Hid (q = false) := by rw [← HE.out]; exact rfl
    clear HE HKD
    go_enter Try.func21, Try.ntmps21
    go_wp2
    clear HW0
    have hgr := gr_some W0
    refine region_alike (by kernel_rfl) (by kernel_rfl) ?_
    repeat (go_big_quiet_step (first | (go_at_call 37; exact gr_call (HX.out _)) | (go_at_call 38; exact gr_call (HM.out _))))
    refine wpQuiet_nil ?_
    intro _ hw'
    obtain ⟨x9, rfl⟩ := hw'
    have hb := hb.trans (x9.h.mono hb.size)
    all_goals (have HB : Hid _ := hb; clear hb; go_wp2; go_ret; exact ⟨ret_boolc HT.out.symm, HB.out⟩)
  have hkd := HKD.out (by first | rfl | trivial)
  clear HKD
  have HE1 : Hid ((decide (0 ≤ h) && (decide (h ≤ d) && decide (h + (n : Int) ≤ mm))) = q) := by rw [← HE.out]; exact rfl
  clear HE
  cases h0 : decide (0 ≤ h)
  · have HT : Hid (q = false) := by rw [← HE1.out, h0]; exact rfl
    clear HE1 hkd
    go_enter Try.func21, Try.ntmps21
    go_wp2
    clear HW0
    have hgr := gr_some W0
    refine region_alike (by kernel_rfl) (by kernel_rfl) ?_
    repeat (go_big_quiet_step (first | (go_at_call 37; exact gr_call (HX.out _)) | (go_at_call 38; exact gr_call (HM.out _))))
    refine wpQuiet_nil ?_
    intro _ hw'
    obtain ⟨x9, rfl⟩ := hw'
    have hb := hb.trans (x9.h.mono hb.size)
    all_goals (have HB : Hid _ := hb; clear hb; go_wp2; go_ret; exact ⟨ret_boolc HT.out.symm, HB.out⟩)
  cases h1 : decide (h ≤ d)
  · have HT : Hid (q = false) := by rw [← HE1.out, h0, h1]; exact rfl
    clear HE1 hkd
    go_enter Try.func21, Try.ntmps21
    go_wp2
    clear HW0
    have hgr := gr_some W0
    refine region_alike (by kernel_rfl) (by kernel_rfl) ?_
    repeat (go_big_quiet_step (first | (go_at_call 37; exact gr_call (HX.out _)) | (go_at_call 38; exact gr_call (HM.out _))))
    refine wpQuiet_nil ?_
    intro _ hw'
    obtain ⟨x9, rfl⟩ := hw'
    have hb := hb.trans (x9.h.mono hb.size)
    all_goals (have HB : Hid _ := hb; clear hb; go_wp2; go_ret; exact ⟨ret_boolc HT.out.symm, HB.out⟩)
  have HT : Hid (decide (h + (n : Int) ≤ mm) = q) := by rw [← HE1.out, h0, h1]; exact rfl
  have hw : IntKind.i64.wrap (h + (n : Int)) = h + (n : Int) := by
    have g0 : 0 ≤ h := by simpa using h0
    have g1 : h ≤ d := by simpa using h1
    rw [IntKind.wrap_i64]; omega
  clear HE1 hkd
  go_enter Try.func21, Try.ntmps21
  go_wp2
  clear HW0
  have hgr := gr_some W0
  refine region_alike (by kernel_rfl) (by kernel_rfl) ?_
  repeat (go_big_quiet_step (first | (go_at_call 37; exact gr_call (HX.out _)) | (go_at_call 38; exact gr_call (HM.out _))))
  refine wpQuiet_nil ?_
  intro _ hw'
  obtain ⟨x9, rfl⟩ := hw'
  have hb := hb.trans (x9.h.mono hb.size)
  all_goals (have HB : Hid _ := hb; clear hb; go_wp2; go_ret; exact ⟨ret_boolc HT.out, HB.out⟩)
set_option maxHeartbeats 4000000 in
theorem impl_rsound (k f t d : Int) (a : Option Addr) (n c : Nat) (q : Bool) (w : World) (HQ : Hid (inOk k f t d (n : Int) = q)) : Calls Try.prog 41 #[rsd k f t d a n c] w fun e w' => e = .returned (.bool q) ∧ Below w.heap.size w w' := by
  obtain ⟨qc, HC⟩ : ∃ q, Hid (chOk k f t d = q) := ⟨_, rfl⟩
  obtain ⟨mm, HMM⟩ : ∃ m, Hid (mostF k d = m) := ⟨_, rfl⟩
  have HE : Hid ((qc && decide ((n : Int) ≤ mm)) = q) := by rw [← HQ.out, inOk_eq, HC.out, HMM.out]; exact rfl
  have HX : Hid (∀ X, Calls Try.prog 37 #[crw k f t d] X fun e w' => e = .returned (.bool qc) ∧ Below X.heap.size X w') := fun X => impl_right k f t d qc X HC
  have HM : Hid (∀ X, Calls Try.prog 38 #[crw k f t d] X fun e w' => e = .returned (.int .i64 mm) ∧ Below X.heap.size X w') := fun X => impl_most k f t d mm X HMM
  have hb : Below w.heap.size w (w.alloc (.cells (rsr k f t d a n c) 62)) := (Below.refl _ w).alloc (Nat.le_refl _) _
  have K1 : Bk (w.alloc (.cells (rsr k f t d a n c) 62)) w.heap.size (rsr k f t d a n c) := Bk.new w _ _ _ rfl
  generalize HW0 : (w.alloc (.cells (rsr k f t d a n c) 62)) = W0 at hb K1
  have c0 := fun x => gr_cell (K1.cell 0 _ rfl) x
  have c1 := fun x => gr_cell (K1.cell 1 _ rfl) x
  have c2 := fun x => gr_cell (K1.cell 2 _ rfl) x
  have c3 := fun x => gr_cell (K1.cell 3 _ rfl) x
  have c4 := fun x => gr_cell (K1.cell 4 _ rfl) x
  clear K1
  clear HQ HC HMM
  cases qc
  · have HT : Hid (q = false) := by rw [← HE.out]; exact rfl
    clear HE
    go_enter Try.func41, Try.ntmps41
    go_wp2
    clear HW0
    have hgr := gr_some W0
    refine region_alike (by kernel_rfl) (by kernel_rfl) ?_
    repeat (go_big_quiet_step (first | (go_at_call 37; exact gr_call (HX.out _)) | (go_at_call 38; exact gr_call (HM.out _))))
    refine wpQuiet_nil ?_
    intro _ hw'
    obtain ⟨x9, rfl⟩ := hw'
    have hb := hb.trans (x9.h.mono hb.size)
    all_goals (have HB : Hid _ := hb; clear hb; go_wp2; go_ret; exact ⟨ret_boolc HT.out.symm, HB.out⟩)
  have HT : Hid (decide ((n : Int) ≤ mm) = q) := by rw [← HE.out]; exact rfl
  clear HE
  go_enter Try.func41, Try.ntmps41
  go_wp2
  clear HW0
  have hgr := gr_some W0
  refine region_alike (by kernel_rfl) (by kernel_rfl) ?_
  repeat (go_big_quiet_step (first | (go_at_call 37; exact gr_call (HX.out _)) | (go_at_call 38; exact gr_call (HM.out _))))
  refine wpQuiet_nil ?_
  intro _ hw'
  obtain ⟨x9, rfl⟩ := hw'
  have hb := hb.trans (x9.h.mono hb.size)
  all_goals (have HB : Hid _ := hb; clear hb; go_wp2; go_ret; exact ⟨ret_boolc HT.out, HB.out⟩)
end Go.Proofs.Ytobgaakcinjnaaa
