
/-
  The program's OutOk, InOk, Room and Discard: what the plain functions say. Conditions: lengths are at most 1048576.
-/
import Derived.Test.YtobgaakcinjnaaaProg
import Derived.Test.YtobgaakcinjnaaaChm
namespace Go.Proofs.Ytobgaakcinjnaaa
open Go.ChangeShapes Go.WideShapes Go.ChangeAt Go.RowKit Go.Deep
set_option linter.unusedVariables false

set_option maxHeartbeats 1000000 in
theorem impl_outok (k f t d h : Int) (a : Option Addr) (n c : Nat) (q : Bool) (w : World) (HQ : Hid (outOk k f t d h (n : Int) = q)) (hn : n ≤ 1048576) : Calls Try.prog 12 #[crw k f t d, oen h a n c] w fun e w' => e = .returned (.bool q) ∧ Below w.heap.size w w' := by
  have HB : Hid (Below w.heap.size w ((w.alloc (.cells (crow k f t d) 25)).alloc (.cells (orow h a n c) 28))) := ((Below.refl _ w).alloc (Nat.le_refl _) _).alloc (by simp) _
  go_enter Try.func12, Try.ntmps12
  go_wp2_with fail
  refine (impl_sside k f t d h a n c _).mono ?_
  rintro x w1 ⟨rfl, hb1⟩
  have HB1 : Hid (Below w.heap.size w w1) := HB.out.trans (hb1.mono HB.out.size)
  clear HB hb1
  go_wp2_with fail
  refine (impl_ssound k f t d h a n c q _ HQ hn).mono ?_
  rintro x w2 ⟨rfl, hb2⟩
  have HB2 : Hid (Below w.heap.size w w2) := HB1.out.trans (hb2.mono HB1.out.size)
  clear HB1 hb2 HQ
  go_wp2
  go_ret
  exact ⟨rfl, HB2.out⟩
set_option maxHeartbeats 4000000 in
theorem impl_sroom (k f t d h : Int) (a : Option Addr) (n c : Nat) (r : Int) (w : World) (HR : Hid ((if k = 1 then d - h - (n : Int) else 1) = r)) (HD : Hid (k = 1 → 0 ≤ h ∧ h ≤ d ∧ d ≤ 8)) (hn : n ≤ 1048576) : Calls Try.prog 22 #[ssd k f t d h a n c] w fun e w' => e = .returned (.int .i64 r) ∧ Below w.heap.size w w' := by
  have HB : Hid (Below w.heap.size w (w.alloc (.cells (ssr k f t d h a n c) 52))) := (Below.refl _ w).alloc (Nat.le_refl _) _
  have HK : Hid (Bk (w.alloc (.cells (ssr k f t d h a n c) 52)) w.heap.size (ssr k f t d h a n c)) := Bk.new w _ _ _ rfl
  obtain ⟨q, HQ⟩ : ∃ q, Hid ((k == 1) = q) := ⟨_, rfl⟩
  obtain ⟨mm, HMM⟩ : ∃ m, Hid (mostF k d = m) := ⟨_, rfl⟩
  have HM : Hid (∀ X, Calls Try.prog 38 #[crw k f t d] X fun e w' => e = .returned (.int .i64 mm) ∧ Below X.heap.size X w') := fun X => impl_most k f t d mm X HMM
  go_enter Try.func22, Try.ntmps22
  go_wp2_with fail
  refine (impl_queues k f t d q _ HQ.out).mono ?_
  rintro x w1 ⟨rfl, hb1⟩
  have HB1 : Hid (Below w.heap.size w w1) := HB.out.trans (hb1.mono HB.out.size)
  have K1 : Hid (Bk w1 w.heap.size (ssr k f t d h a n c)) := HK.out.below hb1
  clear hb1 HB HK
  cases q
  · have hk : ¬ k = 1 := by simpa using HQ.out
    have e : r = mm := by rw [← HR.out, if_neg hk, ← HMM.out]; unfold mostF; rw [if_neg hk]
    subst e
    clear HQ hk HR HD HMM
    have c0 := K1.out.cell 0 _ rfl
    have c1 := K1.out.cell 1 _ rfl
    have c2 := K1.out.cell 2 _ rfl
    have c3 := K1.out.cell 3 _ rfl
    clear K1
    go_wp2_with fail
    refine (HM.out _).mono ?_
    rintro x w2 ⟨rfl, hb2⟩
    have HB2 : Hid (Below w.heap.size w w2) := HB1.out.trans (hb2.mono HB1.out.size)
    clear HB1 hb2 HM c0 c1 c2 c3
    go_wp2
    go_ret
    exact ⟨rfl, HB2.out⟩
  · have hk : k = 1 := by simpa using HQ.out
    have hm : mm = d := by rw [← HMM.out]; unfold mostF; rw [if_pos hk]
    have e : r = d - h - (n : Int) := by rw [← HR.out, if_pos hk]
    obtain ⟨g0, g1, g2⟩ := HD.out hk
    subst hm e
    have hw : IntKind.i64.wrap (mm - h) = mm - h := by rw [IntKind.wrap_i64]; omega
    have hw2 : IntKind.i64.wrap (mm - h - (n : Int)) = mm - h - (n : Int) := by rw [IntKind.wrap_i64]; omega
    clear HQ hk HR HD HMM g0 g1 g2
    have c0 := fun x => gr_cell (K1.out.cell 0 _ rfl) x
    have c1 := fun x => gr_cell (K1.out.cell 1 _ rfl) x
    have c2 := fun x => gr_cell (K1.out.cell 2 _ rfl) x
    have c3 := fun x => gr_cell (K1.out.cell 3 _ rfl) x
    have c4 := fun x => gr_cell (K1.out.cell 4 _ rfl) x
    have c5 := fun x => gr_cell (K1.out.cell 5 _ rfl) x
    clear K1
    go_wp2
    have hgr := gr_some w1
    refine region_alike (by kernel_rfl) (by kernel_rfl) ?_
    repeat (go_big_quiet_step (first | (go_at_call 38; exact gr_call (HM.out _))))
    refine wpQuiet_nil ?_
    intro _ hw'
    obtain ⟨x9, rfl⟩ := hw'
    have HB : Hid _ := HB1.out.trans (x9.h.mono HB1.out.size)
    all_goals (go_wp2; go_ret; exact ⟨rfl, HB.out⟩)
set_option maxHeartbeats 1000000 in
theorem impl_with (k f t d h : Int) (a : Option Addr) (n c : Nat) (a2 : Option Addr) (n2 c2 : Nat) (w : World) : Calls Try.prog 23 #[ssd k f t d h a n c, .slice a2 n2 c2] w fun e w' => e = .returned (oen h a2 n2 c2) ∧ Below w.heap.size w w' := by
  have HB : Hid (Below w.heap.size w ((w.alloc (.cells (ssr k f t d h a n c) 52)).alloc (.cells (orow h a2 n2 c2) 28))) := ((Below.refl _ w).alloc (Nat.le_refl _) _).alloc (by simp) _
  go_enter Try.func23, Try.ntmps23
  go_wp2
  exact bodyPost_ret (v := oen h a2 n2 c2) (by simp [results, Try.results23, go_sem]) rfl ⟨rfl, HB.out⟩
set_option maxHeartbeats 1000000 in
theorem impl_room (k f t d h : Int) (a : Option Addr) (n c : Nat) (r : Int) (w : World) (HR : Hid (roomF k f t d h (n : Int) = r)) (hn : n ≤ 1048576) : Calls Try.prog 8 #[crw k f t d, oen h a n c] w fun e w' => e = .returned (.int .i64 r) ∧ Below w.heap.size w w' := by
  have HB : Hid (Below w.heap.size w ((w.alloc (.cells (crow k f t d) 25)).alloc (.cells (orow h a n c) 28))) := ((Below.refl _ w).alloc (Nat.le_refl _) _).alloc (by simp) _
  obtain ⟨q, HQ⟩ : ∃ q, Hid (outOk k f t d h (n : Int) = q) := ⟨_, rfl⟩
  have HE : Hid ((if q = true then (if k = 0 then 1 else d - h - (n : Int)) else 0) = r) := by rw [← HR.out]; unfold roomF; rw [HQ.out]; exact rfl
  have HKD : Hid (q = true → (k = 0 ∧ d = 0) ∨ (k = 1 ∧ 1 ≤ d ∧ d ≤ 8 ∧ 0 ≤ h ∧ h ≤ d)) := fun g => outOk_k (HQ.out.trans g)
  go_enter Try.func8, Try.ntmps8
  go_wp2_with fail
  refine (impl_sside k f t d h a n c _).mono ?_
  rintro x w0 ⟨rfl, hb0⟩
  have HB0 : Hid (Below w.heap.size w (w0.alloc (.cells (ssr k f t d h a n c) 52))) := (HB.out.trans (hb0.mono HB.out.size)).alloc (HB.out.trans (hb0.mono HB.out.size)).size _
  have KS : Hid (Bk (w0.alloc (.cells (ssr k f t d h a n c) 52)) w0.heap.size (ssr k f t d h a n c)) := Bk.new w0 _ _ _ rfl
  clear HB hb0
  go_wp2_with fail
  refine (impl_ssound k f t d h a n c q _ HQ hn).mono ?_
  rintro x w1 ⟨rfl, hb1⟩
  have HB1 : Hid (Below w.heap.size w w1) := HB0.out.trans (hb1.mono HB0.out.size)
  have S1 : Hid (Bk w1 w0.heap.size (ssr k f t d h a n c)) := KS.out.below hb1
  clear HB0 KS hb1 HQ
  have c0 := S1.out.cell 0 _ rfl
  have c1 := S1.out.cell 1 _ rfl
  have c2 := S1.out.cell 2 _ rfl
  have c3 := S1.out.cell 3 _ rfl
  have c4 := S1.out.cell 4 _ rfl
  have c5 := S1.out.cell 5 _ rfl
  clear S1
  cases q
  · have e : r = 0 := by rw [← HE.out]; rfl
    subst e
    go_wp2
    go_ret
    exact ⟨rfl, HB1.out⟩
  have HRR : Hid ((if k = 1 then d - h - (n : Int) else 1) = r) := by
    rw [← HE.out]
    rcases HKD.out (by first | rfl | trivial) with ⟨rfl, rfl⟩ | ⟨rfl, _⟩
    · exact rfl
    · exact rfl
  have HDD : Hid (k = 1 → 0 ≤ h ∧ h ≤ d ∧ d ≤ 8) := fun g => by
    rcases HKD.out (by first | rfl | trivial) with ⟨rfl, rfl⟩ | ⟨rfl, g1, g2, g3, g4⟩
    · exact absurd g (by decide)
    · exact ⟨g3, g4, g2⟩
  clear HKD HE HR
  go_wp2_with fail
  refine (impl_sroom k f t d h a n c r _ HRR HDD hn).mono ?_
  rintro x w2 ⟨rfl, hb2⟩
  have HB2 : Hid (Below w.heap.size w w2) := HB1.out.trans (hb2.mono HB1.out.size)
  clear HB1 hb2 c0 c1 c2 c3 c4 c5
  go_wp2
  go_ret
  exact ⟨rfl, HB2.out⟩
end Go.Proofs.Ytobgaakcinjnaaa
