
/-
  Rows and ends that are right or not, and room, by the specification: plain functions of the numbers. Conditions: lengths are at most 9223372036854775807 less the depth.
-/
import Derived.Test.YtobgaakcinjnaaaProg
import Derived.Test.YtobgaakcinjnaaaChv
import Derived.WalkKit
import Derived.Deep.QuietTactic
namespace Go.Proofs.Ytobgaakcinjnaaa
open Go.ChangeShapes Go.WideShapes Go.ChangeAt Go.RowKit Go.Deep
set_option linter.unusedVariables false

def inr (x lo hi : Int) : Bool := decide (lo ≤ x) && decide (x ≤ hi)
theorem inr_yes {x lo hi : Int} (h : lo ≤ x ∧ x ≤ hi) : inr x lo hi = true := by simp [inr, h.1, h.2]
theorem inr_no {x lo hi : Int} (h : ¬ (lo ≤ x ∧ x ≤ hi)) : inr x lo hi = false := by
  unfold inr; rw [← Bool.decide_and]; exact decide_eq_false h
theorem inr_iff {x lo hi : Int} : inr x lo hi = true ↔ lo ≤ x ∧ x ≤ hi := by simp [inr]
theorem in_any (x a b : Int) (w : World) : Calls Try.prog 27 #[.int .i64 x, .int .i64 a, .int .i64 b] w fun e w' => e = .returned (.bool (inr x a b)) ∧ w' = w := by
  by_cases h1 : a ≤ x
  · by_cases h2 : x ≤ b
    · rw [inr_yes ⟨h1, h2⟩]
      go_enter Try.func27, Try.ntmps27
      go_wp2
      go_ret
      exact ⟨rfl, rfl⟩
    · rw [inr_no (fun g => h2 g.2)]
      go_enter Try.func27, Try.ntmps27
      go_wp2
      go_ret
      exact ⟨rfl, rfl⟩
  · rw [inr_no (fun g => h1 g.1)]
    go_enter Try.func27, Try.ntmps27
    go_wp2
    go_ret
    exact ⟨rfl, rfl⟩
/-- A row that is right. -/
def chOk (k f t d : Int) : Bool := inr f 0 5 && (inr t 0 5 && (!(f == t) && ((k == 0 && d == 0) || (k == 1 && inr d 1 8))))
/-- A sender's end that is right. -/
def outOk (k f t d h n : Int) : Bool := chOk k f t d && (if k = 0 then h == 0 && decide (n ≤ 1) else inr h 0 d && decide (h + n ≤ d))
/-- A receiver's end that is right. -/
def inOk (k f t d n : Int) : Bool := chOk k f t d && (if k = 0 then decide (n ≤ 1) else decide (n ≤ d))
/-- How many words may be sent. -/
def roomF (k f t d h n : Int) : Int := if outOk k f t d h n = true then (if k = 0 then 1 else d - h - n) else 0
theorem chOk_k {k f t d : Int} (h : chOk k f t d = true) : (k = 0 ∧ d = 0) ∨ (k = 1 ∧ 1 ≤ d ∧ d ≤ 8) := by
  unfold chOk at h
  simp [inr] at h
  omega
set_option maxHeartbeats 1000000 in
theorem spec_chok (k f t d : Int) (q : Bool) (w : World) (HQ : Hid (chOk k f t d = q)) : Calls Try.prog 26 #[crw k f t d] w fun e w' => e = .returned (.bool q) ∧ Below w.heap.size w w' := by
  have hb : Below w.heap.size w (w.alloc (.cells (crow k f t d) 25)) := (Below.refl _ w).alloc (Nat.le_refl _) _
  obtain ⟨qa, HA⟩ : ∃ q, Hid (inr f 0 5 = q) := ⟨_, rfl⟩
  obtain ⟨qb, HB⟩ : ∃ q, Hid (inr t 0 5 = q) := ⟨_, rfl⟩
  obtain ⟨qd, HD⟩ : ∃ q, Hid (inr d 1 8 = q) := ⟨_, rfl⟩
  have A0 : Hid (∀ w, Calls Try.prog 27 #[.int .i64 f, .int .i64 0, .int .i64 5] w fun e w' => e = .returned (.bool qa) ∧ w' = w) := fun w => by rw [← HA.out]; exact in_any _ _ _ w
  have A1 : Hid (∀ w, Calls Try.prog 27 #[.int .i64 t, .int .i64 0, .int .i64 5] w fun e w' => e = .returned (.bool qb) ∧ w' = w) := fun w => by rw [← HB.out]; exact in_any _ _ _ w
  have A2 : Hid (∀ w, Calls Try.prog 27 #[.int .i64 d, .int .i64 1, .int .i64 8] w fun e w' => e = .returned (.bool qd) ∧ w' = w) := fun w => by rw [← HD.out]; exact in_any _ _ _ w
  have HE : Hid ((qa && (qb && (!(f == t) && ((k == 0 && d == 0) || (k == 1 && qd))))) = q) := by rw [← HQ.out]; unfold chOk; rw [HA.out, HB.out, HD.out]; exact rfl
  clear HA HB HD HQ
  go_enter Try.func26, Try.ntmps26
  go_wp2_with fail
  refine (A0.out _).mono ?_
  rintro x w1 ⟨rfl, h1⟩
  rw [h1]
  clear h1 w1
  cases qa
  · have e : q = false := by rw [← HE.out]; rfl
    subst e
    go_wp2
    go_ret
    exact ⟨rfl, hb⟩
  go_wp2_with fail
  refine (A1.out _).mono ?_
  rintro x w1 ⟨rfl, h1⟩
  rw [h1]
  clear h1 w1
  cases qb
  · have e : q = false := by rw [← HE.out]; rfl
    subst e
    go_wp2
    go_ret
    exact ⟨rfl, hb⟩
  cases hft : (f == t)
  rotate_left
  · have e : q = false := by rw [← HE.out, hft]; rfl
    subst e
    go_wp2
    go_ret
    exact ⟨rfl, hb⟩
  cases hk0 : (k == 0)
  · cases hk1 : (k == 1)
    · have e : q = false := by rw [← HE.out, hft, hk0, hk1]; rfl
      subst e
      go_wp2
      go_ret
      exact ⟨rfl, hb⟩
    · have e : q = qd := by rw [← HE.out, hft, hk0, hk1]; simp
      subst e
      go_wp2_with fail
      refine (A2.out _).mono ?_
      rintro x w1 ⟨rfl, h1⟩
      rw [h1]
      clear h1 w1
      go_wp2
      go_ret
      exact ⟨rfl, hb⟩
  · have hk1 : (k == 1) = false := by
      have : k = 0 := by simpa using hk0
      subst this; rfl
    cases hd0 : (d == 0)
    · have e : q = false := by rw [← HE.out, hft, hk0, hk1, hd0]; rfl
      subst e
      go_wp2
      go_ret
      exact ⟨rfl, hb⟩
    · have e : q = true := by rw [← HE.out, hft, hk0, hd0]; simp
      subst e
      go_wp2
      go_ret
      exact ⟨rfl, hb⟩
set_option maxHeartbeats 1000000 in
theorem spec_outok (k f t d h : Int) (a : Option Addr) (n c : Nat) (q : Bool) (w : World) (HQ : Hid (outOk k f t d h (n : Int) = q)) (hn : n ≤ 1048576) : Calls Try.prog 10 #[crw k f t d, oen h a n c] w fun e w' => e = .returned (.bool q) ∧ Below w.heap.size w w' := by
  have HB : Hid (Below w.heap.size w ((w.alloc (.cells (crow k f t d) 25)).alloc (.cells (orow h a n c) 28))) := ((Below.refl _ w).alloc (Nat.le_refl _) _).alloc (by simp) _
  have HK : Hid (Bk ((w.alloc (.cells (crow k f t d) 25)).alloc (.cells (orow h a n c) 28)) w.heap.size (crow k f t d) ∧ Bk ((w.alloc (.cells (crow k f t d) 25)).alloc (.cells (orow h a n c) 28)) (w.heap.size + 1) (orow h a n c)) := ⟨(Bk.new w _ _ _ rfl).alloc _, Bk.new _ _ _ _ (by simp)⟩
  obtain ⟨qc, HC⟩ : ∃ q, Hid (chOk k f t d = q) := ⟨_, rfl⟩
  have HE : Hid ((qc && (if k = 0 then h == 0 && decide ((n : Int) ≤ 1) else inr h 0 d && decide (h + (n : Int) ≤ d))) = q) := by rw [← HQ.out]; unfold outOk; rw [HC.out]; exact rfl
  have HKD : Hid (qc = true → (k = 0 ∧ d = 0) ∨ (k = 1 ∧ 1 ≤ d ∧ d ≤ 8)) := fun g => chOk_k (HC.out.trans g)
  go_enter Try.func10, Try.ntmps10
  go_wp2_with fail
  refine (spec_chok k f t d qc _ HC).mono ?_
  rintro x w1 ⟨rfl, hb1⟩
  have HB1 : Hid (Below w.heap.size w w1) := HB.out.trans (hb1.mono HB.out.size)
  have K1 : Hid (Bk w1 w.heap.size (crow k f t d) ∧ Bk w1 (w.heap.size + 1) (orow h a n c)) := ⟨HK.out.1.below hb1, HK.out.2.below hb1⟩
  clear HB HK hb1 HC HQ
  cases qc
  · have e : q = false := by rw [← HE.out]; rfl
    subst e
    go_wp2
    go_ret
    exact ⟨rfl, HB1.out⟩
  have hkd := HKD.out rfl
  clear HKD
  have c0 := K1.out.1.cell 0 _ rfl
  have c3 := K1.out.1.cell 3 _ rfl
  have d0 := K1.out.2.cell 0 _ rfl
  have d1 := K1.out.2.cell 1 _ rfl
  clear K1
  rcases hkd with ⟨rfl, rfl⟩ | ⟨rfl, hd1, hd2⟩
  · have HE2 : Hid ((h == 0 && decide ((n : Int) ≤ 1)) = q) := (show (h == 0 && decide ((n : Int) ≤ 1)) = q by rw [← HE.out]; simp)
    clear HE
    cases hh : (h == 0)
    · have e : q = false := by rw [← HE2.out, hh]; rfl
      subst e
      go_wp2
      go_ret
      exact ⟨rfl, HB1.out⟩
    · have HE3 : Hid (decide ((n : Int) ≤ 1) = q) := (show decide ((n : Int) ≤ 1) = q by rw [← HE2.out, hh]; simp)
      clear HE2
      go_wp2
      go_ret
      exact ⟨by rw [HE3.out]; rfl, HB1.out⟩
  · have HE2 : Hid ((inr h 0 d && decide (h + (n : Int) ≤ d)) = q) := (show (inr h 0 d && decide (h + (n : Int) ≤ d)) = q by rw [← HE.out]; simp)
    clear HE
    obtain ⟨qi, HI⟩ : ∃ q, Hid (inr h 0 d = q) := ⟨_, rfl⟩
    have HIB : Hid (qi = true → 0 ≤ h ∧ h ≤ d) := fun g => inr_iff.1 (HI.out.trans g)
    have A0 : Hid (∀ w, Calls Try.prog 27 #[.int .i64 h, .int .i64 0, .int .i64 d] w fun e w' => e = .returned (.bool qi) ∧ w' = w) := fun w => by rw [← HI.out]; exact in_any _ _ _ w
    rw [HI.out] at HE2
    clear HI
    go_wp2_with fail
    refine (A0.out _).mono ?_
    rintro x w2 ⟨rfl, h2⟩
    rw [h2]
    clear h2 w2
    cases qi
    · have e : q = false := by rw [← HE2.out]; rfl
      subst e
      go_wp2
      go_ret
      exact ⟨rfl, HB1.out⟩
    · have HE3 : Hid (decide (h + (n : Int) ≤ d) = q) := (show decide (h + (n : Int) ≤ d) = q by rw [← HE2.out]; simp)
      obtain ⟨hh0, hh1⟩ := HIB.out rfl
      clear HE2 HIB
      have hw : IntKind.i64.wrap (h + (n : Int)) = h + (n : Int) := by rw [IntKind.wrap_i64]; omega
      go_wp2
      go_ret
      exact ⟨by rw [HE3.out]; rfl, HB1.out⟩
set_option maxHeartbeats 1000000 in
theorem spec_inok (k f t d : Int) (a : Option Addr) (n c : Nat) (q : Bool) (w : World) (HQ : Hid (inOk k f t d (n : Int) = q)) : Calls Try.prog 13 #[crw k f t d, ien a n c] w fun e w' => e = .returned (.bool q) ∧ Below w.heap.size w w' := by
  have HB : Hid (Below w.heap.size w ((w.alloc (.cells (crow k f t d) 25)).alloc (.cells (irow a n c) 30))) := ((Below.refl _ w).alloc (Nat.le_refl _) _).alloc (by simp) _
  have HK : Hid (Bk ((w.alloc (.cells (crow k f t d) 25)).alloc (.cells (irow a n c) 30)) w.heap.size (crow k f t d) ∧ Bk ((w.alloc (.cells (crow k f t d) 25)).alloc (.cells (irow a n c) 30)) (w.heap.size + 1) (irow a n c)) := ⟨(Bk.new w _ _ _ rfl).alloc _, Bk.new _ _ _ _ (by simp)⟩
  obtain ⟨qc, HC⟩ : ∃ q, Hid (chOk k f t d = q) := ⟨_, rfl⟩
  have HE : Hid ((qc && (if k = 0 then decide ((n : Int) ≤ 1) else decide ((n : Int) ≤ d))) = q) := by rw [← HQ.out]; unfold inOk; rw [HC.out]; exact rfl
  have HKD : Hid (qc = true → (k = 0 ∧ d = 0) ∨ (k = 1 ∧ 1 ≤ d ∧ d ≤ 8)) := fun g => chOk_k (HC.out.trans g)
  go_enter Try.func13, Try.ntmps13
  go_wp2_with fail
  refine (spec_chok k f t d qc _ HC).mono ?_
  rintro x w1 ⟨rfl, hb1⟩
  have HB1 : Hid (Below w.heap.size w w1) := HB.out.trans (hb1.mono HB.out.size)
  have K1 : Hid (Bk w1 w.heap.size (crow k f t d) ∧ Bk w1 (w.heap.size + 1) (irow a n c)) := ⟨HK.out.1.below hb1, HK.out.2.below hb1⟩
  clear HB HK hb1 HC HQ
  cases qc
  · have e : q = false := by rw [← HE.out]; rfl
    subst e
    go_wp2
    go_ret
    exact ⟨rfl, HB1.out⟩
  have hkd := HKD.out rfl
  clear HKD
  have c0 := K1.out.1.cell 0 _ rfl
  have c3 := K1.out.1.cell 3 _ rfl
  have d0 := K1.out.2.cell 0 _ rfl
  clear K1
  rcases hkd with ⟨rfl, rfl⟩ | ⟨rfl, hd1, hd2⟩
  · have HE2 : Hid (decide ((n : Int) ≤ 1) = q) := (show decide ((n : Int) ≤ 1) = q by rw [← HE.out]; simp)
    clear HE
    go_wp2
    go_ret
    exact ⟨by rw [HE2.out]; rfl, HB1.out⟩
  · have HE2 : Hid (decide ((n : Int) ≤ d) = q) := (show decide ((n : Int) ≤ d) = q by rw [← HE.out]; simp)
    clear HE
    go_wp2
    go_ret
    exact ⟨by rw [HE2.out]; rfl, HB1.out⟩
theorem outOk_k {k f t d h n : Int} (g : outOk k f t d h n = true) : (k = 0 ∧ d = 0) ∨ (k = 1 ∧ 1 ≤ d ∧ d ≤ 8 ∧ 0 ≤ h ∧ h ≤ d) := by
  unfold outOk at g
  simp only [Bool.and_eq_true] at g
  rcases chOk_k g.1 with ⟨rfl, rfl⟩ | ⟨rfl, h1, h2⟩
  · exact .inl ⟨rfl, rfl⟩
  · have := g.2
    simp [inr] at this
    exact .inr ⟨rfl, h1, h2, by omega, by omega⟩
set_option maxHeartbeats 1000000 in
theorem spec_room (k f t d h : Int) (a : Option Addr) (n c : Nat) (r : Int) (w : World) (HR : Hid (roomF k f t d h (n : Int) = r)) (hn : n ≤ 1048576) : Calls Try.prog 7 #[crw k f t d, oen h a n c] w fun e w' => e = .returned (.int .i64 r) ∧ Below w.heap.size w w' := by
  have HB : Hid (Below w.heap.size w ((w.alloc (.cells (crow k f t d) 25)).alloc (.cells (orow h a n c) 28))) := ((Below.refl _ w).alloc (Nat.le_refl _) _).alloc (by simp) _
  have HK : Hid (Bk ((w.alloc (.cells (crow k f t d) 25)).alloc (.cells (orow h a n c) 28)) w.heap.size (crow k f t d) ∧ Bk ((w.alloc (.cells (crow k f t d) 25)).alloc (.cells (orow h a n c) 28)) (w.heap.size + 1) (orow h a n c)) := ⟨(Bk.new w _ _ _ rfl).alloc _, Bk.new _ _ _ _ (by simp)⟩
  obtain ⟨q, HQ⟩ : ∃ q, Hid (outOk k f t d h (n : Int) = q) := ⟨_, rfl⟩
  have HE : Hid ((if q = true then (if k = 0 then 1 else d - h - (n : Int)) else 0) = r) := by rw [← HR.out]; unfold roomF; rw [HQ.out]; exact rfl
  have HKD : Hid (q = true → (k = 0 ∧ d = 0) ∨ (k = 1 ∧ 1 ≤ d ∧ d ≤ 8 ∧ 0 ≤ h ∧ h ≤ d)) := fun g => outOk_k (HQ.out.trans g)
  go_enter Try.func7, Try.ntmps7
  go_wp2_with fail
  refine (spec_outok k f t d h a n c q _ HQ hn).mono ?_
  rintro x w1 ⟨rfl, hb1⟩
  have HB1 : Hid (Below w.heap.size w w1) := HB.out.trans (hb1.mono HB.out.size)
  have K1 : Hid (Bk w1 w.heap.size (crow k f t d) ∧ Bk w1 (w.heap.size + 1) (orow h a n c)) := ⟨HK.out.1.below hb1, HK.out.2.below hb1⟩
  clear HB HK hb1 HQ HR
  cases q
  · have e : r = 0 := by rw [← HE.out]; rfl
    subst e
    go_wp2
    go_ret
    exact ⟨rfl, HB1.out⟩
  have hkd := HKD.out rfl
  clear HKD
  have c0 := K1.out.1.cell 0 _ rfl
  have c3 := K1.out.1.cell 3 _ rfl
  have d0 := K1.out.2.cell 0 _ rfl
  have d1 := K1.out.2.cell 1 _ rfl
  clear K1
  rcases hkd with ⟨rfl, rfl⟩ | ⟨rfl, hd1, hd2, hh0, hh1⟩
  · have e : r = 1 := by rw [← HE.out]; rfl
    subst e
    go_wp2
    go_ret
    exact ⟨rfl, HB1.out⟩
  · have e : r = d - h - (n : Int) := by rw [← HE.out]; rfl
    subst e
    have hw : IntKind.i64.wrap (d - h) = d - h := by rw [IntKind.wrap_i64]; omega
    have hw2 : IntKind.i64.wrap (d - h - (n : Int)) = d - h - (n : Int) := by rw [IntKind.wrap_i64]; omega
    go_wp2
    go_ret
    exact ⟨rfl, HB1.out⟩
end Go.Proofs.Ytobgaakcinjnaaa
