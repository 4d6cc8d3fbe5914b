
/-
  Costs: whether they are right, what an access costs; the specification's and the program's own functions answer alike. No conditions but those that each fact names.
-/
import Derived.Test.YtklgkgmkeocjdaaBas
import Derived.Test.YtklgkgmkeocjdaaRows
import Derived.Test.YtklgkgmkeocjdaaSegs
import Derived.Below
import Derived.Deep.RegionWith
import Derived.BigRegion
import Derived.BigQuiet
namespace Go.Proofs.Ytklgkgmkeocjdaa
open Go.ChangeShapes Go.WideShapes Go.ChangeAt Go.RowKit
set_option linter.unusedVariables false

abbrev cst (b m e s k t l : Int) : Value := .agg #[.int .i64 b, .int .i64 m, .int .i64 e, .int .i64 s, .int .i64 k, .int .i64 t, .int .i64 l]
abbrev crow (T : TypeId) (b m e s k t l : Int) : Obj := .cells #[.int .i64 b, .int .i64 m, .int .i64 e, .int .i64 s, .int .i64 k, .int .i64 t, .int .i64 l] T
abbrev acc (x y z : Bool) : Value := .agg #[.bool x, .bool y, .bool z]
def costsOk (b m e s k t l : Int) : Bool := inr b 1 20 && (inr m 0 50 && (inr e 0 50 && (inr s 0 50 && (inr k 0 50 && (inr t 0 50 && inr l 0 50)))))
theorem costsOk_parts {b m e s k t l : Int} (h : costsOk b m e s k t l = true) :
    (1 ≤ b ∧ b ≤ 20) ∧ (0 ≤ m ∧ m ≤ 50) ∧ (0 ≤ e ∧ e ≤ 50) ∧ (0 ≤ s ∧ s ≤ 50) ∧ (0 ≤ k ∧ k ≤ 50) ∧ (0 ≤ t ∧ t ≤ 50) ∧ (0 ≤ l ∧ l ≤ 50) := by
  unfold costsOk at h
  simp only [Bool.and_eq_true] at h
  exact ⟨of_inr h.1, of_inr h.2.1, of_inr h.2.2.1, of_inr h.2.2.2.1, of_inr h.2.2.2.2.1, of_inr h.2.2.2.2.2.1, of_inr h.2.2.2.2.2.2⟩

theorem to_costs (b m e s k t l : Int) (w : World) : Calls Try.prog 10 #[cst b m e s k t l] w fun x w' => x = .returned (cst b m e s k t l) ∧ Below w.heap.size w w' := by
  go_enter Try.func10, Try.ntmps10
  go_wp2
  exact bodyPost_ret (v := cst b m e s k t l) (by simp [results, Try.results10, go_sem]) rfl ⟨rfl, (((Below.refl _ _).alloc (Nat.le_refl _) _).alloc (by simp) _).alloc (by simp; omega) _⟩
set_option maxHeartbeats 400000 in
theorem spec_cok (b m e s k t l : Int) (w : World) : Calls Try.prog 16 #[cst b m e s k t l] w fun x w' => x = .returned (.bool (costsOk b m e s k t l)) ∧ w' = w.alloc (crow 35 b m e s k t l) := by
  obtain ⟨q1, Q1⟩ : ∃ q, Hid (inr b 1 20 = q) := ⟨_, rfl⟩
  obtain ⟨q2, Q2⟩ : ∃ q, Hid (inr m 0 50 = q) := ⟨_, rfl⟩
  obtain ⟨q3, Q3⟩ : ∃ q, Hid (inr e 0 50 = q) := ⟨_, rfl⟩
  obtain ⟨q4, Q4⟩ : ∃ q, Hid (inr s 0 50 = q) := ⟨_, rfl⟩
  obtain ⟨q5, Q5⟩ : ∃ q, Hid (inr k 0 50 = q) := ⟨_, rfl⟩
  obtain ⟨q6, Q6⟩ : ∃ q, Hid (inr t 0 50 = q) := ⟨_, rfl⟩
  obtain ⟨q7, Q7⟩ : ∃ q, Hid (inr l 0 50 = q) := ⟨_, rfl⟩
  unfold costsOk
  rw [Q1.out, Q2.out, Q3.out, Q4.out, Q5.out, Q6.out, Q7.out]
  go_enter Try.func16, Try.ntmps16
  go_wp2_with fail
  refine (in_any b 1 20 _).mono ?_
  rintro x w1 ⟨rfl, rfl⟩
  rw [Q1.out]
  cases q1
  · go_wp2; go_ret; exact ⟨rfl, rfl⟩
  go_wp2_with fail
  refine (in_any m 0 50 _).mono ?_
  rintro x w1 ⟨rfl, rfl⟩
  rw [Q2.out]
  cases q2
  · go_wp2; go_ret; exact ⟨rfl, rfl⟩
  go_wp2_with fail
  refine (in_any e 0 50 _).mono ?_
  rintro x w1 ⟨rfl, rfl⟩
  rw [Q3.out]
  cases q3
  · go_wp2; go_ret; exact ⟨rfl, rfl⟩
  go_wp2_with fail
  refine (in_any s 0 50 _).mono ?_
  rintro x w1 ⟨rfl, rfl⟩
  rw [Q4.out]
  cases q4
  · go_wp2; go_ret; exact ⟨rfl, rfl⟩
  go_wp2_with fail
  refine (in_any k 0 50 _).mono ?_
  rintro x w1 ⟨rfl, rfl⟩
  rw [Q5.out]
  cases q5
  · go_wp2; go_ret; exact ⟨rfl, rfl⟩
  go_wp2_with fail
  refine (in_any t 0 50 _).mono ?_
  rintro x w1 ⟨rfl, rfl⟩
  rw [Q6.out]
  cases q6
  · go_wp2; go_ret; exact ⟨rfl, rfl⟩
  go_wp2_with fail
  refine (in_any l 0 50 _).mono ?_
  rintro x w1 ⟨rfl, rfl⟩
  rw [Q7.out]
  cases q7 <;> (go_wp2; go_ret; exact ⟨rfl, rfl⟩)
theorem idx0 (e f g h i j : Value) (w : World) : (Instr.index 56 (.agg #[e, f, g, h, i, j]) (.int .i64 0)).run Try.prog w = .ok e w := by kernel_rfl
theorem idx1 (e f g h i j : Value) (w : World) : (Instr.index 56 (.agg #[e, f, g, h, i, j]) (.int .i64 1)).run Try.prog w = .ok f w := by kernel_rfl
theorem idx2 (e f g h i j : Value) (w : World) : (Instr.index 56 (.agg #[e, f, g, h, i, j]) (.int .i64 2)).run Try.prog w = .ok g w := by kernel_rfl
theorem idx3 (e f g h i j : Value) (w : World) : (Instr.index 56 (.agg #[e, f, g, h, i, j]) (.int .i64 3)).run Try.prog w = .ok h w := by kernel_rfl
theorem idx4 (e f g h i j : Value) (w : World) : (Instr.index 56 (.agg #[e, f, g, h, i, j]) (.int .i64 4)).run Try.prog w = .ok i w := by kernel_rfl
theorem idx5 (e f g h i j : Value) (w : World) : (Instr.index 56 (.agg #[e, f, g, h, i, j]) (.int .i64 5)).run Try.prog w = .ok j w := by kernel_rfl
set_option maxHeartbeats 1000000 in
theorem impl_cok (b m e s k t l : Int) (w : World) : Calls Try.prog 20 #[cst b m e s k t l] w fun x w' => x = .returned (.bool (costsOk b m e s k t l)) ∧ w' = w.alloc (crow 35 b m e s k t l) := by
  obtain ⟨q, Q⟩ : ∃ q, Hid (costsOk b m e s k t l = q) := ⟨_, rfl⟩
  rw [Q.out]
  by_cases hb : 1 ≤ b ∧ b ≤ 20
  rotate_left
  · have HQ : Hid (q = false) := by
      have := Q.out
      unfold costsOk at this
      rw [inr_no hb] at this
      exact this.symm
    by_cases h1 : 1 ≤ b
    · have h2 : ¬ b ≤ 20 := fun h => hb ⟨h1, h⟩
      rw [HQ.out]
      clear hb
      go_enter Try.func20, Try.ntmps20
      go_wp2
      go_ret
      exact ⟨rfl, rfl⟩
    · rw [HQ.out]
      clear hb
      go_enter Try.func20, Try.ntmps20
      go_wp2
      go_ret
      exact ⟨rfl, rfl⟩
  obtain ⟨hb1, hb2⟩ := hb
  go_enter Try.func20, Try.ntmps20
  go_wp2_with fail
  refine wp_loop_rounds 7 ?_
  rw [rounds_succ]
  have hx := idx0 (.int .i64 m) (.int .i64 e) (.int .i64 s) (.int .i64 k) (.int .i64 t) (.int .i64 l)
  by_cases hm : 0 ≤ m ∧ m ≤ 50
  rotate_left
  · have HQ : Hid (q = false) := by
      have := Q.out
      unfold costsOk at this
      rw [inr_yes ⟨hb1, hb2⟩, inr_no hm] at this
      exact this.symm
    by_cases h1 : 0 ≤ m
    · have h2 : ¬ m ≤ 50 := fun h => hm ⟨h1, h⟩
      clear hm
      go_wp2
      go_ret
      exact ⟨ret_bool HQ.out.symm, rfl⟩
    · clear hm
      go_wp2
      go_ret
      exact ⟨ret_bool HQ.out.symm, rfl⟩
  obtain ⟨hm1, hm2⟩ := hm
  go_wp2
  clear hx
  rw [rounds_succ]
  have hx := idx1 (.int .i64 m) (.int .i64 e) (.int .i64 s) (.int .i64 k) (.int .i64 t) (.int .i64 l)
  by_cases he : 0 ≤ e ∧ e ≤ 50
  rotate_left
  · have HQ : Hid (q = false) := by
      have := Q.out
      unfold costsOk at this
      rw [inr_yes ⟨hb1, hb2⟩, inr_yes ⟨hm1, hm2⟩, inr_no he] at this
      exact this.symm
    by_cases h1 : 0 ≤ e
    · have h2 : ¬ e ≤ 50 := fun h => he ⟨h1, h⟩
      clear he
      go_wp2
      go_ret
      exact ⟨ret_bool HQ.out.symm, rfl⟩
    · clear he
      go_wp2
      go_ret
      exact ⟨ret_bool HQ.out.symm, rfl⟩
  obtain ⟨he1, he2⟩ := he
  go_wp2
  clear hx
  rw [rounds_succ]
  have hx := idx2 (.int .i64 m) (.int .i64 e) (.int .i64 s) (.int .i64 k) (.int .i64 t) (.int .i64 l)
  by_cases hs : 0 ≤ s ∧ s ≤ 50
  rotate_left
  · have HQ : Hid (q = false) := by
      have := Q.out
      unfold costsOk at this
      rw [inr_yes ⟨hb1, hb2⟩, inr_yes ⟨hm1, hm2⟩, inr_yes ⟨he1, he2⟩, inr_no hs] at this
      exact this.symm
    by_cases h1 : 0 ≤ s
    · have h2 : ¬ s ≤ 50 := fun h => hs ⟨h1, h⟩
      clear hs
      go_wp2
      go_ret
      exact ⟨ret_bool HQ.out.symm, rfl⟩
    · clear hs
      go_wp2
      go_ret
      exact ⟨ret_bool HQ.out.symm, rfl⟩
  obtain ⟨hs1, hs2⟩ := hs
  go_wp2
  clear hx
  rw [rounds_succ]
  have hx := idx3 (.int .i64 m) (.int .i64 e) (.int .i64 s) (.int .i64 k) (.int .i64 t) (.int .i64 l)
  by_cases hk : 0 ≤ k ∧ k ≤ 50
  rotate_left
  · have HQ : Hid (q = false) := by
      have := Q.out
      unfold costsOk at this
      rw [inr_yes ⟨hb1, hb2⟩, inr_yes ⟨hm1, hm2⟩, inr_yes ⟨he1, he2⟩, inr_yes ⟨hs1, hs2⟩, inr_no hk] at this
      exact this.symm
    by_cases h1 : 0 ≤ k
    · have h2 : ¬ k ≤ 50 := fun h => hk ⟨h1, h⟩
      clear hk
      go_wp2
      go_ret
      exact ⟨ret_bool HQ.out.symm, rfl⟩
    · clear hk
      go_wp2
      go_ret
      exact ⟨ret_bool HQ.out.symm, rfl⟩
  obtain ⟨hk1, hk2⟩ := hk
  go_wp2
  clear hx
  rw [rounds_succ]
  have hx := idx4 (.int .i64 m) (.int .i64 e) (.int .i64 s) (.int .i64 k) (.int .i64 t) (.int .i64 l)
  by_cases ht : 0 ≤ t ∧ t ≤ 50
  rotate_left
  · have HQ : Hid (q = false) := by
      have := Q.out
      unfold costsOk at this
      rw [inr_yes ⟨hb1, hb2⟩, inr_yes ⟨hm1, hm2⟩, inr_yes ⟨he1, he2⟩, inr_yes ⟨hs1, hs2⟩, inr_yes ⟨hk1, hk2⟩, inr_no ht] at this
      exact this.symm
    by_cases h1 : 0 ≤ t
    · have h2 : ¬ t ≤ 50 := fun h => ht ⟨h1, h⟩
      clear ht
      go_wp2
      go_ret
      exact ⟨ret_bool HQ.out.symm, rfl⟩
    · clear ht
      go_wp2
      go_ret
      exact ⟨ret_bool HQ.out.symm, rfl⟩
  obtain ⟨ht1, ht2⟩ := ht
  go_wp2
  clear hx
  rw [rounds_succ]
  have hx := idx5 (.int .i64 m) (.int .i64 e) (.int .i64 s) (.int .i64 k) (.int .i64 t) (.int .i64 l)
  by_cases hl : 0 ≤ l ∧ l ≤ 50
  rotate_left
  · have HQ : Hid (q = false) := by
      have := Q.out
      unfold costsOk at this
      rw [inr_yes ⟨hb1, hb2⟩, inr_yes ⟨hm1, hm2⟩, inr_yes ⟨he1, he2⟩, inr_yes ⟨hs1, hs2⟩, inr_yes ⟨hk1, hk2⟩, inr_yes ⟨ht1, ht2⟩, inr_no hl] at this
      exact this.symm
    by_cases h1 : 0 ≤ l
    · have h2 : ¬ l ≤ 50 := fun h => hl ⟨h1, h⟩
      clear hl
      go_wp2
      go_ret
      exact ⟨ret_bool HQ.out.symm, rfl⟩
    · clear hl
      go_wp2
      go_ret
      exact ⟨ret_bool HQ.out.symm, rfl⟩
  obtain ⟨hl1, hl2⟩ := hl
  go_wp2
  clear hx
  have HQ : Hid (q = true) := by
    have := Q.out
    unfold costsOk at this
    rw [inr_yes ⟨hb1, hb2⟩, inr_yes ⟨hm1, hm2⟩, inr_yes ⟨he1, he2⟩, inr_yes ⟨hs1, hs2⟩, inr_yes ⟨hk1, hk2⟩, inr_yes ⟨ht1, ht2⟩, inr_yes ⟨hl1, hl2⟩] at this
    exact this.symm
  rw [rounds_succ]
  go_wp2
  go_ret
  exact ⟨ret_bool HQ.out.symm, rfl⟩
end Go.Proofs.Ytklgkgmkeocjdaa
