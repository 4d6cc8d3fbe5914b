
/-
  PermOf of both sides, as a plain function of the text.
-/
import Derived.Test.YtmibfajjgdndbaaBas
import Derived.Test.YtmibfajjgdndbaaPrm
import Derived.Test.YtmibfajjgdndbaaTxt
namespace Go.Proofs.Ytmibfajjgdndbaa
open Go.ChangeShapes Go.WideShapes Go.ChangeAt Go.RowKit
set_option linter.unusedVariables false

/-- the number of a text -/
def po (s : ByteArray) : Int :=
  if pt 1 = s then 1 else if pt 2 = s then 2 else if pt 3 = s then 3 else if pt 4 = s then 4
  else if pt 5 = s then 5 else if pt 6 = s then 6 else if pt 7 = s then 7 else 0

theorem spec_po (s : ByteArray) (w : World) :
    Calls Try.prog 7 #[.string s] w fun e w' => e = .returned (.int .i64 (po s)) ∧ w' = w := by
  obtain ⟨r, HR⟩ : ∃ r, Hid (po s = r) := ⟨_, rfl⟩
  rw [HR.out]
  go_enter Try.func7, Try.ntmps7
  go_wp2
  refine wp_loop_rounds 8 ?_
  rw [rounds_succ]; go_wp2_with fail
  refine (spec_pt _ _).mono ?_
  rintro e w1 ⟨rfl, rfl⟩
  obtain ⟨t1, T1⟩ : ∃ t, Hid (pt 1 = t) := ⟨_, rfl⟩
  rw [T1.out]
  by_cases h1 : t1 = s
  · have HV : Hid (r = 1) := by
      have h := HR.out
      unfold po at h
      rw [if_pos (by rw [T1.out]; exact h1)] at h
      exact h.symm
    clear HR
    have hq : (t1.toList == s.toList) = true := by rw [h1]; exact beq_self_eq_true _
    clear T1 h1
    go_wp2
    go_ret
    exact ⟨by rw [HV.out]; rfl, rfl⟩
  have N1 : Hid (¬ pt 1 = s) := by
    have h := T1.out
    exact fun hh => h1 (h.symm.trans hh)
  have q1 : (t1.toList == s.toList) = false := Tx.list_ne _ _ h1
  clear T1 h1
  go_wp2
  clear q1
  rw [rounds_succ]; go_wp2_with fail
  refine (spec_pt _ _).mono ?_
  rintro e w1 ⟨rfl, rfl⟩
  obtain ⟨t2, T2⟩ : ∃ t, Hid (pt 2 = t) := ⟨_, rfl⟩
  rw [T2.out]
  by_cases h2 : t2 = s
  · have HV : Hid (r = 2) := by
      have h := HR.out
      unfold po at h
      rw [if_neg N1.out, if_pos (by rw [T2.out]; exact h2)] at h
      exact h.symm
    clear HR
    have hq : (t2.toList == s.toList) = true := by rw [h2]; exact beq_self_eq_true _
    clear T2 h2
    go_wp2
    go_ret
    exact ⟨by rw [HV.out]; rfl, rfl⟩
  have N2 : Hid (¬ pt 2 = s) := by
    have h := T2.out
    exact fun hh => h2 (h.symm.trans hh)
  have q2 : (t2.toList == s.toList) = false := Tx.list_ne _ _ h2
  clear T2 h2
  go_wp2
  clear q2
  rw [rounds_succ]; go_wp2_with fail
  refine (spec_pt _ _).mono ?_
  rintro e w1 ⟨rfl, rfl⟩
  obtain ⟨t3, T3⟩ : ∃ t, Hid (pt 3 = t) := ⟨_, rfl⟩
  rw [T3.out]
  by_cases h3 : t3 = s
  · have HV : Hid (r = 3) := by
      have h := HR.out
      unfold po at h
      rw [if_neg N1.out, if_neg N2.out, if_pos (by rw [T3.out]; exact h3)] at h
      exact h.symm
    clear HR
    have hq : (t3.toList == s.toList) = true := by rw [h3]; exact beq_self_eq_true _
    clear T3 h3
    go_wp2
    go_ret
    exact ⟨by rw [HV.out]; rfl, rfl⟩
  have N3 : Hid (¬ pt 3 = s) := by
    have h := T3.out
    exact fun hh => h3 (h.symm.trans hh)
  have q3 : (t3.toList == s.toList) = false := Tx.list_ne _ _ h3
  clear T3 h3
  go_wp2
  clear q3
  rw [rounds_succ]; go_wp2_with fail
  refine (spec_pt _ _).mono ?_
  rintro e w1 ⟨rfl, rfl⟩
  obtain ⟨t4, T4⟩ : ∃ t, Hid (pt 4 = t) := ⟨_, rfl⟩
  rw [T4.out]
  by_cases h4 : t4 = s
  · have HV : Hid (r = 4) := by
      have h := HR.out
      unfold po at h
      rw [if_neg N1.out, if_neg N2.out, if_neg N3.out, if_pos (by rw [T4.out]; exact h4)] at h
      exact h.symm
    clear HR
    have hq : (t4.toList == s.toList) = true := by rw [h4]; exact beq_self_eq_true _
    clear T4 h4
    go_wp2
    go_ret
    exact ⟨by rw [HV.out]; rfl, rfl⟩
  have N4 : Hid (¬ pt 4 = s) := by
    have h := T4.out
    exact fun hh => h4 (h.symm.trans hh)
  have q4 : (t4.toList == s.toList) = false := Tx.list_ne _ _ h4
  clear T4 h4
  go_wp2
  clear q4
  rw [rounds_succ]; go_wp2_with fail
  refine (spec_pt _ _).mono ?_
  rintro e w1 ⟨rfl, rfl⟩
  obtain ⟨t5, T5⟩ : ∃ t, Hid (pt 5 = t) := ⟨_, rfl⟩
  rw [T5.out]
  by_cases h5 : t5 = s
  · have HV : Hid (r = 5) := by
      have h := HR.out
      unfold po at h
      rw [if_neg N1.out, if_neg N2.out, if_neg N3.out, if_neg N4.out, if_pos (by rw [T5.out]; exact h5)] at h
      exact h.symm
    clear HR
    have hq : (t5.toList == s.toList) = true := by rw [h5]; exact beq_self_eq_true _
    clear T5 h5
    go_wp2
    go_ret
    exact ⟨by rw [HV.out]; rfl, rfl⟩
  have N5 : Hid (¬ pt 5 = s) := by
    have h := T5.out
    exact fun hh => h5 (h.symm.trans hh)
  have q5 : (t5.toList == s.toList) = false := Tx.list_ne _ _ h5
  clear T5 h5
  go_wp2
  clear q5
  rw [rounds_succ]; go_wp2_with fail
  refine (spec_pt _ _).mono ?_
  rintro e w1 ⟨rfl, rfl⟩
  obtain ⟨t6, T6⟩ : ∃ t, Hid (pt 6 = t) := ⟨_, rfl⟩
  rw [T6.out]
  by_cases h6 : t6 = s
  · have HV : Hid (r = 6) := by
      have h := HR.out
      unfold po at h
      rw [if_neg N1.out, if_neg N2.out, if_neg N3.out, if_neg N4.out, if_neg N5.out, if_pos (by rw [T6.out]; exact h6)] at h
      exact h.symm
    clear HR
    have hq : (t6.toList == s.toList) = true := by rw [h6]; exact beq_self_eq_true _
    clear T6 h6
    go_wp2
    go_ret
    exact ⟨by rw [HV.out]; rfl, rfl⟩
  have N6 : Hid (¬ pt 6 = s) := by
    have h := T6.out
    exact fun hh => h6 (h.symm.trans hh)
  have q6 : (t6.toList == s.toList) = false := Tx.list_ne _ _ h6
  clear T6 h6
  go_wp2
  clear q6
  rw [rounds_succ]; go_wp2_with fail
  refine (spec_pt _ _).mono ?_
  rintro e w1 ⟨rfl, rfl⟩
  obtain ⟨t7, T7⟩ : ∃ t, Hid (pt 7 = t) := ⟨_, rfl⟩
  rw [T7.out]
  by_cases h7 : t7 = s
  · have HV : Hid (r = 7) := by
      have h := HR.out
      unfold po at h
      rw [if_neg N1.out, if_neg N2.out, if_neg N3.out, if_neg N4.out, if_neg N5.out, if_neg N6.out, if_pos (by rw [T7.out]; exact h7)] at h
      exact h.symm
    clear HR
    have hq : (t7.toList == s.toList) = true := by rw [h7]; exact beq_self_eq_true _
    clear T7 h7
    go_wp2
    go_ret
    exact ⟨by rw [HV.out]; rfl, rfl⟩
  have N7 : Hid (¬ pt 7 = s) := by
    have h := T7.out
    exact fun hh => h7 (h.symm.trans hh)
  have q7 : (t7.toList == s.toList) = false := Tx.list_ne _ _ h7
  clear T7 h7
  go_wp2
  clear q7
  have HV : Hid (r = 0) := by
    have h := HR.out
    unfold po at h
    rw [if_neg N1.out, if_neg N2.out, if_neg N3.out, if_neg N4.out, if_neg N5.out, if_neg N6.out, if_neg N7.out] at h
    exact h.symm
  rw [rounds_succ]; go_wp2
  go_ret
  exact ⟨by rw [HV.out]; rfl, rfl⟩

theorem impl_po (s : ByteArray) (w : World) :
    Calls Try.prog 8 #[.string s] w fun e w' => e = .returned (.int .i64 (po s)) ∧ w' = w := by
  obtain ⟨r, HR⟩ : ∃ r, Hid (po s = r) := ⟨_, rfl⟩
  rw [HR.out]
  go_enter Try.func8, Try.ntmps8
  go_wp2
  refine wp_loop_rounds 8 ?_
  rw [rounds_succ]; go_wp2_with fail
  refine (impl_pt _ _).mono ?_
  rintro e w1 ⟨rfl, rfl⟩
  obtain ⟨t1, T1⟩ : ∃ t, Hid (pt 1 = t) := ⟨_, rfl⟩
  rw [T1.out]
  by_cases h1 : t1 = s
  · have HV : Hid (r = 1) := by
      have h := HR.out
      unfold po at h
      rw [if_pos (by rw [T1.out]; exact h1)] at h
      exact h.symm
    clear HR
    have hq : (t1.toList == s.toList) = true := by rw [h1]; exact beq_self_eq_true _
    clear T1 h1
    go_wp2
    go_ret
    exact ⟨by rw [HV.out]; rfl, rfl⟩
  have N1 : Hid (¬ pt 1 = s) := by
    have h := T1.out
    exact fun hh => h1 (h.symm.trans hh)
  have q1 : (t1.toList == s.toList) = false := Tx.list_ne _ _ h1
  clear T1 h1
  go_wp2
  clear q1
  rw [rounds_succ]; go_wp2_with fail
  refine (impl_pt _ _).mono ?_
  rintro e w1 ⟨rfl, rfl⟩
  obtain ⟨t2, T2⟩ : ∃ t, Hid (pt 2 = t) := ⟨_, rfl⟩
  rw [T2.out]
  by_cases h2 : t2 = s
  · have HV : Hid (r = 2) := by
      have h := HR.out
      unfold po at h
      rw [if_neg N1.out, if_pos (by rw [T2.out]; exact h2)] at h
      exact h.symm
    clear HR
    have hq : (t2.toList == s.toList) = true := by rw [h2]; exact beq_self_eq_true _
    clear T2 h2
    go_wp2
    go_ret
    exact ⟨by rw [HV.out]; rfl, rfl⟩
  have N2 : Hid (¬ pt 2 = s) := by
    have h := T2.out
    exact fun hh => h2 (h.symm.trans hh)
  have q2 : (t2.toList == s.toList) = false := Tx.list_ne _ _ h2
  clear T2 h2
  go_wp2
  clear q2
  rw [rounds_succ]; go_wp2_with fail
  refine (impl_pt _ _).mono ?_
  rintro e w1 ⟨rfl, rfl⟩
  obtain ⟨t3, T3⟩ : ∃ t, Hid (pt 3 = t) := ⟨_, rfl⟩
  rw [T3.out]
  by_cases h3 : t3 = s
  · have HV : Hid (r = 3) := by
      have h := HR.out
      unfold po at h
      rw [if_neg N1.out, if_neg N2.out, if_pos (by rw [T3.out]; exact h3)] at h
      exact h.symm
    clear HR
    have hq : (t3.toList == s.toList) = true := by rw [h3]; exact beq_self_eq_true _
    clear T3 h3
    go_wp2
    go_ret
    exact ⟨by rw [HV.out]; rfl, rfl⟩
  have N3 : Hid (¬ pt 3 = s) := by
    have h := T3.out
    exact fun hh => h3 (h.symm.trans hh)
  have q3 : (t3.toList == s.toList) = false := Tx.list_ne _ _ h3
  clear T3 h3
  go_wp2
  clear q3
  rw [rounds_succ]; go_wp2_with fail
  refine (impl_pt _ _).mono ?_
  rintro e w1 ⟨rfl, rfl⟩
  obtain ⟨t4, T4⟩ : ∃ t, Hid (pt 4 = t) := ⟨_, rfl⟩
  rw [T4.out]
  by_cases h4 : t4 = s
  · have HV : Hid (r = 4) := by
      have h := HR.out
      unfold po at h
      rw [if_neg N1.out, if_neg N2.out, if_neg N3.out, if_pos (by rw [T4.out]; exact h4)] at h
      exact h.symm
    clear HR
    have hq : (t4.toList == s.toList) = true := by rw [h4]; exact beq_self_eq_true _
    clear T4 h4
    go_wp2
    go_ret
    exact ⟨by rw [HV.out]; rfl, rfl⟩
  have N4 : Hid (¬ pt 4 = s) := by
    have h := T4.out
    exact fun hh => h4 (h.symm.trans hh)
  have q4 : (t4.toList == s.toList) = false := Tx.list_ne _ _ h4
  clear T4 h4
  go_wp2
  clear q4
  rw [rounds_succ]; go_wp2_with fail
  refine (impl_pt _ _).mono ?_
  rintro e w1 ⟨rfl, rfl⟩
  obtain ⟨t5, T5⟩ : ∃ t, Hid (pt 5 = t) := ⟨_, rfl⟩
  rw [T5.out]
  by_cases h5 : t5 = s
  · have HV : Hid (r = 5) := by
      have h := HR.out
      unfold po at h
      rw [if_neg N1.out, if_neg N2.out, if_neg N3.out, if_neg N4.out, if_pos (by rw [T5.out]; exact h5)] at h
      exact h.symm
    clear HR
    have hq : (t5.toList == s.toList) = true := by rw [h5]; exact beq_self_eq_true _
    clear T5 h5
    go_wp2
    go_ret
    exact ⟨by rw [HV.out]; rfl, rfl⟩
  have N5 : Hid (¬ pt 5 = s) := by
    have h := T5.out
    exact fun hh => h5 (h.symm.trans hh)
  have q5 : (t5.toList == s.toList) = false := Tx.list_ne _ _ h5
  clear T5 h5
  go_wp2
  clear q5
  rw [rounds_succ]; go_wp2_with fail
  refine (impl_pt _ _).mono ?_
  rintro e w1 ⟨rfl, rfl⟩
  obtain ⟨t6, T6⟩ : ∃ t, Hid (pt 6 = t) := ⟨_, rfl⟩
  rw [T6.out]
  by_cases h6 : t6 = s
  · have HV : Hid (r = 6) := by
      have h := HR.out
      unfold po at h
      rw [if_neg N1.out, if_neg N2.out, if_neg N3.out, if_neg N4.out, if_neg N5.out, if_pos (by rw [T6.out]; exact h6)] at h
      exact h.symm
    clear HR
    have hq : (t6.toList == s.toList) = true := by rw [h6]; exact beq_self_eq_true _
    clear T6 h6
    go_wp2
    go_ret
    exact ⟨by rw [HV.out]; rfl, rfl⟩
  have N6 : Hid (¬ pt 6 = s) := by
    have h := T6.out
    exact fun hh => h6 (h.symm.trans hh)
  have q6 : (t6.toList == s.toList) = false := Tx.list_ne _ _ h6
  clear T6 h6
  go_wp2
  clear q6
  rw [rounds_succ]; go_wp2_with fail
  refine (impl_pt _ _).mono ?_
  rintro e w1 ⟨rfl, rfl⟩
  obtain ⟨t7, T7⟩ : ∃ t, Hid (pt 7 = t) := ⟨_, rfl⟩
  rw [T7.out]
  by_cases h7 : t7 = s
  · have HV : Hid (r = 7) := by
      have h := HR.out
      unfold po at h
      rw [if_neg N1.out, if_neg N2.out, if_neg N3.out, if_neg N4.out, if_neg N5.out, if_neg N6.out, if_pos (by rw [T7.out]; exact h7)] at h
      exact h.symm
    clear HR
    have hq : (t7.toList == s.toList) = true := by rw [h7]; exact beq_self_eq_true _
    clear T7 h7
    go_wp2
    go_ret
    exact ⟨by rw [HV.out]; rfl, rfl⟩
  have N7 : Hid (¬ pt 7 = s) := by
    have h := T7.out
    exact fun hh => h7 (h.symm.trans hh)
  have q7 : (t7.toList == s.toList) = false := Tx.list_ne _ _ h7
  clear T7 h7
  go_wp2
  clear q7
  have HV : Hid (r = 0) := by
    have h := HR.out
    unfold po at h
    rw [if_neg N1.out, if_neg N2.out, if_neg N3.out, if_neg N4.out, if_neg N5.out, if_neg N6.out, if_neg N7.out] at h
    exact h.symm
  rw [rounds_succ]; go_wp2
  go_ret
  exact ⟨by rw [HV.out]; rfl, rfl⟩

end Go.Proofs.Ytmibfajjgdndbaa
