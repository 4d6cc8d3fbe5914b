
/-
  At every policy PolicyOk answers as its model: the law FnExactPolicyOk returns true and its argument reads as before. No conditions.
  Built over the program of the commit that COMMIT names.
-/
import Derived.Test.YtnjjjcmomjcmfaaRows
import Derived.WalkKit
import Derived.ProofKit
import Derived.OpenShut
import Derived.Below
import Derived.Test.YtnjjjcmomjcmfaaHpk
import Derived.ShutString
namespace Go.Proofs.Ytnjjjcmomjcmfaa.fnExactPolicyOk
open Go.ChangeShapes Go.WideShapes Go.ChangeAt Go.RowKit Go.Deep
set_option linter.unusedVariables false

theorem own : ownKnob Try.prog.godebug = none := by kernel_rfl

/-! ### The walk -/
set_option maxRecDepth 20000 in
set_option maxHeartbeats 2000000 in
theorem walk (pk pm : Int) (w0 : polW pk pm) (w : World) :
    Calls Try.prog 3 #[pol pk pm] w fun e w' => e = .returned (.bool true) ∧ Below w.heap.size w w' := by
  have hb : Hid (Below w.heap.size w (w.alloc (.cells (prow pk pm) 23))) := (Below.refl _ w).alloc (Nat.le_refl _) _
  have hv : Hid (PC (w.alloc (.cells (prow pk pm) 23)) w.heap.size pk pm) := PC.new _ _ _ _
  obtain ⟨q, HR⟩ : ∃ q : Bool, Hid (polOk pk pm = q) := ⟨_, rfl⟩
  have SP : Hid (∀ w, Calls Try.prog 9 #[pol pk pm] w fun x w' => x = .returned (.bool q) ∧ Below w.heap.size w w') := fun w => by rw [← HR.out]; exact spec_pok pk pm w
  have IM : Hid (∀ w, Calls Try.prog 11 #[pol pk pm] w fun x w' => x = .returned (.bool q) ∧ Below w.heap.size w w') := fun w => by rw [← HR.out]; exact impl_pok pk pm w
  clear w0 HR
  go_enter Try.func3, Try.ntmps3
  go_wp2_with fail
  refine (to_policy pk pm _).mono ?_
  rintro x w1 ⟨rfl, hb1⟩
  replace hv : Hid _ := hv.out.kept hb1 hv.out.lt
  replace hb : Hid _ := hb.out.trans (hb1.mono hb.out.size)
  clear hb1
  go_wp2_with fail
  refine (SP.out _).mono ?_
  rintro x w2 ⟨rfl, hb2⟩
  replace hv : Hid _ := hv.out.kept hb2 hv.out.lt
  replace hb : Hid _ := hb.out.trans (hb2.mono hb.out.size)
  clear hb2
  have hl0 : w.heap.size < w2.heap.size := hv.out.lt
  obtain ⟨c0, c1⟩ := hv.out
  go_wp2_with fail
  refine (to_policy pk pm _).mono ?_
  rintro x w3 ⟨rfl, hb3⟩
  replace hv : Hid _ := hv.out.kept hb3 hv.out.lt
  replace hb : Hid _ := hb.out.trans (hb3.mono hb.out.size)
  clear hb3 c0 c1
  go_wp2_with fail
  refine (IM.out _).mono ?_
  rintro x w4 ⟨rfl, hb4⟩
  replace hv : Hid _ := hv.out.kept hb4 hv.out.lt
  replace hb : Hid _ := hb.out.trans (hb4.mono hb.out.size)
  clear hb4
  go_wp2
  go_ret
  exact ⟨rfl, hb.out⟩


/-! ### The row -/
set_option maxRecDepth 100000 in
theorem lifted (os : Os) (started : os.Started) (H : Type) (enc : TypeId × Value → H) :
    ReturnsInHanded {} Try.checked os 3 .any (Rows.fnExactPolicyOkSpec.pre6 enc Try.prog Try.f3 Rows.fnExactPolicyOkRow.domain false) (Rows.fnExactPolicyOkSpec.post enc Try.prog Try.f3 false true false false) := by
  refine returnsInHanded_of_change (C := Try.checked) own started (by kernel_rfl) Try.func3
    (ChangeSpec.witness6 (enc := enc) (C := Try.checked) false ⟨#[], #[pol 0 0], []⟩ 8 (by kernel_rfl) (by kernel_rfl) (by kernel_rfl) (by kernel_rfl)) ?_
  intro W base args ds gs before hval0 hW hcnd _
  have hval : ∀ (j : Nat) t v, Try.f3.params[j]? = some t → args[j]? = some v → Value.okWide Try.prog W .any base t v := hval0
  have hW' := hW
  obtain ⟨p, q, hA0, hV, rfl, hfz, hnd⟩ := hW
  have hA : DataW.TrodAll enc Try.prog W 0 (fun _ => true) true Try.f3.params.toList args.toList ds p := hA0
  rw [Try.params3] at hA hval
  obtain ⟨v0, vs0, d0, ds0, p0, q0, hargs, rfl, rfl, h0, r0⟩ := trodAll_cons hA
  obtain ⟨rfl, rfl, rfl⟩ := trodAll_nil r0
  obtain rfl : args = #[v0] := by cases args; simp_all
  obtain ⟨rfl, rfl⟩ := trodVars_none hV
  obtain ⟨pk, pm, rfl, rfl, rfl, w0⟩ := pol_open (hval 0 23 v0 rfl rfl) h0
  clear hA0 hval0
  simp only [List.append_nil] at hW'
  refine (walk pk pm w0 W).mono fun e W' ⟨he, bel⟩ => ?_
  subst he
  exact ⟨_, rfl, _, _, _, [], [], [], hW', (trodAll_cons_mk (shut_bool Try.underlying4 _) trodAll_mk0), (trodAll_cons_mk (pol_reads w0) trodAll_mk0), rfl, bel.frame _, fun h => by cases h⟩

theorem over : Rows.fnExactPolicyOkRow.holds Try.pinned (OpenSpec.ofChange Rows.fnExactPolicyOkSpec) :=
  OpenClaim.holds_of_wide 3 Try.f3 rfl rfl rfl rfl rfl rfl rfl ⟨rfl, rfl, rfl, rfl, rfl⟩ rfl rfl rfl rfl rfl (by kernel_rfl) Try.func3 (by kernel_rfl)
    (of_decide_eq_true (by kernel_rfl)) (by unfold Func.isWrapper; first | (rw [if_pos (by decide +kernel)]; kernel_rfl) | (rw [if_neg (by decide +kernel)]; exact ⟨rfl, rfl⟩))
    (fun os started H enc _ => lifted os started H enc)

end Go.Proofs.Ytnjjjcmomjcmfaa.fnExactPolicyOk
namespace Go.Proofs.Ytnjjjcmomjcmfaa
theorem FnExactPolicyOk_holds : Rows.FnExactPolicyOkSaid := fnExactPolicyOk.over
end Go.Proofs.Ytnjjjcmomjcmfaa
