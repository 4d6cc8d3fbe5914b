
/-
  At every health HealthOk answers as its model: the law FnExactHealthOk returns true and its argument reads as before. No conditions.
  Built over the program of the commit that COMMIT names.
-/
import Derived.Test.YtnjjjcmomjcmfaaRows
import Derived.WalkKit
import Derived.ProofKit
import Derived.OpenShut
import Derived.Below
import Derived.Test.YtnjjjcmomjcmfaaHpk
import Derived.ShutString
namespace Go.Proofs.Ytnjjjcmomjcmfaa.fnExactHealthOk
open Go.ChangeShapes Go.WideShapes Go.ChangeAt Go.RowKit Go.Deep
set_option linter.unusedVariables false

theorem own : ownKnob Try.prog.godebug = none := by kernel_rfl

/-! ### The walk -/
set_option maxRecDepth 20000 in
set_option maxHeartbeats 2000000 in
theorem walk (hf hr hl : Int) (hh : Bool) (w0 : hltW hf hr hl) (w : World) :
    Calls Try.prog 4 #[hlt hf hr hl hh] w fun e w' => e = .returned (.bool true) ∧ Below w.heap.size w w' := by
  have hb : Hid (Below w.heap.size w (w.alloc (.cells (hrow hf hr hl hh) 29))) := (Below.refl _ w).alloc (Nat.le_refl _) _
  have hv : Hid (HC (w.alloc (.cells (hrow hf hr hl hh) 29)) w.heap.size hf hr hl hh) := HC.new _ _ _ _ _ _
  obtain ⟨q, HR⟩ : ∃ q : Bool, Hid (hltOk hf hr hl = q) := ⟨_, rfl⟩
  have SP : Hid (∀ w, Calls Try.prog 12 #[hlt hf hr hl hh] w fun x w' => x = .returned (.bool q) ∧ Below w.heap.size w w') := fun w => by rw [← HR.out]; exact spec_hok hf hr hl hh w
  have IM : Hid (∀ w, Calls Try.prog 14 #[hlt hf hr hl hh] w fun x w' => x = .returned (.bool q) ∧ Below w.heap.size w w') := fun w => by rw [← HR.out]; exact impl_hok hf hr hl hh w
  clear w0 HR
  go_enter Try.func4, Try.ntmps4
  go_wp2_with fail
  refine (to_health hf hr hl hh _).mono ?_
  rintro x w1 ⟨rfl, hb1⟩
  replace hv : Hid _ := hv.out.kept hb1 hv.out.lt
  replace hb : Hid _ := hb.out.trans (hb1.mono hb.out.size)
  clear hb1
  go_wp2_with fail
  refine (SP.out _).mono ?_
  rintro x w2 ⟨rfl, hb2⟩
  replace hv : Hid _ := hv.out.kept hb2 hv.out.lt
  replace hb : Hid _ := hb.out.trans (hb2.mono hb.out.size)
  clear hb2
  have hl0 : w.heap.size < w2.heap.size := hv.out.lt
  obtain ⟨c0, c1, c2, c3⟩ := hv.out
  go_wp2_with fail
  refine (to_health hf hr hl hh _).mono ?_
  rintro x w3 ⟨rfl, hb3⟩
  replace hv : Hid _ := hv.out.kept hb3 hv.out.lt
  replace hb : Hid _ := hb.out.trans (hb3.mono hb.out.size)
  clear hb3 c0 c1 c2 c3
  go_wp2_with fail
  refine (IM.out _).mono ?_
  rintro x w4 ⟨rfl, hb4⟩
  replace hv : Hid _ := hv.out.kept hb4 hv.out.lt
  replace hb : Hid _ := hb.out.trans (hb4.mono hb.out.size)
  clear hb4
  go_wp2
  go_ret
  exact ⟨rfl, hb.out⟩


/-! ### The row -/
set_option maxRecDepth 100000 in
theorem lifted (os : Os) (started : os.Started) (H : Type) (enc : TypeId × Value → H) :
    ReturnsInHanded {} Try.checked os 4 .any (Rows.fnExactHealthOkSpec.pre6 enc Try.prog Try.f4 Rows.fnExactHealthOkRow.domain false) (Rows.fnExactHealthOkSpec.post enc Try.prog Try.f4 false true false false) := by
  refine returnsInHanded_of_change (C := Try.checked) own started (by kernel_rfl) Try.func4
    (ChangeSpec.witness6 (enc := enc) (C := Try.checked) false ⟨#[], #[hlt 0 0 0 false], []⟩ 8 (by kernel_rfl) (by kernel_rfl) (by kernel_rfl) (by kernel_rfl)) ?_
  intro W base args ds gs before hval0 hW hcnd _
  have hval : ∀ (j : Nat) t v, Try.f4.params[j]? = some t → args[j]? = some v → Value.okWide Try.prog W .any base t v := hval0
  have hW' := hW
  obtain ⟨p, q, hA0, hV, rfl, hfz, hnd⟩ := hW
  have hA : DataW.TrodAll enc Try.prog W 0 (fun _ => true) true Try.f4.params.toList args.toList ds p := hA0
  rw [Try.params4] at hA hval
  obtain ⟨v0, vs0, d0, ds0, p0, q0, hargs, rfl, rfl, h0, r0⟩ := trodAll_cons hA
  obtain ⟨rfl, rfl, rfl⟩ := trodAll_nil r0
  obtain rfl : args = #[v0] := by cases args; simp_all
  obtain ⟨rfl, rfl⟩ := trodVars_none hV
  obtain ⟨hf, hr, hl, hh, rfl, rfl, rfl, w0⟩ := hlt_open (hval 0 29 v0 rfl rfl) h0
  clear hA0 hval0
  simp only [List.append_nil] at hW'
  refine (walk hf hr hl hh w0 W).mono fun e W' ⟨he, bel⟩ => ?_
  subst he
  exact ⟨_, rfl, _, _, _, [], [], [], hW', (trodAll_cons_mk (shut_bool Try.underlying4 _) trodAll_mk0), (trodAll_cons_mk (hlt_reads w0) trodAll_mk0), rfl, bel.frame _, fun h => by cases h⟩

theorem over : Rows.fnExactHealthOkRow.holds Try.pinned (OpenSpec.ofChange Rows.fnExactHealthOkSpec) :=
  OpenClaim.holds_of_wide 4 Try.f4 rfl rfl rfl rfl rfl rfl rfl ⟨rfl, rfl, rfl, rfl, rfl⟩ rfl rfl rfl rfl rfl (by kernel_rfl) Try.func4 (by kernel_rfl)
    (of_decide_eq_true (by kernel_rfl)) (by unfold Func.isWrapper; first | (rw [if_pos (by decide +kernel)]; kernel_rfl) | (rw [if_neg (by decide +kernel)]; exact ⟨rfl, rfl⟩))
    (fun os started H enc _ => lifted os started H enc)

end Go.Proofs.Ytnjjjcmomjcmfaa.fnExactHealthOk
namespace Go.Proofs.Ytnjjjcmomjcmfaa
theorem FnExactHealthOk_holds : Rows.FnExactHealthOkSaid := fnExactHealthOk.over
end Go.Proofs.Ytnjjjcmomjcmfaa
