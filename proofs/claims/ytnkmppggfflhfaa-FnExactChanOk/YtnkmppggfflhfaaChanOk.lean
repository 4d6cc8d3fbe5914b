
/-
  At every row of a channel ChanOk answers as its model: the law FnExactChanOk returns true and its arguments read as before. No conditions.
  Built over the program of the commit that COMMIT names.
-/
import Derived.Test.YtnkmppggfflhfaaRows
import Derived.WalkKit
import Derived.ProofKit
import Derived.OpenShut
import Derived.Below
import Derived.Test.YtnkmppggfflhfaaChm
import Derived.ShutString
namespace Go.Proofs.Ytnkmppggfflhfaa.fnExactChanOk
open Go.ChangeShapes Go.WideShapes Go.ChangeAt Go.RowKit Go.Deep
set_option linter.unusedVariables false

theorem own : ownKnob Try.prog.godebug = none := by kernel_rfl

/-! ### The walk -/
set_option maxRecDepth 20000 in
set_option maxHeartbeats 2000000 in
theorem walk (rk rf rt rd : Int) (w0 : crwW rk rf rt rd) (w : World) :
    Calls Try.prog 3 #[crw rk rf rt rd] w fun e w' => e = .returned (.bool true) ∧ Below w.heap.size w w' := by
  have hb : Hid (Below w.heap.size w (w.alloc (.cells (crow rk rf rt rd) 23))) := (Below.refl _ w).alloc (Nat.le_refl _) _
  have hv : Hid (Bk (w.alloc (.cells (crow rk rf rt rd) 23)) w.heap.size (crow rk rf rt rd)) := Bk.new w _ _ _ rfl
  obtain ⟨q, HR⟩ : ∃ q, Hid (chOk rk rf rt rd = q) := ⟨_, rfl⟩
  have SP : Hid (∀ w, Calls Try.prog 14 #[crw rk rf rt rd] w fun x w' => x = .returned (.bool q) ∧ Below w.heap.size w w') := fun w => spec_chok rk rf rt rd q w HR
  have IM : Hid (∀ w, Calls Try.prog 16 #[crw rk rf rt rd] w fun x w' => x = .returned (.bool q) ∧ Below w.heap.size w w') := fun w => impl_chok rk rf rt rd q w HR
  clear w0 HR
  go_enter Try.func3, Try.ntmps3
  go_wp2_with fail
  refine (to_row rk rf rt rd _).mono ?_
  rintro x w1 ⟨rfl, hb1⟩
  replace hv : Hid _ := hv.out.below hb1
  replace hb : Hid _ := hb.out.trans (hb1.mono hb.out.size)
  clear hb1
  go_wp2_with fail
  refine (SP.out _).mono ?_
  rintro x w2 ⟨rfl, hb2⟩
  replace hv : Hid _ := hv.out.below hb2
  replace hb : Hid _ := hb.out.trans (hb2.mono hb.out.size)
  clear hb2
  have c0 := hv.out.cell 0 _ rfl
  have c1 := hv.out.cell 1 _ rfl
  have c2 := hv.out.cell 2 _ rfl
  have c3 := hv.out.cell 3 _ rfl
  go_wp2_with fail
  refine (to_row rk rf rt rd _).mono ?_
  rintro x w3 ⟨rfl, hb3⟩
  replace hv : Hid _ := hv.out.below hb3
  replace hb : Hid _ := hb.out.trans (hb3.mono hb.out.size)
  clear hb3 c0 c1 c2 c3
  go_wp2_with fail
  refine (IM.out _).mono ?_
  rintro x w4 ⟨rfl, hb4⟩
  replace hv : Hid _ := hv.out.below hb4
  replace hb : Hid _ := hb.out.trans (hb4.mono hb.out.size)
  clear hb4
  cases q
  · go_wp2
    go_ret
    exact ⟨rfl, hb.out⟩
  · go_wp2
    go_ret
    exact ⟨rfl, hb.out⟩

/-! ### The row -/
set_option maxRecDepth 100000 in
theorem lifted (os : Os) (started : os.Started) (H : Type) (enc : TypeId × Value → H) :
    ReturnsInHanded {} Try.checked os 3 .any (Rows.fnExactChanOkSpec.pre6 enc Try.prog Try.f3 Rows.fnExactChanOkRow.domain false) (Rows.fnExactChanOkSpec.post enc Try.prog Try.f3 false true false false) := by
  refine returnsInHanded_of_change (C := Try.checked) own started (by kernel_rfl) Try.func3
    (ChangeSpec.witness6 (enc := enc) (C := Try.checked) false ⟨#[], #[crw 0 0 0 0], []⟩ 8 (by kernel_rfl) (by kernel_rfl) (by kernel_rfl) (by kernel_rfl)) ?_
  intro W base args ds gs before hval0 hW hcnd _
  have hval : ∀ (j : Nat) t v, Try.f3.params[j]? = some t → args[j]? = some v → Value.okWide Try.prog W .any base t v := hval0
  have hW' := hW
  obtain ⟨p, q, hA0, hV, rfl, hfz, hnd⟩ := hW
  have hA : DataW.TrodAll enc Try.prog W 0 (fun _ => true) true Try.f3.params.toList args.toList ds p := hA0
  rw [Try.params3] at hA hval
  obtain ⟨v0, vs0, d0, ds0, p0, q0, hargs, rfl, rfl, h0, r0⟩ := trodAll_cons hA
  obtain ⟨rfl, rfl, rfl⟩ := trodAll_nil r0
  obtain rfl : args = #[v0] := by cases args; simp_all
  obtain ⟨rfl, rfl⟩ := trodVars_none hV
  obtain ⟨rk, rf, rt, rd, rfl, rfl, rfl, w0⟩ := crw_open (hval 0 23 v0 rfl rfl) h0
  clear hA0 hval0
  simp only [List.append_nil] at hW'
  refine (walk rk rf rt rd w0 W).mono fun e W' ⟨he, bel⟩ => ?_
  subst he
  exact ⟨_, rfl, _, _, _, [], [], [], hW', (trodAll_cons_mk (shut_bool Try.underlying4 _) trodAll_mk0), (trodAll_cons_mk (crw_reads w0) trodAll_mk0), rfl, bel.frame _, fun h => by cases h⟩

theorem over : Rows.fnExactChanOkRow.holds Try.pinned (OpenSpec.ofChange Rows.fnExactChanOkSpec) :=
  OpenClaim.holds_of_wide 3 Try.f3 rfl rfl rfl rfl rfl rfl rfl ⟨rfl, rfl, rfl, rfl, rfl⟩ rfl rfl rfl rfl rfl (by kernel_rfl) Try.func3 (by kernel_rfl)
    (of_decide_eq_true (by kernel_rfl)) (by unfold Func.isWrapper; first | (rw [if_pos (by decide +kernel)]; kernel_rfl) | (rw [if_neg (by decide +kernel)]; exact ⟨rfl, rfl⟩))
    (fun os started H enc _ => lifted os started H enc)

end Go.Proofs.Ytnkmppggfflhfaa.fnExactChanOk
namespace Go.Proofs.Ytnkmppggfflhfaa
theorem FnExactChanOk_holds : Rows.FnExactChanOkSaid := fnExactChanOk.over
end Go.Proofs.Ytnkmppggfflhfaa
