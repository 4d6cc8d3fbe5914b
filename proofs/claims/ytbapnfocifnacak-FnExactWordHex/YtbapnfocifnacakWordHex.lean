/-
  At every text WordHex answers as its model: the law FnExactWordHex returns true and its argument reads as before. No conditions.
  Built over the program of the commit that COMMIT names.
-/
import Derived.Test.YtbapnfocifnacakRows
import Derived.WalkKit
import Derived.ProofKit
import Derived.OpenShut
import Derived.Below
import Derived.Test.YtbapnfocifnacakHexNum
import Derived.ShutString
namespace Go.Proofs.Ytbapnfocifnacak.fnExactWordHex
open Go.ChangeShapes Go.WideShapes Go.ChangeAt Go.RowKit
open Go.ChangeMaps (open_string shut_string)
set_option linter.unusedVariables false

theorem own : ownKnob Try.prog.godebug = none := by kernel_rfl

/-! ### The walk -/
theorem fixN (s : ByteArray) : ∃ (v : Int) (t : Bool), Hid (v = Wd.hexN s) ∧ Hid (t = Wd.hexOk s) := ⟨_, _, rfl, rfl⟩
set_option maxHeartbeats 400000 in
theorem yes (a0 : ByteArray) (w : World) (h8 : a0.size = 8) :
    Calls Try.prog 7 #[.string a0] w fun e w' => e = .returned (.bool true) ∧ Below w.heap.size w w' := by
  have H8 : Hid _ := h8
  have hn : a0.size ≤ 1048576 := by omega
  clear h8
  obtain ⟨v, t, HV, HT⟩ := fixN a0
  go_enter Try.func7, Try.ntmps7
  go_wp2_with fail
  refine (spec_hexnum _ _ H8.out).mono ?_
  rintro e w1 ⟨rfl, rfl⟩
  rw [← HV.out, ← HT.out]
  go_wp2_with fail
  refine (impl_hexnum _ _ H8.out).mono ?_
  rintro e w2 ⟨rfl, hb⟩
  rw [← HV.out, ← HT.out]
  go_wp2
  go_ret
  exact ⟨rfl, hb⟩
set_option maxHeartbeats 400000 in
theorem no (a0 : ByteArray) (w : World) (h8 : ¬ a0.size = 8) (hn : a0.size ≤ 1048576) :
    Calls Try.prog 7 #[.string a0] w fun e w' => e = .returned (.bool true) ∧ Below w.heap.size w w' := by
  have H8 : Hid _ := h8
  clear h8
  go_enter Try.func7, Try.ntmps7
  go_wp2_with fail
  refine (spec_hexnum_no _ _ H8.out hn).mono ?_
  rintro e w1 ⟨rfl, rfl⟩
  go_wp2_with fail
  refine (impl_hexnum_no _ _ H8.out hn).mono ?_
  rintro e w2 ⟨rfl, hb⟩
  go_wp2
  go_ret
  exact ⟨rfl, hb⟩
theorem walk (a0 : ByteArray) (w0 : a0.size ≤ maxLen) (w : World) :
    Calls Try.prog 7 #[.string a0] w fun e w' => e = .returned (.bool true) ∧ Below w.heap.size w w' := by
  by_cases hn : a0.size ≤ 1048576
  · by_cases h8 : a0.size = 8
    · exact yes a0 w h8
    · exact no a0 w h8 hn
  · go_enter Try.func7, Try.ntmps7
    go_wp2
    go_ret
    exact ⟨rfl, Below.refl _ _⟩

/-! ### The row -/
set_option maxRecDepth 100000 in
theorem lifted (os : Os) (started : os.Started) (H : Type) (enc : TypeId × Value → H) :
    ReturnsInHanded {} Try.checked os 7 .any (Rows.fnExactWordHexSpec.pre6 enc Try.prog Try.f7 Rows.fnExactWordHexRow.domain false) (Rows.fnExactWordHexSpec.post enc Try.prog Try.f7 false true false false) := by
  refine returnsInHanded_of_change (C := Try.checked) own started (by kernel_rfl) Try.func7
    (ChangeSpec.witness6 (enc := enc) (C := Try.checked) false ⟨#[], #[.string ByteArray.empty], []⟩ 8 (by kernel_rfl) (by kernel_rfl) (by kernel_rfl) (by kernel_rfl)) ?_
  intro W base args ds gs before hval0 hW hcnd _
  have hval : ∀ (j : Nat) t v, Try.f7.params[j]? = some t → args[j]? = some v → Value.okWide Try.prog W .any base t v := hval0
  have hW' := hW
  obtain ⟨p, q, hA0, hV, rfl, hfz, hnd⟩ := hW
  have hA : DataW.TrodAll enc Try.prog W 0 (fun _ => true) true Try.f7.params.toList args.toList ds p := hA0
  rw [Try.params7] at hA hval
  obtain ⟨v0, vs0, d0, ds0, p0, q0, hargs, rfl, rfl, h0, r0⟩ := trodAll_cons hA
  obtain ⟨rfl, rfl, rfl⟩ := trodAll_nil r0
  obtain rfl : args = #[v0] := by cases args; simp_all
  obtain ⟨rfl, rfl⟩ := trodVars_none hV
  obtain ⟨a0, rfl, rfl, rfl, w0⟩ := open_string Try.underlying9 (hval 0 9 v0 rfl rfl) h0
  clear hA0 hval0
  simp only [List.append_nil] at hW'
  refine (walk a0 w0 W).mono fun e W' ⟨he, bel⟩ => ?_
  subst he
  exact ⟨_, rfl, _, _, _, [], [], [], hW', (trodAll_cons_mk (shut_bool Try.underlying4 _) trodAll_mk0), (trodAll_cons_mk (shut_string Try.underlying9 w0) trodAll_mk0), rfl, bel.frame _, fun h => by cases h⟩

theorem over : Rows.fnExactWordHexRow.holds Try.pinned (OpenSpec.ofChange Rows.fnExactWordHexSpec) :=
  OpenClaim.holds_of_wide 7 Try.f7 rfl rfl rfl rfl rfl rfl rfl ⟨rfl, rfl, rfl, rfl, rfl⟩ rfl rfl rfl rfl rfl (by kernel_rfl) Try.func7 (by kernel_rfl)
    (of_decide_eq_true (by kernel_rfl)) (by unfold Func.isWrapper; first | (rw [if_pos (by decide +kernel)]; kernel_rfl) | (rw [if_neg (by decide +kernel)]; exact ⟨rfl, rfl⟩))
    (fun os started H enc _ => lifted os started H enc)

end Go.Proofs.Ytbapnfocifnacak.fnExactWordHex
namespace Go.Proofs.Ytbapnfocifnacak
theorem FnExactWordHex_holds : Rows.FnExactWordHexSaid := fnExactWordHex.over
end Go.Proofs.Ytbapnfocifnacak
