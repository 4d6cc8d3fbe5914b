/-
  At every window WindowOk answers as its model: the law FnExactWindowOk returns true and its argument reads as before. No conditions.
  Built over the program of the commit that COMMIT names.
-/
import Derived.Test.YtgeaiedflhlmdaaRows
import Derived.WalkKit
import Derived.ProofKit
import Derived.OpenShut
import Derived.Below
import Derived.Carry
import Derived.Test.YtgeaiedflhlmdaaWnl
import Derived.ShutString
namespace Go.Proofs.Ytgeaiedflhlmdaa.fnExactWindowOk
open Go.ChangeShapes Go.WideShapes Go.ChangeAt Go.RowKit
set_option linter.unusedVariables false

theorem own : ownKnob Try.prog.godebug = none := by kernel_rfl

/-! ### The walk -/
set_option maxHeartbeats 2000000 in
theorem walk (x : Wn) (w : World) (hs : x.2.1 ≤ 9223372036854775807) :
    Calls Try.prog 3 #[win x.1 x.2.1 x.2.2] w fun e w' => e = .returned (.bool true) ∧ Below w.heap.size w w' := by
  obtain ⟨q, hq⟩ := told (WOk x)
  have HSP : Hid (∀ X, Calls Try.prog 11 #[win x.1 x.2.1 x.2.2] X fun e w' => e = .returned (.bool q) ∧ Below X.heap.size X w') := fun X => spec_wok _ _ _ q X hq
  have HIM : Hid (∀ X, Calls Try.prog 13 #[win x.1 x.2.1 x.2.2] X fun e w' => e = .returned (.bool q) ∧ Below X.heap.size X w') := fun X => impl_wok _ _ _ q X hs hq
  clear hs hq
  obtain ⟨x1, x2, x3⟩ := x
  simp only at HSP HIM
  simp only
  have K0 := Bk.new w #[.int .i64 x1, .int .i64 x2, .int .i64 x3] 23 w.heap.size rfl
  have hb0 : Below w.heap.size w (w.alloc (wrow 23 x1 x2 x3)) := (Below.refl _ _).alloc (Nat.le_refl _) _
  go_enter Try.func3, Try.ntmps3
  go_wp2_with fail
  refine (to_win x1 x2 x3 _).mono ?_
  rintro u w1 ⟨rfl, hb1⟩
  go_wp2_with fail
  refine (HSP.out _).mono ?_
  rintro u w2 ⟨rfl, hb2⟩
  have hb12 := hb1.trans (hb2.mono hb1.size)
  have K2 := K0.below hb12
  have hb := hb0.trans (hb12.mono (by simp))
  have c0 := K2.cell 0 _ rfl
  have c1 := K2.cell 1 _ rfl
  have c2 := K2.cell 2 _ rfl
  have HB : Hid _ := hb
  clear K0 K2 hb0 hb1 hb2 hb12 hb
  go_wp2_with fail
  refine (to_win x1 x2 x3 _).mono ?_
  rintro u w3 ⟨rfl, hb3⟩
  have HB3 : Hid _ := HB.out.trans (hb3.mono HB.out.size)
  clear hb3 HB c0 c1 c2
  go_wp2_with fail
  refine (HIM.out _).mono ?_
  rintro u w4 ⟨rfl, hb4⟩
  have HB4 : Hid _ := HB3.out.trans (hb4.mono HB3.out.size)
  clear hb4 HB3
  cases q <;> (go_wp2; go_ret; exact ⟨rfl, HB4.out⟩)

/-! ### The row -/
set_option maxRecDepth 100000 in
theorem lifted (os : Os) (started : os.Started) (H : Type) (enc : TypeId × Value → H) :
    ReturnsInHanded {} Try.checked os 3 .any (Rows.fnExactWindowOkSpec.pre6 enc Try.prog Try.f3 Rows.fnExactWindowOkRow.domain false) (Rows.fnExactWindowOkSpec.post enc Try.prog Try.f3 false true false false) := by
  refine returnsInHanded_of_change (C := Try.checked) own started (by kernel_rfl) Try.func3
    (ChangeSpec.witness6 (enc := enc) (C := Try.checked) false ⟨#[], #[win 0 0 0], []⟩ 8 (by kernel_rfl) (by kernel_rfl) (by kernel_rfl) (by kernel_rfl)) ?_
  intro W base args ds gs before hval0 hW hcnd _
  have hval : ∀ (j : Nat) t v, Try.f3.params[j]? = some t → args[j]? = some v → Value.okWide Try.prog W .any base t v := hval0
  have hW' := hW
  obtain ⟨p, q, hA0, hV, rfl, hfz, hnd⟩ := hW
  have hA : DataW.TrodAll enc Try.prog W 0 (fun _ => true) true Try.f3.params.toList args.toList ds p := hA0
  rw [Try.params3] at hA hval
  obtain ⟨v0, vs0, d0, ds0, p0, q0, hargs, rfl, rfl, h0, r0⟩ := trodAll_cons hA
  obtain ⟨rfl, rfl, rfl⟩ := trodAll_nil r0
  obtain rfl : args = #[v0] := by cases args; simp_all
  obtain ⟨rfl, rfl⟩ := trodVars_none hV
  have k0 := h0
  have lt0 : ∀ x ∈ p0, x.block < W.heap.size := by obtain ⟨m, hm⟩ := k0; exact DataW.trod_lt m _ _ _ hm
  obtain ⟨x, rfl, hs⟩ := win_open (hval 0 23 v0 rfl rfl) h0
  clear hA0 hval0
  refine (walk x W hs).mono fun e W' ⟨he, bel⟩ => ?_
  subst he
  exact ⟨_, rfl, _, _, _, [], _, [], hW', (trodAll_cons_mk (shut_bool Try.underlying4 _) trodAll_mk0), (trodAll_cons_mk (Below.trod laidOut (by kernel_rfl) (of_decide_eq_true (by kernel_rfl)) k0 bel lt0) trodAll_mk0), rfl, bel.frame _, fun h => by cases h⟩

theorem over : Rows.fnExactWindowOkRow.holds Try.pinned (OpenSpec.ofChange Rows.fnExactWindowOkSpec) :=
  OpenClaim.holds_of_wide 3 Try.f3 rfl rfl rfl rfl rfl rfl rfl ⟨rfl, rfl, rfl, rfl, rfl⟩ rfl rfl rfl rfl rfl (by kernel_rfl) Try.func3 (by kernel_rfl)
    (of_decide_eq_true (by kernel_rfl)) (by unfold Func.isWrapper; first | (rw [if_pos (by decide +kernel)]; kernel_rfl) | (rw [if_neg (by decide +kernel)]; exact ⟨rfl, rfl⟩))
    (fun os started H enc _ => lifted os started H enc)

end Go.Proofs.Ytgeaiedflhlmdaa.fnExactWindowOk
namespace Go.Proofs.Ytgeaiedflhlmdaa
theorem FnExactWindowOk_holds : Rows.FnExactWindowOkSaid := fnExactWindowOk.over
end Go.Proofs.Ytgeaiedflhlmdaa
