/-
  At every number TlbEmpty answers as its model, in memory of its own: the law FnExactTlbEmpty returns true. No conditions.
  Built over the program of the commit that COMMIT names.
-/
import Derived.Test.YtpecihkkbfjahaaRows
import Derived.WalkKit
import Derived.ProofKit
import Derived.OpenShut
import Derived.Below
import Derived.Carry
import Derived.Test.YtpecihkkbfjahaaTin
import Derived.Test.YtpecihkkbfjahaaTem
import Derived.ShutString
namespace Go.Proofs.Ytpecihkkbfjahaa.fnExactTlbEmpty
open Go.ChangeShapes Go.WideShapes Go.ChangeAt Go.RowKit
set_option linter.unusedVariables false

theorem own : ownKnob Try.prog.godebug = none := by kernel_rfl

/-! ### The walk -/
set_option maxHeartbeats 2000000 in
theorem walk (x : Int) (w : World) :
    Calls Try.prog 4 #[.int .i64 x] w fun e w' => e = .returned (.bool true) ∧ Below w.heap.size w w' := by
  obtain ⟨S, HSS⟩ : ∃ S, Hid (emS x = S) := ⟨_, rfl⟩
  have HSP : Hid (∀ X, Calls Try.prog 13 #[.int .i64 x] X fun e w' => e = .returned (tlb S (.slice none 0 0)) ∧ Below X.heap.size X w') := fun X => by rw [← HSS.out]; exact spec_tem x X
  have HIM : Hid (∀ X, Calls Try.prog 14 #[.int .i64 x] X fun e w' => (∃ a, e = .returned (tlb S (.slice a 0 0))) ∧ Below X.heap.size X w') := fun X => by rw [← HSS.out]; exact impl_tem x X
  have HEQ : Hid (∀ (X : World) a b, Calls Try.prog 12 #[tlb S (.slice a 0 0), tlb S (.slice b 0 0)] X fun e w' => e = .returned (.bool true) ∧ Below X.heap.size X w') := fun X a b => eq_tlb S a b 0 0 0 [] X (fun h => absurd h (by simp)) (fun h => absurd h (by simp)) rfl (by omega)
  have HMK : Hid (∀ (X : World) a, Calls Try.prog 15 #[tlb S (.slice a 0 0), .int .i64 1] X fun e w' => e = .returned (.int .i64 1) ∧ Below X.heap.size X w') := fun X a => (mark_tlb X.heap.size X.heap.size 0 0 1 S a [] X (fun h => absurd h (by simp)) rfl (by omega) (by omega) (Nat.le_refl _)).mono fun e w' h => ⟨h.1, h.2.1.below (Nat.le_refl _) (Nat.le_refl _)⟩
  have HHD : Hid (∀ (X : World) a, Calls Try.prog 16 #[tlb S (.slice a 0 0), .int .i64 1] X fun e w' => e = .returned (.int .i64 1) ∧ Below X.heap.size X w') := fun X a => held_tlb S a 0 0 1 X (fun h => absurd h (by simp [marks])) (by omega) (by omega)
  clear HSS
  go_enter Try.func4, Try.ntmps4
  go_wp2_with fail
  refine Calls.mono (HSP.out _) ?_
  rintro u w1 ⟨rfl, hb1⟩
  have hal1 : Below w1.heap.size w1 (w1.alloc (.cells #[.int .i64 S, .slice none 0 0] 27)) := (Below.refl _ _).alloc (Nat.le_refl _) _
  have HB1 : Hid _ := hb1.trans (hal1.mono hb1.size)
  have HK1 : Hid _ := Bk.new w1 #[.int .i64 S, .slice none 0 0] 27 w1.heap.size rfl
  clear hb1 hal1
  go_wp2_with fail
  refine Calls.mono (HIM.out _) ?_
  rintro u w2 ⟨⟨a2, rfl⟩, hb2⟩
  have hal2 : Below w2.heap.size w2 (w2.alloc (.cells #[.int .i64 S, .slice a2 0 0] 27)) := (Below.refl _ _).alloc (Nat.le_refl _) _
  have HB2 : Hid _ := (HB1.out.trans (hb2.mono HB1.out.size)).trans (hal2.mono (HB1.out.trans (hb2.mono HB1.out.size)).size)
  have HK2 : Hid _ := (HK1.out.below hb2).below hal2
  have HX2 : Hid _ := Bk.new w2 #[.int .i64 S, .slice a2 0 0] 27 w2.heap.size rfl
  clear hb2 hal2 HB1 HK1
  have k0 := HK2.out.cell 0 _ rfl
  have k1 := HK2.out.cell 1 _ rfl
  have x0 := HX2.out.cell 0 _ rfl
  have x1 := HX2.out.cell 1 _ rfl
  go_wp2_with fail
  refine Calls.mono (HEQ.out _ _ _) ?_
  rintro u w3 ⟨rfl, hb3⟩
  have HB3 : Hid _ := HB2.out.trans (hb3.mono HB2.out.size)
  have HK3 : Hid _ := HK2.out.below hb3
  have HX3 : Hid _ := HX2.out.below hb3
  clear hb3 HB2 HK2 HX2 k0 k1 x0 x1
  have k0 := HK3.out.cell 0 _ rfl
  have k1 := HK3.out.cell 1 _ rfl
  have x0 := HX3.out.cell 0 _ rfl
  have x1 := HX3.out.cell 1 _ rfl
  go_wp2_with fail
  refine Calls.mono (HMK.out _ _) ?_
  rintro u w4 ⟨rfl, hb4⟩
  have HB4 : Hid _ := HB3.out.trans (hb4.mono HB3.out.size)
  have HK4 : Hid _ := HK3.out.below hb4
  have HX4 : Hid _ := HX3.out.below hb4
  clear hb4 HB3 HK3 HX3 k0 k1 x0 x1
  have k0 := HK4.out.cell 0 _ rfl
  have k1 := HK4.out.cell 1 _ rfl
  have x0 := HX4.out.cell 0 _ rfl
  have x1 := HX4.out.cell 1 _ rfl
  go_wp2_with fail
  refine Calls.mono (HHD.out _ _) ?_
  rintro u w5 ⟨rfl, hb5⟩
  have HB5 : Hid _ := HB4.out.trans (hb5.mono HB4.out.size)
  have HK5 : Hid _ := HK4.out.below hb5
  have HX5 : Hid _ := HX4.out.below hb5
  clear hb5 HB4 HK4 HX4 k0 k1 x0 x1
  have k0 := HK5.out.cell 0 _ rfl
  have k1 := HK5.out.cell 1 _ rfl
  have x0 := HX5.out.cell 0 _ rfl
  have x1 := HX5.out.cell 1 _ rfl
  go_wp2_with fail
  refine Calls.mono (HIM.out _) ?_
  rintro u w6 ⟨⟨a6, rfl⟩, hb6⟩
  have hal6 : Below w6.heap.size w6 (w6.alloc (.cells #[.int .i64 S, .slice a6 0 0] 27)) := (Below.refl _ _).alloc (Nat.le_refl _) _
  have HB6 : Hid _ := (HB5.out.trans (hb6.mono HB5.out.size)).trans (hal6.mono (HB5.out.trans (hb6.mono HB5.out.size)).size)
  have HK6 : Hid _ := (HK5.out.below hb6).below hal6
  have HX6 : Hid _ := (HX5.out.below hb6).below hal6
  have HY6 : Hid _ := Bk.new w6 #[.int .i64 S, .slice a6 0 0] 27 w6.heap.size rfl
  clear hb6 hal6 HB5 HK5 HX5 k0 k1 x0 x1
  have k0 := HK6.out.cell 0 _ rfl
  have k1 := HK6.out.cell 1 _ rfl
  have x0 := HX6.out.cell 0 _ rfl
  have x1 := HX6.out.cell 1 _ rfl
  have y0 := HY6.out.cell 0 _ rfl
  have y1 := HY6.out.cell 1 _ rfl
  go_wp2_with fail
  refine Calls.mono (HEQ.out _ _ _) ?_
  rintro u w7 ⟨rfl, hb7⟩
  have HB7 : Hid _ := HB6.out.trans (hb7.mono HB6.out.size)
  have HK7 : Hid _ := HK6.out.below hb7
  have HX7 : Hid _ := HX6.out.below hb7
  clear y0 y1 HY6
  clear hb7 HB6 HK6 HX6 k0 k1 x0 x1
  have k0 := HK7.out.cell 0 _ rfl
  have k1 := HK7.out.cell 1 _ rfl
  have x0 := HX7.out.cell 0 _ rfl
  have x1 := HX7.out.cell 1 _ rfl
  go_wp2_with fail
  refine Calls.mono (HHD.out _ _) ?_
  rintro u w8 ⟨rfl, hb8⟩
  have HB8 : Hid _ := HB7.out.trans (hb8.mono HB7.out.size)
  have HK8 : Hid _ := HK7.out.below hb8
  have HX8 : Hid _ := HX7.out.below hb8
  clear hb8 HB7 HK7 HX7 k0 k1 x0 x1
  have k0 := HK8.out.cell 0 _ rfl
  have k1 := HK8.out.cell 1 _ rfl
  have x0 := HX8.out.cell 0 _ rfl
  have x1 := HX8.out.cell 1 _ rfl
  go_wp2
  go_ret
  exact ⟨rfl, HB8.out⟩

/-! ### The row -/
set_option maxRecDepth 100000 in
theorem lifted (os : Os) (started : os.Started) (H : Type) (enc : TypeId × Value → H) :
    ReturnsInHanded {} Try.checked os 4 .any (Rows.fnExactTlbEmptySpec.pre6 enc Try.prog Try.f4 Rows.fnExactTlbEmptyRow.domain false) (Rows.fnExactTlbEmptySpec.post enc Try.prog Try.f4 false true false false) := by
  refine returnsInHanded_of_change (C := Try.checked) own started (by kernel_rfl) Try.func4
    (ChangeSpec.witness6 (enc := enc) (C := Try.checked) false ⟨#[], #[.int .i64 0], []⟩ 8 (by kernel_rfl) (by kernel_rfl) (by kernel_rfl) (by kernel_rfl)) ?_
  intro W base args ds gs before hval0 hW hcnd _
  have hval : ∀ (j : Nat) t v, Try.f4.params[j]? = some t → args[j]? = some v → Value.okWide Try.prog W .any base t v := hval0
  have hW' := hW
  obtain ⟨p, q, hA0, hV, rfl, hfz, hnd⟩ := hW
  have hA : DataW.TrodAll enc Try.prog W 0 (fun _ => true) true Try.f4.params.toList args.toList ds p := hA0
  rw [Try.params4] at hA hval
  obtain ⟨v0, vs0, d0, ds0, p0, q0, hargs, rfl, rfl, h0, r0⟩ := trodAll_cons hA
  obtain ⟨rfl, rfl, rfl⟩ := trodAll_nil r0
  obtain rfl : args = #[v0] := by cases args; simp_all
  obtain ⟨rfl, rfl⟩ := trodVars_none hV
  have k0 := h0
  have lt0 : ∀ x ∈ p0, x.block < W.heap.size := by obtain ⟨m, hm⟩ := k0; exact DataW.trod_lt m _ _ _ hm
  obtain ⟨x0, rfl, rfl, rfl, w0⟩ := open_int Try.underlying3 (hval 0 3 v0 rfl rfl) h0
  clear hA0 hval0
  refine (walk x0 W).mono fun e W' ⟨he, bel⟩ => ?_
  subst he
  exact ⟨_, rfl, _, _, _, [], _, [], hW', (trodAll_cons_mk (shut_bool Try.underlying4 _) trodAll_mk0), (trodAll_cons_mk (Below.trod laidOut (by kernel_rfl) (of_decide_eq_true (by kernel_rfl)) k0 bel lt0) trodAll_mk0), rfl, bel.frame _, fun h => by cases h⟩

theorem over : Rows.fnExactTlbEmptyRow.holds Try.pinned (OpenSpec.ofChange Rows.fnExactTlbEmptySpec) :=
  OpenClaim.holds_of_wide 4 Try.f4 rfl rfl rfl rfl rfl rfl rfl ⟨rfl, rfl, rfl, rfl, rfl⟩ rfl rfl rfl rfl rfl (by kernel_rfl) Try.func4 (by kernel_rfl)
    (of_decide_eq_true (by kernel_rfl)) (by unfold Func.isWrapper; first | (rw [if_pos (by decide +kernel)]; kernel_rfl) | (rw [if_neg (by decide +kernel)]; exact ⟨rfl, rfl⟩))
    (fun os started H enc _ => lifted os started H enc)

end Go.Proofs.Ytpecihkkbfjahaa.fnExactTlbEmpty
namespace Go.Proofs.Ytpecihkkbfjahaa
theorem FnExactTlbEmpty_holds : Rows.FnExactTlbEmptySaid := fnExactTlbEmpty.over
end Go.Proofs.Ytpecihkkbfjahaa
