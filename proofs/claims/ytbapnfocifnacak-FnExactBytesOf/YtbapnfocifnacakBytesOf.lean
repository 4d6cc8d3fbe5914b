/-
  At every argument of its type BytesOf answers as its model, in memory of its own: the law FnExactBytesOf returns true and its argument reads as before. No conditions.
  Built over the program of the commit that COMMIT names.
-/
import Derived.Test.YtbapnfocifnacakRows
import Derived.WalkKit
import Derived.ProofKit
import Derived.OpenShut
import Derived.Below
import Derived.Test.YtbapnfocifnacakBytes
import Derived.ShutString
namespace Go.Proofs.Ytbapnfocifnacak.fnExactBytesOf
open Go.ChangeShapes Go.WideShapes Go.ChangeAt Go.RowKit
open Go.ChangeMaps (open_string shut_string)
set_option linter.unusedVariables false

theorem own : ownKnob Try.prog.godebug = none := by kernel_rfl

/-! ### The walk -/
theorem walk (a0 : Int) (w0 : (Lit.int .u32 a0).wf = true) (w : World) :
    Calls Try.prog 3 #[.int .u32 a0] w fun e w' => e = .returned (.bool true) ∧ Below w.heap.size w w' := by
  obtain ⟨h1, h2⟩ := bounds_u32 w0
  go_enter Try.func3, Try.ntmps3
  go_wp2_with fail
  refine (spec_bytes _ _ h1 h2).mono ?_
  rintro e w1 ⟨rfl, hb1, hz1, ho1⟩
  have Hz1 : Hid _ := hz1
  clear hz1
  go_wp2_with fail
  refine (impl_bytes _ _ h1 h2).mono ?_
  rintro e w2 ⟨rfl, hb2, hz2, ho2⟩
  have Hz2 : Hid _ := hz2
  clear hz2
  have hw1 := ho1.below hb2
  go_wp2_with fail
  refine (eq_bytes _ _ _ _ (Wd.bytes a0) _ ho2.seg hw1.seg (by decide : 4 ≤ 1048576)).mono ?_
  rintro e w3 ⟨rfl, m3, rfl⟩
  have ho3 := ho2.drewN m3
  have hw3 := hw1.drewN m3
  go_wp2_with fail
  refine (mark_bytes _ _ _ (Wd.bytes a0) _ ho3 (by decide : 4 ≤ 1048576) (by omega) (by omega)).mono ?_
  rintro e w4 ⟨rfl, hb4, hz4, ho4⟩
  have Hz4 : Hid _ := hz4
  clear hz4
  have hlt : w.heap.size < w1.heap.size := by have := Hz1.out; omega
  have hw4 := hw3.below' hb4 hlt
  go_wp2_with fail
  refine (held_bytes _ _ 4 _ _ ho4.seg (by omega) (by omega) (by omega)).mono ?_
  rintro e w5 ⟨rfl, m5, rfl⟩
  have ho5 := ho4.drewN m5
  have hw5 := hw4.drewN m5
  go_wp2_with fail
  refine (impl_bytes _ _ h1 h2).mono ?_
  rintro e w6 ⟨rfl, hb6, hz6, ho6⟩
  have Hz6 : Hid _ := hz6
  clear hz6
  have hw6 := hw5.below hb6
  have hm6 := ho5.below hb6
  go_wp2_with fail
  refine (eq_bytes _ _ _ _ (Wd.bytes a0) _ ho6.seg hw6.seg (by decide : 4 ≤ 1048576)).mono ?_
  rintro e w7 ⟨rfl, m7, rfl⟩
  have hm7 := hm6.drewN m7
  go_wp2_with fail
  refine (held_bytes _ _ 4 _ _ hm7.seg (by omega) (by omega) (by omega)).mono ?_
  rintro e w8 ⟨rfl, m8, rfl⟩
  go_wp2
  go_ret
  refine ⟨rfl, below_drewN ?_ (m7 + m8)⟩
  have s1 := hb1.size
  have s2 := hb2.size
  have s4 := hb4.size
  refine hb1.trans ((below_drewN (hb2.mono s1) m3).trans ?_)
  refine (below_drewN (hb4.mono s1) m5).trans (hb6.mono ?_)
  exact Nat.le_trans s1 (Nat.le_trans s2 s4)

/-! ### The row -/
set_option maxRecDepth 100000 in
theorem lifted (os : Os) (started : os.Started) (H : Type) (enc : TypeId × Value → H) :
    ReturnsInHanded {} Try.checked os 3 .any (Rows.fnExactBytesOfSpec.pre6 enc Try.prog Try.f3 Rows.fnExactBytesOfRow.domain false) (Rows.fnExactBytesOfSpec.post enc Try.prog Try.f3 false true false false) := by
  refine returnsInHanded_of_change (C := Try.checked) own started (by kernel_rfl) Try.func3
    (ChangeSpec.witness6 (enc := enc) (C := Try.checked) false ⟨#[], #[.int .u32 0], []⟩ 8 (by kernel_rfl) (by kernel_rfl) (by kernel_rfl) (by kernel_rfl)) ?_
  intro W base args ds gs before hval0 hW hcnd _
  have hval : ∀ (j : Nat) t v, Try.f3.params[j]? = some t → args[j]? = some v → Value.okWide Try.prog W .any base t v := hval0
  have hW' := hW
  obtain ⟨p, q, hA0, hV, rfl, hfz, hnd⟩ := hW
  have hA : DataW.TrodAll enc Try.prog W 0 (fun _ => true) true Try.f3.params.toList args.toList ds p := hA0
  rw [Try.params3] at hA hval
  obtain ⟨v0, vs0, d0, ds0, p0, q0, hargs, rfl, rfl, h0, r0⟩ := trodAll_cons hA
  obtain ⟨rfl, rfl, rfl⟩ := trodAll_nil r0
  obtain rfl : args = #[v0] := by cases args; simp_all
  obtain ⟨rfl, rfl⟩ := trodVars_none hV
  obtain ⟨a0, rfl, rfl, rfl, w0⟩ := open_int Try.underlying22 (hval 0 22 v0 rfl rfl) h0
  clear hA0 hval0
  simp only [List.append_nil] at hW'
  refine (walk a0 w0 W).mono fun e W' ⟨he, bel⟩ => ?_
  subst he
  exact ⟨_, rfl, _, _, _, [], [], [], hW', (trodAll_cons_mk (shut_bool Try.underlying4 _) trodAll_mk0), (trodAll_cons_mk (shut_int Try.underlying22 w0) trodAll_mk0), rfl, bel.frame _, fun h => by cases h⟩

theorem over : Rows.fnExactBytesOfRow.holds Try.pinned (OpenSpec.ofChange Rows.fnExactBytesOfSpec) :=
  OpenClaim.holds_of_wide 3 Try.f3 rfl rfl rfl rfl rfl rfl rfl ⟨rfl, rfl, rfl, rfl, rfl⟩ rfl rfl rfl rfl rfl (by kernel_rfl) Try.func3 (by kernel_rfl)
    (of_decide_eq_true (by kernel_rfl)) (by unfold Func.isWrapper; first | (rw [if_pos (by decide +kernel)]; kernel_rfl) | (rw [if_neg (by decide +kernel)]; exact ⟨rfl, rfl⟩))
    (fun os started H enc _ => lifted os started H enc)

end Go.Proofs.Ytbapnfocifnacak.fnExactBytesOf
namespace Go.Proofs.Ytbapnfocifnacak
theorem FnExactBytesOf_holds : Rows.FnExactBytesOfSaid := fnExactBytesOf.over
end Go.Proofs.Ytbapnfocifnacak
