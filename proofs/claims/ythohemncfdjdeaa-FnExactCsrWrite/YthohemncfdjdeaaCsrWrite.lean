
/-
  At all virtual registers, every number of a register and every word CsrWrite answers as its model: the law FnExactCsrWrite returns true and its arguments read as before. No conditions.
  Built over the program of the commit that COMMIT names.
-/
import Derived.Test.YthohemncfdjdeaaRows
import Derived.WalkKit
import Derived.ProofKit
import Derived.OpenShut
import Derived.Below
import Derived.Test.YthohemncfdjdeaaVca
import Derived.ShutString
namespace Go.Proofs.Ythohemncfdjdeaa.fnExactCsrWrite
open Go.ChangeShapes Go.WideShapes Go.ChangeAt Go.RowKit
set_option linter.unusedVariables false

theorem own : ownKnob Try.prog.godebug = none := by kernel_rfl

/-! ### The walk -/
set_option maxHeartbeats 1000000 in
theorem walk (o : Bool) (v s c k : Int) (t n : Bool) (p : Int) (d : Int) (x : Int) (w0 : vrtW v s c k p) (w1 : (Lit.int .i64 d).wf = true) (w2 : (Lit.int .u32 x).wf = true) (w : World) :
    Calls Try.prog 7 #[vrt o v s c k t n p, .int .i64 d, .int .u32 x] w fun e w' => e = .returned (.bool true) ∧ Below w.heap.size w w' := by
  have hb : Below w.heap.size w (w.alloc (.cells (vrow o v s c k t n p) 24)) := (Below.refl _ w).alloc (Nat.le_refl _) _
  have hv : VC (w.alloc (.cells (vrow o v s c k t n p) 24)) w.heap.size o v s c k t n p := VC.new _ _ _ _ _ _ _ _ _ _
  obtain ⟨p1, p2⟩ := bounds_u32 w0.2.2.2.2
  obtain ⟨x1, x2⟩ := bounds_u32 w2
  obtain ⟨o1, v1, s1, k1, t1, b1, HR⟩ : ∃ (o1 : Bool) (v1 s1 k1 : Int) (t1 b1 : Bool), Hid (wrF o v s k t d x = ⟨o1, v1, s1, k1, t1, b1⟩) := ⟨_, _, _, _, _, _, rfl⟩
  have SP : Hid (∀ w, Calls Try.prog 18 #[vrt o v s c k t n p, .int .i64 d, .int .u32 x] w fun x w' => x = .returned (.tuple #[vrt o1 v1 s1 c k1 t1 n p, .bool b1]) ∧ Below w.heap.size w w') := fun w => by have := spec_write o v s c k t n p d x w x1 x2; rw [HR.out] at this; exact this
  have IM : Hid (∀ w, Calls Try.prog 19 #[vrt o v s c k t n p, .int .i64 d, .int .u32 x] w fun x w' => x = .returned (.tuple #[vrt o1 v1 s1 c k1 t1 n p, .bool b1]) ∧ Below w.heap.size w w') := fun w => by have := impl_write o v s c k t n p d x w x1 x2; rw [HR.out] at this; exact this
  clear p1 p2 w0 w1 w2
  clear HR x1 x2
  replace hb : Hid _ := hb
  replace hv : Hid _ := hv
  go_enter Try.func7, Try.ntmps7
  go_wp2_with fail
  refine (to_virt o v s c k t n p _).mono ?_
  rintro x w1 ⟨rfl, hb1⟩
  replace hv : Hid _ := hv.out.kept hb1 hv.out.lt
  replace hb : Hid _ := hb.out.trans (hb1.mono hb.out.size)
  clear hb1
  go_wp2_with fail
  refine (SP.out _).mono ?_
  rintro x w2 ⟨rfl, hb2⟩
  replace hv : Hid _ := hv.out.kept hb2 hv.out.lt
  replace hb : Hid _ := hb.out.trans (hb2.mono hb.out.size)
  clear hb2
  have hl : w.heap.size < w2.heap.size := hv.out.lt
  obtain ⟨c0, c1, c2, c3, c4, c5, c6, c7⟩ := hv.out
  go_wp2_with fail
  refine (to_virt o v s c k t n p _).mono ?_
  rintro x w3 ⟨rfl, hb3⟩
  have hs : Hid (VC w3 w2.heap.size o1 v1 s1 c k1 t1 n p) := (VC.new w2 25 _ _ _ _ _ _ _ _).kept hb3 (by simp)
  replace hb3 : Below w2.heap.size w2 w3 := ((Below.refl _ _).alloc (Nat.le_refl _) _).trans (hb3.mono (by simp))
  replace hv : Hid _ := hv.out.kept hb3 hv.out.lt
  replace hb : Hid _ := hb.out.trans (hb3.mono hb.out.size)
  clear hb3 c0 c1 c2 c3 c4 c5 c6 c7
  go_wp2_with fail
  refine (IM.out _).mono ?_
  rintro x w4 ⟨rfl, hb4⟩
  replace hs : Hid _ := hs.out.kept hb4 hs.out.lt
  replace hv : Hid _ := hv.out.kept hb4 hv.out.lt
  replace hb : Hid _ := hb.out.trans (hb4.mono hb.out.size)
  clear hb4
  have hl2 : w2.heap.size < w4.heap.size := hs.out.lt
  obtain ⟨c0, c1, c2, c3, c4, c5, c6, c7⟩ := hs.out
  go_wp2_with fail
  refine (eq_virt o1 v1 s1 c k1 t1 n p _).mono ?_
  rintro x w5 ⟨rfl, hb5⟩
  replace hb5 : Below w4.heap.size w4 w5 := ((Below.refl _ _).alloc (Nat.le_refl _) _).trans (hb5.mono (by simp))
  replace hb : Hid _ := hb.out.trans (hb5.mono hb.out.size)
  clear hb5 hs hv c0 c1 c2 c3 c4 c5 c6 c7
  go_wp2
  go_ret
  exact ⟨rfl, hb.out⟩

/-! ### The row -/
set_option maxRecDepth 100000 in
theorem lifted (os : Os) (started : os.Started) (H : Type) (enc : TypeId × Value → H) :
    ReturnsInHanded {} Try.checked os 7 .any (Rows.fnExactCsrWriteSpec.pre6 enc Try.prog Try.f7 Rows.fnExactCsrWriteRow.domain false) (Rows.fnExactCsrWriteSpec.post enc Try.prog Try.f7 false true false false) := by
  refine returnsInHanded_of_change (C := Try.checked) own started (by kernel_rfl) Try.func7
    (ChangeSpec.witness6 (enc := enc) (C := Try.checked) false ⟨#[], #[vrt false 0 0 0 0 false false 0, .int .i64 0, .int .u32 0], []⟩ 8 (by kernel_rfl) (by kernel_rfl) (by kernel_rfl) (by kernel_rfl)) ?_
  intro W base args ds gs before hval0 hW hcnd _
  have hval : ∀ (j : Nat) t v, Try.f7.params[j]? = some t → args[j]? = some v → Value.okWide Try.prog W .any base t v := hval0
  have hW' := hW
  obtain ⟨p, q, hA0, hV, rfl, hfz, hnd⟩ := hW
  have hA : DataW.TrodAll enc Try.prog W 0 (fun _ => true) true Try.f7.params.toList args.toList ds p := hA0
  rw [Try.params7] at hA hval
  obtain ⟨v0, vs0, d0, ds0, p0, q0, hargs, rfl, rfl, h0, r0⟩ := trodAll_cons hA
  obtain ⟨v1, vs1, d1, ds1, p1, q1, rfl, rfl, rfl, h1, r1⟩ := trodAll_cons r0
  obtain ⟨v2, vs2, d2, ds2, p2, q2, rfl, rfl, rfl, h2, r2⟩ := trodAll_cons r1
  obtain ⟨rfl, rfl, rfl⟩ := trodAll_nil r2
  obtain rfl : args = #[v0, v1, v2] := by cases args; simp_all
  obtain ⟨rfl, rfl⟩ := trodVars_none hV
  obtain ⟨o, v, s, c, k, t, n, p, rfl, rfl, rfl, w0⟩ := vrt_open (hval 0 24 v0 rfl rfl) h0
  obtain ⟨d, rfl, rfl, rfl, w1⟩ := open_int Try.underlying3 (hval 1 3 v1 rfl rfl) h1
  obtain ⟨x, rfl, rfl, rfl, w2⟩ := open_int Try.underlying22 (hval 2 22 v2 rfl rfl) h2
  clear hA0 hval0
  simp only [List.append_nil] at hW'
  refine (walk o v s c k t n p d x w0 w1 w2 W).mono fun e W' ⟨he, bel⟩ => ?_
  subst he
  exact ⟨_, rfl, _, _, _, [], [], [], hW', (trodAll_cons_mk (shut_bool Try.underlying4 _) trodAll_mk0), (trodAll_cons_mk (vrt_reads w0) (trodAll_cons_mk (shut_int Try.underlying3 w1) (trodAll_cons_mk (shut_int Try.underlying22 w2) trodAll_mk0))), rfl, bel.frame _, fun h => by cases h⟩

theorem over : Rows.fnExactCsrWriteRow.holds Try.pinned (OpenSpec.ofChange Rows.fnExactCsrWriteSpec) :=
  OpenClaim.holds_of_wide 7 Try.f7 rfl rfl rfl rfl rfl rfl rfl ⟨rfl, rfl, rfl, rfl, rfl⟩ rfl rfl rfl rfl rfl (by kernel_rfl) Try.func7 (by kernel_rfl)
    (of_decide_eq_true (by kernel_rfl)) (by unfold Func.isWrapper; first | (rw [if_pos (by decide +kernel)]; kernel_rfl) | (rw [if_neg (by decide +kernel)]; exact ⟨rfl, rfl⟩))
    (fun os started H enc _ => lifted os started H enc)

end Go.Proofs.Ythohemncfdjdeaa.fnExactCsrWrite
namespace Go.Proofs.Ythohemncfdjdeaa
theorem FnExactCsrWrite_holds : Rows.FnExactCsrWriteSaid := fnExactCsrWrite.over
end Go.Proofs.Ythohemncfdjdeaa
