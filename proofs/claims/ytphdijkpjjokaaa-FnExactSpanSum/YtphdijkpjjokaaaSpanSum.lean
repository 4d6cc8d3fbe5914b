
/-
  At every list of spans and every two numbers SpanSum answers as its model and leaves the list as it was: the law FnExactSpanSum returns true and its arguments read as before. No conditions.
  Built over the program of the commit that COMMIT names.
-/
import Derived.Test.YtphdijkpjjokaaaBas
import Derived.Test.YtphdijkpjjokaaaRows
import Derived.WalkKit
import Derived.ProofKit
import Derived.OpenShut
import Derived.Below
import Derived.Carry
import Derived.Test.YtphdijkpjjokaaaSpm
import Derived.ShutString
namespace Go.Proofs.Ytphdijkpjjokaaa.fnExactSpanSum
open Go.ChangeShapes Go.WideShapes Go.ChangeAt Go.RowKit
set_option linter.unusedVariables false

theorem own : ownKnob Try.prog.godebug = none := by kernel_rfl

/-! ### The walk -/
set_option maxHeartbeats 4000000 in
theorem walk (a : Option Addr) (cap n : Nat) (xs : List saT) (c d : Int) (w : World) (hs : GSeg 4 w a n (saX xs)) (hn : n ≤ 9223372036854775807) :
    Calls Try.prog 3 #[.slice a n cap, .int .i64 c, .int .i64 d] w fun e w' => e = .returned (.bool true) ∧ Below w.heap.size w w' := by
  have HS : Hid (GSeg 4 w a n (saX xs)) := hs
  clear hs
  obtain ⟨v, HV⟩ : ∃ v : Int, Hid (smV xs c d n = v) := ⟨_, rfl⟩
  have hnn : (v != v) = false := by simp
  have HSP : Hid (∀ (X : World) a1, GSeg 4 X a1 n (saX xs) → Calls Try.prog 5 #[.slice a1 n n, .int .i64 c, .int .i64 d] X fun e w' => e = .returned (.int .i64 v) ∧ Below X.heap.size X w') := fun X a1 h => by rw [← HV.out]; exact spec_sum a1 n n xs c d X h hn
  have HIM : Hid (∀ (X : World) a1, GSeg 4 X a1 n (saX xs) → Calls Try.prog 7 #[.slice a1 n n, .int .i64 c, .int .i64 d] X fun e w' => e = .returned (.int .i64 v) ∧ Below X.heap.size X w') := fun X a1 h => by rw [← HV.out]; exact impl_sum a1 n n xs c d X h hn
  go_enter Try.func3, Try.ntmps3
  go_wp2_with fail
  refine Calls.mono (sa_sz a cap n 1048576 _ hn (Nat.le_refl _)) ?_
  rintro u w1 ⟨⟨r, rfl, hr⟩, hw1⟩
  subst hw1
  rcases hr with rfl | ⟨hr, hbig⟩
  · go_wp2
    go_ret
    exact ⟨rfl, Below.refl _ _⟩
  have hr0 : ¬ (r < 0) := by omega
  clear hr
  have HTO : Hid (∀ X, Below w1.heap.size w1 X → Calls Try.prog 6 #[.slice a n cap] X fun e w' => ∃ a', e = .returned (.slice a' n n) ∧ Below X.heap.size X w' ∧ GSeg 4 w' a' n (saX xs)) := fun X hX =>
    (sa_tos a cap n xs X (HS.out.below hX) hbig).mono fun e w' ⟨h1, h2, h3⟩ => ⟨_, h1, h2, h3.seg⟩
  go_wp2_with fail
  refine Calls.mono (HTO.out _ (Below.refl _ _)) ?_
  rintro u w2 ⟨a2, rfl, hb2, hs2⟩
  have HB2 : Hid (Below w1.heap.size w1 w2) := hb2
  have HS2 : Hid (GSeg 4 w2 a2 n (saX xs)) := hs2
  clear hb2 hs2
  go_wp2_with fail
  refine Calls.mono (HSP.out _ a2 HS2.out) ?_
  rintro u w3 ⟨rfl, hb3⟩
  have HB3 : Hid (Below w1.heap.size w1 w3) := HB2.out.trans (hb3.mono HB2.out.size)
  clear hb3 HB2 HS2
  go_wp2_with fail
  refine Calls.mono (HTO.out _ HB3.out) ?_
  rintro u w4 ⟨a4, rfl, hb4, hs4⟩
  have HB4 : Hid (Below w1.heap.size w1 w4) := HB3.out.trans (hb4.mono HB3.out.size)
  have HS4 : Hid (GSeg 4 w4 a4 n (saX xs)) := hs4
  clear hb4 hs4 HB3
  go_wp2_with fail
  refine Calls.mono (HIM.out _ a4 HS4.out) ?_
  rintro u w5 ⟨rfl, hb5⟩
  have HB5 : Hid (Below w1.heap.size w1 w5) := HB4.out.trans (hb5.mono HB4.out.size)
  have HS5 : Hid (GSeg 4 w5 a4 n (saX xs)) := HS4.out.below hb5
  clear hb5 HB4 HS4
  go_wp2_with fail
  refine Calls.mono (HTO.out _ HB5.out) ?_
  rintro u w6 ⟨a6, rfl, hb6, hs6⟩
  have HB6 : Hid (Below w1.heap.size w1 w6) := HB5.out.trans (hb6.mono HB5.out.size)
  have HS6 : Hid (GSeg 4 w6 a4 n (saX xs) ∧ GSeg 4 w6 a6 n (saX xs)) := ⟨HS5.out.below hb6, hs6⟩
  clear hb6 hs6 HB5 HS5
  go_wp2_with fail
  refine Calls.mono (sa_eqs a4 a6 n n n xs _ HS6.out.1 HS6.out.2 hbig) ?_
  rintro u w7 ⟨rfl, hb7⟩
  have HB7 : Hid (Below w1.heap.size w1 w7) := HB6.out.trans (hb7.mono HB6.out.size)
  clear hb7 HB6 HS6
  go_wp2
  go_ret
  exact ⟨rfl, HB7.out⟩

/-! ### The row -/
set_option maxRecDepth 100000 in
theorem lifted (os : Os) (started : os.Started) (H : Type) (enc : TypeId × Value → H) :
    ReturnsInHanded {} Try.checked os 3 .any (Rows.fnExactSpanSumSpec.pre6 enc Try.prog Try.f3 Rows.fnExactSpanSumRow.domain false) (Rows.fnExactSpanSumSpec.post enc Try.prog Try.f3 false true false false) := by
  refine returnsInHanded_of_change (C := Try.checked) own started (by kernel_rfl) Try.func3
    (ChangeSpec.witness6 (enc := enc) (C := Try.checked) false ⟨#[], #[.slice none 0 0, .int .i64 0, .int .i64 0], []⟩ 8 (by kernel_rfl) (by kernel_rfl) (by kernel_rfl) (by kernel_rfl)) ?_
  intro W base args ds gs before hval0 hW hcnd _
  have hval : ∀ (j : Nat) t v, Try.f3.params[j]? = some t → args[j]? = some v → Value.okWide Try.prog W .any base t v := hval0
  have hW' := hW
  obtain ⟨p, q, hA0, hV, rfl, hfz, hnd⟩ := hW
  have hA : DataW.TrodAll enc Try.prog W 0 (fun _ => true) true Try.f3.params.toList args.toList ds p := hA0
  rw [Try.params3] at hA hval
  obtain ⟨v0, vs0, d0, ds0, p0, q0, hargs, rfl, rfl, h0, r0⟩ := trodAll_cons hA
  obtain ⟨v1, vs1, d1, ds1, p1, q1, rfl, rfl, rfl, h1, r1⟩ := trodAll_cons r0
  obtain ⟨v2, vs2, d2, ds2, p2, q2, rfl, rfl, rfl, h2, r2⟩ := trodAll_cons r1
  obtain ⟨rfl, rfl, rfl⟩ := trodAll_nil r2
  obtain rfl : args = #[v0, v1, v2] := by cases args; simp_all
  obtain ⟨rfl, rfl⟩ := trodVars_none hV
  have k0 := h0
  have lt0 : ∀ x ∈ p0, x.block < W.heap.size := by obtain ⟨m, hm⟩ := k0; exact DataW.trod_lt m _ _ _ hm
  have k1 := h1
  have lt1 : ∀ x ∈ p1, x.block < W.heap.size := by obtain ⟨m, hm⟩ := k1; exact DataW.trod_lt m _ _ _ hm
  have k2 := h2
  have lt2 : ∀ x ∈ p2, x.block < W.heap.size := by obtain ⟨m, hm⟩ := k2; exact DataW.trod_lt m _ _ _ hm
  obtain ⟨a, n, c, rfl⟩ := okWide_slice Try.underlying22 (hval 0 22 v0 rfl rfl)
  obtain ⟨fuel, hf⟩ := h0
  obtain ⟨a', n', c', xs, e', hs, hl, hn⟩ := sa_open hf
  simp [Value.cells] at e'
  obtain ⟨rfl, rfl, rfl⟩ := e'
  obtain ⟨y, rfl⟩ := okWide_int Try.underlying3 (hval 1 3 v1 rfl rfl)
  obtain ⟨y2, rfl⟩ := okWide_int Try.underlying3 (hval 2 3 v2 rfl rfl)
  clear hA0 hval0
  refine (walk _ _ _ xs y y2 W hs hn).mono fun e W' ⟨he, bel⟩ => ?_
  subst he
  exact ⟨_, rfl, _, _, _, [], _, [], hW', (trodAll_cons_mk (shut_bool Try.underlying4 _) trodAll_mk0), (trodAll_cons_mk (Below.trod laidOut (by kernel_rfl) (of_decide_eq_true (by kernel_rfl)) k0 bel lt0) (trodAll_cons_mk (Below.trod laidOut (by kernel_rfl) (of_decide_eq_true (by kernel_rfl)) k1 bel lt1) (trodAll_cons_mk (Below.trod laidOut (by kernel_rfl) (of_decide_eq_true (by kernel_rfl)) k2 bel lt2) trodAll_mk0))), rfl, bel.frame _, fun h => by cases h⟩

theorem over : Rows.fnExactSpanSumRow.holds Try.pinned (OpenSpec.ofChange Rows.fnExactSpanSumSpec) :=
  OpenClaim.holds_of_wide 3 Try.f3 rfl rfl rfl rfl rfl rfl rfl ⟨rfl, rfl, rfl, rfl, rfl⟩ rfl rfl rfl rfl rfl (by kernel_rfl) Try.func3 (by kernel_rfl)
    (of_decide_eq_true (by kernel_rfl)) (by unfold Func.isWrapper; first | (rw [if_pos (by decide +kernel)]; kernel_rfl) | (rw [if_neg (by decide +kernel)]; exact ⟨rfl, rfl⟩))
    (fun os started H enc _ => lifted os started H enc)

end Go.Proofs.Ytphdijkpjjokaaa.fnExactSpanSum
namespace Go.Proofs.Ytphdijkpjjokaaa
theorem FnExactSpanSum_holds : Rows.FnExactSpanSumSaid := fnExactSpanSum.over
end Go.Proofs.Ytphdijkpjjokaaa
