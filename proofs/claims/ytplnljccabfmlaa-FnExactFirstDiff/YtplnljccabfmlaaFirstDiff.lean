
/-
  At every two lists of events FirstDiff answers as its model and leaves both lists as they were: the law FnExactFirstDiff returns true and its arguments read as before. No conditions.
  Built over the program of the commit that COMMIT names.
-/
import Derived.Test.YtplnljccabfmlaaBas
import Derived.Test.YtplnljccabfmlaaRows
import Derived.WalkKit
import Derived.ProofKit
import Derived.OpenShut
import Derived.Below
import Derived.Carry
import Derived.Test.YtplnljccabfmlaaFdj
import Derived.ShutString
namespace Go.Proofs.Ytplnljccabfmlaa.fnExactFirstDiff
open Go.ChangeShapes Go.WideShapes Go.ChangeAt Go.RowKit
set_option linter.unusedVariables false

theorem own : ownKnob Try.prog.godebug = none := by kernel_rfl

/-! ### The walk -/
set_option maxHeartbeats 4000000 in
theorem walk (a b : Option Addr) (cap capb n m : Nat) (xs ys : List evT) (w : World) (hs : GSeg 7 w a n (evX xs)) (ht : GSeg 7 w b m (evX ys)) (hn : n ≤ 9223372036854775807) (hm : m ≤ 9223372036854775807) :
    Calls Try.prog 3 #[.slice a n cap, .slice b m capb] w fun e w' => e = .returned (.bool true) ∧ Below w.heap.size w w' := by
  have HS : Hid (GSeg 7 w a n (evX xs) ∧ GSeg 7 w b m (evX ys)) := And.intro hs ht
  clear hs ht
  obtain ⟨v, HV⟩ : ∃ v : Int, Hid (fdV xs ys n m = v) := ⟨_, rfl⟩
  have hnn : (v != v) = false := by simp
  have HSP : Hid (∀ (X : World) a1 b1, GSeg 7 X a1 n (evX xs) → GSeg 7 X b1 m (evX ys) → Calls Try.prog 5 #[.slice a1 n n, .slice b1 m m] X fun e w' => e = .returned (.int .i64 v) ∧ Below X.heap.size X w') := fun X a1 b1 h g => by rw [← HV.out]; exact spec_fd a1 b1 n m n m xs ys X h g hn hm
  have HIM : Hid (∀ (X : World) a1 b1, GSeg 7 X a1 n (evX xs) → GSeg 7 X b1 m (evX ys) → Calls Try.prog 7 #[.slice a1 n n, .slice b1 m m] X fun e w' => e = .returned (.int .i64 v) ∧ Below X.heap.size X w') := fun X a1 b1 h g => by rw [← HV.out]; exact impl_fd a1 b1 n m n m xs ys X h g hn hm
  go_enter Try.func3, Try.ntmps3
  go_wp2_with fail
  refine Calls.mono (ev_sz a cap n 1048576 _ hn (Nat.le_refl _)) ?_
  rintro u w1 ⟨⟨r, rfl, hr⟩, hw1⟩
  subst hw1
  rcases hr with rfl | ⟨hr, hbig⟩
  · go_wp2
    go_ret
    exact ⟨rfl, Below.refl _ _⟩
  have hr0 : ¬ (r < 0) := by omega
  obtain ⟨L, hL, hrL⟩ : ∃ L : Nat, L ≤ 1048576 ∧ r = (L : Int) := ⟨1048576 - n, by omega, hr⟩
  subst hrL
  clear hr
  go_wp2_with fail
  refine Calls.mono (ev_sz b capb m L _ hm hL) ?_
  rintro u w1b ⟨⟨r, rfl, hr⟩, hw1⟩
  subst hw1
  rcases hr with rfl | ⟨hr, hbig2⟩
  · go_wp2
    go_ret
    exact ⟨rfl, Below.refl _ _⟩
  have hr1 : ¬ (r < 0) := by omega
  clear hr
  have hbm : m ≤ 1048576 := by omega
  have HTO : Hid (∀ X, Below w1b.heap.size w1b X → Calls Try.prog 6 #[.slice a n cap] X fun e w' => ∃ a', e = .returned (.slice a' n n) ∧ Below X.heap.size X w' ∧ GSeg 7 w' a' n (evX xs)) := fun X hX =>
    (ev_tos a cap n xs X (HS.out.1.below hX) hbig).mono fun e w' ⟨h1, h2, h3⟩ => ⟨_, h1, h2, h3.seg⟩
  have HTB : Hid (∀ X, Below w1b.heap.size w1b X → Calls Try.prog 6 #[.slice b m capb] X fun e w' => ∃ a', e = .returned (.slice a' m m) ∧ Below X.heap.size X w' ∧ GSeg 7 w' a' m (evX ys)) := fun X hX =>
    (ev_tos b capb m ys X (HS.out.2.below hX) hbm).mono fun e w' ⟨h1, h2, h3⟩ => ⟨_, h1, h2, h3.seg⟩
  have HB1 : Hid (Below w1b.heap.size w1b w1b) := Below.refl _ _
  go_wp2_with fail
  refine Calls.mono (HTO.out _ HB1.out) ?_
  rintro u w2 ⟨a2, rfl, hb2, hs2⟩
  have HB2 : Hid (Below w1b.heap.size w1b w2) := HB1.out.trans (hb2.mono HB1.out.size)
  have HS2 : Hid (GSeg 7 w2 a2 n (evX xs)) := hs2
  clear hb2 hs2 HB1
  go_wp2_with fail
  refine Calls.mono (HTB.out _ HB2.out) ?_
  rintro u w3 ⟨b3, rfl, hb3, hs3⟩
  have HB3 : Hid (Below w1b.heap.size w1b w3) := HB2.out.trans (hb3.mono HB2.out.size)
  have HS3 : Hid (GSeg 7 w3 a2 n (evX xs) ∧ GSeg 7 w3 b3 m (evX ys)) := ⟨HS2.out.below hb3, hs3⟩
  clear hb3 hs3 HB2 HS2
  go_wp2_with fail
  refine Calls.mono (HSP.out _ a2 b3 HS3.out.1 HS3.out.2) ?_
  rintro u w4 ⟨rfl, hb4⟩
  have HB4 : Hid (Below w1b.heap.size w1b w4) := HB3.out.trans (hb4.mono HB3.out.size)
  clear hb4 HB3 HS3
  go_wp2_with fail
  refine Calls.mono (HTO.out _ HB4.out) ?_
  rintro u w5 ⟨a5, rfl, hb5, hs5⟩
  have HB5 : Hid (Below w1b.heap.size w1b w5) := HB4.out.trans (hb5.mono HB4.out.size)
  have HS5 : Hid (GSeg 7 w5 a5 n (evX xs)) := hs5
  clear hb5 hs5 HB4
  go_wp2_with fail
  refine Calls.mono (HTB.out _ HB5.out) ?_
  rintro u w6 ⟨b6, rfl, hb6, hs6⟩
  have HB6 : Hid (Below w1b.heap.size w1b w6) := HB5.out.trans (hb6.mono HB5.out.size)
  have HS6 : Hid (GSeg 7 w6 a5 n (evX xs) ∧ GSeg 7 w6 b6 m (evX ys)) := ⟨HS5.out.below hb6, hs6⟩
  clear hb6 hs6 HB5 HS5
  go_wp2_with fail
  refine Calls.mono (HIM.out _ a5 b6 HS6.out.1 HS6.out.2) ?_
  rintro u w7 ⟨rfl, hb7⟩
  have HB7 : Hid (Below w1b.heap.size w1b w7) := HB6.out.trans (hb7.mono HB6.out.size)
  have HS7 : Hid (GSeg 7 w7 a5 n (evX xs) ∧ GSeg 7 w7 b6 m (evX ys)) := ⟨HS6.out.1.below hb7, HS6.out.2.below hb7⟩
  clear hb7 HB6 HS6
  go_wp2_with fail
  refine Calls.mono (HTO.out _ HB7.out) ?_
  rintro u w8 ⟨a8, rfl, hb8, hs8⟩
  have HB8 : Hid (Below w1b.heap.size w1b w8) := HB7.out.trans (hb8.mono HB7.out.size)
  have HS8 : Hid ((GSeg 7 w8 a5 n (evX xs) ∧ GSeg 7 w8 b6 m (evX ys)) ∧ GSeg 7 w8 a8 n (evX xs)) := ⟨⟨HS7.out.1.below hb8, HS7.out.2.below hb8⟩, hs8⟩
  clear hb8 hs8 HB7 HS7
  go_wp2_with fail
  refine Calls.mono (ev_eqs a5 a8 n n n xs _ HS8.out.1.1 HS8.out.2 hbig) ?_
  rintro u w9 ⟨rfl, hb9⟩
  have HB9 : Hid (Below w1b.heap.size w1b w9) := HB8.out.trans (hb9.mono HB8.out.size)
  have HS9 : Hid (GSeg 7 w9 b6 m (evX ys)) := HS8.out.1.2.below hb9
  clear hb9 HB8 HS8
  go_wp2_with fail
  refine Calls.mono (HTB.out _ HB9.out) ?_
  rintro u w10 ⟨b10, rfl, hb10, hs10⟩
  have HB10 : Hid (Below w1b.heap.size w1b w10) := HB9.out.trans (hb10.mono HB9.out.size)
  have HS10 : Hid (GSeg 7 w10 b6 m (evX ys) ∧ GSeg 7 w10 b10 m (evX ys)) := ⟨HS9.out.below hb10, hs10⟩
  clear hb10 hs10 HB9 HS9
  go_wp2_with fail
  refine Calls.mono (ev_eqs b6 b10 m m m ys _ HS10.out.1 HS10.out.2 hbm) ?_
  rintro u w11 ⟨rfl, hb11⟩
  have HB11 : Hid (Below w1b.heap.size w1b w11) := HB10.out.trans (hb11.mono HB10.out.size)
  clear hb11 HB10 HS10
  go_wp2
  go_ret
  exact ⟨rfl, HB11.out⟩

/-! ### The row -/
set_option maxRecDepth 100000 in
theorem lifted (os : Os) (started : os.Started) (H : Type) (enc : TypeId × Value → H) :
    ReturnsInHanded {} Try.checked os 3 .any (Rows.fnExactFirstDiffSpec.pre6 enc Try.prog Try.f3 Rows.fnExactFirstDiffRow.domain false) (Rows.fnExactFirstDiffSpec.post enc Try.prog Try.f3 false true false false) := by
  refine returnsInHanded_of_change (C := Try.checked) own started (by kernel_rfl) Try.func3
    (ChangeSpec.witness6 (enc := enc) (C := Try.checked) false ⟨#[], #[.slice none 0 0, .slice none 0 0], []⟩ 8 (by kernel_rfl) (by kernel_rfl) (by kernel_rfl) (by kernel_rfl)) ?_
  intro W base args ds gs before hval0 hW hcnd _
  have hval : ∀ (j : Nat) t v, Try.f3.params[j]? = some t → args[j]? = some v → Value.okWide Try.prog W .any base t v := hval0
  have hW' := hW
  obtain ⟨p, q, hA0, hV, rfl, hfz, hnd⟩ := hW
  have hA : DataW.TrodAll enc Try.prog W 0 (fun _ => true) true Try.f3.params.toList args.toList ds p := hA0
  rw [Try.params3] at hA hval
  obtain ⟨v0, vs0, d0, ds0, p0, q0, hargs, rfl, rfl, h0, r0⟩ := trodAll_cons hA
  obtain ⟨v1, vs1, d1, ds1, p1, q1, rfl, rfl, rfl, h1, r1⟩ := trodAll_cons r0
  obtain ⟨rfl, rfl, rfl⟩ := trodAll_nil r1
  obtain rfl : args = #[v0, v1] := by cases args; simp_all
  obtain ⟨rfl, rfl⟩ := trodVars_none hV
  have k0 := h0
  have lt0 : ∀ x ∈ p0, x.block < W.heap.size := by obtain ⟨m, hm⟩ := k0; exact DataW.trod_lt m _ _ _ hm
  have k1 := h1
  have lt1 : ∀ x ∈ p1, x.block < W.heap.size := by obtain ⟨m, hm⟩ := k1; exact DataW.trod_lt m _ _ _ hm
  obtain ⟨a, n, c, rfl⟩ := okWide_slice Try.underlying22 (hval 0 22 v0 rfl rfl)
  obtain ⟨fuel, hf⟩ := h0
  obtain ⟨a', n', c', xs, e', hs, hl, hn⟩ := ev_open hf
  simp [Value.cells] at e'
  obtain ⟨rfl, rfl, rfl⟩ := e'
  obtain ⟨b, m, d, rfl⟩ := okWide_slice Try.underlying22 (hval 1 22 v1 rfl rfl)
  obtain ⟨fuel2, hf2⟩ := h1
  obtain ⟨b', m', d', ys, e2', ht, hl2, hm⟩ := ev_open hf2
  simp [Value.cells] at e2'
  obtain ⟨rfl, rfl, rfl⟩ := e2'
  clear hA0 hval0
  refine (walk _ _ _ _ _ _ xs ys W hs ht hn hm).mono fun e W' ⟨he, bel⟩ => ?_
  subst he
  exact ⟨_, rfl, _, _, _, [], _, [], hW', (trodAll_cons_mk (shut_bool Try.underlying4 _) trodAll_mk0), (trodAll_cons_mk (Below.trod laidOut (by kernel_rfl) (of_decide_eq_true (by kernel_rfl)) k0 bel lt0) (trodAll_cons_mk (Below.trod laidOut (by kernel_rfl) (of_decide_eq_true (by kernel_rfl)) k1 bel lt1) trodAll_mk0)), rfl, bel.frame _, fun h => by cases h⟩

theorem over : Rows.fnExactFirstDiffRow.holds Try.pinned (OpenSpec.ofChange Rows.fnExactFirstDiffSpec) :=
  OpenClaim.holds_of_wide 3 Try.f3 rfl rfl rfl rfl rfl rfl rfl ⟨rfl, rfl, rfl, rfl, rfl⟩ rfl rfl rfl rfl rfl (by kernel_rfl) Try.func3 (by kernel_rfl)
    (of_decide_eq_true (by kernel_rfl)) (by unfold Func.isWrapper; first | (rw [if_pos (by decide +kernel)]; kernel_rfl) | (rw [if_neg (by decide +kernel)]; exact ⟨rfl, rfl⟩))
    (fun os started H enc _ => lifted os started H enc)

end Go.Proofs.Ytplnljccabfmlaa.fnExactFirstDiff
namespace Go.Proofs.Ytplnljccabfmlaa
theorem FnExactFirstDiff_holds : Rows.FnExactFirstDiffSaid := fnExactFirstDiff.over
end Go.Proofs.Ytplnljccabfmlaa
