
/-
  At every list of windows Reach answers as its model and leaves its argument as it was: the law FnExactReach returns true and its argument reads as before. No conditions.
  Built over the program of the commit that COMMIT names.
-/
import Derived.Test.YtfdjfjkbbfcodaaBas
import Derived.Test.YtfdjfjkbbfcodaaRows
import Derived.WalkKit
import Derived.ProofKit
import Derived.OpenShut
import Derived.Below
import Derived.Carry
import Derived.Test.YtfdjfjkbbfcodaaWnl
import Derived.Test.YtfdjfjkbbfcodaaSrh
import Derived.ShutString
namespace Go.Proofs.Ytfdjfjkbbfcodaa.fnExactReach
open Go.ChangeShapes Go.WideShapes Go.ChangeAt Go.RowKit
set_option linter.unusedVariables false

theorem own : ownKnob Try.prog.godebug = none := by kernel_rfl

/-! ### The walk -/
set_option maxHeartbeats 4000000 in
theorem walk (a : Option Addr) (cap n : Nat) (xs : List Wn) (w : World) (hs : ASeg w a xs) (hf : Fit xs) (hl : xs.length = n) (hn : n ≤ 9223372036854775807) :
    Calls Try.prog 6 #[.slice a n cap] w fun e w' => e = .returned (.bool true) ∧ Below w.heap.size w w' := by
  have HS0 : Hid (ASeg w a xs) := hs
  have HL : Hid _ := hl
  have HF : Hid (Fit xs) := hf
  clear hs hl hf
  go_enter Try.func6, Try.ntmps6
  go_wp2_with fail
  refine Calls.mono (sz_wins a cap n 1048576 _ hn (Nat.le_refl _)) ?_
  rintro u w0 ⟨⟨r, rfl, hr⟩, rfl⟩
  rcases hr with hr | ⟨hr, hbig⟩
  · go_wp2
    go_ret
    exact ⟨rfl, Below.refl _ _⟩
  have hr0 : ¬ (r < 0) := by omega
  have HE : Hid (∀ X, Below w0.heap.size w0 X → Calls Try.prog 16 #[.slice a n cap] X fun e w' => ∃ a', e = .returned (.slice a' n n) ∧ Below X.heap.size X w' ∧ AI w' X.heap.size w'.heap.size a' xs) := fun X hX => (to_wins a cap n xs X (ASeg.below HS0.out hX) HL.out hbig).mono fun e w' h => ⟨_, h.1, h.2.1, h.2.2.ai HL.out _ _ (Nat.le_refl _) h.2.2.lt⟩
  have HQQ : Hid (∀ (X : World) a1 a2, ASeg X a1 xs → ASeg X a2 xs → Calls Try.prog 18 #[.slice a1 n n, .slice a2 n n] X fun e w' => e = .returned (.bool true) ∧ Below X.heap.size X w') := fun X a1 a2 h1 h2 => eq_accs a1 a2 n n n xs X h1 h2 HL.out hbig
  obtain ⟨q, hq⟩ := told (WsOk xs)
  obtain ⟨N, hN0, hN1⟩ : ∃ N, (q = false → N = 0) ∧ (q = true → N = n) := by
    cases q
    · exact ⟨0, (fun _ => rfl), (fun h => by cases h)⟩
    · exact ⟨n, (fun h => by cases h), (fun _ => rfl)⟩
  obtain ⟨rs, hrs⟩ : ∃ rs, rs = sumTo xs N := ⟨_, rfl⟩
  have HSP : Hid (∀ (X : World) a, ASeg X a xs → Calls Try.prog 23 #[.slice a n n] X fun e w' => e = .returned (.int .i64 rs) ∧ Below X.heap.size X w') := fun X a h => spec_reach a n n xs q N rs X h HL.out hn hq hN0 hN1 hrs
  have HIM : Hid (∀ (X : World) a, ASeg X a xs → Calls Try.prog 24 #[.slice a n n] X fun e w' => e = .returned (.int .i64 rs) ∧ Below X.heap.size X w') := fun X a h => by
    rw [hrs]; exact impl_reach a n n xs q N X h HF.out HL.out hn (Nat.le_refl _) hq hN0 hN1
  clear hq hN0 hN1 hrs
  go_wp2_with fail
  refine Calls.mono (HE.out _ (Below.refl _ _)) ?_
  rintro u w1 ⟨a1, rfl, hb1, ho1⟩
  have HB1 : Hid _ := hb1
  have HO1 : Hid (AI _ _ _ _ _) := ho1
  clear hb1 ho1
  go_wp2_with fail
  refine Calls.mono (HSP.out _ a1 (AI.seg HO1.out)) ?_
  rintro u w2 ⟨rfl, hb2⟩
  have HB2 : Hid _ := HB1.out.trans (hb2.mono HB1.out.size)
  clear hb2 HB1 HO1
  go_wp2_with fail
  refine Calls.mono (HE.out _ HB2.out) ?_
  rintro u w3 ⟨a3, rfl, hb3, ho3⟩
  have HB3 : Hid _ := HB2.out.trans (hb3.mono HB2.out.size)
  have HO3 : Hid (AI _ _ _ _ _) := ho3
  clear hb3 ho3 HB2
  go_wp2_with fail
  refine Calls.mono (HIM.out _ a3 (AI.seg HO3.out)) ?_
  rintro u w4 ⟨rfl, hb4⟩
  have HB4 : Hid _ := HB3.out.trans (hb4.mono HB3.out.size)
  have HO4 : Hid (AI _ _ _ _ _) := AI.below HO3.out hb4
  clear hb4 HO3 HB3
  go_wp2_with fail
  refine Calls.mono (HE.out _ HB4.out) ?_
  rintro u w5 ⟨a5, rfl, hb5, ho5⟩
  have HB5 : Hid _ := HB4.out.trans (hb5.mono HB4.out.size)
  have HO5 : Hid (AI _ _ _ _ _) := AI.below HO4.out hb5
  have HP5 : Hid (AI _ _ _ _ _) := ho5
  clear hb5 ho5 HB4 HO4
  go_wp2_with fail
  refine Calls.mono (HQQ.out _ a3 a5 (AI.seg HO5.out) (AI.seg HP5.out)) ?_
  rintro u w6 ⟨rfl, hb6⟩
  have HB6 : Hid _ := HB5.out.trans (hb6.mono HB5.out.size)
  clear hb6 HB5
  go_wp2
  go_ret
  exact ⟨rfl, HB6.out⟩

/-! ### The row -/
set_option maxRecDepth 100000 in
theorem lifted (os : Os) (started : os.Started) (H : Type) (enc : TypeId × Value → H) :
    ReturnsInHanded {} Try.checked os 6 .any (Rows.fnExactReachSpec.pre6 enc Try.prog Try.f6 Rows.fnExactReachRow.domain false) (Rows.fnExactReachSpec.post enc Try.prog Try.f6 false true false false) := by
  refine returnsInHanded_of_change (C := Try.checked) own started (by kernel_rfl) Try.func6
    (ChangeSpec.witness6 (enc := enc) (C := Try.checked) false ⟨#[], #[.slice none 0 0], []⟩ 8 (by kernel_rfl) (by kernel_rfl) (by kernel_rfl) (by kernel_rfl)) ?_
  intro W base args ds gs before hval0 hW hcnd _
  have hval : ∀ (j : Nat) t v, Try.f6.params[j]? = some t → args[j]? = some v → Value.okWide Try.prog W .any base t v := hval0
  have hW' := hW
  obtain ⟨p, q, hA0, hV, rfl, hfz, hnd⟩ := hW
  have hA : DataW.TrodAll enc Try.prog W 0 (fun _ => true) true Try.f6.params.toList args.toList ds p := hA0
  rw [Try.params6] at hA hval
  obtain ⟨v0, vs0, d0, ds0, p0, q0, hargs, rfl, rfl, h0, r0⟩ := trodAll_cons hA
  obtain ⟨rfl, rfl, rfl⟩ := trodAll_nil r0
  obtain rfl : args = #[v0] := by cases args; simp_all
  obtain ⟨rfl, rfl⟩ := trodVars_none hV
  have k0 := h0
  have lt0 : ∀ x ∈ p0, x.block < W.heap.size := by obtain ⟨m, hm⟩ := k0; exact DataW.trod_lt m _ _ _ hm
  obtain ⟨a, xs, c, rfl, hs, hn, hf⟩ := wins_arg (hval 0 22 v0 rfl rfl) h0
  clear hA0 hval0
  refine (walk a c xs.length xs W hs hf rfl hn).mono fun e W' ⟨he, bel⟩ => ?_
  subst he
  exact ⟨_, rfl, _, _, _, [], _, [], hW', (trodAll_cons_mk (shut_bool Try.underlying4 _) trodAll_mk0), (trodAll_cons_mk (Below.trod laidOut (by kernel_rfl) (of_decide_eq_true (by kernel_rfl)) k0 bel lt0) trodAll_mk0), rfl, bel.frame _, fun h => by cases h⟩

theorem over : Rows.fnExactReachRow.holds Try.pinned (OpenSpec.ofChange Rows.fnExactReachSpec) :=
  OpenClaim.holds_of_wide 6 Try.f6 rfl rfl rfl rfl rfl rfl rfl ⟨rfl, rfl, rfl, rfl, rfl⟩ rfl rfl rfl rfl rfl (by kernel_rfl) Try.func6 (by kernel_rfl)
    (of_decide_eq_true (by kernel_rfl)) (by unfold Func.isWrapper; first | (rw [if_pos (by decide +kernel)]; kernel_rfl) | (rw [if_neg (by decide +kernel)]; exact ⟨rfl, rfl⟩))
    (fun os started H enc _ => lifted os started H enc)

end Go.Proofs.Ytfdjfjkbbfcodaa.fnExactReach
namespace Go.Proofs.Ytfdjfjkbbfcodaa
theorem FnExactReach_holds : Rows.FnExactReachSaid := fnExactReach.over
end Go.Proofs.Ytfdjfjkbbfcodaa
