
/-
  At every list of windows, every address, size and kind FaultAt answers as its model and leaves its arguments as they were: the law FnExactFaultAt returns true and its arguments read as before. No conditions.
  Built over the program of the commit that COMMIT names.
-/
import Derived.Test.YtfdjfjkbbfcodaaBas
import Derived.Test.YtfdjfjkbbfcodaaRows
import Derived.WalkKit
import Derived.ProofKit
import Derived.OpenShut
import Derived.Below
import Derived.Carry
import Derived.Test.YtfdjfjkbbfcodaaWnl
import Derived.Test.YtfdjfjkbbfcodaaFlt
import Derived.ShutString
namespace Go.Proofs.Ytfdjfjkbbfcodaa.fnExactFaultAt
open Go.ChangeShapes Go.WideShapes Go.ChangeAt Go.RowKit
set_option linter.unusedVariables false

theorem own : ownKnob Try.prog.godebug = none := by kernel_rfl

/-! ### The walk -/
set_option maxHeartbeats 4000000 in
theorem walk (a : Option Addr) (cap n : Nat) (xs : List Wn) (ad sz kd : Int) (w : World) (hs : ASeg w a xs) (hf : Fit xs) (hl : xs.length = n) (hn : n ≤ 9223372036854775807) (had : 0 ≤ ad ∧ ad < 4294967296) :
    Calls Try.prog 5 #[.slice a n cap, .int .u32 ad, .int .i64 sz, .int .i64 kd] w fun e w' => e = .returned (.bool true) ∧ Below w.heap.size w w' := by
  have HS0 : Hid (ASeg w a xs) := hs
  have HL : Hid _ := hl
  have HF : Hid (Fit xs) := hf
  clear hs hl hf
  go_enter Try.func5, Try.ntmps5
  go_wp2_with fail
  refine Calls.mono (sz_wins a cap n 1048576 _ hn (Nat.le_refl _)) ?_
  rintro u w0 ⟨⟨r, rfl, hr⟩, rfl⟩
  rcases hr with hr | ⟨hr, hbig⟩
  · go_wp2
    go_ret
    exact ⟨rfl, Below.refl _ _⟩
  have hr0 : ¬ (r < 0) := by omega
  have HE : Hid (∀ X, Below w0.heap.size w0 X → Calls Try.prog 16 #[.slice a n cap] X fun e w' => ∃ a', e = .returned (.slice a' n n) ∧ Below X.heap.size X w' ∧ AI w' X.heap.size w'.heap.size a' xs) := fun X hX => (to_wins a cap n xs X (ASeg.below HS0.out hX) HL.out hbig).mono fun e w' h => ⟨_, h.1, h.2.1, h.2.2.ai HL.out _ _ (Nat.le_refl _) h.2.2.lt⟩
  have HQQ : Hid (∀ (X : World) a1 a2, ASeg X a1 xs → ASeg X a2 xs → Calls Try.prog 18 #[.slice a1 n n, .slice a2 n n] X fun e w' => e = .returned (.bool true) ∧ Below X.heap.size X w') := fun X a1 a2 h1 h2 => eq_accs a1 a2 n n n xs X h1 h2 HL.out hbig
  obtain ⟨q, hq⟩ := told (WsOk xs)
  obtain ⟨ra, hra⟩ := AtP.ex xs ad n
  obtain ⟨rf, hrf, hr9⟩ : ∃ rf, (q = true → AccP sz kd → FauP sz kd ad ra (xs.getD ra.toNat wn0).2.2 rf) ∧ (q = false ∨ ¬ AccP sz kd → rf = 9) := by
    by_cases h : q = true ∧ AccP sz kd
    · obtain ⟨rf, h1⟩ := FauP.ex sz kd ad ra (xs.getD ra.toNat wn0).2.2
      exact ⟨rf, (fun _ _ => h1), (fun g => by
        rcases g with g | g
        · rw [h.1] at g; cases g
        · exact absurd h.2 g)⟩
    · exact ⟨9, (fun h1 h2 => absurd ⟨h1, h2⟩ h), (fun _ => rfl)⟩
  have HSP : Hid (∀ (X : World) a, ASeg X a xs → Calls Try.prog 21 #[.slice a n n, .int .u32 ad, .int .i64 sz, .int .i64 kd] X fun e w' => e = .returned (.int .i64 rf) ∧ Below X.heap.size X w') := fun X a h => spec_fault a n n xs q ad ra sz kd rf X h HL.out hn hq had (fun _ => hra) hrf hr9
  have HIM : Hid (∀ (X : World) a, ASeg X a xs → Calls Try.prog 22 #[.slice a n n, .int .u32 ad, .int .i64 sz, .int .i64 kd] X fun e w' => e = .returned (.int .i64 rf) ∧ Below X.heap.size X w') := fun X a h => impl_fault a n n xs q ad ra sz kd rf X h HF.out HL.out hn (Nat.le_refl _) hq had (fun _ => hra) hrf hr9
  clear hq hra hrf hr9 had
  go_wp2_with fail
  refine Calls.mono (HE.out _ (Below.refl _ _)) ?_
  rintro u w1 ⟨a1, rfl, hb1, ho1⟩
  have HB1 : Hid _ := hb1
  have HO1 : Hid (AI _ _ _ _ _) := ho1
  clear hb1 ho1
  go_wp2_with fail
  refine Calls.mono (HSP.out _ a1 (AI.seg HO1.out)) ?_
  rintro u w2 ⟨rfl, hb2⟩
  have HB2 : Hid _ := HB1.out.trans (hb2.mono HB1.out.size)
  clear hb2 HB1 HO1
  go_wp2_with fail
  refine Calls.mono (HE.out _ HB2.out) ?_
  rintro u w3 ⟨a3, rfl, hb3, ho3⟩
  have HB3 : Hid _ := HB2.out.trans (hb3.mono HB2.out.size)
  have HO3 : Hid (AI _ _ _ _ _) := ho3
  clear hb3 ho3 HB2
  go_wp2_with fail
  refine Calls.mono (HIM.out _ a3 (AI.seg HO3.out)) ?_
  rintro u w4 ⟨rfl, hb4⟩
  have HB4 : Hid _ := HB3.out.trans (hb4.mono HB3.out.size)
  have HO4 : Hid (AI _ _ _ _ _) := AI.below HO3.out hb4
  clear hb4 HO3 HB3
  go_wp2_with fail
  refine Calls.mono (HE.out _ HB4.out) ?_
  rintro u w5 ⟨a5, rfl, hb5, ho5⟩
  have HB5 : Hid _ := HB4.out.trans (hb5.mono HB4.out.size)
  have HO5 : Hid (AI _ _ _ _ _) := AI.below HO4.out hb5
  have HP5 : Hid (AI _ _ _ _ _) := ho5
  clear hb5 ho5 HB4 HO4
  go_wp2_with fail
  refine Calls.mono (HQQ.out _ a3 a5 (AI.seg HO5.out) (AI.seg HP5.out)) ?_
  rintro u w6 ⟨rfl, hb6⟩
  have HB6 : Hid _ := HB5.out.trans (hb6.mono HB5.out.size)
  clear hb6 HB5
  go_wp2
  go_ret
  exact ⟨rfl, HB6.out⟩

/-! ### The row -/
set_option maxRecDepth 100000 in
theorem lifted (os : Os) (started : os.Started) (H : Type) (enc : TypeId × Value → H) :
    ReturnsInHanded {} Try.checked os 5 .any (Rows.fnExactFaultAtSpec.pre6 enc Try.prog Try.f5 Rows.fnExactFaultAtRow.domain false) (Rows.fnExactFaultAtSpec.post enc Try.prog Try.f5 false true false false) := by
  refine returnsInHanded_of_change (C := Try.checked) own started (by kernel_rfl) Try.func5
    (ChangeSpec.witness6 (enc := enc) (C := Try.checked) false ⟨#[], #[.slice none 0 0, .int .u32 0, .int .i64 0, .int .i64 0], []⟩ 8 (by kernel_rfl) (by kernel_rfl) (by kernel_rfl) (by kernel_rfl)) ?_
  intro W base args ds gs before hval0 hW hcnd _
  have hval : ∀ (j : Nat) t v, Try.f5.params[j]? = some t → args[j]? = some v → Value.okWide Try.prog W .any base t v := hval0
  have hW' := hW
  obtain ⟨p, q, hA0, hV, rfl, hfz, hnd⟩ := hW
  have hA : DataW.TrodAll enc Try.prog W 0 (fun _ => true) true Try.f5.params.toList args.toList ds p := hA0
  rw [Try.params5] at hA hval
  obtain ⟨v0, vs0, d0, ds0, p0, q0, hargs, rfl, rfl, h0, r0⟩ := trodAll_cons hA
  obtain ⟨v1, vs1, d1, ds1, p1, q1, rfl, rfl, rfl, h1, r1⟩ := trodAll_cons r0
  obtain ⟨v2, vs2, d2, ds2, p2, q2, rfl, rfl, rfl, h2, r2⟩ := trodAll_cons r1
  obtain ⟨v3, vs3, d3, ds3, p3, q3, rfl, rfl, rfl, h3, r3⟩ := trodAll_cons r2
  obtain ⟨rfl, rfl, rfl⟩ := trodAll_nil r3
  obtain rfl : args = #[v0, v1, v2, v3] := by cases args; simp_all
  obtain ⟨rfl, rfl⟩ := trodVars_none hV
  have k0 := h0
  have lt0 : ∀ x ∈ p0, x.block < W.heap.size := by obtain ⟨m, hm⟩ := k0; exact DataW.trod_lt m _ _ _ hm
  have k1 := h1
  have lt1 : ∀ x ∈ p1, x.block < W.heap.size := by obtain ⟨m, hm⟩ := k1; exact DataW.trod_lt m _ _ _ hm
  have k2 := h2
  have lt2 : ∀ x ∈ p2, x.block < W.heap.size := by obtain ⟨m, hm⟩ := k2; exact DataW.trod_lt m _ _ _ hm
  have k3 := h3
  have lt3 : ∀ x ∈ p3, x.block < W.heap.size := by obtain ⟨m, hm⟩ := k3; exact DataW.trod_lt m _ _ _ hm
  obtain ⟨a, xs, c, rfl, hs, hn, hf⟩ := wins_arg (hval 0 22 v0 rfl rfl) h0
  obtain ⟨x1, rfl, rfl, rfl, w1⟩ := open_int Try.underlying31 (hval 1 31 v1 rfl rfl) h1
  obtain ⟨x2, rfl, rfl, rfl, w2⟩ := open_int Try.underlying3 (hval 2 3 v2 rfl rfl) h2
  obtain ⟨x3, rfl, rfl, rfl, w3⟩ := open_int Try.underlying3 (hval 3 3 v3 rfl rfl) h3
  clear hA0 hval0
  refine (walk a c xs.length xs x1 x2 x3 W hs hf rfl hn (by have := bounds_u32 w1; omega)).mono fun e W' ⟨he, bel⟩ => ?_
  subst he
  exact ⟨_, rfl, _, _, _, [], _, [], hW', (trodAll_cons_mk (shut_bool Try.underlying4 _) trodAll_mk0), (trodAll_cons_mk (Below.trod laidOut (by kernel_rfl) (of_decide_eq_true (by kernel_rfl)) k0 bel lt0) (trodAll_cons_mk (Below.trod laidOut (by kernel_rfl) (of_decide_eq_true (by kernel_rfl)) k1 bel lt1) (trodAll_cons_mk (Below.trod laidOut (by kernel_rfl) (of_decide_eq_true (by kernel_rfl)) k2 bel lt2) (trodAll_cons_mk (Below.trod laidOut (by kernel_rfl) (of_decide_eq_true (by kernel_rfl)) k3 bel lt3) trodAll_mk0)))), rfl, bel.frame _, fun h => by cases h⟩

theorem over : Rows.fnExactFaultAtRow.holds Try.pinned (OpenSpec.ofChange Rows.fnExactFaultAtSpec) :=
  OpenClaim.holds_of_wide 5 Try.f5 rfl rfl rfl rfl rfl rfl rfl ⟨rfl, rfl, rfl, rfl, rfl⟩ rfl rfl rfl rfl rfl (by kernel_rfl) Try.func5 (by kernel_rfl)
    (of_decide_eq_true (by kernel_rfl)) (by unfold Func.isWrapper; first | (rw [if_pos (by decide +kernel)]; kernel_rfl) | (rw [if_neg (by decide +kernel)]; exact ⟨rfl, rfl⟩))
    (fun os started H enc _ => lifted os started H enc)

end Go.Proofs.Ytfdjfjkbbfcodaa.fnExactFaultAt
namespace Go.Proofs.Ytfdjfjkbbfcodaa
theorem FnExactFaultAt_holds : Rows.FnExactFaultAtSaid := fnExactFaultAt.over
end Go.Proofs.Ytfdjfjkbbfcodaa
