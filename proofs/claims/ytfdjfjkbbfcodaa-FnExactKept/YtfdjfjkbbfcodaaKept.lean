
/-
  At every list of windows and every sum of kinds Kept answers as its model, in memory of its own, and leaves its argument as it was: the law FnExactKept returns true and its arguments read as before. No conditions.
  Built over the program of the commit that COMMIT names.
-/
import Derived.Test.YtfdjfjkbbfcodaaBas
import Derived.Test.YtfdjfjkbbfcodaaRows
import Derived.WalkKit
import Derived.ProofKit
import Derived.OpenShut
import Derived.Below
import Derived.Carry
import Derived.Test.YtfdjfjkbbfcodaaWnl
import Derived.Test.YtfdjfjkbbfcodaaSkp
import Derived.ShutString
namespace Go.Proofs.Ytfdjfjkbbfcodaa.fnExactKept
open Go.ChangeShapes Go.WideShapes Go.ChangeAt Go.RowKit
set_option linter.unusedVariables false

theorem own : ownKnob Try.prog.godebug = none := by kernel_rfl

/-! ### The walk -/
set_option maxHeartbeats 8000000 in
theorem walk (a : Option Addr) (cap n : Nat) (xs : List Wn) (kd : Int) (w : World) (hs : ASeg w a xs) (hf : Fit xs) (hl : xs.length = n) (hn : n ≤ 9223372036854775807) :
    Calls Try.prog 7 #[.slice a n cap, .int .i64 kd] w fun e w' => e = .returned (.bool true) ∧ Below w.heap.size w w' := by
  have HS0 : Hid (ASeg w a xs) := hs
  have HL : Hid _ := hl
  have HF : Hid (Fit xs) := hf
  clear hs hl hf
  go_enter Try.func7, Try.ntmps7
  go_wp2_with fail
  refine Calls.mono (sz_wins a cap n 1048576 _ hn (Nat.le_refl _)) ?_
  rintro u w0 ⟨⟨r, rfl, hr⟩, rfl⟩
  rcases hr with hr | ⟨hr, hbig⟩
  · go_wp2
    go_ret
    exact ⟨rfl, Below.refl _ _⟩
  have hr0 : ¬ (r < 0) := by omega
  have HE : Hid (∀ X, Below w0.heap.size w0 X → Calls Try.prog 16 #[.slice a n cap] X fun e w' => ∃ a', e = .returned (.slice a' n n) ∧ Below X.heap.size X w' ∧ AI w' X.heap.size w'.heap.size a' xs) := fun X hX => (to_wins a cap n xs X (ASeg.below HS0.out hX) HL.out hbig).mono fun e w' h => ⟨_, h.1, h.2.1, h.2.2.ai HL.out _ _ (Nat.le_refl _) h.2.2.lt⟩
  have HQQ : Hid (∀ (X : World) a1 a2, ASeg X a1 xs → ASeg X a2 xs → Calls Try.prog 18 #[.slice a1 n n, .slice a2 n n] X fun e w' => e = .returned (.bool true) ∧ Below X.heap.size X w') := fun X a1 a2 h1 h2 => eq_accs a1 a2 n n n xs X h1 h2 HL.out hbig
  obtain ⟨q, hq⟩ := told (WsOk xs)
  obtain ⟨N, hN0, hN1⟩ : ∃ N, (q = false → N = 0) ∧ (q = true → N = n) := by
    cases q
    · exact ⟨0, (fun _ => rfl), (fun h => by cases h)⟩
    · exact ⟨n, (fun h => by cases h), (fun _ => rfl)⟩
  obtain ⟨ks, hk0, hk1, hkn, hki⟩ : ∃ ks : List Wn, (q = false ∨ ¬ (1 ≤ kd ∧ kd ≤ 7) → ks = []) ∧ (q = true → 1 ≤ kd ∧ kd ≤ 7 → ks = keptL xs kd (List.range n)) ∧ ks.length ≤ 1048576 ∧ ∀ (X : World) a, ASeg X a xs → Calls Try.prog 26 #[.slice a n n, .int .i64 kd] X fun e w' => ∃ v, e = .returned v ∧ Below X.heap.size X w' ∧ OwnA w' X.heap.size v ks := by
    by_cases hk : 1 ≤ kd ∧ kd ≤ 7
    · refine ⟨keptL xs kd (List.range N), (fun h => ?_), (fun h _ => by rw [hN1 h]), ?_, (fun X a h => impl_kept_yes a n n xs kd q N X hk h HF.out HL.out hn (Nat.le_refl _) hq hN0 hN1)⟩
      · rcases h with h | h
        · rw [hN0 h]; rfl
        · exact absurd hk h
      · have h1 := keptL_len xs kd (List.range N)
        rw [List.length_range] at h1
        have h2 : N ≤ n := by
          cases q
          · rw [hN0 rfl]; omega
          · rw [hN1 rfl]; omega
        omega
    · exact ⟨[], (fun _ => rfl), (fun _ h => absurd h hk), (by simp), (fun X a h => impl_kept_no a n n kd X hk)⟩
  obtain ⟨nb, HNB⟩ : ∃ nb, Hid (ks.length = nb) := ⟨_, rfl⟩
  have hnb : nb ≤ 1048576 := by rw [← HNB.out]; exact hkn
  have HSP : Hid (∀ (X : World) a, ASeg X a xs → Calls Try.prog 25 #[.slice a n n, .int .i64 kd] X fun e w' => ∃ a' c', e = .returned (.slice a' nb c') ∧ Below X.heap.size X w' ∧ AI w' X.heap.size w'.heap.size a' ks) := fun X a hX => (spec_kept a n n xs kd q ks X hX HL.out hn hq hk0 hk1).mono fun e w' h => by
    obtain ⟨v, h1, h2, h3⟩ := h
    obtain ⟨a', c', rfl, h4⟩ := OwnA.ai h3
    exact ⟨a', c', by rw [h1, HNB.out], h2, h4⟩
  have HIM : Hid (∀ (X : World) a, ASeg X a xs → Calls Try.prog 26 #[.slice a n n, .int .i64 kd] X fun e w' => ∃ a' c', e = .returned (.slice a' nb c') ∧ Below X.heap.size X w' ∧ AI w' X.heap.size w'.heap.size a' ks) := fun X a hX => (hki X a hX).mono fun e w' h => by
    obtain ⟨v, h1, h2, h3⟩ := h
    obtain ⟨a', c', rfl, h4⟩ := OwnA.ai h3
    exact ⟨a', c', by rw [h1, HNB.out], h2, h4⟩
  clear hq hN0 hN1 hk0 hk1 hkn hki
  have HB1 : Hid _ := Below.refl w0.heap.size w0
  go_wp2_with fail
  refine Calls.mono (HE.out _ HB1.out) ?_
  rintro u w3 ⟨a3, rfl, hb3, ho3⟩
  have hz3 := hb3.size
  have HB3 : Hid _ := HB1.out.trans (hb3.mono HB1.out.size)
  clear HB1
  have HO3x : Hid (AI _ _ _ _ _) := ho3
  clear hb3 ho3
  go_wp2_with fail
  refine Calls.mono (HSP.out _ a3 (AI.seg HO3x.out)) ?_
  rintro u w4 ⟨a4, c4, rfl, hb4, ho4⟩
  have hz4 : w3.heap.size ≤ w4.heap.size := hb4.size
  have HB4 : Hid _ := HB3.out.trans (hb4.mono HB3.out.size)
  clear HB3
  have HV4 : Hid (AI _ _ _ _ _) := ho4
  clear hb4 ho4 HO3x
  go_wp2_with fail
  refine Calls.mono (HE.out _ HB4.out) ?_
  rintro u w5 ⟨a5, rfl, hb5, ho5⟩
  have hz5 := hb5.size
  have HB5 : Hid _ := HB4.out.trans (hb5.mono HB4.out.size)
  have HV5 : Hid (AI _ _ _ _ _) := AI.below HV4.out hb5
  clear HB4 HV4
  have HY5 : Hid (AI _ _ _ _ _) := ho5
  clear hb5 ho5
  go_wp2_with fail
  refine Calls.mono (HIM.out _ a5 (AI.seg HY5.out)) ?_
  rintro u w7 ⟨a7, c7, rfl, hb7, ho7⟩
  have hz7 : w5.heap.size ≤ w7.heap.size := hb7.size
  have HB7 : Hid _ := HB5.out.trans (hb7.mono HB5.out.size)
  have HV7 : Hid (AI _ _ _ _ _) := AI.below HV5.out hb7
  have HY7 : Hid (AI _ _ _ _ _) := AI.below HY5.out hb7
  clear HB5 HV5 HY5
  have HP7 : Hid (AI _ _ _ _ _) := ho7
  clear hb7 ho7
  go_wp2_with fail
  refine Calls.mono (eq_accs a7 a4 c7 c4 nb ks _ (AI.seg HP7.out) (AI.seg HV7.out) HNB.out (by omega)) ?_
  rintro u w8 ⟨rfl, hb8⟩
  have HB8 : Hid _ := HB7.out.trans (hb8.mono HB7.out.size)
  have HV8 : Hid (AI _ _ _ _ _) := AI.below HV7.out hb8
  have HY8 : Hid (AI _ _ _ _ _) := AI.below HY7.out hb8
  have HP8 : Hid (AI _ _ _ _ _) := AI.below HP7.out hb8
  clear HB7 HV7 HY7 HP7
  clear hb8
  go_wp2_with fail
  refine Calls.mono (HE.out _ HB8.out) ?_
  rintro u w9 ⟨a9, rfl, hb9, ho9⟩
  have hz9 := hb9.size
  have HB9 : Hid _ := HB8.out.trans (hb9.mono HB8.out.size)
  have HV9 : Hid (AI _ _ _ _ _) := AI.below HV8.out hb9
  have HY9 : Hid (AI _ _ _ _ _) := AI.below HY8.out hb9
  have HP9 : Hid (AI _ _ _ _ _) := AI.below HP8.out hb9
  clear HB8 HV8 HY8 HP8
  have HO9x : Hid (AI _ _ _ _ _) := ho9
  clear hb9 ho9
  go_wp2_with fail
  refine Calls.mono (HQQ.out _ a5 a9 (AI.seg HY9.out) (AI.seg HO9x.out)) ?_
  rintro u w10 ⟨rfl, hb10⟩
  have HB10 : Hid _ := HB9.out.trans (hb10.mono HB9.out.size)
  have HV10 : Hid (AI _ _ _ _ _) := AI.below HV9.out hb10
  have HY10 : Hid (AI _ _ _ _ _) := AI.below HY9.out hb10
  have HP10 : Hid (AI _ _ _ _ _) := AI.below HP9.out hb10
  clear HB9 HV9 HY9 HP9
  clear hb10 HO9x
  go_wp2_with fail
  refine Calls.mono (mark_accs w4.heap.size w5.heap.size n n 1 a5 xs _ HY10.out HL.out hbig (by omega)) ?_
  rintro u w11 ⟨rfl, hb11, ho11⟩
  have HB11 : Hid _ := HB10.out.trans (hb11.below (by omega) HB10.out.size)
  have HV11 : Hid (AI _ _ _ _ _) := AI.betw HV10.out hb11 (.inl (by omega))
  have HY11 : Hid (AI _ _ _ _ _) := ho11
  have HP11 : Hid (AI _ _ _ _ _) := AI.betw HP10.out hb11 (.inr (by omega))
  clear HB10 HV10 HY10 HP10
  clear hb11 ho11
  have hK0 : 1 + 3 * n ≤ 10000000 := by omega
  obtain ⟨K0, HK0⟩ : ∃ K, Hid (1 + 3 * n = K) := ⟨_, rfl⟩
  rw [HK0.out] at hK0 ⊢
  have hK0n : ¬ ((K0 : Int) < 0) := by omega
  go_wp2_with fail
  refine Calls.mono (eq_accs a7 a4 c7 c4 nb ks _ (AI.seg HP11.out) (AI.seg HV11.out) HNB.out (by omega)) ?_
  rintro u w12 ⟨rfl, hb12⟩
  have HB12 : Hid _ := HB11.out.trans (hb12.mono HB11.out.size)
  have HV12 : Hid (AI _ _ _ _ _) := AI.below HV11.out hb12
  have HY12 : Hid (AI _ _ _ _ _) := AI.below HY11.out hb12
  have HP12 : Hid (AI _ _ _ _ _) := AI.below HP11.out hb12
  clear HB11 HV11 HY11 HP11
  clear hb12 HY12
  go_wp2_with fail
  refine Calls.mono (mark_accs w5.heap.size w7.heap.size c7 nb 1 a7 ks _ HP12.out HNB.out (by omega) (by omega)) ?_
  rintro u w13 ⟨rfl, hb13, ho13⟩
  have HB13 : Hid _ := HB12.out.trans (hb13.below (by omega) HB12.out.size)
  have HV13 : Hid (AI _ _ _ _ _) := AI.betw HV12.out hb13 (.inl (by omega))
  have HP13 : Hid (AI _ _ _ _ _) := ho13
  clear HB12 HV12 HP12
  clear hb13 ho13
  have hK : 1 + 3 * nb ≤ 10000000 := by omega
  obtain ⟨K, HK⟩ : ∃ K, Hid (1 + 3 * nb = K) := ⟨_, rfl⟩
  rw [HK.out] at hK ⊢
  have hKn : ¬ ((K : Int) < 0) := by omega
  go_wp2_with fail
  refine Calls.mono (held_accs a7 c7 nb 1 _ (AI.seg HP13.out) (by omega) (by omega)) ?_
  rintro u w14 ⟨rfl, rfl⟩
  rw [HK.out]
  go_wp2_with fail
  refine Calls.mono (HE.out _ HB13.out) ?_
  rintro u w16 ⟨a16, rfl, hb16, ho16⟩
  have hz16 := hb16.size
  have HB16 : Hid _ := HB13.out.trans (hb16.mono HB13.out.size)
  have HV16 : Hid (AI _ _ _ _ _) := AI.below HV13.out hb16
  have HP16 : Hid (AI _ _ _ _ _) := AI.below HP13.out hb16
  clear HB13 HV13 HP13
  have HO16x : Hid (AI _ _ _ _ _) := ho16
  clear hb16 ho16
  go_wp2_with fail
  refine Calls.mono (HIM.out _ a16 (AI.seg HO16x.out)) ?_
  rintro u w17 ⟨a17, c17, rfl, hb17, ho17⟩
  have HR17x : Hid (AI _ _ _ _ _) := ho17
  have HB17 : Hid _ := HB16.out.trans (hb17.mono HB16.out.size)
  have HV17 : Hid (AI _ _ _ _ _) := AI.below HV16.out hb17
  have HP17 : Hid (AI _ _ _ _ _) := AI.below HP16.out hb17
  clear HB16 HV16 HP16
  clear hb17 ho17 HO16x
  go_wp2_with fail
  refine Calls.mono (eq_accs a17 a4 c17 c4 nb ks _ (AI.seg HR17x.out) (AI.seg HV17.out) HNB.out (by omega)) ?_
  rintro u w18 ⟨rfl, hb18⟩
  have HB18 : Hid _ := HB17.out.trans (hb18.mono HB17.out.size)
  have HV18 : Hid (AI _ _ _ _ _) := AI.below HV17.out hb18
  have HP18 : Hid (AI _ _ _ _ _) := AI.below HP17.out hb18
  clear HB17 HV17 HP17
  clear hb18 HR17x
  go_wp2_with fail
  refine Calls.mono (held_accs a7 c7 nb 1 _ (AI.seg HP18.out) (by omega) (by omega)) ?_
  rintro u w19 ⟨rfl, rfl⟩
  rw [HK.out]
  go_wp2
  go_ret
  exact ⟨rfl, HB18.out⟩

/-! ### The row -/
set_option maxRecDepth 100000 in
theorem lifted (os : Os) (started : os.Started) (H : Type) (enc : TypeId × Value → H) :
    ReturnsInHanded {} Try.checked os 7 .any (Rows.fnExactKeptSpec.pre6 enc Try.prog Try.f7 Rows.fnExactKeptRow.domain false) (Rows.fnExactKeptSpec.post enc Try.prog Try.f7 false true false false) := by
  refine returnsInHanded_of_change (C := Try.checked) own started (by kernel_rfl) Try.func7
    (ChangeSpec.witness6 (enc := enc) (C := Try.checked) false ⟨#[], #[.slice none 0 0, .int .i64 0], []⟩ 8 (by kernel_rfl) (by kernel_rfl) (by kernel_rfl) (by kernel_rfl)) ?_
  intro W base args ds gs before hval0 hW hcnd _
  have hval : ∀ (j : Nat) t v, Try.f7.params[j]? = some t → args[j]? = some v → Value.okWide Try.prog W .any base t v := hval0
  have hW' := hW
  obtain ⟨p, q, hA0, hV, rfl, hfz, hnd⟩ := hW
  have hA : DataW.TrodAll enc Try.prog W 0 (fun _ => true) true Try.f7.params.toList args.toList ds p := hA0
  rw [Try.params7] at hA hval
  obtain ⟨v0, vs0, d0, ds0, p0, q0, hargs, rfl, rfl, h0, r0⟩ := trodAll_cons hA
  obtain ⟨v1, vs1, d1, ds1, p1, q1, rfl, rfl, rfl, h1, r1⟩ := trodAll_cons r0
  obtain ⟨rfl, rfl, rfl⟩ := trodAll_nil r1
  obtain rfl : args = #[v0, v1] := by cases args; simp_all
  obtain ⟨rfl, rfl⟩ := trodVars_none hV
  have k0 := h0
  have lt0 : ∀ x ∈ p0, x.block < W.heap.size := by obtain ⟨m, hm⟩ := k0; exact DataW.trod_lt m _ _ _ hm
  have k1 := h1
  have lt1 : ∀ x ∈ p1, x.block < W.heap.size := by obtain ⟨m, hm⟩ := k1; exact DataW.trod_lt m _ _ _ hm
  obtain ⟨a, xs, c, rfl, hs, hn, hf⟩ := wins_arg (hval 0 22 v0 rfl rfl) h0
  obtain ⟨x1, rfl, rfl, rfl, w1⟩ := open_int Try.underlying3 (hval 1 3 v1 rfl rfl) h1
  clear hA0 hval0
  refine (walk a c xs.length xs x1 W hs hf rfl hn).mono fun e W' ⟨he, bel⟩ => ?_
  subst he
  exact ⟨_, rfl, _, _, _, [], _, [], hW', (trodAll_cons_mk (shut_bool Try.underlying4 _) trodAll_mk0), (trodAll_cons_mk (Below.trod laidOut (by kernel_rfl) (of_decide_eq_true (by kernel_rfl)) k0 bel lt0) (trodAll_cons_mk (Below.trod laidOut (by kernel_rfl) (of_decide_eq_true (by kernel_rfl)) k1 bel lt1) trodAll_mk0)), rfl, bel.frame _, fun h => by cases h⟩

theorem over : Rows.fnExactKeptRow.holds Try.pinned (OpenSpec.ofChange Rows.fnExactKeptSpec) :=
  OpenClaim.holds_of_wide 7 Try.f7 rfl rfl rfl rfl rfl rfl rfl ⟨rfl, rfl, rfl, rfl, rfl⟩ rfl rfl rfl rfl rfl (by kernel_rfl) Try.func7 (by kernel_rfl)
    (of_decide_eq_true (by kernel_rfl)) (by unfold Func.isWrapper; first | (rw [if_pos (by decide +kernel)]; kernel_rfl) | (rw [if_neg (by decide +kernel)]; exact ⟨rfl, rfl⟩))
    (fun os started H enc _ => lifted os started H enc)

end Go.Proofs.Ytfdjfjkbbfcodaa.fnExactKept
namespace Go.Proofs.Ytfdjfjkbbfcodaa
theorem FnExactKept_holds : Rows.FnExactKeptSaid := fnExactKept.over
end Go.Proofs.Ytfdjfjkbbfcodaa
