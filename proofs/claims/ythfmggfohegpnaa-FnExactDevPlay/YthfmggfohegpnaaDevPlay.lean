
/-
  At every list of ops DevPlay answers as its model and leaves its arguments as they were: the law FnExactDevPlay returns true and its arguments read as before. No conditions.
  Built over the program of the commit that COMMIT names.
-/
import Derived.Test.YthfmggfohegpnaaRows
import Derived.WalkKit
import Derived.ProofKit
import Derived.OpenShut
import Derived.Below
import Derived.Carry
import Derived.Test.YthfmggfohegpnaaDim
import Derived.Test.YthfmggfohegpnaaSpdB
import Derived.ShutString
namespace Go.Proofs.Ythfmggfohegpnaa.fnExactDevPlay
open Go.ChangeShapes Go.WideShapes Go.ChangeAt Go.RowKit Go.Deep
set_option linter.unusedVariables false

theorem own : ownKnob Try.prog.godebug = none := by kernel_rfl

/-! ### The walk -/
set_option maxRecDepth 20000 in
set_option maxHeartbeats 16000000 in
theorem walk (a : Option Addr) (cap n : Nat) (ops : List Cp) (w : World) (hs : PSeg w a ops) (hl : ops.length = n) (hn : n ≤ 9223372036854775807) :
    Calls Try.prog 7 #[.slice a n cap] w fun e w' => e = .returned (.bool true) ∧ Below w.heap.size w w' := by
  have hrb : n ≤ 9223372036854775807 := hn
  have HS0 : Hid (PSeg w a ops) := hs
  have HL0 : Hid (ops.length = n) := hl
  clear hs hl hn
  have HB : Hid (Below w.heap.size w w) := Below.refl _ w
  go_enter Try.func7, Try.ntmps7
  go_wp2_with fail
  refine Calls.mono (sz_cops a cap n 1048576 _ hrb (Nat.le_refl _)) ?_
  rintro u w11 ⟨⟨r, rfl, hr⟩, hw11⟩
  rw [hw11]
  clear hw11 w11
  rcases hr with hr | ⟨hr, hbig⟩
  · go_wp2
    go_ret
    exact ⟨rfl, HB.out⟩
  have hr0 : ¬ (r < 0) := by omega
  obtain ⟨ps, HPS⟩ : ∃ p, Hid (plyD ops = p) := ⟨_, rfl⟩
  obtain ⟨y, HYL⟩ : ∃ y, Hid (ps.length = y) := ⟨_, rfl⟩
  have hy : y ≤ 1000 := by rw [← HYL.out, ← HPS.out]; exact ply_len _
  have SP : Hid (∀ (X : World) a1, PSeg X a1 ops → Calls Try.prog 23 #[.slice a1 n n] X fun e w' => ∃ a' c', e = .returned (.slice a' y c') ∧ Below X.heap.size X w' ∧ AI w' X.heap.size w'.heap.size a' ps) := fun X a1 h1 => by have g := spec_play a1 n n ops X h1 HL0.out hbig; rw [HPS.out, HYL.out] at g; exact g
  have IM : Hid (∀ (X : World) a1, PSeg X a1 ops → Calls Try.prog 25 #[.slice a1 n n] X fun e w' => ∃ a' c', e = .returned (.slice a' y c') ∧ Below X.heap.size X w' ∧ AI w' X.heap.size w'.heap.size a' ps) := fun X a1 h1 => by have g := impl_play a1 n n ops X h1 HL0.out hbig; rw [HPS.out, HYL.out] at g; exact g
  have TO : Hid (∀ X, Below w.heap.size w X → Calls Try.prog 24 #[.slice a n cap] X fun e w' => e = .returned (.slice (some ⟨X.heap.size, 0, none⟩) n n) ∧ Below X.heap.size X w' ∧ PI w' X.heap.size w'.heap.size (some ⟨X.heap.size, 0, none⟩) ops) := fun X hX => (to_cops a cap n ops X (HS0.out.below hX) HL0.out hbig).mono fun e w' ⟨h1, h2, h3⟩ => ⟨h1, h2, h3.pi HL0.out _ _ (Nat.le_refl _) h3.lt⟩
  clear HPS
  go_wp2_with fail
  refine Calls.mono (TO.out _ HB.out) ?_
  rintro u w12 ⟨rfl, hb12, ho12⟩
  replace HB : Hid (Below w.heap.size w _) := HB.out.trans (hb12.mono HB.out.size)
  have TL : Hid (PI w12 _ _ _ ops) := ho12
  have hz12 := hb12.size
  clear hb12 ho12
  go_wp2_with fail
  refine Calls.mono (SP.out _ _ (PI.seg TL.out)) ?_
  rintro u w13 ⟨aS, cS, rfl, hb13, ho13⟩
  replace HB : Hid (Below w.heap.size w _) := HB.out.trans (hb13.mono HB.out.size)
  replace TL : Hid (PI _ _ _ _ _) := PI.below TL.out hb13
  have hz13 := hb13.size
  have SA : Hid (AI w13 w12.heap.size w13.heap.size aS ps) := ho13
  clear hb13 ho13
  clear TL
  go_wp2_with fail
  refine Calls.mono (TO.out _ HB.out) ?_
  rintro u w14 ⟨rfl, hb14, ho14⟩
  replace HB : Hid (Below w.heap.size w _) := HB.out.trans (hb14.mono HB.out.size)
  replace SA : Hid (AI _ _ _ _ _) := AI.below SA.out hb14
  have XA : Hid (PI w14 w13.heap.size w14.heap.size (some ⟨w13.heap.size, 0, none⟩) ops) := ho14
  have hz14 := hb14.size
  clear hb14 ho14
  go_wp2_with fail
  refine Calls.mono (IM.out _ _ (PI.seg XA.out)) ?_
  rintro u w15 ⟨aG, cG, rfl, hb15, ho15⟩
  replace HB : Hid (Below w.heap.size w _) := HB.out.trans (hb15.mono HB.out.size)
  replace SA : Hid (AI _ _ _ _ _) := AI.below SA.out hb15
  replace XA : Hid (PI _ _ _ _ _) := PI.below XA.out hb15
  have hz15 := hb15.size
  have GA : Hid (AI w15 w14.heap.size w15.heap.size aG ps) := ho15
  clear hb15 ho15
  go_wp2_with fail
  refine Calls.mono (eq_accs aG aS cG cS y ps _ (AI.seg GA.out) (AI.seg SA.out) HYL.out (by omega)) ?_
  rintro u w16 ⟨rfl, hb16⟩
  replace HB : Hid (Below w.heap.size w _) := HB.out.trans (hb16.mono HB.out.size)
  replace SA : Hid (AI _ _ _ _ _) := AI.below SA.out hb16
  replace XA : Hid (PI _ _ _ _ _) := PI.below XA.out hb16
  replace GA : Hid (AI _ _ _ _ _) := AI.below GA.out hb16
  have hz16 := hb16.size
  clear hb16
  go_wp2_with fail
  refine Calls.mono (TO.out _ HB.out) ?_
  rintro u w17 ⟨rfl, hb17, ho17⟩
  replace HB : Hid (Below w.heap.size w _) := HB.out.trans (hb17.mono HB.out.size)
  replace SA : Hid (AI _ _ _ _ _) := AI.below SA.out hb17
  replace XA : Hid (PI _ _ _ _ _) := PI.below XA.out hb17
  replace GA : Hid (AI _ _ _ _ _) := AI.below GA.out hb17
  have TL : Hid (PI w17 _ _ _ ops) := ho17
  have hz17 := hb17.size
  clear hb17 ho17
  go_wp2_with fail
  refine Calls.mono (eq_cops _ _ n n n ops _ (PI.seg XA.out) (PI.seg TL.out) HL0.out hbig) ?_
  rintro u w18 ⟨rfl, hb18⟩
  replace HB : Hid (Below w.heap.size w _) := HB.out.trans (hb18.mono HB.out.size)
  replace SA : Hid (AI _ _ _ _ _) := AI.below SA.out hb18
  replace XA : Hid (PI _ _ _ _ _) := PI.below XA.out hb18
  replace GA : Hid (AI _ _ _ _ _) := AI.below GA.out hb18
  replace TL : Hid (PI _ _ _ _ _) := PI.below TL.out hb18
  have hz18 := hb18.size
  clear hb18
  clear TL
  go_wp2_with fail
  refine Calls.mono (mark_cops w13.heap.size w14.heap.size n n 1 _ ops _ XA.out HL0.out hbig (by omega)) ?_
  rintro u w19 ⟨rfl, hb19, ho19⟩
  clear XA
  replace HB : Hid (Below w.heap.size w _) := HB.out.trans (hb19.below (by omega) HB.out.size)
  replace SA : Hid (AI _ _ _ _ _) := AI.betw SA.out hb19 (by omega)
  replace GA : Hid (AI _ _ _ _ _) := AI.betw GA.out hb19 (by omega)
  have hz19 := hb19.size
  clear hb19 ho19
  obtain ⟨K1, HK1⟩ : ∃ K, Hid (1 + 2 * n = K) := ⟨1 + 2 * n, (rfl : 1 + 2 * n = 1 + 2 * n)⟩
  have hK1 : ¬ ((K1 : Int) < 0) := by omega
  rw [HK1.out]
  go_wp2_with fail
  refine Calls.mono (eq_accs aG aS cG cS y ps _ (AI.seg GA.out) (AI.seg SA.out) HYL.out (by omega)) ?_
  rintro u w20 ⟨rfl, hb20⟩
  replace HB : Hid (Below w.heap.size w _) := HB.out.trans (hb20.mono HB.out.size)
  replace SA : Hid (AI _ _ _ _ _) := AI.below SA.out hb20
  replace GA : Hid (AI _ _ _ _ _) := AI.below GA.out hb20
  have hz20 := hb20.size
  clear hb20
  go_wp2_with fail
  refine Calls.mono (mark_accs w14.heap.size w15.heap.size cG y 1 aG ps _ GA.out HYL.out (by omega) (by omega)) ?_
  rintro u w21 ⟨rfl, hb21, ho21⟩
  clear GA
  replace HB : Hid (Below w.heap.size w _) := HB.out.trans (hb21.below (by omega) HB.out.size)
  replace SA : Hid (AI _ _ _ _ _) := AI.betw SA.out hb21 (by omega)
  have GM : Hid (AI w21 w14.heap.size w15.heap.size aG (marksA 1 y)) := ho21
  have hz21 := hb21.size
  clear hb21 ho21
  obtain ⟨K2, HK2⟩ : ∃ K, Hid (1 + 3 * y = K) := ⟨1 + 3 * y, (rfl : 1 + 3 * y = 1 + 3 * y)⟩
  have hK2 : ¬ ((K2 : Int) < 0) := by omega
  rw [HK2.out]
  go_wp2_with fail
  refine Calls.mono (held_accs aG cG y 1 _ (AI.seg GM.out) (by omega) (by omega)) ?_
  rintro u w22 ⟨rfl, hw22⟩
  rw [hw22]
  clear hw22 w22
  rw [HK2.out]
  go_wp2_with fail
  refine Calls.mono (TO.out _ HB.out) ?_
  rintro u w23 ⟨rfl, hb23, ho23⟩
  replace HB : Hid (Below w.heap.size w _) := HB.out.trans (hb23.mono HB.out.size)
  replace SA : Hid (AI _ _ _ _ _) := AI.below SA.out hb23
  replace GM : Hid (AI _ _ _ _ _) := AI.below GM.out hb23
  have TL : Hid (PI w23 _ _ _ ops) := ho23
  have hz23 := hb23.size
  clear hb23 ho23
  go_wp2_with fail
  refine Calls.mono (IM.out _ _ (PI.seg TL.out)) ?_
  rintro u w24 ⟨aH, cH, rfl, hb24, ho24⟩
  replace HB : Hid (Below w.heap.size w _) := HB.out.trans (hb24.mono HB.out.size)
  replace SA : Hid (AI _ _ _ _ _) := AI.below SA.out hb24
  replace GM : Hid (AI _ _ _ _ _) := AI.below GM.out hb24
  replace TL : Hid (PI _ _ _ _ _) := PI.below TL.out hb24
  have hz24 := hb24.size
  have HA : Hid (AI w24 w23.heap.size w24.heap.size aH ps) := ho24
  clear hb24 ho24
  clear TL
  go_wp2_with fail
  refine Calls.mono (eq_accs aH aS cH cS y ps _ (AI.seg HA.out) (AI.seg SA.out) HYL.out (by omega)) ?_
  rintro u w25 ⟨rfl, hb25⟩
  replace HB : Hid (Below w.heap.size w _) := HB.out.trans (hb25.mono HB.out.size)
  replace SA : Hid (AI _ _ _ _ _) := AI.below SA.out hb25
  replace GM : Hid (AI _ _ _ _ _) := AI.below GM.out hb25
  replace HA : Hid (AI _ _ _ _ _) := AI.below HA.out hb25
  have hz25 := hb25.size
  clear hb25
  go_wp2_with fail
  refine Calls.mono (held_accs aG cG y 1 _ (AI.seg GM.out) (by omega) (by omega)) ?_
  rintro u w26 ⟨rfl, hw26⟩
  rw [hw26]
  clear hw26 w26
  rw [HK2.out]
  go_wp2
  go_ret
  exact ⟨rfl, HB.out⟩

/-! ### The row -/
set_option maxRecDepth 100000 in
theorem lifted (os : Os) (started : os.Started) (H : Type) (enc : TypeId × Value → H) :
    ReturnsInHanded {} Try.checked os 7 .any (Rows.fnExactDevPlaySpec.pre6 enc Try.prog Try.f7 Rows.fnExactDevPlayRow.domain false) (Rows.fnExactDevPlaySpec.post enc Try.prog Try.f7 false true false false) := by
  refine returnsInHanded_of_change (C := Try.checked) own started (by kernel_rfl) Try.func7
    (ChangeSpec.witness6 (enc := enc) (C := Try.checked) false ⟨#[], #[.slice none 0 0], []⟩ 8 (by kernel_rfl) (by kernel_rfl) (by kernel_rfl) (by kernel_rfl)) ?_
  intro W base args ds gs before hval0 hW hcnd _
  have hval : ∀ (j : Nat) t v, Try.f7.params[j]? = some t → args[j]? = some v → Value.okWide Try.prog W .any base t v := hval0
  have hW' := hW
  obtain ⟨p, q, hA0, hV, rfl, hfz, hnd⟩ := hW
  have hA : DataW.TrodAll enc Try.prog W 0 (fun _ => true) true Try.f7.params.toList args.toList ds p := hA0
  rw [Try.params7] at hA hval
  obtain ⟨v0, vs0, d0, ds0, p0, q0, hargs, rfl, rfl, h0, r0⟩ := trodAll_cons hA
  obtain ⟨rfl, rfl, rfl⟩ := trodAll_nil r0
  obtain rfl : args = #[v0] := by cases args; simp_all
  obtain ⟨rfl, rfl⟩ := trodVars_none hV
  have k0 := h0
  have lt0 : ∀ x ∈ p0, x.block < W.heap.size := by obtain ⟨m, hm⟩ := k0; exact DataW.trod_lt m _ _ _ hm
  obtain ⟨a, ops, c, rfl, hw1, hw2⟩ := cops_arg (hval 0 39 v0 rfl rfl) h0
  clear hA0 hval0
  refine (walk a c ops.length ops W hw1 rfl hw2).mono fun e W' ⟨he, bel⟩ => ?_
  subst he
  exact ⟨_, rfl, _, _, _, [], _, [], hW', (trodAll_cons_mk (shut_bool Try.underlying4 _) trodAll_mk0), (trodAll_cons_mk (Below.trod laidOut (by kernel_rfl) (of_decide_eq_true (by kernel_rfl)) k0 bel lt0) trodAll_mk0), rfl, bel.frame _, fun h => by cases h⟩

theorem over : Rows.fnExactDevPlayRow.holds Try.pinned (OpenSpec.ofChange Rows.fnExactDevPlaySpec) :=
  OpenClaim.holds_of_wide 7 Try.f7 rfl rfl rfl rfl rfl rfl rfl ⟨rfl, rfl, rfl, rfl, rfl⟩ rfl rfl rfl rfl rfl (by kernel_rfl) Try.func7 (by kernel_rfl)
    (of_decide_eq_true (by kernel_rfl)) (by unfold Func.isWrapper; first | (rw [if_pos (by decide +kernel)]; kernel_rfl) | (rw [if_neg (by decide +kernel)]; exact ⟨rfl, rfl⟩))
    (fun os started H enc _ => lifted os started H enc)

end Go.Proofs.Ythfmggfohegpnaa.fnExactDevPlay
namespace Go.Proofs.Ythfmggfohegpnaa
theorem FnExactDevPlay_holds : Rows.FnExactDevPlaySaid := fnExactDevPlay.over
end Go.Proofs.Ythfmggfohegpnaa
