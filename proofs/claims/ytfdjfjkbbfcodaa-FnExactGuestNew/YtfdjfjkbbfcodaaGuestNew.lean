
/-
  At every list of windows and every entry GuestNew answers as its model, in memory of its own, and leaves its argument as it was: the law FnExactGuestNew returns true and its arguments read as before. No conditions.
  Built over the program of the commit that COMMIT names.
-/
import Derived.Test.YtfdjfjkbbfcodaaBas
import Derived.Test.YtfdjfjkbbfcodaaRows
import Derived.WalkKit
import Derived.ProofKit
import Derived.OpenShut
import Derived.Below
import Derived.Carry
import Derived.Test.YtfdjfjkbbfcodaaGop
import Derived.Test.YtfdjfjkbbfcodaaGns
import Derived.Test.YtfdjfjkbbfcodaaPsf
import Derived.ShutString
namespace Go.Proofs.Ytfdjfjkbbfcodaa.fnExactGuestNew
open Go.ChangeShapes Go.WideShapes Go.ChangeAt Go.RowKit
set_option linter.unusedVariables false

theorem own : ownKnob Try.prog.godebug = none := by kernel_rfl

/-! ### The walk -/
set_option maxHeartbeats 16000000 in
theorem walk (a : Option Addr) (cap wn : Nat) (aEn : Int) (xs : List Wn) (w : World) (hs : ASeg w a xs) (hf : Fit xs) (hl : xs.length = wn) (hn : wn ≤ 9223372036854775807) :
    Calls Try.prog 9 #[.slice a wn cap, .int .i64 aEn] w fun e w' => e = .returned (.bool true) ∧ Below w.heap.size w w' := by
  have HS0 : Hid (ASeg w a xs ∧ xs.length = wn) := ⟨hs, hl⟩
  clear hs hl
  have HB : Hid (Below w.heap.size w w) := Below.refl _ _
  go_enter Try.func9, Try.ntmps9
  go_wp2_with fail
  refine Calls.mono (sz_wins a cap wn 1048576 _ hn (Nat.le_refl _)) ?_
  rintro u w0 ⟨⟨r, rfl, hr⟩, rfl⟩
  rcases hr with hr | ⟨hr, hbig⟩
  · go_wp2
    go_ret
    exact ⟨rfl, HB.out⟩
  have hr0 : ¬ (r < 0) := by omega
  have HEW : Hid (∀ X, Below w0.heap.size w0 X → Calls Try.prog 16 #[.slice a wn cap] X fun e w' => ∃ a', e = .returned (.slice a' wn wn) ∧ Below X.heap.size X w' ∧ AI w' X.heap.size w'.heap.size a' xs) := fun X hX => (to_wins a cap wn xs X (ASeg.below HS0.out.1 hX) HS0.out.2 hbig).mono fun e w' h => ⟨_, h.1, h.2.1, h.2.2.ai HS0.out.2 _ _ (Nat.le_refl _) h.2.2.lt⟩
  have HQW : Hid (∀ (X : World) a1 a2, ASeg X a1 xs → ASeg X a2 xs → Calls Try.prog 18 #[.slice a1 wn wn, .slice a2 wn wn] X fun e w' => e = .returned (.bool true) ∧ Below X.heap.size X w') := fun X a1 a2 h1 h2 => eq_accs a1 a2 wn wn wn xs X h1 h2 HS0.out.2 hbig
  obtain ⟨rs', rl', pc', n', D', hl', hr', hn', ht', hsp, him⟩ := gn_alike aEn wn xs hf HS0.out.2 hbig
  have HSP : Hid (∀ (X : World) a1, ASeg X a1 xs → Calls Try.prog 34 #[.slice a1 wn wn, .int .i64 aEn] X (GAns X rs' rl' pc' n' D')) := hsp
  have HIM : Hid (∀ (X : World) a1, ASeg X a1 xs → Calls Try.prog 35 #[.slice a1 wn wn, .int .i64 aEn] X (OAns X rs' rl' pc' n' D')) := him
  have HL' : Hid (rs'.length = rl') := hl'
  clear hsp him hl' hf
  go_wp2_with fail
  refine Calls.mono (HEW.out _ HB.out) ?_
  rintro u w1 ⟨a1, rfl, hb1, ho1⟩
  have hz1 : w0.heap.size ≤ w1.heap.size := hb1.size
  replace HB : Hid (Below w0.heap.size w0 _) := HB.out.trans (hb1.mono HB.out.size)
  have T : Hid (AI _ _ _ _ _) := ho1
  clear hb1 ho1
  go_wp2_with fail
  refine Calls.mono (HSP.out _ a1 (AI.seg T.out)) ?_
  rintro u w2 ⟨ra2, ma2, rc2, mc2, rfl, hb2, ho2⟩
  clear T
  have hz2 : w1.heap.size ≤ w2.heap.size := hb2.size
  have hal : Below w2.heap.size w2 (w2.alloc (.cells #[.slice ra2 rl' rc2, .int .u32 pc', .slice ma2 n' mc2] 42)) := (Below.refl _ _).alloc (Nat.le_refl _) _
  have hb2' := hb2.trans (hal.mono hb2.size)
  replace HB : Hid (Below w0.heap.size w0 _) := HB.out.trans (hb2'.mono HB.out.size)
  have S0 : Hid (XGSeg w2 _ _ _ _ _) := ho2
  have S : Hid (Below _ _ _) := hal
  have SV : Hid (Bk _ _ _) := Bk.new w2 #[.slice ra2 rl' rc2, .int .u32 pc', .slice ma2 n' mc2] 42 w2.heap.size rfl
  clear hb2 hb2' hal ho2
  go_wp2_with fail
  refine Calls.mono (HEW.out _ HB.out) ?_
  rintro u w3 ⟨a3, rfl, hb3, ho3⟩
  have hz3 : w2.heap.size + 1 ≤ w3.heap.size := by have := hb3.size; simp at this; omega
  simp only [World.size_alloc] at ho3
  replace HB : Hid (Below w0.heap.size w0 _) := HB.out.trans (hb3.mono HB.out.size)
  replace S : Hid (Below w2.heap.size w2 _) := S.out.trans (hb3.mono S.out.size)
  replace SV : Hid (Bk _ _ _) := Bk.below SV.out hb3
  have XW : Hid (AI _ _ _ _ _) := ho3
  clear hb3 ho3
  go_wp2_with fail
  refine Calls.mono (HIM.out _ a3 (AI.seg XW.out)) ?_
  rintro u w4 ⟨ra4, ma4, rc4, mc4, m4, rfl, hb4, ho4, hm4, hn4⟩
  have hz4 : w3.heap.size ≤ w4.heap.size := hb4.size
  have hal : Below w4.heap.size w4 (w4.alloc (.cells #[.slice ra4 rl' rc4, .int .u32 pc', .slice ma4 n' mc4] 42)) := (Below.refl _ _).alloc (Nat.le_refl _) _
  have hb4' := hb4.trans (hal.mono hb4.size)
  replace HB : Hid (Below w0.heap.size w0 _) := HB.out.trans (hb4'.mono HB.out.size)
  replace S : Hid (Below w2.heap.size w2 _) := S.out.trans (hb4'.mono S.out.size)
  replace SV : Hid (Bk _ _ _) := Bk.below SV.out hb4'
  replace XW : Hid (AI _ _ _ _ _) := AI.below XW.out hb4'
  have G : Hid (OGst _ _ _ _ _ _ _ _ _) := ho4.below hal
  have GV : Hid (Bk _ _ _) := Bk.new w4 #[.slice ra4 rl' rc4, .int .u32 pc', .slice ma4 n' mc4] 42 w4.heap.size rfl
  clear hb4 hb4' hal ho4
  have g0 := GV.out.cell 0 _ rfl
  have g1 := GV.out.cell 1 _ rfl
  have g2 := GV.out.cell 2 _ rfl
  have s0 := SV.out.cell 0 _ rfl
  have s1 := SV.out.cell 1 _ rfl
  have s2 := SV.out.cell 2 _ rfl
  go_wp2_with fail
  refine Calls.mono (eq_guest pc' ra4 ra2 ma4 ma2 rl' rc4 rc2 n' mc4 mc2 rs' D' _ (OGst.seg G.out) (XGSeg.below S0.out S.out) HL'.out hr' hn' ht') ?_
  rintro u w5 ⟨rfl, hb5⟩
  clear g0 g1 g2
  clear s0 s1 s2
  replace HB : Hid (Below w0.heap.size w0 _) := HB.out.trans (hb5.mono HB.out.size)
  replace S : Hid (Below w2.heap.size w2 _) := S.out.trans (hb5.mono S.out.size)
  replace SV : Hid (Bk _ _ _) := Bk.below SV.out hb5
  replace XW : Hid (AI _ _ _ _ _) := AI.below XW.out hb5
  replace G : Hid (OGst _ _ _ _ _ _ _ _ _) := OGst.below G.out hb5
  replace GV : Hid (Bk _ _ _) := Bk.below GV.out hb5
  clear hb5
  go_wp2_with fail
  refine Calls.mono (HEW.out _ HB.out) ?_
  rintro u w6 ⟨a6, rfl, hb6, ho6⟩
  replace HB : Hid (Below w0.heap.size w0 _) := HB.out.trans (hb6.mono HB.out.size)
  replace S : Hid (Below w2.heap.size w2 _) := S.out.trans (hb6.mono S.out.size)
  replace SV : Hid (Bk _ _ _) := Bk.below SV.out hb6
  replace XW : Hid (AI _ _ _ _ _) := AI.below XW.out hb6
  replace G : Hid (OGst _ _ _ _ _ _ _ _ _) := OGst.below G.out hb6
  replace GV : Hid (Bk _ _ _) := Bk.below GV.out hb6
  have XT : Hid (AI _ _ _ _ _) := ho6
  clear hb6 ho6
  go_wp2_with fail
  refine Calls.mono (HQW.out _ a3 a6 (AI.seg XW.out) (AI.seg XT.out)) ?_
  rintro u w7 ⟨rfl, hb7⟩
  replace HB : Hid (Below w0.heap.size w0 _) := HB.out.trans (hb7.mono HB.out.size)
  replace S : Hid (Below w2.heap.size w2 _) := S.out.trans (hb7.mono S.out.size)
  replace SV : Hid (Bk _ _ _) := Bk.below SV.out hb7
  replace XW : Hid (AI _ _ _ _ _) := AI.below XW.out hb7
  replace G : Hid (OGst _ _ _ _ _ _ _ _ _) := OGst.below G.out hb7
  replace GV : Hid (Bk _ _ _) := Bk.below GV.out hb7
  replace XT : Hid (AI _ _ _ _ _) := AI.below XT.out hb7
  clear hb7
  clear XT
  have hz7 : w4.heap.size < w7.heap.size := GV.out.lt
  go_wp2_with fail
  refine Calls.mono (mark_accs (w2.heap.size + 1) w3.heap.size wn wn 1 a3 xs _ XW.out HS0.out.2 hbig (by omega)) ?_
  rintro u w8 ⟨rfl, hb8, ho8⟩
  clear XW
  replace HB : Hid (Below w0.heap.size w0 _) := HB.out.trans (hb8.below (by omega) HB.out.size)
  replace S : Hid (Below w2.heap.size w2 _) := S.out.trans (hb8.below (by omega) S.out.size)
  replace SV : Hid (Bk _ _ _) := Bk.betw SV.out hb8 (.inl (by omega))
  replace G : Hid (OGst _ _ _ _ _ _ _ _ _) := OGst.betw G.out hb8 (.inr (by omega)) (by omega) (by omega)
  replace GV : Hid (Bk _ _ _) := Bk.betw GV.out hb8 (.inr (by omega))
  clear hb8 ho8
  have hKW : 1 + 3 * wn ≤ 4000000 := by omega
  obtain ⟨KW, HKW⟩ : ∃ K, Hid (1 + 3 * wn = K) := ⟨_, rfl⟩
  rw [HKW.out] at hKW ⊢
  have hKWn : ¬ ((KW : Int) < 0) := by omega
  have g0 := GV.out.cell 0 _ rfl
  have g1 := GV.out.cell 1 _ rfl
  have g2 := GV.out.cell 2 _ rfl
  have s0 := SV.out.cell 0 _ rfl
  have s1 := SV.out.cell 1 _ rfl
  have s2 := SV.out.cell 2 _ rfl
  go_wp2_with fail
  refine Calls.mono (eq_guest pc' ra4 ra2 ma4 ma2 rl' rc4 rc2 n' mc4 mc2 rs' D' _ (OGst.seg G.out) (XGSeg.below S0.out S.out) HL'.out hr' hn' ht') ?_
  rintro u w9 ⟨rfl, hb9⟩
  clear g0 g1 g2
  clear s0 s1 s2
  replace HB : Hid (Below w0.heap.size w0 _) := HB.out.trans (hb9.mono HB.out.size)
  replace S : Hid (Below w2.heap.size w2 _) := S.out.trans (hb9.mono S.out.size)
  replace SV : Hid (Bk _ _ _) := Bk.below SV.out hb9
  replace G : Hid (OGst _ _ _ _ _ _ _ _ _) := OGst.below G.out hb9
  replace GV : Hid (Bk _ _ _) := Bk.below GV.out hb9
  clear hb9
  have hz9 : w4.heap.size < w9.heap.size := GV.out.lt
  have g0 := GV.out.cell 0 _ rfl
  have g1 := GV.out.cell 1 _ rfl
  have g2 := GV.out.cell 2 _ rfl
  go_wp2_with fail
  refine Calls.mono (mark_guest pc' w3.heap.size m4 w4.heap.size rc4 n' mc4 1 rl' ra4 ma4 rs' D' _ G.out HL'.out hr' hn' ht' (by omega) (by omega) hm4 hn4) ?_
  rintro u w10 ⟨rfl, hb10, ho10⟩
  clear g0 g1 g2 G
  replace HB : Hid (Below w0.heap.size w0 _) := HB.out.trans (hb10.below (by omega) HB.out.size)
  replace S : Hid (Below w2.heap.size w2 _) := S.out.trans (hb10.below (by omega) S.out.size)
  replace SV : Hid (Bk _ _ _) := Bk.betw SV.out hb10 (.inl (by omega))
  replace GV : Hid (Bk _ _ _) := Bk.betw GV.out hb10 (.inr (by omega))
  have GM : Hid (OGst _ _ _ _ _ _ _ _ _) := ho10
  clear hb10 ho10
  have hK : 1 + rl' + btot D' n' ≤ 10000000 := by omega
  obtain ⟨K, HK⟩ : ∃ K, Hid (1 + rl' + btot D' n' = K) := ⟨_, rfl⟩
  rw [HK.out] at hK ⊢
  have hKn : ¬ ((K : Int) < 0) := by omega
  have g0 := GV.out.cell 0 _ rfl
  have g1 := GV.out.cell 1 _ rfl
  have g2 := GV.out.cell 2 _ rfl
  go_wp2_with fail
  refine Calls.mono (held_guest pc' rc4 n' mc4 1 rl' ra4 ma4 D' _ (OGst.seg GM.out) hr' hn' ht' (by omega)) ?_
  rintro u w11 ⟨rfl, hb11⟩
  rw [HK.out]
  clear g0 g1 g2
  replace HB : Hid (Below w0.heap.size w0 _) := HB.out.trans (hb11.mono HB.out.size)
  replace S : Hid (Below w2.heap.size w2 _) := S.out.trans (hb11.mono S.out.size)
  replace SV : Hid (Bk _ _ _) := Bk.below SV.out hb11
  replace GV : Hid (Bk _ _ _) := Bk.below GV.out hb11
  replace GM : Hid (OGst _ _ _ _ _ _ _ _ _) := OGst.below GM.out hb11
  clear hb11
  go_wp2_with fail
  refine Calls.mono (HEW.out _ HB.out) ?_
  rintro u w12 ⟨a12, rfl, hb12, ho12⟩
  replace HB : Hid (Below w0.heap.size w0 _) := HB.out.trans (hb12.mono HB.out.size)
  replace S : Hid (Below w2.heap.size w2 _) := S.out.trans (hb12.mono S.out.size)
  replace SV : Hid (Bk _ _ _) := Bk.below SV.out hb12
  replace GV : Hid (Bk _ _ _) := Bk.below GV.out hb12
  replace GM : Hid (OGst _ _ _ _ _ _ _ _ _) := OGst.below GM.out hb12
  have T : Hid (AI _ _ _ _ _) := ho12
  clear hb12 ho12
  go_wp2_with fail
  refine Calls.mono (HIM.out _ a12 (AI.seg T.out)) ?_
  rintro u w13 ⟨ra13, ma13, rc13, mc13, m13, rfl, hb13, ho13, hm13, hn13⟩
  clear T
  have hal : Below w13.heap.size w13 (w13.alloc (.cells #[.slice ra13 rl' rc13, .int .u32 pc', .slice ma13 n' mc13] 42)) := (Below.refl _ _).alloc (Nat.le_refl _) _
  have hb13' := hb13.trans (hal.mono hb13.size)
  replace HB : Hid (Below w0.heap.size w0 _) := HB.out.trans (hb13'.mono HB.out.size)
  replace S : Hid (Below w2.heap.size w2 _) := S.out.trans (hb13'.mono S.out.size)
  replace SV : Hid (Bk _ _ _) := Bk.below SV.out hb13'
  replace GV : Hid (Bk _ _ _) := Bk.below GV.out hb13'
  replace GM : Hid (OGst _ _ _ _ _ _ _ _ _) := OGst.below GM.out hb13'
  have H : Hid (OGst _ _ _ _ _ _ _ _ _) := ho13.below hal
  have HV : Hid (Bk _ _ _) := Bk.new w13 #[.slice ra13 rl' rc13, .int .u32 pc', .slice ma13 n' mc13] 42 w13.heap.size rfl
  clear hb13 hb13' hal ho13
  have g0 := HV.out.cell 0 _ rfl
  have g1 := HV.out.cell 1 _ rfl
  have g2 := HV.out.cell 2 _ rfl
  have s0 := SV.out.cell 0 _ rfl
  have s1 := SV.out.cell 1 _ rfl
  have s2 := SV.out.cell 2 _ rfl
  go_wp2_with fail
  refine Calls.mono (eq_guest pc' ra13 ra2 ma13 ma2 rl' rc13 rc2 n' mc13 mc2 rs' D' _ (OGst.seg H.out) (XGSeg.below S0.out S.out) HL'.out hr' hn' ht') ?_
  rintro u w14 ⟨rfl, hb14⟩
  clear g0 g1 g2
  clear s0 s1 s2
  replace HB : Hid (Below w0.heap.size w0 _) := HB.out.trans (hb14.mono HB.out.size)
  replace S : Hid (Below w2.heap.size w2 _) := S.out.trans (hb14.mono S.out.size)
  replace SV : Hid (Bk _ _ _) := Bk.below SV.out hb14
  replace GV : Hid (Bk _ _ _) := Bk.below GV.out hb14
  replace GM : Hid (OGst _ _ _ _ _ _ _ _ _) := OGst.below GM.out hb14
  replace H : Hid (OGst _ _ _ _ _ _ _ _ _) := OGst.below H.out hb14
  replace HV : Hid (Bk _ _ _) := Bk.below HV.out hb14
  clear hb14
  clear H
  clear HV
  have g0 := GV.out.cell 0 _ rfl
  have g1 := GV.out.cell 1 _ rfl
  have g2 := GV.out.cell 2 _ rfl
  go_wp2_with fail
  refine Calls.mono (held_guest pc' rc4 n' mc4 1 rl' ra4 ma4 D' _ (OGst.seg GM.out) hr' hn' ht' (by omega)) ?_
  rintro u w15 ⟨rfl, hb15⟩
  rw [HK.out]
  clear g0 g1 g2
  replace HB : Hid (Below w0.heap.size w0 _) := HB.out.trans (hb15.mono HB.out.size)
  replace S : Hid (Below w2.heap.size w2 _) := S.out.trans (hb15.mono S.out.size)
  replace SV : Hid (Bk _ _ _) := Bk.below SV.out hb15
  replace GV : Hid (Bk _ _ _) := Bk.below GV.out hb15
  replace GM : Hid (OGst _ _ _ _ _ _ _ _ _) := OGst.below GM.out hb15
  clear hb15
  go_wp2
  go_ret
  exact ⟨rfl, HB.out⟩

/-! ### The row -/
set_option maxRecDepth 100000 in
theorem lifted (os : Os) (started : os.Started) (H : Type) (enc : TypeId × Value → H) :
    ReturnsInHanded {} Try.checked os 9 .any (Rows.fnExactGuestNewSpec.pre6 enc Try.prog Try.f9 Rows.fnExactGuestNewRow.domain false) (Rows.fnExactGuestNewSpec.post enc Try.prog Try.f9 false true false false) := by
  refine returnsInHanded_of_change (C := Try.checked) own started (by kernel_rfl) Try.func9
    (ChangeSpec.witness6 (enc := enc) (C := Try.checked) false ⟨#[], #[.slice none 0 0, .int .i64 0], []⟩ 8 (by kernel_rfl) (by kernel_rfl) (by kernel_rfl) (by kernel_rfl)) ?_
  intro W base args ds gs before hval0 hW hcnd _
  have hval : ∀ (j : Nat) t v, Try.f9.params[j]? = some t → args[j]? = some v → Value.okWide Try.prog W .any base t v := hval0
  have hW' := hW
  obtain ⟨p, q, hA0, hV, rfl, hfz, hnd⟩ := hW
  have hA : DataW.TrodAll enc Try.prog W 0 (fun _ => true) true Try.f9.params.toList args.toList ds p := hA0
  rw [Try.params9] at hA hval
  obtain ⟨v0, vs0, d0, ds0, p0, q0, hargs, rfl, rfl, h0, r0⟩ := trodAll_cons hA
  obtain ⟨v1, vs1, d1, ds1, p1, q1, rfl, rfl, rfl, h1, r1⟩ := trodAll_cons r0
  obtain ⟨rfl, rfl, rfl⟩ := trodAll_nil r1
  obtain rfl : args = #[v0, v1] := by cases args; simp_all
  obtain ⟨rfl, rfl⟩ := trodVars_none hV
  have k0 := h0
  have lt0 : ∀ x ∈ p0, x.block < W.heap.size := by obtain ⟨m, hm⟩ := k0; exact DataW.trod_lt m _ _ _ hm
  have k1 := h1
  have lt1 : ∀ x ∈ p1, x.block < W.heap.size := by obtain ⟨m, hm⟩ := k1; exact DataW.trod_lt m _ _ _ hm
  obtain ⟨a1, xs, c1, rfl, hs1, hn1, hf1⟩ := wins_arg (hval 0 22 v0 rfl rfl) h0
  obtain ⟨aEn, rfl, rfl, rfl, w1⟩ := open_int Try.underlying3 (hval 1 3 v1 rfl rfl) h1
  clear hA0 hval0
  refine (walk a1 c1 xs.length aEn xs W hs1 hf1 rfl hn1).mono fun e W' ⟨he, bel⟩ => ?_
  subst he
  exact ⟨_, rfl, _, _, _, [], _, [], hW', (trodAll_cons_mk (shut_bool Try.underlying4 _) trodAll_mk0), (trodAll_cons_mk (Below.trod laidOut (by kernel_rfl) (of_decide_eq_true (by kernel_rfl)) k0 bel lt0) (trodAll_cons_mk (Below.trod laidOut (by kernel_rfl) (of_decide_eq_true (by kernel_rfl)) k1 bel lt1) trodAll_mk0)), rfl, bel.frame _, fun h => by cases h⟩

theorem over : Rows.fnExactGuestNewRow.holds Try.pinned (OpenSpec.ofChange Rows.fnExactGuestNewSpec) :=
  OpenClaim.holds_of_wide 9 Try.f9 rfl rfl rfl rfl rfl rfl rfl ⟨rfl, rfl, rfl, rfl, rfl⟩ rfl rfl rfl rfl rfl (by kernel_rfl) Try.func9 (by kernel_rfl)
    (of_decide_eq_true (by kernel_rfl)) (by unfold Func.isWrapper; first | (rw [if_pos (by decide +kernel)]; kernel_rfl) | (rw [if_neg (by decide +kernel)]; exact ⟨rfl, rfl⟩))
    (fun os started H enc _ => lifted os started H enc)

end Go.Proofs.Ytfdjfjkbbfcodaa.fnExactGuestNew
namespace Go.Proofs.Ytfdjfjkbbfcodaa
theorem FnExactGuestNew_holds : Rows.FnExactGuestNewSaid := fnExactGuestNew.over
end Go.Proofs.Ytfdjfjkbbfcodaa
