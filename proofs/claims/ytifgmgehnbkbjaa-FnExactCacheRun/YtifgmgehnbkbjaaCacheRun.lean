/-
  At every shape and every list of uses CacheRun answers as its model, in memory of its own, and leaves its arguments as they were: the law FnExactCacheRun returns true and its arguments read as before. No conditions.
  Built over the program of the commit that COMMIT names.
-/
import Derived.Test.YtifgmgehnbkbjaaRows
import Derived.WalkKit
import Derived.ProofKit
import Derived.OpenShut
import Derived.Below
import Derived.Carry
import Derived.Test.YtifgmgehnbkbjaaSho
import Derived.Test.YtifgmgehnbkbjaaUsl
import Derived.Test.YtifgmgehnbkbjaaCra
import Derived.ShutString
namespace Go.Proofs.Ytifgmgehnbkbjaa.fnExactCacheRun
open Go.ChangeShapes Go.WideShapes Go.ChangeAt Go.RowKit
set_option linter.unusedVariables false

theorem own : ownKnob Try.prog.godebug = none := by kernel_rfl

/-! ### The walk -/
set_option maxHeartbeats 8000000 in
theorem walk (s y l : Int) (a : Option Addr) (cap N : Nat) (us : List Wy) (w : World) (hs : WSeg w a us) (hl : us.length = N) (hN : N ≤ 9223372036854775807) :
    Calls Try.prog 13 #[shp s y l, .slice a N cap] w fun e w' => e = .returned (.bool true) ∧ Below w.heap.size w w' := by
  have HS0 : Hid (WSeg w a us) := hs
  have HL : Hid _ := hl
  clear hs hl
  have hb0 : Below w.heap.size w (w.alloc (shrow 37 s y l)) := (Below.refl _ _).alloc (Nat.le_refl _) _
  have HB0 : Hid _ := hb0
  have HS0b : Hid (Bk _ _ _) := Bk.new w #[.int .i64 s, .int .i64 y, .int .i64 l] 37 w.heap.size rfl
  clear hb0
  go_enter Try.func13, Try.ntmps13
  go_wp2_with fail
  refine Calls.mono (sz_uses a cap N 1048576 _ hN (Nat.le_refl _)) ?_
  rintro u w0 ⟨⟨r, rfl, hr⟩, rfl⟩
  rcases hr with hr | ⟨hr, hbig⟩
  · go_wp2
    go_ret
    exact ⟨rfl, HB0.out⟩
  have hr0 : ¬ (r < 0) := by omega
  have HE : Hid (∀ X, Below w.heap.size w X → Calls Try.prog 45 #[.slice a N cap] X fun e w' => ∃ a', e = .returned (.slice a' N N) ∧ Below X.heap.size X w' ∧ OW w' X.heap.size w'.heap.size a' us X.heap.size ∧ X.heap.size < w'.heap.size) := fun X hX => (to_uses a cap N us X (WSeg.below HS0.out hX) HL.out hbig).mono fun e w' h => ⟨_, h.1, h.2.1, h.2.2.ow HL.out _ _ (Nat.le_refl _) h.2.2.lt, h.2.2.lt⟩
  have HQQ : Hid (∀ (X : World) a1 a2, WSeg X a1 us → WSeg X a2 us → Calls Try.prog 47 #[.slice a1 N N, .slice a2 N N] X fun e w' => e = .returned (.bool true) ∧ Below X.heap.size X w') := fun X a1 a2 h1 h2 => by
    have h := eq_uses a1 a2 N N us X h1 h2 (by rw [HL.out]; exact hbig)
    rw [HL.out] at h
    exact h
  obtain ⟨xs, hxs, hsp, him⟩ := cr_alike s y l N us HL.out hbig
  obtain ⟨nb, HNB⟩ : ∃ nb, Hid (xs.length = nb) := ⟨_, rfl⟩
  have hnb : nb ≤ 2000 := by rw [← HNB.out]; exact hxs
  have HSP : Hid (∀ X a, WSeg X a us → Calls Try.prog 17 #[shp s y l, .slice a N N] X fun e w' => ∃ a' c', e = .returned (.slice a' nb c') ∧ Below X.heap.size X w' ∧ AI w' X.heap.size w'.heap.size a' xs) := fun X a hX => (hsp X a N hX).mono fun e w' h => by
    obtain ⟨v, h1, h2, h3⟩ := h
    obtain ⟨a', c', rfl, h4⟩ := OwnA.ai h3
    exact ⟨a', c', by rw [h1, HNB.out], h2, h4⟩
  have HIM : Hid (∀ X a, WSeg X a us → Calls Try.prog 16 #[shp s y l, .slice a N N] X fun e w' => ∃ a' c', e = .returned (.slice a' nb c') ∧ Below X.heap.size X w' ∧ AI w' X.heap.size w'.heap.size a' xs) := fun X a hX => (him X a N hX).mono fun e w' h => by
    obtain ⟨v, h1, h2, h3⟩ := h
    obtain ⟨a', c', rfl, h4⟩ := OwnA.ai h3
    exact ⟨a', c', by rw [h1, HNB.out], h2, h4⟩
  clear hsp him hxs
  have HB1 : Hid _ := HB0.out
  have HS1 : Hid (Bk _ _ _) := HS0b.out
  clear HB0 HS0b
  have c0 := HS1.out.cell 0 _ rfl
  have c1 := HS1.out.cell 1 _ rfl
  have c2 := HS1.out.cell 2 _ rfl
  go_wp2_with fail
  refine Calls.mono (to_shape s y l _) ?_
  rintro u w2 ⟨rfl, hb2⟩
  have HB2 : Hid _ := HB1.out.trans (hb2.mono HB1.out.size)
  have HS2 : Hid (Bk _ _ _) := Bk.below HS1.out hb2
  clear HB1 HS1
  clear hb2 c0 c1 c2
  have hz2 : w.heap.size < w2.heap.size := HS2.out.lt
  go_wp2_with fail
  refine Calls.mono (HE.out _ HB2.out) ?_
  rintro u w3 ⟨a3, rfl, hb3, ho3, hlt3⟩
  have HB3 : Hid _ := HB2.out.trans (hb3.mono HB2.out.size)
  have HS3 : Hid (Bk _ _ _) := Bk.below HS2.out hb3
  clear HB2 HS2
  have HO3x : Hid (OW _ _ _ _ _ _) := ho3
  clear hb3 ho3
  go_wp2_with fail
  refine Calls.mono (HSP.out _ a3 (OW.seg HO3x.out)) ?_
  rintro u w4 ⟨a4, c4, rfl, hb4, ho4⟩
  have hz4 : w3.heap.size ≤ w4.heap.size := hb4.size
  have HB4 : Hid _ := HB3.out.trans (hb4.mono HB3.out.size)
  have HS4 : Hid (Bk _ _ _) := Bk.below HS3.out hb4
  clear HB3 HS3
  have HV4 : Hid (AI _ _ _ _ _) := ho4
  clear hb4 ho4 HO3x
  go_wp2_with fail
  refine Calls.mono (HE.out _ HB4.out) ?_
  rintro u w5 ⟨a5, rfl, hb5, ho5, hlt5⟩
  have HB5 : Hid _ := HB4.out.trans (hb5.mono HB4.out.size)
  have HS5 : Hid (Bk _ _ _) := Bk.below HS4.out hb5
  have HV5 : Hid (AI _ _ _ _ _) := AI.below HV4.out hb5
  clear HB4 HS4 HV4
  have HY5 : Hid (OW _ _ _ _ _ _) := ho5
  clear hb5 ho5
  have c0 := HS5.out.cell 0 _ rfl
  have c1 := HS5.out.cell 1 _ rfl
  have c2 := HS5.out.cell 2 _ rfl
  go_wp2_with fail
  refine Calls.mono (to_shape s y l _) ?_
  rintro u w6 ⟨rfl, hb6⟩
  have HZS6 : Hid (w5.heap.size ≤ w6.heap.size) := hb6.size
  have HB6 : Hid _ := HB5.out.trans (hb6.mono HB5.out.size)
  have HS6 : Hid (Bk _ _ _) := Bk.below HS5.out hb6
  have HV6 : Hid (AI _ _ _ _ _) := AI.below HV5.out hb6
  have HY6 : Hid (OW _ _ _ _ _ _) := OW.below HY5.out hb6
  clear HB5 HS5 HV5 HY5
  clear hb6 c0 c1 c2
  have hz6 : w5.heap.size ≤ w6.heap.size := HZS6.out
  go_wp2_with fail
  refine Calls.mono (HIM.out _ a5 (OW.seg HY6.out)) ?_
  rintro u w7 ⟨a7, c7, rfl, hb7, ho7⟩
  have hz7 : w6.heap.size ≤ w7.heap.size := hb7.size
  have HB7 : Hid _ := HB6.out.trans (hb7.mono HB6.out.size)
  have HS7 : Hid (Bk _ _ _) := Bk.below HS6.out hb7
  have HV7 : Hid (AI _ _ _ _ _) := AI.below HV6.out hb7
  have HY7 : Hid (OW _ _ _ _ _ _) := OW.below HY6.out hb7
  clear HB6 HS6 HV6 HY6
  have HP7 : Hid (AI _ _ _ _ _) := ho7
  clear hb7 ho7
  go_wp2_with fail
  refine Calls.mono (eq_accs a7 a4 c7 c4 nb xs _ (AI.seg HP7.out) (AI.seg HV7.out) HNB.out (by omega)) ?_
  rintro u w8 ⟨rfl, hb8⟩
  have HB8 : Hid _ := HB7.out.trans (hb8.mono HB7.out.size)
  have HS8 : Hid (Bk _ _ _) := Bk.below HS7.out hb8
  have HV8 : Hid (AI _ _ _ _ _) := AI.below HV7.out hb8
  have HY8 : Hid (OW _ _ _ _ _ _) := OW.below HY7.out hb8
  have HP8 : Hid (AI _ _ _ _ _) := AI.below HP7.out hb8
  clear HB7 HS7 HV7 HY7 HP7
  clear hb8
  go_wp2_with fail
  refine Calls.mono (HE.out _ HB8.out) ?_
  rintro u w9 ⟨a9, rfl, hb9, ho9, hlt9⟩
  have HB9 : Hid _ := HB8.out.trans (hb9.mono HB8.out.size)
  have HS9 : Hid (Bk _ _ _) := Bk.below HS8.out hb9
  have HV9 : Hid (AI _ _ _ _ _) := AI.below HV8.out hb9
  have HY9 : Hid (OW _ _ _ _ _ _) := OW.below HY8.out hb9
  have HP9 : Hid (AI _ _ _ _ _) := AI.below HP8.out hb9
  clear HB8 HS8 HV8 HY8 HP8
  have HO9x : Hid (OW _ _ _ _ _ _) := ho9
  clear hb9 ho9
  go_wp2_with fail
  refine Calls.mono (HQQ.out _ a5 a9 (OW.seg HY9.out) (OW.seg HO9x.out)) ?_
  rintro u w10 ⟨rfl, hb10⟩
  have HB10 : Hid _ := HB9.out.trans (hb10.mono HB9.out.size)
  have HS10 : Hid (Bk _ _ _) := Bk.below HS9.out hb10
  have HV10 : Hid (AI _ _ _ _ _) := AI.below HV9.out hb10
  have HY10 : Hid (OW _ _ _ _ _ _) := OW.below HY9.out hb10
  have HP10 : Hid (AI _ _ _ _ _) := AI.below HP9.out hb10
  clear HB9 HS9 HV9 HY9 HP9
  clear hb10 HO9x
  go_wp2_with fail
  refine Calls.mono (mark_uses w4.heap.size w5.heap.size w4.heap.size N 1 N a5 us _ HY10.out HL.out hbig (by omega)) ?_
  rintro u w11 ⟨rfl, hb11', _, ho11, _⟩
  have hb11 := hb11'.wide (lo' := w4.heap.size) (hi' := w5.heap.size) (Nat.le_refl _) hlt5
  have HB11 : Hid _ := HB10.out.trans (hb11.below (by omega) HB10.out.size)
  have HS11 : Hid (Bk _ _ _) := Bk.betw HS10.out hb11 (.inl (by omega))
  have HV11 : Hid (AI _ _ _ _ _) := AI.betw HV10.out hb11 (.inl (by omega))
  have HY11 : Hid (OW _ _ _ _ _ _) := ho11
  have HP11 : Hid (AI _ _ _ _ _) := AI.betw HP10.out hb11 (.inr (by omega))
  clear HB10 HS10 HV10 HY10 HP10
  clear hb11 hb11' ho11
  have hK0 : 1 + 2 * N ≤ 10000000 := by omega
  obtain ⟨K0, HK0⟩ : ∃ K, Hid (1 + 2 * N = K) := ⟨_, rfl⟩
  rw [HK0.out] at hK0 ⊢
  have hK0n : ¬ ((K0 : Int) < 0) := by omega
  go_wp2_with fail
  refine Calls.mono (eq_accs a7 a4 c7 c4 nb xs _ (AI.seg HP11.out) (AI.seg HV11.out) HNB.out (by omega)) ?_
  rintro u w12 ⟨rfl, hb12⟩
  have HB12 : Hid _ := HB11.out.trans (hb12.mono HB11.out.size)
  have HS12 : Hid (Bk _ _ _) := Bk.below HS11.out hb12
  have HV12 : Hid (AI _ _ _ _ _) := AI.below HV11.out hb12
  have HY12 : Hid (OW _ _ _ _ _ _) := OW.below HY11.out hb12
  have HP12 : Hid (AI _ _ _ _ _) := AI.below HP11.out hb12
  clear HB11 HS11 HV11 HY11 HP11
  clear hb12 HY12
  go_wp2_with fail
  refine Calls.mono (mark_accs w6.heap.size w7.heap.size c7 nb 1 a7 xs _ HP12.out HNB.out (by omega) (by omega)) ?_
  rintro u w13 ⟨rfl, hb13, ho13⟩
  have HB13 : Hid _ := HB12.out.trans (hb13.below (by omega) HB12.out.size)
  have HS13 : Hid (Bk _ _ _) := Bk.betw HS12.out hb13 (.inl (by omega))
  have HV13 : Hid (AI _ _ _ _ _) := AI.betw HV12.out hb13 (.inl (by omega))
  have HP13 : Hid (AI _ _ _ _ _) := ho13
  clear HB12 HS12 HV12 HP12
  clear hb13 ho13
  have hK : 1 + 3 * nb ≤ 10000000 := by omega
  obtain ⟨K, HK⟩ : ∃ K, Hid (1 + 3 * nb = K) := ⟨_, rfl⟩
  rw [HK.out] at hK ⊢
  have hKn : ¬ ((K : Int) < 0) := by omega
  go_wp2_with fail
  refine Calls.mono (held_accs a7 c7 nb 1 _ (AI.seg HP13.out) (by omega) (by omega)) ?_
  rintro u w14 ⟨rfl, rfl⟩
  rw [HK.out]
  have c0 := HS13.out.cell 0 _ rfl
  have c1 := HS13.out.cell 1 _ rfl
  have c2 := HS13.out.cell 2 _ rfl
  go_wp2_with fail
  refine Calls.mono (to_shape s y l _) ?_
  rintro u w15 ⟨rfl, hb15⟩
  have HB15 : Hid _ := HB13.out.trans (hb15.mono HB13.out.size)
  have HS15 : Hid (Bk _ _ _) := Bk.below HS13.out hb15
  have HV15 : Hid (AI _ _ _ _ _) := AI.below HV13.out hb15
  have HP15 : Hid (AI _ _ _ _ _) := AI.below HP13.out hb15
  clear HB13 HS13 HV13 HP13
  clear hb15 c0 c1 c2
  go_wp2_with fail
  refine Calls.mono (HE.out _ HB15.out) ?_
  rintro u w16 ⟨a16, rfl, hb16, ho16, hlt16⟩
  have HB16 : Hid _ := HB15.out.trans (hb16.mono HB15.out.size)
  have HS16 : Hid (Bk _ _ _) := Bk.below HS15.out hb16
  have HV16 : Hid (AI _ _ _ _ _) := AI.below HV15.out hb16
  have HP16 : Hid (AI _ _ _ _ _) := AI.below HP15.out hb16
  clear HB15 HS15 HV15 HP15
  have HO16x : Hid (OW _ _ _ _ _ _) := ho16
  clear hb16 ho16
  go_wp2_with fail
  refine Calls.mono (HIM.out _ a16 (OW.seg HO16x.out)) ?_
  rintro u w17 ⟨a17, c17, rfl, hb17, ho17⟩
  have HR17x : Hid (AI _ _ _ _ _) := ho17
  have HB17 : Hid _ := HB16.out.trans (hb17.mono HB16.out.size)
  have HS17 : Hid (Bk _ _ _) := Bk.below HS16.out hb17
  have HV17 : Hid (AI _ _ _ _ _) := AI.below HV16.out hb17
  have HP17 : Hid (AI _ _ _ _ _) := AI.below HP16.out hb17
  clear HB16 HS16 HV16 HP16
  clear hb17 ho17 HO16x
  go_wp2_with fail
  refine Calls.mono (eq_accs a17 a4 c17 c4 nb xs _ (AI.seg HR17x.out) (AI.seg HV17.out) HNB.out (by omega)) ?_
  rintro u w18 ⟨rfl, hb18⟩
  have HB18 : Hid _ := HB17.out.trans (hb18.mono HB17.out.size)
  have HS18 : Hid (Bk _ _ _) := Bk.below HS17.out hb18
  have HV18 : Hid (AI _ _ _ _ _) := AI.below HV17.out hb18
  have HP18 : Hid (AI _ _ _ _ _) := AI.below HP17.out hb18
  clear HB17 HS17 HV17 HP17
  clear hb18 HR17x
  go_wp2_with fail
  refine Calls.mono (held_accs a7 c7 nb 1 _ (AI.seg HP18.out) (by omega) (by omega)) ?_
  rintro u w19 ⟨rfl, rfl⟩
  rw [HK.out]
  go_wp2
  go_ret
  exact ⟨rfl, HB18.out⟩

/-! ### The row -/
set_option maxRecDepth 100000 in
theorem lifted (os : Os) (started : os.Started) (H : Type) (enc : TypeId × Value → H) :
    ReturnsInHanded {} Try.checked os 13 .any (Rows.fnExactCacheRunSpec.pre6 enc Try.prog Try.f13 Rows.fnExactCacheRunRow.domain false) (Rows.fnExactCacheRunSpec.post enc Try.prog Try.f13 false true false false) := by
  refine returnsInHanded_of_change (C := Try.checked) own started (by kernel_rfl) Try.func13
    (ChangeSpec.witness6 (enc := enc) (C := Try.checked) false ⟨#[], #[shp 0 0 0, .slice none 0 0], []⟩ 8 (by kernel_rfl) (by kernel_rfl) (by kernel_rfl) (by kernel_rfl)) ?_
  intro W base args ds gs before hval0 hW hcnd _
  have hval : ∀ (j : Nat) t v, Try.f13.params[j]? = some t → args[j]? = some v → Value.okWide Try.prog W .any base t v := hval0
  have hW' := hW
  obtain ⟨p, q, hA0, hV, rfl, hfz, hnd⟩ := hW
  have hA : DataW.TrodAll enc Try.prog W 0 (fun _ => true) true Try.f13.params.toList args.toList ds p := hA0
  rw [Try.params13] at hA hval
  obtain ⟨v0, vs0, d0, ds0, p0, q0, hargs, rfl, rfl, h0, r0⟩ := trodAll_cons hA
  obtain ⟨v1, vs1, d1, ds1, p1, q1, rfl, rfl, rfl, h1, r1⟩ := trodAll_cons r0
  obtain ⟨rfl, rfl, rfl⟩ := trodAll_nil r1
  obtain rfl : args = #[v0, v1] := by cases args; simp_all
  obtain ⟨rfl, rfl⟩ := trodVars_none hV
  have k0 := h0
  have lt0 : ∀ x ∈ p0, x.block < W.heap.size := by obtain ⟨m, hm⟩ := k0; exact DataW.trod_lt m _ _ _ hm
  have k1 := h1
  have lt1 : ∀ x ∈ p1, x.block < W.heap.size := by obtain ⟨m, hm⟩ := k1; exact DataW.trod_lt m _ _ _ hm
  obtain ⟨s, y, l, rfl⟩ := shp_open (hval 0 37 v0 rfl rfl) h0
  obtain ⟨a, us, c, rfl, hs, hn⟩ := uses_arg (hval 1 65 v1 rfl rfl) h1
  clear hA0 hval0
  refine (walk s y l a c us.length us W hs rfl hn).mono fun e W' ⟨he, bel⟩ => ?_
  subst he
  exact ⟨_, rfl, _, _, _, [], _, [], hW', (trodAll_cons_mk (shut_bool Try.underlying4 _) trodAll_mk0), (trodAll_cons_mk (Below.trod laidOut (by kernel_rfl) (of_decide_eq_true (by kernel_rfl)) k0 bel lt0) (trodAll_cons_mk (Below.trod laidOut (by kernel_rfl) (of_decide_eq_true (by kernel_rfl)) k1 bel lt1) trodAll_mk0)), rfl, bel.frame _, fun h => by cases h⟩

theorem over : Rows.fnExactCacheRunRow.holds Try.pinned (OpenSpec.ofChange Rows.fnExactCacheRunSpec) :=
  OpenClaim.holds_of_wide 13 Try.f13 rfl rfl rfl rfl rfl rfl rfl ⟨rfl, rfl, rfl, rfl, rfl⟩ rfl rfl rfl rfl rfl (by kernel_rfl) Try.func13 (by kernel_rfl)
    (of_decide_eq_true (by kernel_rfl)) (by unfold Func.isWrapper; first | (rw [if_pos (by decide +kernel)]; kernel_rfl) | (rw [if_neg (by decide +kernel)]; exact ⟨rfl, rfl⟩))
    (fun os started H enc _ => lifted os started H enc)

end Go.Proofs.Ytifgmgehnbkbjaa.fnExactCacheRun
namespace Go.Proofs.Ytifgmgehnbkbjaa
theorem FnExactCacheRun_holds : Rows.FnExactCacheRunSaid := fnExactCacheRun.over
end Go.Proofs.Ytifgmgehnbkbjaa
