/-
  At every number and every list of numbers TlbRun answers as its model, in memory of its own, and leaves its argument as it was: the law FnExactTlbRun returns true and its arguments read as before. No conditions.
  Built over the program of the commit that COMMIT names.
-/
import Derived.Test.YtpecihkkbfjahaaRows
import Derived.WalkKit
import Derived.ProofKit
import Derived.OpenShut
import Derived.Below
import Derived.Carry
import Derived.Test.YtpecihkkbfjahaaTin
import Derived.Test.YtpecihkkbfjahaaIar
import Derived.Test.YtpecihkkbfjahaaTrs
import Derived.ShutString
namespace Go.Proofs.Ytpecihkkbfjahaa.fnExactTlbRun
open Go.ChangeShapes Go.WideShapes Go.ChangeAt Go.RowKit
set_option linter.unusedVariables false

theorem own : ownKnob Try.prog.godebug = none := by kernel_rfl

/-! ### The walk -/
set_option maxHeartbeats 8000000 in
theorem walk (s : Int) (a : Option Addr) (cap n : Nat) (zs : List Int) (w : World) (hs : Seg .i64 w a zs) (hl : zs.length = n) (hn : n ≤ 9223372036854775807) :
    Calls Try.prog 7 #[.int .i64 s, .slice a n cap] w fun e w' => e = .returned (.bool true) ∧ Below w.heap.size w w' := by
  have HS0 : Hid (Seg .i64 w a zs) := hs
  have HL : Hid _ := hl
  clear hs hl
  by_cases hbig : n ≤ 1048576
  rotate_left
  · have hgt : (1048576 : Int) < (n : Int) := by omega
    go_enter Try.func7, Try.ntmps7
    go_wp2
    go_ret
    exact ⟨rfl, Below.refl _ _⟩
  have hngt : ¬ ((1048576 : Int) < (n : Int)) := by omega
  have HE : Hid (∀ X, Below w.heap.size w X → Calls Try.prog 22 #[.slice a n cap] X fun e w' => ∃ a', e = .returned (.slice a' n n) ∧ Below X.heap.size X w' ∧ OI w' X.heap.size w'.heap.size a' zs) := fun X hX => (to_ints a cap n zs X (Seg.below HS0.out hX) HL.out hbig).mono fun e w' h => ⟨_, h.1, h.2.1, h.2.2⟩
  have HQQ : Hid (∀ (X : World) a1 a2, Seg .i64 X a1 zs → Seg .i64 X a2 zs → Calls Try.prog 25 #[.slice a1 n n, .slice a2 n n] X fun e w' => e = .returned (.bool true) ∧ Below X.heap.size X w') := fun X a1 a2 h1 h2 => by
    have h := eq_ints a1 a2 n n zs X h1 h2 (by rw [HL.out]; exact hbig)
    rw [HL.out] at h
    exact h
  obtain ⟨bs, hbs, hsp, him⟩ := run_alike s n zs HL.out hbig
  obtain ⟨nb, HNB⟩ : ∃ nb, Hid (bs.length = nb) := ⟨_, rfl⟩
  have hnb : nb ≤ 2000 := by rw [← HNB.out]; exact hbs
  have HSP : Hid (∀ X a, Seg .i64 X a zs → Calls Try.prog 21 #[.int .i64 s, .slice a n n] X fun e w' => ∃ a' c', e = .returned (.slice a' nb c') ∧ Below X.heap.size X w' ∧ BI w' X.heap.size w'.heap.size a' bs) := fun X a hX => (hsp X a n hX).mono fun e w' h => by
    obtain ⟨v, h1, h2, h3⟩ := h
    obtain ⟨a', c', rfl, h4⟩ := OwnB.bi h3
    exact ⟨a', c', by rw [h1, HNB.out], h2, h4⟩
  have HIM : Hid (∀ X a, Seg .i64 X a zs → Calls Try.prog 23 #[.int .i64 s, .slice a n n] X fun e w' => ∃ a' c', e = .returned (.slice a' nb c') ∧ Below X.heap.size X w' ∧ BI w' X.heap.size w'.heap.size a' bs) := fun X a hX => (him X a n hX).mono fun e w' h => by
    obtain ⟨v, h1, h2, h3⟩ := h
    obtain ⟨a', c', rfl, h4⟩ := OwnB.bi h3
    exact ⟨a', c', by rw [h1, HNB.out], h2, h4⟩
  clear hsp him hbs
  go_enter Try.func7, Try.ntmps7
  go_wp2_with fail
  refine Calls.mono (HE.out _ (Below.refl _ _)) ?_
  rintro u w1 ⟨a1, rfl, hb1, ho1⟩
  have HB1 : Hid _ := hb1
  have HO1 : Hid (OI _ _ _ _ _) := ho1
  have hz1 : w.heap.size ≤ w1.heap.size := hb1.size
  clear hb1 ho1
  go_wp2_with fail
  refine Calls.mono (HSP.out _ a1 (OI.seg HO1.out)) ?_
  rintro u w2 ⟨a2, c2, rfl, hb2, ho2⟩
  have HB2 : Hid _ := HB1.out.trans (hb2.mono HB1.out.size)
  have HV2 : Hid (BI _ _ _ _ _) := ho2
  have hz2 : w1.heap.size ≤ w2.heap.size := hb2.size
  clear hb2 ho2 HB1 HO1
  go_wp2_with fail
  refine Calls.mono (HE.out _ HB2.out) ?_
  rintro u w3 ⟨a3, rfl, hb3, ho3⟩
  have hz3 : w2.heap.size ≤ w3.heap.size := hb3.size
  have HB3 : Hid _ := HB2.out.trans (hb3.mono HB2.out.size)
  have HV3 : Hid (BI _ _ _ _ _) := BI.below HV2.out hb3
  clear HB2 HV2
  have HY3 : Hid (OI _ _ _ _ _) := ho3
  clear hb3 ho3
  go_wp2_with fail
  refine Calls.mono (HIM.out _ a3 (OI.seg HY3.out)) ?_
  rintro u w4 ⟨a4, c4, rfl, hb4, ho4⟩
  have hz4 : w3.heap.size ≤ w4.heap.size := hb4.size
  have HB4 : Hid _ := HB3.out.trans (hb4.mono HB3.out.size)
  have HV4 : Hid (BI _ _ _ _ _) := BI.below HV3.out hb4
  have HY4 : Hid (OI _ _ _ _ _) := OI.below HY3.out hb4
  clear HB3 HV3 HY3
  have HP4 : Hid (BI _ _ _ _ _) := ho4
  clear hb4 ho4
  go_wp2_with fail
  refine Calls.mono (eq_bools a4 a2 c4 c2 nb bs _ (BI.seg HP4.out) (BI.seg HV4.out) HNB.out (by omega)) ?_
  rintro u w5 ⟨rfl, hb5⟩
  have HB5 : Hid _ := HB4.out.trans (hb5.mono HB4.out.size)
  have HV5 : Hid (BI _ _ _ _ _) := BI.below HV4.out hb5
  have HY5 : Hid (OI _ _ _ _ _) := OI.below HY4.out hb5
  have HP5 : Hid (BI _ _ _ _ _) := BI.below HP4.out hb5
  clear HB4 HV4 HY4 HP4
  clear hb5
  go_wp2_with fail
  refine Calls.mono (HE.out _ HB5.out) ?_
  rintro u w6 ⟨a6, rfl, hb6, ho6⟩
  have HO6x : Hid (OI _ _ _ _ _) := ho6
  have HB6 : Hid _ := HB5.out.trans (hb6.mono HB5.out.size)
  have HV6 : Hid (BI _ _ _ _ _) := BI.below HV5.out hb6
  have HY6 : Hid (OI _ _ _ _ _) := OI.below HY5.out hb6
  have HP6 : Hid (BI _ _ _ _ _) := BI.below HP5.out hb6
  clear HB5 HV5 HY5 HP5
  clear hb6 ho6
  go_wp2_with fail
  refine Calls.mono (HQQ.out _ a3 a6 (OI.seg HY6.out) (OI.seg HO6x.out)) ?_
  rintro u w7 ⟨rfl, hb7⟩
  have HB7 : Hid _ := HB6.out.trans (hb7.mono HB6.out.size)
  have HV7 : Hid (BI _ _ _ _ _) := BI.below HV6.out hb7
  have HY7 : Hid (OI _ _ _ _ _) := OI.below HY6.out hb7
  have HP7 : Hid (BI _ _ _ _ _) := BI.below HP6.out hb7
  clear HB6 HV6 HY6 HP6
  clear hb7 HO6x
  go_wp2_with fail
  refine Calls.mono (mark_ints w2.heap.size w3.heap.size n n 1 a3 zs _ HY7.out HL.out hbig (by omega)) ?_
  rintro u w8 ⟨rfl, hb8, ho8⟩
  have HB8 : Hid _ := HB7.out.trans (hb8.below (by omega) HB7.out.size)
  have HV8 : Hid (BI _ _ _ _ _) := BI.betw HV7.out hb8 (.inl (by omega))
  have HY8 : Hid (OI _ _ _ _ _) := ho8
  have HP8 : Hid (BI _ _ _ _ _) := BI.betw HP7.out hb8 (.inr (by omega))
  clear HB7 HV7 HY7 HP7
  clear hb8 ho8
  have hK0 : 1 + n ≤ 10000000 := by omega
  obtain ⟨K0, HK0⟩ : ∃ K, Hid (1 + n = K) := ⟨_, rfl⟩
  rw [HK0.out] at hK0 ⊢
  have hK0n : ¬ ((K0 : Int) < 0) := by omega
  go_wp2_with fail
  refine Calls.mono (eq_bools a4 a2 c4 c2 nb bs _ (BI.seg HP8.out) (BI.seg HV8.out) HNB.out (by omega)) ?_
  rintro u w9 ⟨rfl, hb9⟩
  have HB9 : Hid _ := HB8.out.trans (hb9.mono HB8.out.size)
  have HV9 : Hid (BI _ _ _ _ _) := BI.below HV8.out hb9
  have HY9 : Hid (OI _ _ _ _ _) := OI.below HY8.out hb9
  have HP9 : Hid (BI _ _ _ _ _) := BI.below HP8.out hb9
  clear HB8 HV8 HY8 HP8
  clear hb9 HY9
  go_wp2_with fail
  refine Calls.mono (mark_bools w3.heap.size w4.heap.size c4 nb 1 a4 bs _ HP9.out HNB.out (by omega) (by omega)) ?_
  rintro u w10 ⟨rfl, hb10, ho10⟩
  have HB10 : Hid _ := HB9.out.trans (hb10.below (by omega) HB9.out.size)
  have HV10 : Hid (BI _ _ _ _ _) := BI.betw HV9.out hb10 (.inl (by omega))
  have HP10 : Hid (BI _ _ _ _ _) := ho10
  clear HB9 HV9 HP9
  clear hb10 ho10
  have hK : 1 + nb ≤ 10000000 := by omega
  obtain ⟨K, HK⟩ : ∃ K, Hid (1 + nb = K) := ⟨_, rfl⟩
  rw [HK.out] at hK ⊢
  have hKn : ¬ ((K : Int) < 0) := by omega
  go_wp2_with fail
  refine Calls.mono (held_bools a4 c4 nb 1 _ (BI.seg HP10.out) (by omega) (by omega)) ?_
  rintro u w11 ⟨rfl, rfl⟩
  rw [HK.out]
  go_wp2_with fail
  refine Calls.mono (HE.out _ HB10.out) ?_
  rintro u w12 ⟨a12, rfl, hb12, ho12⟩
  have HO12x : Hid (OI _ _ _ _ _) := ho12
  have HB12 : Hid _ := HB10.out.trans (hb12.mono HB10.out.size)
  have HV12 : Hid (BI _ _ _ _ _) := BI.below HV10.out hb12
  have HP12 : Hid (BI _ _ _ _ _) := BI.below HP10.out hb12
  clear HB10 HV10 HP10
  clear hb12 ho12
  go_wp2_with fail
  refine Calls.mono (HIM.out _ a12 (OI.seg HO12x.out)) ?_
  rintro u w13 ⟨a13, c13, rfl, hb13, ho13⟩
  have HR13x : Hid (BI _ _ _ _ _) := ho13
  have HB13 : Hid _ := HB12.out.trans (hb13.mono HB12.out.size)
  have HV13 : Hid (BI _ _ _ _ _) := BI.below HV12.out hb13
  have HP13 : Hid (BI _ _ _ _ _) := BI.below HP12.out hb13
  clear HB12 HV12 HP12
  clear hb13 ho13 HO12x
  go_wp2_with fail
  refine Calls.mono (eq_bools a13 a2 c13 c2 nb bs _ (BI.seg HR13x.out) (BI.seg HV13.out) HNB.out (by omega)) ?_
  rintro u w14 ⟨rfl, hb14⟩
  have HB14 : Hid _ := HB13.out.trans (hb14.mono HB13.out.size)
  have HV14 : Hid (BI _ _ _ _ _) := BI.below HV13.out hb14
  have HP14 : Hid (BI _ _ _ _ _) := BI.below HP13.out hb14
  clear HB13 HV13 HP13
  clear hb14 HR13x
  go_wp2_with fail
  refine Calls.mono (held_bools a4 c4 nb 1 _ (BI.seg HP14.out) (by omega) (by omega)) ?_
  rintro u w15 ⟨rfl, rfl⟩
  rw [HK.out]
  go_wp2
  go_ret
  exact ⟨rfl, HB14.out⟩

/-! ### The row -/
set_option maxRecDepth 100000 in
theorem lifted (os : Os) (started : os.Started) (H : Type) (enc : TypeId × Value → H) :
    ReturnsInHanded {} Try.checked os 7 .any (Rows.fnExactTlbRunSpec.pre6 enc Try.prog Try.f7 Rows.fnExactTlbRunRow.domain false) (Rows.fnExactTlbRunSpec.post enc Try.prog Try.f7 false true false false) := by
  refine returnsInHanded_of_change (C := Try.checked) own started (by kernel_rfl) Try.func7
    (ChangeSpec.witness6 (enc := enc) (C := Try.checked) false ⟨#[], #[.int .i64 0, .slice none 0 0], []⟩ 8 (by kernel_rfl) (by kernel_rfl) (by kernel_rfl) (by kernel_rfl)) ?_
  intro W base args ds gs before hval0 hW hcnd _
  have hval : ∀ (j : Nat) t v, Try.f7.params[j]? = some t → args[j]? = some v → Value.okWide Try.prog W .any base t v := hval0
  have hW' := hW
  obtain ⟨p, q, hA0, hV, rfl, hfz, hnd⟩ := hW
  have hA : DataW.TrodAll enc Try.prog W 0 (fun _ => true) true Try.f7.params.toList args.toList ds p := hA0
  rw [Try.params7] at hA hval
  obtain ⟨v0, vs0, d0, ds0, p0, q0, hargs, rfl, rfl, h0, r0⟩ := trodAll_cons hA
  obtain ⟨v1, vs1, d1, ds1, p1, q1, rfl, rfl, rfl, h1, r1⟩ := trodAll_cons r0
  obtain ⟨rfl, rfl, rfl⟩ := trodAll_nil r1
  obtain rfl : args = #[v0, v1] := by cases args; simp_all
  obtain ⟨rfl, rfl⟩ := trodVars_none hV
  have k0 := h0
  have lt0 : ∀ x ∈ p0, x.block < W.heap.size := by obtain ⟨m, hm⟩ := k0; exact DataW.trod_lt m _ _ _ hm
  have k1 := h1
  have lt1 : ∀ x ∈ p1, x.block < W.heap.size := by obtain ⟨m, hm⟩ := k1; exact DataW.trod_lt m _ _ _ hm
  obtain ⟨x0, rfl, rfl, rfl, w0⟩ := open_int Try.underlying3 (hval 0 3 v0 rfl rfl) h0
  obtain ⟨a, zs, c, rfl, hs, hn⟩ := ints_arg (hval 1 22 v1 rfl rfl) h1
  clear hA0 hval0
  refine (walk x0 a c zs.length zs W hs rfl hn).mono fun e W' ⟨he, bel⟩ => ?_
  subst he
  exact ⟨_, rfl, _, _, _, [], _, [], hW', (trodAll_cons_mk (shut_bool Try.underlying4 _) trodAll_mk0), (trodAll_cons_mk (Below.trod laidOut (by kernel_rfl) (of_decide_eq_true (by kernel_rfl)) k0 bel lt0) (trodAll_cons_mk (Below.trod laidOut (by kernel_rfl) (of_decide_eq_true (by kernel_rfl)) k1 bel lt1) trodAll_mk0)), rfl, bel.frame _, fun h => by cases h⟩

theorem over : Rows.fnExactTlbRunRow.holds Try.pinned (OpenSpec.ofChange Rows.fnExactTlbRunSpec) :=
  OpenClaim.holds_of_wide 7 Try.f7 rfl rfl rfl rfl rfl rfl rfl ⟨rfl, rfl, rfl, rfl, rfl⟩ rfl rfl rfl rfl rfl (by kernel_rfl) Try.func7 (by kernel_rfl)
    (of_decide_eq_true (by kernel_rfl)) (by unfold Func.isWrapper; first | (rw [if_pos (by decide +kernel)]; kernel_rfl) | (rw [if_neg (by decide +kernel)]; exact ⟨rfl, rfl⟩))
    (fun os started H enc _ => lifted os started H enc)

end Go.Proofs.Ytpecihkkbfjahaa.fnExactTlbRun
namespace Go.Proofs.Ytpecihkkbfjahaa
theorem FnExactTlbRun_holds : Rows.FnExactTlbRunSaid := fnExactTlbRun.over
end Go.Proofs.Ytpecihkkbfjahaa
