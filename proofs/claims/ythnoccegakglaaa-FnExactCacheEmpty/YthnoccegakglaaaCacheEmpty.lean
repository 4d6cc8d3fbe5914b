/-
  At every shape CacheEmpty answers as its model, in memory of its own: the law FnExactCacheEmpty returns true and its argument reads as before. No conditions.
  Built over the program of the commit that COMMIT names.
-/
import Derived.Test.YthnoccegakglaaaRows
import Derived.WalkKit
import Derived.ProofKit
import Derived.OpenShut
import Derived.Below
import Derived.Carry
import Derived.Test.YthnoccegakglaaaSho
import Derived.Test.YthnoccegakglaaaCea
import Derived.Test.YthnoccegakglaaaWmk
import Derived.ShutString
namespace Go.Proofs.Ythnoccegakglaaa.fnExactCacheEmpty
open Go.ChangeShapes Go.WideShapes Go.ChangeAt Go.RowKit
set_option linter.unusedVariables false

theorem own : ownKnob Try.prog.godebug = none := by kernel_rfl

/-! ### The walk -/
set_option maxHeartbeats 4000000 in
theorem walk (s y l : Int) (w : World) :
    Calls Try.prog 6 #[shp s y l] w fun e w' => e = .returned (.bool true) ∧ Below w.heap.size w w' := by
  obtain ⟨s1, y1, l1, n1, hn, hsp, him⟩ := cem_alike s y l
  have HSP : Hid _ := hsp
  have HIM : Hid _ := him
  have hn' : n1 ≤ 1048576 := by omega
  have ht' : tot noD n1 ≤ 1048576 := by rw [tot_no]; omega
  clear hsp him
  go_enter Try.func6, Try.ntmps6
  go_wp2_with fail
  refine (to_shape s y l _).mono ?_
  rintro x w1 ⟨rfl, hb1⟩
  have HB1 : Hid _ := ((Below.refl _ w).alloc (Nat.le_refl _) (shrow 37 s y l)).trans (hb1.mono (by simp))
  have HS1 : Hid _ := (Bk.new w #[.int .i64 s, .int .i64 y, .int .i64 l] 37 w.heap.size rfl).below hb1
  clear hb1
  go_wp2_with fail
  refine Calls.mono (HSP.out _) ?_
  rintro x w2 ⟨a2, c2, rfl, hb2, ho2⟩
  have hal : Below w2.heap.size w2 (w2.alloc (.cells #[.int .i64 s1, .int .i64 y1, .int .i64 l1, .slice a2 n1 c2] 43)) := (Below.refl _ _).alloc (Nat.le_refl _) _
  have hbx := HB1.out.trans (hb2.mono HB1.out.size)
  have HB2 : Hid _ := hbx.trans (hal.mono hbx.size)
  have HS2 : Hid _ := (HS1.out.below hb2).below hal
  have HV2 : Hid _ := Bk.new w2 #[.int .i64 s1, .int .i64 y1, .int .i64 l1, .slice a2 n1 c2] 43 w2.heap.size rfl
  have HO2 : Hid (ORows _ _ _ _ _ _) := ho2.below hal
  have hs12 : w1.heap.size ≤ w2.heap.size := hb2.size
  have hww1 : w.heap.size < w1.heap.size := HS1.out.lt
  clear hb2 ho2 hal hbx HB1 HS1
  have c0 := HS2.out.cell 0 _ rfl
  have c1 := HS2.out.cell 1 _ rfl
  have c2x := HS2.out.cell 2 _ rfl
  go_wp2_with fail
  refine (to_shape s y l _).mono ?_
  rintro x w3 ⟨rfl, hb3⟩
  have HB3 : Hid _ := HB2.out.trans (hb3.mono HB2.out.size)
  have HS3 : Hid _ := HS2.out.below hb3
  have HV3 : Hid _ := HV2.out.below hb3
  have HO3 : Hid (ORows _ _ _ _ _ _) := ORows.below HO2.out hb3
  have hs23 : w2.heap.size < w3.heap.size := HV3.out.lt
  clear hb3 HB2 HS2 HV2 HO2 c0 c1 c2x
  go_wp2_with fail
  refine Calls.mono (HIM.out _) ?_
  rintro x w4 ⟨a4, c4, rfl, hb4, ho4⟩
  have hal : Below w4.heap.size w4 (w4.alloc (.cells #[.int .i64 s1, .int .i64 y1, .int .i64 l1, .slice a4 n1 c4] 43)) := (Below.refl _ _).alloc (Nat.le_refl _) _
  have hb4' := hb4.trans (hal.mono hb4.size)
  have HB4 : Hid _ := HB3.out.trans (hb4'.mono HB3.out.size)
  have HS4 : Hid _ := HS3.out.below hb4'
  have HV4 : Hid _ := HV3.out.below hb4'
  have HG4 : Hid _ := Bk.new w4 #[.int .i64 s1, .int .i64 y1, .int .i64 l1, .slice a4 n1 c4] 43 w4.heap.size rfl
  have HO4 : Hid (ORows _ _ _ _ _ _) := ORows.below HO3.out hb4'
  have HP4 : Hid (ORows _ _ _ _ _ _) := ho4.below hal
  have hs34 : w3.heap.size ≤ w4.heap.size := hb4.size
  clear hb4 hb4' ho4 hal HB3 HS3 HV3 HO3
  have g0 := HG4.out.cell 0 _ rfl
  have g1 := HG4.out.cell 1 _ rfl
  have g2 := HG4.out.cell 2 _ rfl
  have g3 := HG4.out.cell 3 _ rfl
  have v0 := HV4.out.cell 0 _ rfl
  have v1 := HV4.out.cell 1 _ rfl
  have v2 := HV4.out.cell 2 _ rfl
  have v3 := HV4.out.cell 3 _ rfl
  go_wp2_with fail
  refine Calls.mono (eq_cache s1 y1 l1 a4 a2 c4 c2 n1 noD _ (ORows.seg HP4.out) (ORows.seg HO4.out) hn' ht') ?_
  rintro x w5 ⟨rfl, hb5⟩
  have HB5 : Hid _ := HB4.out.trans (hb5.mono HB4.out.size)
  have HS5 : Hid _ := HS4.out.below hb5
  have HV5 : Hid _ := HV4.out.below hb5
  have HG5 : Hid _ := HG4.out.below hb5
  have HO5 : Hid (ORows _ _ _ _ _ _) := ORows.below HO4.out hb5
  have HP5 : Hid (ORows _ _ _ _ _ _) := ORows.below HP4.out hb5
  clear hb5 HB4 HS4 HV4 HG4 HO4 HP4 g0 g1 g2 g3 v0 v1 v2 v3
  have hs45 : w4.heap.size < w5.heap.size := HG5.out.lt
  have g0 := HG5.out.cell 0 _ rfl
  have g1 := HG5.out.cell 1 _ rfl
  have g2 := HG5.out.cell 2 _ rfl
  have g3 := HG5.out.cell 3 _ rfl
  go_wp2_with fail
  refine Calls.mono (mark_cache s1 y1 l1 w3.heap.size w4.heap.size c4 1 n1 a4 noD _ HP5.out hn' ht' (by omega) (by omega)) ?_
  rintro x w6 ⟨rfl, hb6, ho6⟩
  have HB6 : Hid _ := HB5.out.trans (hb6.below (by have := HS5.out.lt; omega) HB5.out.size)
  have HS6 : Hid _ := HS5.out.betw hb6 (.inl (by omega))
  have HV6 : Hid _ := HV5.out.betw hb6 (.inl (by omega))
  have HG6 : Hid _ := HG5.out.betw hb6 (.inr (Nat.le_refl _))
  have HO6 : Hid (ORows _ _ _ _ _ _) := ORows.betw HO5.out hb6 (.inl (by omega))
  have HP6 : Hid (ORows _ _ _ _ _ _) := ho6
  clear hb6 ho6 HB5 HS5 HV5 HG5 HO5 HP5 g0 g1 g2 g3
  have g0 := HG6.out.cell 0 _ rfl
  have g1 := HG6.out.cell 1 _ rfl
  have g2 := HG6.out.cell 2 _ rfl
  have g3 := HG6.out.cell 3 _ rfl
  have hK : 1 + 2 * tot noD n1 ≤ 10000000 := by omega
  obtain ⟨K, HK⟩ : ∃ K, Hid (1 + 2 * tot noD n1 = K) := ⟨_, rfl⟩
  rw [HK.out] at hK ⊢
  go_wp2_with fail
  refine Calls.mono (held_cache s1 y1 l1 c4 1 n1 a4 noD _ (ORows.seg HP6.out) hn' ht' (by omega)) ?_
  rintro x w7 ⟨rfl, hb7⟩
  rw [HK.out]
  have HB7 : Hid _ := HB6.out.trans (hb7.mono HB6.out.size)
  have HS7 : Hid _ := HS6.out.below hb7
  have HV7 : Hid _ := HV6.out.below hb7
  have HG7 : Hid _ := HG6.out.below hb7
  have HO7 : Hid (ORows _ _ _ _ _ _) := ORows.below HO6.out hb7
  have HP7 : Hid (ORows _ _ _ _ _ _) := ORows.below HP6.out hb7
  clear hb7 HB6 HS6 HV6 HG6 HO6 HP6 g0 g1 g2 g3
  have c0 := HS7.out.cell 0 _ rfl
  have c1 := HS7.out.cell 1 _ rfl
  have c2x := HS7.out.cell 2 _ rfl
  go_wp2_with fail
  refine (to_shape s y l _).mono ?_
  rintro x w8 ⟨rfl, hb8⟩
  have HB8 : Hid _ := HB7.out.trans (hb8.mono HB7.out.size)
  have HV8 : Hid _ := HV7.out.below hb8
  have HG8 : Hid _ := HG7.out.below hb8
  have HO8 : Hid (ORows _ _ _ _ _ _) := ORows.below HO7.out hb8
  have HP8 : Hid (ORows _ _ _ _ _ _) := ORows.below HP7.out hb8
  clear hb8 HB7 HS7 HV7 HG7 HO7 HP7 c0 c1 c2x
  go_wp2_with fail
  refine Calls.mono (HIM.out _) ?_
  rintro x w9 ⟨a9, c9, rfl, hb9, ho9⟩
  have hal : Below w9.heap.size w9 (w9.alloc (.cells #[.int .i64 s1, .int .i64 y1, .int .i64 l1, .slice a9 n1 c9] 43)) := (Below.refl _ _).alloc (Nat.le_refl _) _
  have hb9' := hb9.trans (hal.mono hb9.size)
  have HB9 : Hid _ := HB8.out.trans (hb9'.mono HB8.out.size)
  have HV9 : Hid _ := HV8.out.below hb9'
  have HG9 : Hid _ := HG8.out.below hb9'
  have HH9 : Hid _ := Bk.new w9 #[.int .i64 s1, .int .i64 y1, .int .i64 l1, .slice a9 n1 c9] 43 w9.heap.size rfl
  have HO9 : Hid (ORows _ _ _ _ _ _) := ORows.below HO8.out hb9'
  have HP9 : Hid (ORows _ _ _ _ _ _) := ORows.below HP8.out hb9'
  have HQ9 : Hid (ORows _ _ _ _ _ _) := ho9.below hal
  clear hb9 hb9' ho9 hal HB8 HV8 HG8 HO8 HP8
  have h0 := HH9.out.cell 0 _ rfl
  have h1 := HH9.out.cell 1 _ rfl
  have h2 := HH9.out.cell 2 _ rfl
  have h3 := HH9.out.cell 3 _ rfl
  have v0 := HV9.out.cell 0 _ rfl
  have v1 := HV9.out.cell 1 _ rfl
  have v2 := HV9.out.cell 2 _ rfl
  have v3 := HV9.out.cell 3 _ rfl
  go_wp2_with fail
  refine Calls.mono (eq_cache s1 y1 l1 a9 a2 c9 c2 n1 noD _ (ORows.seg HQ9.out) (ORows.seg HO9.out) hn' ht') ?_
  rintro x w10 ⟨rfl, hb10⟩
  have HB10 : Hid _ := HB9.out.trans (hb10.mono HB9.out.size)
  have HG10 : Hid _ := HG9.out.below hb10
  have HP10 : Hid (ORows _ _ _ _ _ _) := ORows.below HP9.out hb10
  clear hb10 HB9 HV9 HG9 HH9 HO9 HP9 HQ9 h0 h1 h2 h3 v0 v1 v2 v3
  have g0 := HG10.out.cell 0 _ rfl
  have g1 := HG10.out.cell 1 _ rfl
  have g2 := HG10.out.cell 2 _ rfl
  have g3 := HG10.out.cell 3 _ rfl
  go_wp2_with fail
  refine Calls.mono (held_cache s1 y1 l1 c4 1 n1 a4 noD _ (ORows.seg HP10.out) hn' ht' (by omega)) ?_
  rintro x w11 ⟨rfl, hb11⟩
  rw [HK.out]
  have HB11 : Hid _ := HB10.out.trans (hb11.mono HB10.out.size)
  clear hb11 HB10 HG10 HP10 g0 g1 g2 g3
  go_wp2
  go_ret
  exact ⟨rfl, HB11.out⟩

/-! ### The row -/
set_option maxRecDepth 100000 in
theorem lifted (os : Os) (started : os.Started) (H : Type) (enc : TypeId × Value → H) :
    ReturnsInHanded {} Try.checked os 6 .any (Rows.fnExactCacheEmptySpec.pre6 enc Try.prog Try.f6 Rows.fnExactCacheEmptyRow.domain false) (Rows.fnExactCacheEmptySpec.post enc Try.prog Try.f6 false true false false) := by
  refine returnsInHanded_of_change (C := Try.checked) own started (by kernel_rfl) Try.func6
    (ChangeSpec.witness6 (enc := enc) (C := Try.checked) false ⟨#[], #[shp 0 0 0], []⟩ 8 (by kernel_rfl) (by kernel_rfl) (by kernel_rfl) (by kernel_rfl)) ?_
  intro W base args ds gs before hval0 hW hcnd _
  have hval : ∀ (j : Nat) t v, Try.f6.params[j]? = some t → args[j]? = some v → Value.okWide Try.prog W .any base t v := hval0
  have hW' := hW
  obtain ⟨p, q, hA0, hV, rfl, hfz, hnd⟩ := hW
  have hA : DataW.TrodAll enc Try.prog W 0 (fun _ => true) true Try.f6.params.toList args.toList ds p := hA0
  rw [Try.params6] at hA hval
  obtain ⟨v0, vs0, d0, ds0, p0, q0, hargs, rfl, rfl, h0, r0⟩ := trodAll_cons hA
  obtain ⟨rfl, rfl, rfl⟩ := trodAll_nil r0
  obtain rfl : args = #[v0] := by cases args; simp_all
  obtain ⟨rfl, rfl⟩ := trodVars_none hV
  have k0 := h0
  have lt0 : ∀ x ∈ p0, x.block < W.heap.size := by obtain ⟨m, hm⟩ := k0; exact DataW.trod_lt m _ _ _ hm
  obtain ⟨s, y, l, rfl⟩ := shp_open (hval 0 37 v0 rfl rfl) h0
  clear hA0 hval0
  refine (walk s y l W).mono fun e W' ⟨he, bel⟩ => ?_
  subst he
  exact ⟨_, rfl, _, _, _, [], _, [], hW', (trodAll_cons_mk (shut_bool Try.underlying4 _) trodAll_mk0), (trodAll_cons_mk (Below.trod laidOut (by kernel_rfl) (of_decide_eq_true (by kernel_rfl)) k0 bel lt0) trodAll_mk0), rfl, bel.frame _, fun h => by cases h⟩

theorem over : Rows.fnExactCacheEmptyRow.holds Try.pinned (OpenSpec.ofChange Rows.fnExactCacheEmptySpec) :=
  OpenClaim.holds_of_wide 6 Try.f6 rfl rfl rfl rfl rfl rfl rfl ⟨rfl, rfl, rfl, rfl, rfl⟩ rfl rfl rfl rfl rfl (by kernel_rfl) Try.func6 (by kernel_rfl)
    (of_decide_eq_true (by kernel_rfl)) (by unfold Func.isWrapper; first | (rw [if_pos (by decide +kernel)]; kernel_rfl) | (rw [if_neg (by decide +kernel)]; exact ⟨rfl, rfl⟩))
    (fun os started H enc _ => lifted os started H enc)

end Go.Proofs.Ythnoccegakglaaa.fnExactCacheEmpty
namespace Go.Proofs.Ythnoccegakglaaa
theorem FnExactCacheEmpty_holds : Rows.FnExactCacheEmptySaid := fnExactCacheEmpty.over
end Go.Proofs.Ythnoccegakglaaa
