/-
  At every table of pages and every number TlbHolds answers as its model and leaves its argument as it was: the law FnExactTlbHolds returns true and its arguments read as before. No conditions.
  Built over the program of the commit that COMMIT names.
-/
import Derived.Test.YtpecihkkbfjahaaRows
import Derived.WalkKit
import Derived.ProofKit
import Derived.OpenShut
import Derived.Below
import Derived.Carry
import Derived.Test.YtpecihkkbfjahaaTin
import Derived.Test.YtpecihkkbfjahaaTho
import Derived.ShutString
import Derived.Deep.RegionHeld3
namespace Go.Proofs.Ytpecihkkbfjahaa.fnExactTlbHolds
open Go.ChangeShapes Go.WideShapes Go.ChangeAt Go.RowKit
set_option linter.unusedVariables false

theorem own : ownKnob Try.prog.godebug = none := by kernel_rfl

/-! ### The walk -/
set_option maxHeartbeats 4000000 in
theorem walk (s : Int) (a : Option Addr) (cap n : Nat) (zs : List Int) (x : Int) (w : World) (hs : Seg .i64 w a zs) (hl : zs.length = n) (hn : n ≤ 9223372036854775807) :
    Calls Try.prog 6 #[tlb s (.slice a n cap), .int .i64 x] w fun e w' => e = .returned (.bool true) ∧ Below w.heap.size w w' := by
  have HS : Hid (Seg .i64 w a zs) := hs
  have HL : Hid _ := hl
  clear hs hl
  go_enter Try.func6, Try.ntmps6
  go_wp2_with fail
  refine Calls.mono (sz_tlb s a cap n _ hn) ?_
  rintro u w1 ⟨⟨r, rfl, hr⟩, hb1⟩
  have hbw1 := ((Below.refl _ w).alloc (Nat.le_refl _) (.cells #[.int .i64 s, .slice a n cap] 24)).trans (hb1.mono (by simp))
  have B1 := (Bk.new w #[.int .i64 s, .slice a n cap] 24 w.heap.size rfl).below hb1
  clear hb1
  rcases hr with hr | ⟨hr, hn1⟩
  · have HB : Hid _ := hbw1
    clear B1 hbw1
    go_wp2
    go_ret
    exact ⟨rfl, HB.out⟩
  have hr0 : ¬ (r < 0) := by omega
  have HE : Hid (∀ X, Below w.heap.size w X → Calls Try.prog 10 #[tlb s (.slice a n cap)] X fun e w' => ∃ a', e = .returned (tlb s (.slice a' n n)) ∧ Below X.heap.size X w' ∧ OI w' X.heap.size w'.heap.size a' zs) := fun X hX => to_tlb s a cap n zs X (Seg.below HS.out hX) HL.out hn1
  have HQQ : Hid (∀ (X : World) a1 a2, Seg .i64 X a1 zs → Seg .i64 X a2 zs → Calls Try.prog 12 #[tlb s (.slice a1 n n), tlb s (.slice a2 n n)] X fun e w' => e = .returned (.bool true) ∧ Below X.heap.size X w') := fun X a1 a2 h1 h2 => eq_tlb s a1 a2 n n n zs X h1 h2 HL.out hn1
  obtain ⟨q, hq⟩ := told (THoldP s zs x)
  have HQ : Hid _ := hq
  clear hq
  have HB1 : Hid _ := hbw1
  have c0 := B1.cell 0 _ rfl
  have c1 := B1.cell 1 _ rfl
  have HK1 : Hid _ := B1
  clear hbw1 B1
  go_wp2_with fail
  refine Calls.mono (HE.out _ HB1.out) ?_
  rintro u w2 ⟨a2, rfl, hb2, ho2⟩
  have hbw2 := HB1.out.trans (hb2.mono HB1.out.size)
  have B2 := HK1.out.below hb2
  have HO2 : Hid (OI _ _ _ _ _) := ho2
  have HB2 : Hid _ := hbw2
  have HK2 : Hid _ := B2
  clear hb2 ho2 hbw2 B2 HB1 HK1 c0 c1
  go_wp2_with fail
  refine Calls.mono (spec_thold s x a2 n n zs _ (OI.seg HO2.out) HL.out hn1 q HQ.out) ?_
  rintro u w3 ⟨rfl, hb3⟩
  have HB3 : Hid _ := HB2.out.trans (hb3.mono HB2.out.size)
  have HK3 : Hid _ := HK2.out.below hb3
  clear hb3 HB2 HK2 HO2
  have c0 := HK3.out.cell 0 _ rfl
  have c1 := HK3.out.cell 1 _ rfl
  go_wp2_with fail
  refine Calls.mono (HE.out _ HB3.out) ?_
  rintro u w4 ⟨a4, rfl, hb4, ho4⟩
  have hbw4 := HB3.out.trans (hb4.mono HB3.out.size)
  have hal : Below w4.heap.size w4 (w4.alloc (.cells #[.int .i64 s, .slice a4 n n] 27)) := (Below.refl _ _).alloc (Nat.le_refl _) _
  have BX := Bk.new w4 #[.int .i64 s, .slice a4 n n] 27 w4.heap.size rfl
  have HKX : Hid _ := BX
  have HK4 : Hid _ := (HK3.out.below hb4).below hal
  have HB4 : Hid _ := hbw4.trans (hal.mono hbw4.size)
  have HO4 : Hid (OI _ _ _ _ _) := OI.below ho4 hal
  clear hb4 ho4 hbw4 hal BX c0 c1
  have x0 := HKX.out.cell 0 _ rfl
  have x1 := HKX.out.cell 1 _ rfl
  go_wp2_with fail
  refine Calls.mono (impl_thold s x a4 n n zs _ (OI.seg HO4.out) HL.out hn1 (Nat.le_refl _) q HQ.out) ?_
  rintro u w5 ⟨rfl, hb5⟩
  have HB5 : Hid _ := HB4.out.trans (hb5.mono HB4.out.size)
  have HK5 : Hid _ := And.intro (HKX.out.below hb5) (HK4.out.below hb5)
  have HO5 : Hid (OI _ _ _ _ _) := OI.below HO4.out hb5
  clear hb5 HB4 HK4 HO4 HKX x0 x1
  have x0 := HK5.out.1.cell 0 _ rfl
  have x1 := HK5.out.1.cell 1 _ rfl
  have c0 := HK5.out.2.cell 0 _ rfl
  have c1 := HK5.out.2.cell 1 _ rfl
  have hb : Below w5.heap.size w5 w5 := Below.refl _ _
  have HE5 : Hid (∀ X, Below w5.heap.size w5 X → Calls Try.prog 10 #[tlb s (.slice a n cap)] X fun e w' => ∃ a', e = .returned (tlb s (.slice a' n n)) ∧ Below X.heap.size X w' ∧ Seg .i64 w' a' zs) := fun X hX => (HE.out X (HB5.out.trans (hX.mono HB5.out.size))).mono fun e w' h => by
    obtain ⟨a', h1, h2, h3⟩ := h
    exact ⟨a', h1, h2, OI.seg h3⟩
  have HQ5 : Hid (∀ X a', Below w5.heap.size w5 X → Seg .i64 X a' zs → Calls Try.prog 12 #[tlb s (.slice a4 n n), tlb s (.slice a' n n)] X fun e w' => e = .returned (.bool true) ∧ Below X.heap.size X w') := fun X a' hX h' => HQQ.out X a4 a' (Seg.below (OI.seg HO5.out) hX) h'
  cases q <;> go_wp2
  all_goals go_region_held3 (fun w' => w'.cell? ⟨w4.heap.size, 0, none⟩ = some (.int .i64 s) ∧ w'.cell? ⟨w4.heap.size, 1, none⟩ = some (.slice a4 n n) ∧ w'.cell? ⟨w.heap.size, 0, none⟩ = some (.int .i64 s) ∧ w'.cell? ⟨w.heap.size, 1, none⟩ = some (.slice a n cap)) (first | exact ⟨x0, x1, c0, c1⟩)
    (first | (go_at_call 10; refine Calls.mono (HE5.out _ (by first | exact hb | exact hb.drew)) ?_; rintro u w9 ⟨a9, rfl, hbb, hs9⟩; (first | replace hb := hb.trans (hbb.mono hb.size) | replace hb := hb.drew.trans (hbb.mono hb.drew.size)); replace x0 := kept_cell hbb x0; replace x1 := kept_cell hbb x1; replace c0 := kept_cell hbb c0; replace c1 := kept_cell hbb c1; clear hbb) | (go_at_call 12; refine Calls.mono (HQ5.out _ _ (by first | exact hb | exact hb.drew) (by first | exact hs9 | exact Seg.below (fun h => hs9 h) (Below.refl _ _).drew)) ?_; rintro u w8 ⟨rfl, hbb⟩; (first | replace hb := hb.trans (hbb.mono hb.size) | replace hb := hb.drew.trans (hbb.mono hb.drew.size)); replace x0 := kept_cell hbb x0; replace x1 := kept_cell hbb x1; replace c0 := kept_cell hbb c0; replace c1 := kept_cell hbb c1; clear hbb hs9))
  all_goals (have HB6 : Hid _ := hb; clear hb; go_wp2; go_ret; exact ⟨rfl, HB5.out.trans (HB6.out.mono HB5.out.size)⟩)

/-! ### The row -/
set_option maxRecDepth 100000 in
theorem lifted (os : Os) (started : os.Started) (H : Type) (enc : TypeId × Value → H) :
    ReturnsInHanded {} Try.checked os 6 .any (Rows.fnExactTlbHoldsSpec.pre6 enc Try.prog Try.f6 Rows.fnExactTlbHoldsRow.domain false) (Rows.fnExactTlbHoldsSpec.post enc Try.prog Try.f6 false true false false) := by
  refine returnsInHanded_of_change (C := Try.checked) own started (by kernel_rfl) Try.func6
    (ChangeSpec.witness6 (enc := enc) (C := Try.checked) false ⟨#[], #[tlb 0 (.slice none 0 0), .int .i64 0], []⟩ 8 (by kernel_rfl) (by kernel_rfl) (by kernel_rfl) (by kernel_rfl)) ?_
  intro W base args ds gs before hval0 hW hcnd _
  have hval : ∀ (j : Nat) t v, Try.f6.params[j]? = some t → args[j]? = some v → Value.okWide Try.prog W .any base t v := hval0
  have hW' := hW
  obtain ⟨p, q, hA0, hV, rfl, hfz, hnd⟩ := hW
  have hA : DataW.TrodAll enc Try.prog W 0 (fun _ => true) true Try.f6.params.toList args.toList ds p := hA0
  rw [Try.params6] at hA hval
  obtain ⟨v0, vs0, d0, ds0, p0, q0, hargs, rfl, rfl, h0, r0⟩ := trodAll_cons hA
  obtain ⟨v1, vs1, d1, ds1, p1, q1, rfl, rfl, rfl, h1, r1⟩ := trodAll_cons r0
  obtain ⟨rfl, rfl, rfl⟩ := trodAll_nil r1
  obtain rfl : args = #[v0, v1] := by cases args; simp_all
  obtain ⟨rfl, rfl⟩ := trodVars_none hV
  have k0 := h0
  have lt0 : ∀ x ∈ p0, x.block < W.heap.size := by obtain ⟨m, hm⟩ := k0; exact DataW.trod_lt m _ _ _ hm
  have k1 := h1
  have lt1 : ∀ x ∈ p1, x.block < W.heap.size := by obtain ⟨m, hm⟩ := k1; exact DataW.trod_lt m _ _ _ hm
  obtain ⟨s, a, zs, c, rfl, hs, hn, hz⟩ := tlb_open (hval 0 24 v0 rfl rfl) h0
  obtain ⟨x1, rfl, rfl, rfl, w1⟩ := open_int Try.underlying3 (hval 1 3 v1 rfl rfl) h1
  clear hA0 hval0
  refine (walk s a c zs.length zs x1 W hs rfl hn).mono fun e W' ⟨he, bel⟩ => ?_
  subst he
  exact ⟨_, rfl, _, _, _, [], _, [], hW', (trodAll_cons_mk (shut_bool Try.underlying4 _) trodAll_mk0), (trodAll_cons_mk (Below.trod laidOut (by kernel_rfl) (of_decide_eq_true (by kernel_rfl)) k0 bel lt0) (trodAll_cons_mk (Below.trod laidOut (by kernel_rfl) (of_decide_eq_true (by kernel_rfl)) k1 bel lt1) trodAll_mk0)), rfl, bel.frame _, fun h => by cases h⟩

theorem over : Rows.fnExactTlbHoldsRow.holds Try.pinned (OpenSpec.ofChange Rows.fnExactTlbHoldsSpec) :=
  OpenClaim.holds_of_wide 6 Try.f6 rfl rfl rfl rfl rfl rfl rfl ⟨rfl, rfl, rfl, rfl, rfl⟩ rfl rfl rfl rfl rfl (by kernel_rfl) Try.func6 (by kernel_rfl)
    (of_decide_eq_true (by kernel_rfl)) (by unfold Func.isWrapper; first | (rw [if_pos (by decide +kernel)]; kernel_rfl) | (rw [if_neg (by decide +kernel)]; exact ⟨rfl, rfl⟩))
    (fun os started H enc _ => lifted os started H enc)

end Go.Proofs.Ytpecihkkbfjahaa.fnExactTlbHolds
namespace Go.Proofs.Ytpecihkkbfjahaa
theorem FnExactTlbHolds_holds : Rows.FnExactTlbHoldsSaid := fnExactTlbHolds.over
end Go.Proofs.Ytpecihkkbfjahaa
