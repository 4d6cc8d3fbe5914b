/-
  At every cache CacheLines answers as its model, in memory of its own, and leaves its argument as it was: the law FnExactCacheLines returns true and its argument reads as before. No conditions.
  Built over the program of the commit that COMMIT names.
-/
import Derived.Test.YthnoccegakglaaaRows
import Derived.WalkKit
import Derived.ProofKit
import Derived.OpenShut
import Derived.Below
import Derived.Carry
import Derived.Test.YthnoccegakglaaaWop
import Derived.Test.YthnoccegakglaaaWto
import Derived.Test.YthnoccegakglaaaWsz
import Derived.Test.YthnoccegakglaaaCls
import Derived.Test.YthnoccegakglaaaWmk
import Derived.ShutString
namespace Go.Proofs.Ythnoccegakglaaa.fnExactCacheLines
open Go.ChangeShapes Go.WideShapes Go.ChangeAt Go.RowKit
set_option linter.unusedVariables false

theorem own : ownKnob Try.prog.godebug = none := by kernel_rfl

/-! ### The walk -/
set_option maxHeartbeats 8000000 in
theorem walk (s y l : Int) (a : Option Addr) (cap n : Nat) (D : Nat → List Wy) (w : World) (hs : RSeg w a n D) (hn : n ≤ 9223372036854775807) (hD : ∀ i, i < n → (D i).length ≤ 9223372036854775807) :
    Calls Try.prog 10 #[cch s y l (.slice a n cap)] w fun e w' => e = .returned (.bool true) ∧ Below w.heap.size w w' := by
  have HS : Hid _ := And.intro hs hD
  clear hs hD
  go_enter Try.func10, Try.ntmps10
  go_wp2_with fail
  refine Calls.mono (sz_cache s y l a cap n D _ (RSeg.below HS.out.1 ((Below.refl _ w).alloc (Nat.le_refl _) _)) hn HS.out.2) ?_
  rintro u w1 ⟨⟨r, rfl, hr⟩, hb1⟩
  have hbw1 := ((Below.refl _ w).alloc (Nat.le_refl _) (.cells #[.int .i64 s, .int .i64 y, .int .i64 l, .slice a n cap] 49)).trans (hb1.mono (by simp))
  have B1 := (Bk.new w #[.int .i64 s, .int .i64 y, .int .i64 l, .slice a n cap] 49 w.heap.size rfl).below hb1
  clear hb1
  rcases hr with hr | ⟨hr, hn1, ht⟩
  · have HB : Hid _ := hbw1
    clear B1 hbw1
    go_wp2
    go_ret
    exact ⟨rfl, HB.out⟩
  have hr0 : ¬ (r < 0) := by omega
  have HE : Hid (∀ X, Below w.heap.size w X → Calls Try.prog 29 #[cch s y l (.slice a n cap)] X fun e w' => ∃ a', e = .returned (cch s y l (.slice a' n n)) ∧ Below X.heap.size X w' ∧ ORows w' X.heap.size w'.heap.size a' n D) := fun X hX => to_cache s y l a cap n D X (RSeg.below HS.out.1 hX) hn1 ht
  have HQQ : Hid (∀ (X : World) a1 a2, RSeg X a1 n D → RSeg X a2 n D → Calls Try.prog 24 #[cch s y l (.slice a1 n n), cch s y l (.slice a2 n n)] X fun e w' => e = .returned (.bool true) ∧ Below X.heap.size X w') := fun X a1 a2 h1 h2 => eq_cache s y l a1 a2 n n n D X h1 h2 hn1 ht
  obtain ⟨zs, hzl, hsp, him, _⟩ := li_alike s y l n D hn1 ht
  have HSP : Hid _ := hsp
  have HIM : Hid _ := him
  clear hsp him
  obtain ⟨N, HN⟩ : ∃ N, Hid (zs.length = N) := ⟨_, rfl⟩
  have hN : N ≤ 1048576 := by rw [← HN.out]; exact hzl
  have HQI : Hid (∀ (X : World) a1 a2 c1 c2, OI X 0 X.heap.size a1 zs → OI X 0 X.heap.size a2 zs → Calls Try.prog 37 #[.slice a1 N c1, .slice a2 N c2] X fun e w' => e = .returned (.bool true) ∧ Below X.heap.size X w') := fun X a1 a2 c1 c2 h1 h2 => by
    rw [← HN.out]; exact eq_ints a1 a2 c1 c2 zs X h1.seg h2.seg hzl
  clear hzl
  have HB1 : Hid _ := hbw1
  have HS1 : Hid _ := B1
  have hz1 : w.heap.size < w1.heap.size := B1.lt
  clear hbw1 B1
  have c0 := HS1.out.cell 0 _ rfl
  have c1 := HS1.out.cell 1 _ rfl
  have c2 := HS1.out.cell 2 _ rfl
  have c3 := HS1.out.cell 3 _ rfl
  go_wp2_with fail
  refine Calls.mono (HE.out _ HB1.out) ?_
  rintro u w2 ⟨a2, rfl, hb2, ho2⟩
  have HO2 : Hid (ORows _ _ _ _ _ _) := ho2
  have hz2 : w1.heap.size ≤ w2.heap.size := hb2.size
  clear ho2 c0 c1 c2 c3
  have HB2 : Hid _ := HB1.out.trans (hb2.mono HB1.out.size)
  have HS2 : Hid _ := HS1.out.below hb2
  clear HB1 HS1
  clear hb2
  go_wp2_with fail
  refine Calls.mono (HSP.out _ a2 n (ORows.seg HO2.out)) ?_
  rintro u w3 ⟨a3, q3, rfl, hb3, ho3⟩
  rw [HN.out]
  have hz3 : w2.heap.size ≤ w3.heap.size := hb3.size
  have HB3 : Hid _ := HB2.out.trans (hb3.mono HB2.out.size)
  have HS3 : Hid _ := HS2.out.below hb3
  clear HB2 HS2
  have HI3 : Hid (OI _ _ _ _ _) := ho3
  clear HO2 hb3 ho3
  have c0 := HS3.out.cell 0 _ rfl
  have c1 := HS3.out.cell 1 _ rfl
  have c2 := HS3.out.cell 2 _ rfl
  have c3 := HS3.out.cell 3 _ rfl
  go_wp2_with fail
  refine Calls.mono (HE.out _ HB3.out) ?_
  rintro u w4 ⟨a4, rfl, hb4, ho4⟩
  have hal : Below w4.heap.size w4 (w4.alloc (.cells #[.int .i64 s, .int .i64 y, .int .i64 l, .slice a4 n n] 43)) := (Below.refl _ _).alloc (Nat.le_refl _) _
  have hb4' := hb4.trans (hal.mono hb4.size)
  have hz4 : w3.heap.size ≤ w4.heap.size := hb4.size
  have HB4a : Hid _ := HB3.out.trans (hb4'.mono HB3.out.size)
  have HS4a : Hid _ := HS3.out.below hb4'
  have HI4a : Hid (OI _ _ _ _ _) := OI.below HI3.out hb4'
  clear HB3 HS3 HI3
  have HX4a : Hid _ := Bk.new w4 #[.int .i64 s, .int .i64 y, .int .i64 l, .slice a4 n n] 43 w4.heap.size rfl
  have HY4a : Hid (ORows _ _ _ _ _ _) := ho4.below hal
  clear hb4 hb4' hal ho4 c0 c1 c2 c3
  have x0 := HX4a.out.cell 0 _ rfl
  have x1 := HX4a.out.cell 1 _ rfl
  have x2 := HX4a.out.cell 2 _ rfl
  have x3 := HX4a.out.cell 3 _ rfl
  go_wp2_with fail
  refine Calls.mono (HIM.out _ a4 n (ORows.seg HY4a.out)) ?_
  rintro u w5 ⟨a5, q5, rfl, hb5, ho5⟩
  rw [HN.out]
  have hz5 : w4.heap.size < w5.heap.size := by have := hb5.size; simp at this; omega
  have HB5 : Hid _ := HB4a.out.trans (hb5.mono HB4a.out.size)
  have HS5 : Hid _ := HS4a.out.below hb5
  have HI5 : Hid (OI _ _ _ _ _) := OI.below HI4a.out hb5
  have HX5 : Hid _ := HX4a.out.below hb5
  have HY5 : Hid (ORows _ _ _ _ _ _) := ORows.below HY4a.out hb5
  clear HB4a HS4a HI4a HX4a HY4a
  have HP5 : Hid (OI _ _ _ _ _) := OI.wide (l' := w4.heap.size + 1) ho5 (by simp) (Nat.le_refl _)
  clear hb5 ho5 x0 x1 x2 x3
  have hs5 : w3.heap.size ≤ w5.heap.size := by omega
  go_wp2_with fail
  refine Calls.mono (HQI.out _ a5 a3 q5 q3 (OI.wide HP5.out (Nat.zero_le _) (Nat.le_refl _)) (OI.wide HI5.out (Nat.zero_le _) hs5)) ?_
  rintro u w6 ⟨rfl, hb6⟩
  have HS56 : Hid (w5.heap.size ≤ w6.heap.size) := hb6.size
  have HB6 : Hid _ := HB5.out.trans (hb6.mono HB5.out.size)
  have HS6 : Hid _ := HS5.out.below hb6
  have HI6 : Hid (OI _ _ _ _ _) := OI.below HI5.out hb6
  have HX6 : Hid _ := HX5.out.below hb6
  have HY6 : Hid (ORows _ _ _ _ _ _) := ORows.below HY5.out hb6
  have HP6 : Hid (OI _ _ _ _ _) := OI.below HP5.out hb6
  clear HB5 HS5 HI5 HX5 HY5 HP5
  clear hb6
  have x0 := HX6.out.cell 0 _ rfl
  have x1 := HX6.out.cell 1 _ rfl
  have x2 := HX6.out.cell 2 _ rfl
  have x3 := HX6.out.cell 3 _ rfl
  have c0 := HS6.out.cell 0 _ rfl
  have c1 := HS6.out.cell 1 _ rfl
  have c2 := HS6.out.cell 2 _ rfl
  have c3 := HS6.out.cell 3 _ rfl
  have hb : Below w6.heap.size w6 w6 := Below.refl _ _
  have HE5 : Hid (∀ X, Below w6.heap.size w6 X → Calls Try.prog 29 #[cch s y l (.slice a n cap)] X fun e w' => ∃ a', e = .returned (cch s y l (.slice a' n n)) ∧ Below X.heap.size X w' ∧ RSeg w' a' n D) := fun X hX => (HE.out X (HB6.out.trans (hX.mono HB6.out.size))).mono fun e w' h => by
    obtain ⟨a', h1, h2, h3⟩ := h
    exact ⟨a', h1, h2, h3.seg⟩
  have HQ5 : Hid (∀ X a', Below w6.heap.size w6 X → RSeg X a' n D → Calls Try.prog 24 #[cch s y l (.slice a4 n n), cch s y l (.slice a' n n)] X fun e w' => e = .returned (.bool true) ∧ Below X.heap.size X w') := fun X a' hX h' => HQQ.out X a4 a' (RSeg.below (ORows.seg HY6.out) hX) h'
  go_wp2
  go_region_held3 (fun w' => w'.cell? ⟨w4.heap.size, 0, none⟩ = some (.int .i64 s) ∧ w'.cell? ⟨w4.heap.size, 1, none⟩ = some (.int .i64 y) ∧ w'.cell? ⟨w4.heap.size, 2, none⟩ = some (.int .i64 l) ∧ w'.cell? ⟨w4.heap.size, 3, none⟩ = some (.slice a4 n n) ∧ w'.cell? ⟨w.heap.size, 0, none⟩ = some (.int .i64 s) ∧ w'.cell? ⟨w.heap.size, 1, none⟩ = some (.int .i64 y) ∧ w'.cell? ⟨w.heap.size, 2, none⟩ = some (.int .i64 l) ∧ w'.cell? ⟨w.heap.size, 3, none⟩ = some (.slice a n cap)) (first | exact ⟨x0, x1, x2, x3, c0, c1, c2, c3⟩)
    (first | (go_at_call 29; refine Calls.mono (HE5.out _ (by first | exact hb | exact hb.drew)) ?_; rintro u w9 ⟨a9, rfl, hbb, hs9⟩; (first | replace hb := hb.trans (hbb.mono hb.size) | replace hb := hb.drew.trans (hbb.mono hb.drew.size)); replace x0 := kept_cell hbb x0; replace x1 := kept_cell hbb x1; replace x2 := kept_cell hbb x2; replace x3 := kept_cell hbb x3; replace c0 := kept_cell hbb c0; replace c1 := kept_cell hbb c1; replace c2 := kept_cell hbb c2; replace c3 := kept_cell hbb c3; clear hbb) | (go_at_call 24; refine Calls.mono (HQ5.out _ _ (by first | exact hb | exact hb.drew) (by first | exact hs9 | exact RSeg.below (fun h => hs9 h) (Below.refl _ _).drew)) ?_; rintro u w8 ⟨rfl, hbb⟩; (first | replace hb := hb.trans (hbb.mono hb.size) | replace hb := hb.drew.trans (hbb.mono hb.drew.size)); replace x0 := kept_cell hbb x0; replace x1 := kept_cell hbb x1; replace x2 := kept_cell hbb x2; replace x3 := kept_cell hbb x3; replace c0 := kept_cell hbb c0; replace c1 := kept_cell hbb c1; replace c2 := kept_cell hbb c2; replace c3 := kept_cell hbb c3; clear hbb hs9))
  have hb7 := hb
  have HSZ : Hid (w5.heap.size ≤ w8.heap.size) := Nat.le_trans HS56.out hb7.size
  have HB7 : Hid _ := HB6.out.trans (hb7.mono HB6.out.size)
  have HS7 : Hid _ := HS6.out.below hb7
  have HI7 : Hid (OI _ _ _ _ _) := OI.below HI6.out hb7
  have HX7 : Hid _ := HX6.out.below hb7
  have HY7 : Hid (ORows _ _ _ _ _ _) := ORows.below HY6.out hb7
  have HP7 : Hid (OI _ _ _ _ _) := OI.below HP6.out hb7
  clear HB6 HS6 HI6 HX6 HY6 HP6
  clear hb hb7 HE5 HQ5 x0 x1 x2 x3 c0 c1 c2 c3
  have hz7 : w4.heap.size < w8.heap.size := HX7.out.lt
  have hz75 : w5.heap.size ≤ w8.heap.size := HSZ.out
  have x0 := HX7.out.cell 0 _ rfl
  have x1 := HX7.out.cell 1 _ rfl
  have x2 := HX7.out.cell 2 _ rfl
  have x3 := HX7.out.cell 3 _ rfl
  go_wp2_with fail
  refine Calls.mono (mark_cache s y l w3.heap.size w4.heap.size n 1 n a4 D _ HY7.out hn1 ht (by omega) (by omega)) ?_
  rintro u w10 ⟨rfl, hb10, ho10⟩
  have HS10x : Hid (w8.heap.size ≤ w10.heap.size) := hb10.size
  clear x0 x1 x2 x3
  have HB10 : Hid _ := HB7.out.trans (hb10.below (by omega) HB7.out.size)
  have HS10 : Hid _ := HS7.out.betw hb10 (.inl (by omega))
  have HI10 : Hid (OI _ _ _ _ _) := OI.betw HI7.out hb10 (.inl (by omega))
  have HX10 : Hid _ := HX7.out.betw hb10 (.inr (by omega))
  have HY10 : Hid (ORows _ _ _ _ _ _) := ho10
  have HP10 : Hid (OI _ _ _ _ _) := OI.betw HP7.out hb10 (.inr (by omega))
  clear HB7 HS7 HI7 HX7 HY7 HP7
  clear hb10 ho10
  have hK0 : 1 + 2 * tot D n ≤ 10000000 := by omega
  obtain ⟨K0, HK0⟩ : ∃ K, Hid (1 + 2 * tot D n = K) := ⟨_, rfl⟩
  rw [HK0.out] at hK0 ⊢
  have hK0n : ¬ ((K0 : Int) < 0) := by omega
  have hs10 : w5.heap.size ≤ w10.heap.size := Nat.le_trans hz75 HS10x.out
  go_wp2_with fail
  refine Calls.mono (HQI.out _ a5 a3 q5 q3 (OI.wide HP10.out (Nat.zero_le _) hs10) (OI.wide HI10.out (Nat.zero_le _) (Nat.le_trans hs5 hs10))) ?_
  rintro u w11 ⟨rfl, hb11⟩
  have hs11 : w5.heap.size ≤ w11.heap.size := Nat.le_trans hs10 hb11.size
  clear HX10 HY10
  have HB11 : Hid _ := HB10.out.trans (hb11.mono HB10.out.size)
  have HS11 : Hid _ := HS10.out.below hb11
  have HI11 : Hid (OI _ _ _ _ _) := OI.below HI10.out hb11
  have HP11 : Hid (OI _ _ _ _ _) := OI.below HP10.out hb11
  clear HB10 HS10 HI10 HP10
  clear hb11
  go_wp2_with fail
  refine Calls.mono (mark_ints (w4.heap.size + 1) w5.heap.size q5 N 1 a5 zs _ HP11.out HN.out hN (by omega)) ?_
  rintro u w12 ⟨rfl, hb12, ho12⟩
  have hs12 : w5.heap.size ≤ w12.heap.size := Nat.le_trans hs11 hb12.size
  have HB12 : Hid _ := HB11.out.trans (hb12.below (by omega) HB11.out.size)
  have HS12 : Hid _ := HS11.out.betw hb12 (.inl (by omega))
  have HI12 : Hid (OI _ _ _ _ _) := OI.betw HI11.out hb12 (.inl (by omega))
  have HP12 : Hid (OI _ _ _ _ _) := ho12
  clear HB11 HS11 HI11 HP11
  clear hb12 ho12
  have hK : 1 + N ≤ 10000000 := by omega
  obtain ⟨K, HK⟩ : ∃ K, Hid (1 + N = K) := ⟨_, rfl⟩
  rw [HK.out] at hK ⊢
  go_wp2_with fail
  refine Calls.mono (held_ints a5 q5 N 1 _ (OI.seg HP12.out) hN (by omega)) ?_
  rintro u w13 ⟨rfl, rfl⟩
  rw [HK.out]
  have c0 := HS12.out.cell 0 _ rfl
  have c1 := HS12.out.cell 1 _ rfl
  have c2 := HS12.out.cell 2 _ rfl
  have c3 := HS12.out.cell 3 _ rfl
  go_wp2_with fail
  refine Calls.mono (HE.out _ HB12.out) ?_
  rintro u w14 ⟨a14, rfl, hb14, ho14⟩
  have HO14x : Hid (ORows _ _ _ _ _ _) := ho14
  have hs14 := Nat.le_trans hs12 hb14.size
  clear ho14 c0 c1 c2 c3
  have HB14 : Hid _ := HB12.out.trans (hb14.mono HB12.out.size)
  have HS14 : Hid _ := HS12.out.below hb14
  have HI14 : Hid (OI _ _ _ _ _) := OI.below HI12.out hb14
  have HP14 : Hid (OI _ _ _ _ _) := OI.below HP12.out hb14
  clear HB12 HS12 HI12 HP12
  clear hb14
  go_wp2_with fail
  refine Calls.mono (HIM.out _ a14 n (ORows.seg HO14x.out)) ?_
  rintro u w15 ⟨a15, q15, rfl, hb15, ho15⟩
  rw [HN.out]
  have hs15 := Nat.le_trans hs14 hb15.size
  have HB15 : Hid _ := HB14.out.trans (hb15.mono HB14.out.size)
  have HS15 : Hid _ := HS14.out.below hb15
  have HI15 : Hid (OI _ _ _ _ _) := OI.below HI14.out hb15
  have HP15 : Hid (OI _ _ _ _ _) := OI.below HP14.out hb15
  clear HB14 HS14 HI14 HP14
  have HR15 : Hid (OI _ _ _ _ _) := ho15
  clear hb15 ho15 HO14x
  go_wp2_with fail
  refine Calls.mono (HQI.out _ a15 a3 q15 q3 (OI.wide HR15.out (Nat.zero_le _) (Nat.le_refl _)) (OI.wide HI15.out (Nat.zero_le _) (Nat.le_trans hs5 hs15))) ?_
  rintro u w16 ⟨rfl, hb16⟩
  clear HR15
  have HB16 : Hid _ := HB15.out.trans (hb16.mono HB15.out.size)
  have HS16 : Hid _ := HS15.out.below hb16
  have HI16 : Hid (OI _ _ _ _ _) := OI.below HI15.out hb16
  have HP16 : Hid (OI _ _ _ _ _) := OI.below HP15.out hb16
  clear HB15 HS15 HI15 HP15
  clear hb16
  go_wp2_with fail
  refine Calls.mono (held_ints a5 q5 N 1 _ (OI.seg HP16.out) hN (by omega)) ?_
  rintro u w17 ⟨rfl, rfl⟩
  rw [HK.out]
  go_wp2
  go_ret
  exact ⟨rfl, HB16.out⟩

/-! ### The row -/
set_option maxRecDepth 100000 in
theorem lifted (os : Os) (started : os.Started) (H : Type) (enc : TypeId × Value → H) :
    ReturnsInHanded {} Try.checked os 10 .any (Rows.fnExactCacheLinesSpec.pre6 enc Try.prog Try.f10 Rows.fnExactCacheLinesRow.domain false) (Rows.fnExactCacheLinesSpec.post enc Try.prog Try.f10 false true false false) := by
  refine returnsInHanded_of_change (C := Try.checked) own started (by kernel_rfl) Try.func10
    (ChangeSpec.witness6 (enc := enc) (C := Try.checked) false ⟨#[], #[cch 0 0 0 (.slice none 0 0)], []⟩ 8 (by kernel_rfl) (by kernel_rfl) (by kernel_rfl) (by kernel_rfl)) ?_
  intro W base args ds gs before hval0 hW hcnd _
  have hval : ∀ (j : Nat) t v, Try.f10.params[j]? = some t → args[j]? = some v → Value.okWide Try.prog W .any base t v := hval0
  have hW' := hW
  obtain ⟨p, q, hA0, hV, rfl, hfz, hnd⟩ := hW
  have hA : DataW.TrodAll enc Try.prog W 0 (fun _ => true) true Try.f10.params.toList args.toList ds p := hA0
  rw [Try.params10] at hA hval
  obtain ⟨v0, vs0, d0, ds0, p0, q0, hargs, rfl, rfl, h0, r0⟩ := trodAll_cons hA
  obtain ⟨rfl, rfl, rfl⟩ := trodAll_nil r0
  obtain rfl : args = #[v0] := by cases args; simp_all
  obtain ⟨rfl, rfl⟩ := trodVars_none hV
  have k0 := h0
  have lt0 : ∀ x ∈ p0, x.block < W.heap.size := by obtain ⟨m, hm⟩ := k0; exact DataW.trod_lt m _ _ _ hm
  obtain ⟨s, y, l, a, n, c, D, rfl, hs, hn, hD⟩ := cache_open (hval 0 49 v0 rfl rfl) h0
  clear hA0 hval0
  refine (walk s y l a c n D W hs hn hD).mono fun e W' ⟨he, bel⟩ => ?_
  subst he
  exact ⟨_, rfl, _, _, _, [], _, [], hW', (trodAll_cons_mk (shut_bool Try.underlying4 _) trodAll_mk0), (trodAll_cons_mk (Below.trod laidOut (by kernel_rfl) (of_decide_eq_true (by kernel_rfl)) k0 bel lt0) trodAll_mk0), rfl, bel.frame _, fun h => by cases h⟩

theorem over : Rows.fnExactCacheLinesRow.holds Try.pinned (OpenSpec.ofChange Rows.fnExactCacheLinesSpec) :=
  OpenClaim.holds_of_wide 10 Try.f10 rfl rfl rfl rfl rfl rfl rfl ⟨rfl, rfl, rfl, rfl, rfl⟩ rfl rfl rfl rfl rfl (by kernel_rfl) Try.func10 (by kernel_rfl)
    (of_decide_eq_true (by kernel_rfl)) (by unfold Func.isWrapper; first | (rw [if_pos (by decide +kernel)]; kernel_rfl) | (rw [if_neg (by decide +kernel)]; exact ⟨rfl, rfl⟩))
    (fun os started H enc _ => lifted os started H enc)

end Go.Proofs.Ythnoccegakglaaa.fnExactCacheLines
namespace Go.Proofs.Ythnoccegakglaaa
theorem FnExactCacheLines_holds : Rows.FnExactCacheLinesSaid := fnExactCacheLines.over
end Go.Proofs.Ythnoccegakglaaa
