/-
  At every cache, every number and either truth value CacheUse answers as its model, in memory of its own, and leaves its argument as it was: the law FnExactCacheUse returns true and its arguments read as before. No conditions.
  Built over the program of the commit that COMMIT names.
-/
import Derived.Test.YtifgmgehnbkbjaaRows
import Derived.WalkKit
import Derived.ProofKit
import Derived.OpenShut
import Derived.Below
import Derived.Carry
import Derived.Test.YtifgmgehnbkbjaaWop
import Derived.Test.YtifgmgehnbkbjaaWto
import Derived.Test.YtifgmgehnbkbjaaWsz
import Derived.Test.YtifgmgehnbkbjaaCua
import Derived.Test.YtifgmgehnbkbjaaWmk
import Derived.ShutString
namespace Go.Proofs.Ytifgmgehnbkbjaa.fnExactCacheUse
open Go.ChangeShapes Go.WideShapes Go.ChangeAt Go.RowKit
set_option linter.unusedVariables false

theorem own : ownKnob Try.prog.godebug = none := by kernel_rfl

/-! ### The walk -/
set_option maxHeartbeats 8000000 in
theorem walk (s y l : Int) (a : Option Addr) (cap n : Nat) (D : Nat → List Wy) (x : Int) (qw : Bool) (w : World) (hs : RSeg w a n D) (hn : n ≤ 9223372036854775807) (hD : ∀ i, i < n → (D i).length ≤ 9223372036854775807) :
    Calls Try.prog 8 #[cch s y l (.slice a n cap), .int .i64 x, .bool qw] w fun e w' => e = .returned (.bool true) ∧ Below w.heap.size w w' := by
  have HS : Hid _ := And.intro hs hD
  clear hs hD
  go_enter Try.func8, Try.ntmps8
  go_wp2_with fail
  refine Calls.mono (sz_cache s y l a cap n D _ (RSeg.below HS.out.1 ((Below.refl _ w).alloc (Nat.le_refl _) _)) hn HS.out.2) ?_
  rintro u w1 ⟨⟨r, rfl, hr⟩, hb1⟩
  have hbw1 := ((Below.refl _ w).alloc (Nat.le_refl _) (.cells #[.int .i64 s, .int .i64 y, .int .i64 l, .slice a n cap] 49)).trans (hb1.mono (by simp))
  have B1 := (Bk.new w #[.int .i64 s, .int .i64 y, .int .i64 l, .slice a n cap] 49 w.heap.size rfl).below hb1
  clear hb1
  rcases hr with hr | ⟨hr, hn1, ht⟩
  · have HB : Hid _ := hbw1
    clear B1 hbw1
    go_wp2
    go_ret
    exact ⟨rfl, HB.out⟩
  have hr0 : ¬ (r < 0) := by omega
  have HE : Hid (∀ X, Below w.heap.size w X → Calls Try.prog 29 #[cch s y l (.slice a n cap)] X fun e w' => ∃ a', e = .returned (cch s y l (.slice a' n n)) ∧ Below X.heap.size X w' ∧ ORows w' X.heap.size w'.heap.size a' n D) := fun X hX => to_cache s y l a cap n D X (RSeg.below HS.out.1 hX) hn1 ht
  have HQQ : Hid (∀ (X : World) a1 a2, RSeg X a1 n D → RSeg X a2 n D → Calls Try.prog 24 #[cch s y l (.slice a1 n n), cch s y l (.slice a2 n n)] X fun e w' => e = .returned (.bool true) ∧ Below X.heap.size X w') := fun X a1 a2 h1 h2 => eq_cache s y l a1 a2 n n n D X h1 h2 hn1 ht
  obtain ⟨s1, y1, l1, n1, E, p1, p2, hn1', ht1', hsp, him⟩ := cu_alike s y l x qw n D hn1 ht
  have HSP : Hid _ := hsp
  have HIM : Hid _ := him
  have hpp1 : (p1 == p1) = true := by simp
  have hpp2 : (p2 == p2) = true := by simp
  clear hsp him
  have HB1 : Hid _ := hbw1
  have HS1 : Hid _ := B1
  have hz1 : w.heap.size < w1.heap.size := B1.lt
  clear hbw1 B1
  have c0 := HS1.out.cell 0 _ rfl
  have c1 := HS1.out.cell 1 _ rfl
  have c2 := HS1.out.cell 2 _ rfl
  have c3 := HS1.out.cell 3 _ rfl
  go_wp2_with fail
  refine Calls.mono (HE.out _ HB1.out) ?_
  rintro u w2 ⟨a2, rfl, hb2, ho2⟩
  have HO2 : Hid (ORows _ _ _ _ _ _) := ho2
  have hz2 : w1.heap.size ≤ w2.heap.size := hb2.size
  clear ho2 c0 c1 c2 c3
  have HB2 : Hid _ := HB1.out.trans (hb2.mono HB1.out.size)
  have HS2 : Hid _ := HS1.out.below hb2
  clear HB1 HS1
  clear hb2
  go_wp2_with fail
  refine Calls.mono (HSP.out _ a2 n (ORows.seg HO2.out)) ?_
  rintro u w3 ⟨a3, q3, rfl, hb3, ho3⟩
  have hal : Below w3.heap.size w3 (w3.alloc (.cells #[.int .i64 s1, .int .i64 y1, .int .i64 l1, .slice a3 n1 q3] 43)) := (Below.refl _ _).alloc (Nat.le_refl _) _
  have hb3' := hb3.trans (hal.mono hb3.size)
  have hz3 : w2.heap.size ≤ w3.heap.size := hb3.size
  have HB3a : Hid _ := HB2.out.trans (hb3'.mono HB2.out.size)
  have HS3a : Hid _ := HS2.out.below hb3'
  clear HB2 HS2
  have HV3a : Hid _ := Bk.new w3 #[.int .i64 s1, .int .i64 y1, .int .i64 l1, .slice a3 n1 q3] 43 w3.heap.size rfl
  have HO3a : Hid (ORows _ _ _ _ _ _) := ho3.below hal
  clear HO2 hb3 hb3' hal ho3
  have c0 := HS3a.out.cell 0 _ rfl
  have c1 := HS3a.out.cell 1 _ rfl
  have c2 := HS3a.out.cell 2 _ rfl
  have c3 := HS3a.out.cell 3 _ rfl
  go_wp2_with fail
  refine Calls.mono (HE.out _ HB3a.out) ?_
  rintro u w4 ⟨a4, rfl, hb4, ho4⟩
  have hal : Below w4.heap.size w4 (w4.alloc (.cells #[.int .i64 s, .int .i64 y, .int .i64 l, .slice a4 n n] 43)) := (Below.refl _ _).alloc (Nat.le_refl _) _
  have hb4' := hb4.trans (hal.mono hb4.size)
  have hz4 : w3.heap.size < w4.heap.size := by have := hb4.size; simp at this; omega
  have HB4a : Hid _ := HB3a.out.trans (hb4'.mono HB3a.out.size)
  have HS4a : Hid _ := HS3a.out.below hb4'
  have HV4a : Hid _ := HV3a.out.below hb4'
  have HO4a : Hid (ORows _ _ _ _ _ _) := ORows.below HO3a.out hb4'
  clear HB3a HS3a HV3a HO3a
  have HX4a : Hid _ := Bk.new w4 #[.int .i64 s, .int .i64 y, .int .i64 l, .slice a4 n n] 43 w4.heap.size rfl
  have HY4a : Hid (ORows _ _ _ _ _ _) := ORows.wide (l' := w3.heap.size + 1) (ho4.below hal) (by simp) (Nat.le_refl _)
  clear hb4 hb4' hal ho4 c0 c1 c2 c3
  have x0 := HX4a.out.cell 0 _ rfl
  have x1 := HX4a.out.cell 1 _ rfl
  have x2 := HX4a.out.cell 2 _ rfl
  have x3 := HX4a.out.cell 3 _ rfl
  go_wp2_with fail
  refine Calls.mono (HIM.out _ a4 n (ORows.seg HY4a.out)) ?_
  rintro u w5 ⟨a5, q5, rfl, hb5, ho5⟩
  have hal : Below w5.heap.size w5 (w5.alloc (.cells #[.int .i64 s1, .int .i64 y1, .int .i64 l1, .slice a5 n1 q5] 43)) := (Below.refl _ _).alloc (Nat.le_refl _) _
  have hb5' := hb5.trans (hal.mono hb5.size)
  have hz5 : w4.heap.size < w5.heap.size := by have := hb5.size; simp at this; omega
  have HB5a : Hid _ := HB4a.out.trans (hb5'.mono HB4a.out.size)
  have HS5a : Hid _ := HS4a.out.below hb5'
  have HV5a : Hid _ := HV4a.out.below hb5'
  have HO5a : Hid (ORows _ _ _ _ _ _) := ORows.below HO4a.out hb5'
  have HX5a : Hid _ := HX4a.out.below hb5'
  have HY5a : Hid (ORows _ _ _ _ _ _) := ORows.below HY4a.out hb5'
  clear HB4a HS4a HV4a HO4a HX4a HY4a
  have HG5a : Hid _ := Bk.new w5 #[.int .i64 s1, .int .i64 y1, .int .i64 l1, .slice a5 n1 q5] 43 w5.heap.size rfl
  have HP5a : Hid (ORows _ _ _ _ _ _) := ORows.wide (l' := w4.heap.size + 1) (ho5.below hal) (by simp) (Nat.le_refl _)
  clear hb5 hb5' hal ho5 x0 x1 x2 x3
  have g0 := HG5a.out.cell 0 _ rfl
  have g1 := HG5a.out.cell 1 _ rfl
  have g2 := HG5a.out.cell 2 _ rfl
  have g3 := HG5a.out.cell 3 _ rfl
  have v0 := HV5a.out.cell 0 _ rfl
  have v1 := HV5a.out.cell 1 _ rfl
  have v2 := HV5a.out.cell 2 _ rfl
  have v3 := HV5a.out.cell 3 _ rfl
  go_wp2_with fail
  refine Calls.mono (eq_cache s1 y1 l1 a5 a3 q5 q3 n1 E _ (ORows.seg HP5a.out) (ORows.seg HO5a.out) hn1' ht1') ?_
  rintro u w6 ⟨rfl, hb6⟩
  clear g0 g1 g2 g3 v0 v1 v2 v3
  have HB6 : Hid _ := HB5a.out.trans (hb6.mono HB5a.out.size)
  have HS6 : Hid _ := HS5a.out.below hb6
  have HV6 : Hid _ := HV5a.out.below hb6
  have HO6 : Hid (ORows _ _ _ _ _ _) := ORows.below HO5a.out hb6
  have HX6 : Hid _ := HX5a.out.below hb6
  have HY6 : Hid (ORows _ _ _ _ _ _) := ORows.below HY5a.out hb6
  have HG6 : Hid _ := HG5a.out.below hb6
  have HP6 : Hid (ORows _ _ _ _ _ _) := ORows.below HP5a.out hb6
  clear HB5a HS5a HV5a HO5a HX5a HY5a HG5a HP5a
  clear hb6
  have x0 := HX6.out.cell 0 _ rfl
  have x1 := HX6.out.cell 1 _ rfl
  have x2 := HX6.out.cell 2 _ rfl
  have x3 := HX6.out.cell 3 _ rfl
  have c0 := HS6.out.cell 0 _ rfl
  have c1 := HS6.out.cell 1 _ rfl
  have c2 := HS6.out.cell 2 _ rfl
  have c3 := HS6.out.cell 3 _ rfl
  have hb : Below w6.heap.size w6 w6 := Below.refl _ _
  have HE5 : Hid (∀ X, Below w6.heap.size w6 X → Calls Try.prog 29 #[cch s y l (.slice a n cap)] X fun e w' => ∃ a', e = .returned (cch s y l (.slice a' n n)) ∧ Below X.heap.size X w' ∧ RSeg w' a' n D) := fun X hX => (HE.out X (HB6.out.trans (hX.mono HB6.out.size))).mono fun e w' h => by
    obtain ⟨a', h1, h2, h3⟩ := h
    exact ⟨a', h1, h2, h3.seg⟩
  have HQ5 : Hid (∀ X a', Below w6.heap.size w6 X → RSeg X a' n D → Calls Try.prog 24 #[cch s y l (.slice a4 n n), cch s y l (.slice a' n n)] X fun e w' => e = .returned (.bool true) ∧ Below X.heap.size X w') := fun X a' hX h' => HQQ.out X a4 a' (RSeg.below (ORows.seg HY6.out) hX) h'
  go_wp2
  go_region_held3 (fun w' => w'.cell? ⟨w4.heap.size, 0, none⟩ = some (.int .i64 s) ∧ w'.cell? ⟨w4.heap.size, 1, none⟩ = some (.int .i64 y) ∧ w'.cell? ⟨w4.heap.size, 2, none⟩ = some (.int .i64 l) ∧ w'.cell? ⟨w4.heap.size, 3, none⟩ = some (.slice a4 n n) ∧ w'.cell? ⟨w.heap.size, 0, none⟩ = some (.int .i64 s) ∧ w'.cell? ⟨w.heap.size, 1, none⟩ = some (.int .i64 y) ∧ w'.cell? ⟨w.heap.size, 2, none⟩ = some (.int .i64 l) ∧ w'.cell? ⟨w.heap.size, 3, none⟩ = some (.slice a n cap)) (first | exact ⟨x0, x1, x2, x3, c0, c1, c2, c3⟩)
    (first | (go_at_call 29; refine Calls.mono (HE5.out _ (by first | exact hb | exact hb.drew)) ?_; rintro u w9 ⟨a9, rfl, hbb, hs9⟩; (first | replace hb := hb.trans (hbb.mono hb.size) | replace hb := hb.drew.trans (hbb.mono hb.drew.size)); replace x0 := kept_cell hbb x0; replace x1 := kept_cell hbb x1; replace x2 := kept_cell hbb x2; replace x3 := kept_cell hbb x3; replace c0 := kept_cell hbb c0; replace c1 := kept_cell hbb c1; replace c2 := kept_cell hbb c2; replace c3 := kept_cell hbb c3; clear hbb) | (go_at_call 24; refine Calls.mono (HQ5.out _ _ (by first | exact hb | exact hb.drew) (by first | exact hs9 | exact RSeg.below (fun h => hs9 h) (Below.refl _ _).drew)) ?_; rintro u w8 ⟨rfl, hbb⟩; (first | replace hb := hb.trans (hbb.mono hb.size) | replace hb := hb.drew.trans (hbb.mono hb.drew.size)); replace x0 := kept_cell hbb x0; replace x1 := kept_cell hbb x1; replace x2 := kept_cell hbb x2; replace x3 := kept_cell hbb x3; replace c0 := kept_cell hbb c0; replace c1 := kept_cell hbb c1; replace c2 := kept_cell hbb c2; replace c3 := kept_cell hbb c3; clear hbb hs9))
  have hb7 := hb
  have HB7 : Hid _ := HB6.out.trans (hb7.mono HB6.out.size)
  have HS7 : Hid _ := HS6.out.below hb7
  have HV7 : Hid _ := HV6.out.below hb7
  have HO7 : Hid (ORows _ _ _ _ _ _) := ORows.below HO6.out hb7
  have HX7 : Hid _ := HX6.out.below hb7
  have HY7 : Hid (ORows _ _ _ _ _ _) := ORows.below HY6.out hb7
  have HG7 : Hid _ := HG6.out.below hb7
  have HP7 : Hid (ORows _ _ _ _ _ _) := ORows.below HP6.out hb7
  clear HB6 HS6 HV6 HO6 HX6 HY6 HG6 HP6
  clear hb hb7 HE5 HQ5 x0 x1 x2 x3 c0 c1 c2 c3
  have hz7 : w5.heap.size < w8.heap.size := HG7.out.lt
  have x0 := HX7.out.cell 0 _ rfl
  have x1 := HX7.out.cell 1 _ rfl
  have x2 := HX7.out.cell 2 _ rfl
  have x3 := HX7.out.cell 3 _ rfl
  go_wp2_with fail
  refine Calls.mono (mark_cache s y l (w3.heap.size + 1) w4.heap.size n 1 n a4 D _ HY7.out hn1 ht (by omega) (by omega)) ?_
  rintro u w10 ⟨rfl, hb10, ho10⟩
  clear x0 x1 x2 x3
  have HB10 : Hid _ := HB7.out.trans (hb10.below (by omega) HB7.out.size)
  have HS10 : Hid _ := HS7.out.betw hb10 (.inl (by omega))
  have HV10 : Hid _ := HV7.out.betw hb10 (.inl (by omega))
  have HO10 : Hid (ORows _ _ _ _ _ _) := ORows.betw HO7.out hb10 (.inl (by omega))
  have HX10 : Hid _ := HX7.out.betw hb10 (.inr (by omega))
  have HY10 : Hid (ORows _ _ _ _ _ _) := ho10
  have HG10 : Hid _ := HG7.out.betw hb10 (.inr (by omega))
  have HP10 : Hid (ORows _ _ _ _ _ _) := ORows.betw HP7.out hb10 (.inr (by omega))
  clear HB7 HS7 HV7 HO7 HX7 HY7 HG7 HP7
  clear hb10 ho10
  have hK0 : 1 + 2 * tot D n ≤ 10000000 := by omega
  obtain ⟨K0, HK0⟩ : ∃ K, Hid (1 + 2 * tot D n = K) := ⟨_, rfl⟩
  rw [HK0.out] at hK0 ⊢
  have hK0n : ¬ ((K0 : Int) < 0) := by omega
  have g0 := HG10.out.cell 0 _ rfl
  have g1 := HG10.out.cell 1 _ rfl
  have g2 := HG10.out.cell 2 _ rfl
  have g3 := HG10.out.cell 3 _ rfl
  have v0 := HV10.out.cell 0 _ rfl
  have v1 := HV10.out.cell 1 _ rfl
  have v2 := HV10.out.cell 2 _ rfl
  have v3 := HV10.out.cell 3 _ rfl
  go_wp2_with fail
  refine Calls.mono (eq_cache s1 y1 l1 a5 a3 q5 q3 n1 E _ (ORows.seg HP10.out) (ORows.seg HO10.out) hn1' ht1') ?_
  rintro u w11 ⟨rfl, hb11⟩
  clear g0 g1 g2 g3 v0 v1 v2 v3
  have HB11 : Hid _ := HB10.out.trans (hb11.mono HB10.out.size)
  have HS11 : Hid _ := HS10.out.below hb11
  have HV11 : Hid _ := HV10.out.below hb11
  have HO11 : Hid (ORows _ _ _ _ _ _) := ORows.below HO10.out hb11
  have HX11 : Hid _ := HX10.out.below hb11
  have HY11 : Hid (ORows _ _ _ _ _ _) := ORows.below HY10.out hb11
  have HG11 : Hid _ := HG10.out.below hb11
  have HP11 : Hid (ORows _ _ _ _ _ _) := ORows.below HP10.out hb11
  clear HB10 HS10 HV10 HO10 HX10 HY10 HG10 HP10
  clear hb11
  have hz11 : w5.heap.size < w11.heap.size := HG11.out.lt
  have g0 := HG11.out.cell 0 _ rfl
  have g1 := HG11.out.cell 1 _ rfl
  have g2 := HG11.out.cell 2 _ rfl
  have g3 := HG11.out.cell 3 _ rfl
  go_wp2_with fail
  refine Calls.mono (mark_cache s1 y1 l1 (w4.heap.size + 1) w5.heap.size q5 1 n1 a5 E _ HP11.out hn1' ht1' (by omega) (by omega)) ?_
  rintro u w12 ⟨rfl, hb12, ho12⟩
  clear g0 g1 g2 g3 HX11 HY11
  have HB12 : Hid _ := HB11.out.trans (hb12.below (by omega) HB11.out.size)
  have HS12 : Hid _ := HS11.out.betw hb12 (.inl (by omega))
  have HV12 : Hid _ := HV11.out.betw hb12 (.inl (by omega))
  have HO12 : Hid (ORows _ _ _ _ _ _) := ORows.betw HO11.out hb12 (.inl (by omega))
  have HG12 : Hid _ := HG11.out.betw hb12 (.inr (by omega))
  have HP12 : Hid (ORows _ _ _ _ _ _) := ho12
  clear HB11 HS11 HV11 HO11 HG11 HP11
  clear hb12 ho12
  have hK : 1 + 2 * tot E n1 ≤ 10000000 := by omega
  obtain ⟨K, HK⟩ : ∃ K, Hid (1 + 2 * tot E n1 = K) := ⟨_, rfl⟩
  rw [HK.out] at hK ⊢
  have g0 := HG12.out.cell 0 _ rfl
  have g1 := HG12.out.cell 1 _ rfl
  have g2 := HG12.out.cell 2 _ rfl
  have g3 := HG12.out.cell 3 _ rfl
  go_wp2_with fail
  refine Calls.mono (held_cache s1 y1 l1 q5 1 n1 a5 E _ (ORows.seg HP12.out) hn1' ht1' (by omega)) ?_
  rintro u w13 ⟨rfl, hb13⟩
  rw [HK.out]
  clear g0 g1 g2 g3
  have HB13 : Hid _ := HB12.out.trans (hb13.mono HB12.out.size)
  have HS13 : Hid _ := HS12.out.below hb13
  have HV13 : Hid _ := HV12.out.below hb13
  have HO13 : Hid (ORows _ _ _ _ _ _) := ORows.below HO12.out hb13
  have HG13 : Hid _ := HG12.out.below hb13
  have HP13 : Hid (ORows _ _ _ _ _ _) := ORows.below HP12.out hb13
  clear HB12 HS12 HV12 HO12 HG12 HP12
  clear hb13
  have c0 := HS13.out.cell 0 _ rfl
  have c1 := HS13.out.cell 1 _ rfl
  have c2 := HS13.out.cell 2 _ rfl
  have c3 := HS13.out.cell 3 _ rfl
  go_wp2_with fail
  refine Calls.mono (HE.out _ HB13.out) ?_
  rintro u w14 ⟨a14, rfl, hb14, ho14⟩
  have HO14x : Hid (ORows _ _ _ _ _ _) := ho14
  clear ho14 c0 c1 c2 c3
  have HB14 : Hid _ := HB13.out.trans (hb14.mono HB13.out.size)
  have HS14 : Hid _ := HS13.out.below hb14
  have HV14 : Hid _ := HV13.out.below hb14
  have HO14 : Hid (ORows _ _ _ _ _ _) := ORows.below HO13.out hb14
  have HG14 : Hid _ := HG13.out.below hb14
  have HP14 : Hid (ORows _ _ _ _ _ _) := ORows.below HP13.out hb14
  clear HB13 HS13 HV13 HO13 HG13 HP13
  clear hb14
  go_wp2_with fail
  refine Calls.mono (HIM.out _ a14 n (ORows.seg HO14x.out)) ?_
  rintro u w15 ⟨a15, q15, rfl, hb15, ho15⟩
  have hal : Below w15.heap.size w15 (w15.alloc (.cells #[.int .i64 s1, .int .i64 y1, .int .i64 l1, .slice a15 n1 q15] 43)) := (Below.refl _ _).alloc (Nat.le_refl _) _
  have hb15' := hb15.trans (hal.mono hb15.size)
  have HB15a : Hid _ := HB14.out.trans (hb15'.mono HB14.out.size)
  have HS15a : Hid _ := HS14.out.below hb15'
  have HV15a : Hid _ := HV14.out.below hb15'
  have HO15a : Hid (ORows _ _ _ _ _ _) := ORows.below HO14.out hb15'
  have HG15a : Hid _ := HG14.out.below hb15'
  have HP15a : Hid (ORows _ _ _ _ _ _) := ORows.below HP14.out hb15'
  clear HB14 HS14 HV14 HO14 HG14 HP14
  have HH15a : Hid _ := Bk.new w15 #[.int .i64 s1, .int .i64 y1, .int .i64 l1, .slice a15 n1 q15] 43 w15.heap.size rfl
  have HR15a : Hid (ORows _ _ _ _ _ _) := ho15.below hal
  clear hb15 hb15' hal ho15 HO14x
  have h0 := HH15a.out.cell 0 _ rfl
  have h1 := HH15a.out.cell 1 _ rfl
  have h2 := HH15a.out.cell 2 _ rfl
  have h3 := HH15a.out.cell 3 _ rfl
  have v0 := HV15a.out.cell 0 _ rfl
  have v1 := HV15a.out.cell 1 _ rfl
  have v2 := HV15a.out.cell 2 _ rfl
  have v3 := HV15a.out.cell 3 _ rfl
  go_wp2_with fail
  refine Calls.mono (eq_cache s1 y1 l1 a15 a3 q15 q3 n1 E _ (ORows.seg HR15a.out) (ORows.seg HO15a.out) hn1' ht1') ?_
  rintro u w16 ⟨rfl, hb16⟩
  clear h0 h1 h2 h3 v0 v1 v2 v3 HH15a HR15a
  have HB16 : Hid _ := HB15a.out.trans (hb16.mono HB15a.out.size)
  have HS16 : Hid _ := HS15a.out.below hb16
  have HV16 : Hid _ := HV15a.out.below hb16
  have HO16 : Hid (ORows _ _ _ _ _ _) := ORows.below HO15a.out hb16
  have HG16 : Hid _ := HG15a.out.below hb16
  have HP16 : Hid (ORows _ _ _ _ _ _) := ORows.below HP15a.out hb16
  clear HB15a HS15a HV15a HO15a HG15a HP15a
  clear hb16
  have g0 := HG16.out.cell 0 _ rfl
  have g1 := HG16.out.cell 1 _ rfl
  have g2 := HG16.out.cell 2 _ rfl
  have g3 := HG16.out.cell 3 _ rfl
  go_wp2_with fail
  refine Calls.mono (held_cache s1 y1 l1 q5 1 n1 a5 E _ (ORows.seg HP16.out) hn1' ht1' (by omega)) ?_
  rintro u w17 ⟨rfl, hb17⟩
  rw [HK.out]
  clear g0 g1 g2 g3
  have HB17 : Hid _ := HB16.out.trans (hb17.mono HB16.out.size)
  have HS17 : Hid _ := HS16.out.below hb17
  have HV17 : Hid _ := HV16.out.below hb17
  have HO17 : Hid (ORows _ _ _ _ _ _) := ORows.below HO16.out hb17
  have HG17 : Hid _ := HG16.out.below hb17
  have HP17 : Hid (ORows _ _ _ _ _ _) := ORows.below HP16.out hb17
  clear HB16 HS16 HV16 HO16 HG16 HP16
  clear hb17
  go_wp2
  go_ret
  exact ⟨rfl, HB17.out⟩

/-! ### The row -/
set_option maxRecDepth 100000 in
theorem lifted (os : Os) (started : os.Started) (H : Type) (enc : TypeId × Value → H) :
    ReturnsInHanded {} Try.checked os 8 .any (Rows.fnExactCacheUseSpec.pre6 enc Try.prog Try.f8 Rows.fnExactCacheUseRow.domain false) (Rows.fnExactCacheUseSpec.post enc Try.prog Try.f8 false true false false) := by
  refine returnsInHanded_of_change (C := Try.checked) own started (by kernel_rfl) Try.func8
    (ChangeSpec.witness6 (enc := enc) (C := Try.checked) false ⟨#[], #[cch 0 0 0 (.slice none 0 0), .int .i64 0, .bool false], []⟩ 8 (by kernel_rfl) (by kernel_rfl) (by kernel_rfl) (by kernel_rfl)) ?_
  intro W base args ds gs before hval0 hW hcnd _
  have hval : ∀ (j : Nat) t v, Try.f8.params[j]? = some t → args[j]? = some v → Value.okWide Try.prog W .any base t v := hval0
  have hW' := hW
  obtain ⟨p, q, hA0, hV, rfl, hfz, hnd⟩ := hW
  have hA : DataW.TrodAll enc Try.prog W 0 (fun _ => true) true Try.f8.params.toList args.toList ds p := hA0
  rw [Try.params8] at hA hval
  obtain ⟨v0, vs0, d0, ds0, p0, q0, hargs, rfl, rfl, h0, r0⟩ := trodAll_cons hA
  obtain ⟨v1, vs1, d1, ds1, p1, q1, rfl, rfl, rfl, h1, r1⟩ := trodAll_cons r0
  obtain ⟨v2, vs2, d2, ds2, p2, q2, rfl, rfl, rfl, h2, r2⟩ := trodAll_cons r1
  obtain ⟨rfl, rfl, rfl⟩ := trodAll_nil r2
  obtain rfl : args = #[v0, v1, v2] := by cases args; simp_all
  obtain ⟨rfl, rfl⟩ := trodVars_none hV
  have k0 := h0
  have lt0 : ∀ x ∈ p0, x.block < W.heap.size := by obtain ⟨m, hm⟩ := k0; exact DataW.trod_lt m _ _ _ hm
  have k1 := h1
  have lt1 : ∀ x ∈ p1, x.block < W.heap.size := by obtain ⟨m, hm⟩ := k1; exact DataW.trod_lt m _ _ _ hm
  have k2 := h2
  have lt2 : ∀ x ∈ p2, x.block < W.heap.size := by obtain ⟨m, hm⟩ := k2; exact DataW.trod_lt m _ _ _ hm
  obtain ⟨s, y, l, a, n, c, D, rfl, hs, hn, hD⟩ := cache_open (hval 0 49 v0 rfl rfl) h0
  obtain ⟨x1, rfl, rfl, rfl, w1⟩ := open_int Try.underlying3 (hval 1 3 v1 rfl rfl) h1
  obtain ⟨b2, rfl, rfl, rfl⟩ := open_bool Try.underlying4 (hval 2 4 v2 rfl rfl) h2
  clear hA0 hval0
  refine (walk s y l a c n D x1 b2 W hs hn hD).mono fun e W' ⟨he, bel⟩ => ?_
  subst he
  exact ⟨_, rfl, _, _, _, [], _, [], hW', (trodAll_cons_mk (shut_bool Try.underlying4 _) trodAll_mk0), (trodAll_cons_mk (Below.trod laidOut (by kernel_rfl) (of_decide_eq_true (by kernel_rfl)) k0 bel lt0) (trodAll_cons_mk (Below.trod laidOut (by kernel_rfl) (of_decide_eq_true (by kernel_rfl)) k1 bel lt1) (trodAll_cons_mk (Below.trod laidOut (by kernel_rfl) (of_decide_eq_true (by kernel_rfl)) k2 bel lt2) trodAll_mk0))), rfl, bel.frame _, fun h => by cases h⟩

theorem over : Rows.fnExactCacheUseRow.holds Try.pinned (OpenSpec.ofChange Rows.fnExactCacheUseSpec) :=
  OpenClaim.holds_of_wide 8 Try.f8 rfl rfl rfl rfl rfl rfl rfl ⟨rfl, rfl, rfl, rfl, rfl⟩ rfl rfl rfl rfl rfl (by kernel_rfl) Try.func8 (by kernel_rfl)
    (of_decide_eq_true (by kernel_rfl)) (by unfold Func.isWrapper; first | (rw [if_pos (by decide +kernel)]; kernel_rfl) | (rw [if_neg (by decide +kernel)]; exact ⟨rfl, rfl⟩))
    (fun os started H enc _ => lifted os started H enc)

end Go.Proofs.Ytifgmgehnbkbjaa.fnExactCacheUse
namespace Go.Proofs.Ytifgmgehnbkbjaa
theorem FnExactCacheUse_holds : Rows.FnExactCacheUseSaid := fnExactCacheUse.over
end Go.Proofs.Ytifgmgehnbkbjaa
