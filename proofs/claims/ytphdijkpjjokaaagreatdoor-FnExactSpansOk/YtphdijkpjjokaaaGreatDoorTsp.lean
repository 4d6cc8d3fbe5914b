
/-
  The spans of the cycles between two: the law, walked. Conditions: the lists lie in memory; the program's table of extras holds what the program's text lays.
-/
import Derived.Test.YtphdijkpjjokaaaGreatDoorBas
import Derived.Test.YtphdijkpjjokaaaGreatDoorLsw
import Derived.Test.YtphdijkpjjokaaaGreatDoorSpz
import Derived.Test.YtphdijkpjjokaaaGreatDoorSco
import Derived.Test.YtphdijkpjjokaaaGreatDoorMkt
namespace Go.Proofs.YtphdijkpjjokaaaGreatDoor
open Go.ChangeShapes Go.WideShapes Go.ChangeAt Go.RowKit Go.Deep Go.Joins
set_option linter.unusedVariables false

theorem copy_own (t : Tb) (a : Ad) (w : World) (hm : TM 0 w t a) (hw : TW t a) (hs : TS a) : Calls Tryz.prog 8 #[tbV t a] w fun e w' => ∃ a', e = .returned (tbV t a') ∧ Below w.heap.size w w' ∧ TM w.heap.size w' t a' ∧ Cpy w' t a a' :=
  (to_tab t a w hm hs).mono fun e w' ⟨a', he, hb, hm', e4, c4⟩ => by
    obtain ⟨h1, h2⟩ := ad_carry hm hm' hw hs e4
    exact ⟨a', he, hb, hm', ⟨hm'.wide (Nat.zero_le _), h1, h2, by rw [c4.1, e4.1]; exact Nat.le_refl _, by rw [c4.2.2.2, e4.2.2.2]; exact Nat.le_refl _, e4.1, e4.2.1, e4.2.2.1, e4.2.2.2⟩⟩
theorem tabE_pos {w : World} (h : TabE w) : 0 < w.heap.size := Nat.lt_of_le_of_lt (Nat.zero_le _) (World.block_lt_of_cell? w _ (h 0 (by omega)))
theorem spAll_len (t : Tb) (f u : Int) : (spAll t f u).length ≤ 5000 := by
  unfold spAll
  split
  · rename_i h
    have := (spL_len t f (u - f).toNat).1
    have h2 := h.2.2.2.2
    omega
  · simp
theorem spec_spans' (t : Tb) (a : Ad) (f u : Int) (w : World) (hm : TM 0 w t a) (hw : TW t a) (hs : TS a) : Calls Tryz.prog 7 #[tbV t a, .int .i64 f, .int .i64 u] w fun e w' => ∃ A c, e = .returned (.slice A (spAll t f u).length c) ∧ Below w.heap.size w w' ∧ OS w' w.heap.size w'.heap.size A (spAll t f u).length (saX (spAll t f u)) :=
  (spec_spans t a f u w hm hw hs).mono fun e w' ⟨v, he, ho, hb⟩ => by
    obtain ⟨A, c, rfl, h⟩ := ho.os
    exact ⟨A, c, he, hb, h.wide (by omega) (Nat.le_refl _)⟩
theorem impl_spans' (t : Tb) (a : Ad) (f u : Int) (w : World) (hm : TM 0 w t a) (hw : TW t a) (hs : TS a) (he : TabE w) (hcp : a.pn ≤ a.pc) (hcs : a.sn ≤ a.sc) : Calls Tryz.prog 9 #[tbV t a, .int .i64 f, .int .i64 u] w fun e w' => ∃ A c, e = .returned (.slice A (spAll t f u).length c) ∧ Below w.heap.size w w' ∧ OS w' w.heap.size w'.heap.size A (spAll t f u).length (saX (spAll t f u)) :=
  (impl_spans t a f u w hm hw hs he hcp hcs).mono fun e w' ⟨v, he, ho, hb⟩ => by
    obtain ⟨A, c, rfl, h⟩ := ho.os
    exact ⟨A, c, he, hb, h.wide (by omega) (Nat.le_refl _)⟩
set_option maxRecDepth 40000 in
set_option maxHeartbeats 8000000 in
theorem walk_spans (t : Tb) (a : Ad) (f u : Int) (w : World) (hm : TM 0 w t a) (hw : TW t a) (he : TabE w) : Calls Tryz.prog 3 #[tbV t a, .int .i64 f, .int .i64 u] w fun e w' => e = .returned (.bool true) ∧ Below w.heap.size w w' := by
  have HU : Hid (∀ X, Below w.heap.size w X → TM 0 X t a ∧ TabE X) := fun X hX => ⟨hm.below hX, he.below hX⟩
  have HW : Hid (TW t a) := hw
  have HSS : Hid (∀ a' X, TM 0 X t a' → TW t a' → TS a' → Calls Tryz.prog 7 #[tbV t a', .int .i64 f, .int .i64 u] X fun e w' => ∃ A c, e = .returned (.slice A (spAll t f u).length c) ∧ Below X.heap.size X w' ∧ OS w' X.heap.size w'.heap.size A (spAll t f u).length (saX (spAll t f u))) := fun a' X h1 h2 h3 => spec_spans' t a' f u X h1 h2 h3
  have HSI : Hid (∀ a' X, TM 0 X t a' → TW t a' → TS a' → TabE X → a'.pn ≤ a'.pc → a'.sn ≤ a'.sc → Calls Tryz.prog 9 #[tbV t a', .int .i64 f, .int .i64 u] X fun e w' => ∃ A c, e = .returned (.slice A (spAll t f u).length c) ∧ Below X.heap.size X w' ∧ OS w' X.heap.size w'.heap.size A (spAll t f u).length (saX (spAll t f u))) := fun a' X h1 h2 h3 h4 h5 h6 => impl_spans' t a' f u X h1 h2 h3 h4 h5 h6
  have hzl : (spAll t f u).length ≤ 5000 := spAll_len t f u
  generalize spAll t f u = zs at HSS HSI hzl
  have HPOS : Hid (0 < w.heap.size) := tabE_pos he
  have HB0 : Hid (Below w.heap.size w (w.alloc (.cells (tbA t a) 31))) := (Below.refl _ _).alloc (Nat.le_refl _) _
  have HX0 : Hid ((w.alloc (.cells (tbA t a) 31)).heap[w.heap.size]? = some (.cells (tbA t a) 31 (0, 0))) := new_row w _ _ _ rfl
  clear hm hw he
  go_enter Tryz.func3, Tryz.ntmps3
  go_wp2_with (first | (refine wpList_load_row rfl 31 (.tmp 3) rfl w.heap.size rfl 31 (tbA t a) (0, 0) _ HX0.out Tryz.underlying31 rfl (by kernel_rfl) ?_) | fail)
  refine Calls.mono (sz_tab t a _ (HU.out _ HB0.out).1 HW.out) ?_
  rintro e w1 ⟨⟨r, rfl, hr⟩, hb1⟩
  have HB1 : Hid (Below w.heap.size w w1) := HB0.out.trans (hb1.mono HB0.out.size)
  have HX1 : Hid (w1.heap[w.heap.size]? = some (.cells (tbA t a) 31 (0, 0))) := row_below HX0.out hb1
  clear hb1 HB0 HX0
  rcases hr with rfl | ⟨h0, hs⟩
  · go_wp2
    go_ret
    exact ⟨rfl, HB1.out⟩
  have HS : Hid (TS a) := hs
  clear hs
  have hr0 : ¬ (r < 0) := by omega
  go_wp2_with (first | (refine wpList_load_row rfl 31 (.tmp 3) rfl w.heap.size rfl 31 (tbA t a) (0, 0) _ HX1.out Tryz.underlying31 rfl (by kernel_rfl) ?_) | fail)
  refine Calls.mono (copy_tab t a _ (HU.out _ HB1.out).1 HW.out HS.out) ?_
  rintro e w2 ⟨a2, rfl, hb2, hc2⟩
  have HB2 : Hid (Below w.heap.size w w2) := HB1.out.trans (hb2.mono HB1.out.size)
  have HX2 : Hid (w2.heap[w.heap.size]? = some (.cells (tbA t a) 31 (0, 0))) := row_below HX1.out hb2
  have HC2 : Hid (Cpy w2 t a a2) := hc2
  clear hb2 hc2 HB1 HX1
  go_wp2_with fail
  refine Calls.mono (HSS.out a2 _ HC2.out.m HC2.out.w HC2.out.s) ?_
  rintro e w3 ⟨A1, c1, rfl, hb3, hA1⟩
  have HB3 : Hid (Below w.heap.size w w3) := HB2.out.trans (hb3.mono HB2.out.size)
  have HX3 : Hid (w3.heap[w.heap.size]? = some (.cells (tbA t a) 31 (0, 0))) := row_below HX2.out hb3
  have HL3 : Hid (w.heap.size ≤ w2.heap.size) := HB2.out.size
  have HA3 : Hid (OS w3 w2.heap.size w3.heap.size A1 zs.length (saX zs)) := hA1
  clear hb3 HB2 HX2 HC2 hA1
  go_wp2_with (first | (refine wpList_load_row rfl 31 (.tmp 3) rfl w.heap.size rfl 31 (tbA t a) (0, 0) _ HX3.out Tryz.underlying31 rfl (by kernel_rfl) ?_) | fail)
  refine Calls.mono (copy_own t a _ (HU.out _ HB3.out).1 HW.out HS.out) ?_
  rintro e w4 ⟨a4, rfl, hb4, hm4, hc4⟩
  have HB4 : Hid (Below w.heap.size w w4) := HB3.out.trans (hb4.mono HB3.out.size)
  have HX4 : Hid (w4.heap[w.heap.size]? = some (.cells (tbA t a) 31 (0, 0))) := row_below HX3.out hb4
  have HC4 : Hid (Cpy w4 t a a4) := hc4
  have HM4 : Hid (WT w3.heap.size w4.heap.size w4 a4) := hm4.wt (Nat.lt_of_lt_of_le HPOS.out HB3.out.size)
  have HA4 : Hid (OS w4 w2.heap.size w3.heap.size A1 zs.length (saX zs)) := HA3.out.below hb4
  have HLO : Hid (w.heap.size < w3.heap.size ∧ w3.heap.size ≤ w4.heap.size) := ⟨(Array.getElem?_eq_some_iff.1 HX3.out).1, hb4.size⟩
  clear hb4 hc4 HB3 HX3 hm4 HA3
  have HN : Hid ((w4.alloc (.cells #[.int .i64 0, .int .i64 0, .int .i64 0, .int .i64 0, .int .i64 0, .int .i64 0, .int .i64 0, .int .i64 0, .int .i64 0, .int .i64 0, .int .i64 0, .int .i64 0, .int .i64 0, .int .i64 0, .int .i64 0, .slice none 0 0, .slice none 0 0, .slice none 0 0, .slice none 0 0] 41)).heap[w4.heap.size]? = some (.cells #[.int .i64 0, .int .i64 0, .int .i64 0, .int .i64 0, .int .i64 0, .int .i64 0, .int .i64 0, .int .i64 0, .int .i64 0, .int .i64 0, .int .i64 0, .int .i64 0, .int .i64 0, .int .i64 0, .int .i64 0, .slice none 0 0, .slice none 0 0, .slice none 0 0, .slice none 0 0] 41 (0, 0))) := new_row w4 _ _ _ rfl
  have hbV : Below w4.heap.size w4 ((w4.alloc (.cells #[.int .i64 0, .int .i64 0, .int .i64 0, .int .i64 0, .int .i64 0, .int .i64 0, .int .i64 0, .int .i64 0, .int .i64 0, .int .i64 0, .int .i64 0, .int .i64 0, .int .i64 0, .int .i64 0, .int .i64 0, .slice none 0 0, .slice none 0 0, .slice none 0 0, .slice none 0 0] 41)).setRow w4.heap.size (tbA t a4)) := below_setRow ((Below.refl _ _).alloc (Nat.le_refl _) _) (Nat.le_refl _) _
  have HXB : Hid (((w4.alloc (.cells #[.int .i64 0, .int .i64 0, .int .i64 0, .int .i64 0, .int .i64 0, .int .i64 0, .int .i64 0, .int .i64 0, .int .i64 0, .int .i64 0, .int .i64 0, .int .i64 0, .int .i64 0, .int .i64 0, .int .i64 0, .slice none 0 0, .slice none 0 0, .slice none 0 0, .slice none 0 0] 41)).setRow w4.heap.size (tbA t a4)).heap[w4.heap.size]? = some (.cells (tbA t a4) 41 (0, 0))) := setRow_heap _ _ _ _ _ _ HN.out
  have HBV : Hid (Below w.heap.size w ((w4.alloc (.cells #[.int .i64 0, .int .i64 0, .int .i64 0, .int .i64 0, .int .i64 0, .int .i64 0, .int .i64 0, .int .i64 0, .int .i64 0, .int .i64 0, .int .i64 0, .int .i64 0, .int .i64 0, .int .i64 0, .int .i64 0, .slice none 0 0, .slice none 0 0, .slice none 0 0, .slice none 0 0] 41)).setRow w4.heap.size (tbA t a4))) := HB4.out.trans (hbV.mono HB4.out.size)
  have HXV : Hid (((w4.alloc (.cells #[.int .i64 0, .int .i64 0, .int .i64 0, .int .i64 0, .int .i64 0, .int .i64 0, .int .i64 0, .int .i64 0, .int .i64 0, .int .i64 0, .int .i64 0, .int .i64 0, .int .i64 0, .int .i64 0, .int .i64 0, .slice none 0 0, .slice none 0 0, .slice none 0 0, .slice none 0 0] 41)).setRow w4.heap.size (tbA t a4)).heap[w.heap.size]? = some (.cells (tbA t a) 31 (0, 0))) := row_below HX4.out hbV
  have HCV : Hid (Cpy ((w4.alloc (.cells #[.int .i64 0, .int .i64 0, .int .i64 0, .int .i64 0, .int .i64 0, .int .i64 0, .int .i64 0, .int .i64 0, .int .i64 0, .int .i64 0, .int .i64 0, .int .i64 0, .int .i64 0, .int .i64 0, .int .i64 0, .slice none 0 0, .slice none 0 0, .slice none 0 0, .slice none 0 0] 41)).setRow w4.heap.size (tbA t a4)) t a a4) := HC4.out.below hbV
  have HMV : Hid (WT w3.heap.size w4.heap.size ((w4.alloc (.cells #[.int .i64 0, .int .i64 0, .int .i64 0, .int .i64 0, .int .i64 0, .int .i64 0, .int .i64 0, .int .i64 0, .int .i64 0, .int .i64 0, .int .i64 0, .int .i64 0, .int .i64 0, .int .i64 0, .int .i64 0, .slice none 0 0, .slice none 0 0, .slice none 0 0, .slice none 0 0] 41)).setRow w4.heap.size (tbA t a4)) a4) := HM4.out.below hbV
  have HAV : Hid (OS ((w4.alloc (.cells #[.int .i64 0, .int .i64 0, .int .i64 0, .int .i64 0, .int .i64 0, .int .i64 0, .int .i64 0, .int .i64 0, .int .i64 0, .int .i64 0, .int .i64 0, .int .i64 0, .int .i64 0, .int .i64 0, .int .i64 0, .slice none 0 0, .slice none 0 0, .slice none 0 0, .slice none 0 0] 41)).setRow w4.heap.size (tbA t a4)) w2.heap.size w3.heap.size A1 zs.length (saX zs)) := HA4.out.below hbV
  have HLV : Hid (w4.heap.size < ((w4.alloc (.cells #[.int .i64 0, .int .i64 0, .int .i64 0, .int .i64 0, .int .i64 0, .int .i64 0, .int .i64 0, .int .i64 0, .int .i64 0, .int .i64 0, .int .i64 0, .int .i64 0, .int .i64 0, .int .i64 0, .int .i64 0, .slice none 0 0, .slice none 0 0, .slice none 0 0, .slice none 0 0] 41)).setRow w4.heap.size (tbA t a4)).heap.size) := (Array.getElem?_eq_some_iff.1 HXB.out).1
  clear hbV HB4 HX4 HC4 HM4 HA4
  go_wp2_with (first | (refine wpList_store_row rfl 41 (.tmp 9) (.tmp 26) rfl w4.heap.size (tbA t a4) rfl rfl 41 #[.int .i64 0, .int .i64 0, .int .i64 0, .int .i64 0, .int .i64 0, .int .i64 0, .int .i64 0, .int .i64 0, .int .i64 0, .int .i64 0, .int .i64 0, .int .i64 0, .int .i64 0, .int .i64 0, .int .i64 0, .slice none 0 0, .slice none 0 0, .slice none 0 0, .slice none 0 0] HN.out (by kernel_rfl) rfl (by simp [Value.oneCell']) ?_) | (refine wpList_load_row rfl 41 (.tmp 9) rfl w4.heap.size rfl 41 (tbA t a4) (0, 0) _ HXB.out Tryz.underlying41 rfl (by kernel_rfl) ?_) | fail)
  clear HN
  revert HXB HBV HXV HCV HMV HAV HLV HLO
  generalize (w4.alloc (.cells #[.int .i64 0, .int .i64 0, .int .i64 0, .int .i64 0, .int .i64 0, .int .i64 0, .int .i64 0, .int .i64 0, .int .i64 0, .int .i64 0, .int .i64 0, .int .i64 0, .int .i64 0, .int .i64 0, .int .i64 0, .slice none 0 0, .slice none 0 0, .slice none 0 0, .slice none 0 0] 41)).setRow w4.heap.size (tbA t a4) = V
  generalize w4.heap.size = N
  generalize w3.heap.size = L3
  generalize w2.heap.size = L2 at HL3
  intro HLO HXB HBV HXV HCV HMV HAV HLV
  refine Calls.mono (HSI.out a4 _ HCV.out.m HCV.out.w HCV.out.s (HU.out _ HBV.out).2 HCV.out.c HCV.out.c2) ?_
  rintro e w5 ⟨A2, c2, rfl, hb5, hA2⟩
  have HB5 : Hid (Below w.heap.size w w5) := HBV.out.trans (hb5.mono HBV.out.size)
  have HX5 : Hid (w5.heap[w.heap.size]? = some (.cells (tbA t a) 31 (0, 0))) := row_below HXV.out hb5
  have HY5 : Hid (w5.heap[N]? = some (.cells (tbA t a4) 41 (0, 0))) := row_below HXB.out hb5
  have HC5 : Hid (Cpy w5 t a a4) := HCV.out.below hb5
  have HM5 : Hid (WT L3 N w5 a4) := HMV.out.below hb5
  have HA5 : Hid (OS w5 L2 L3 A1 zs.length (saX zs)) := HAV.out.below hb5
  have HD5 : Hid (OS w5 V.heap.size w5.heap.size A2 zs.length (saX zs)) := hA2
  have HL5 : Hid (N < V.heap.size ∧ V.heap.size ≤ w5.heap.size) := ⟨HLV.out, hb5.size⟩
  clear hb5 HBV HXV HXB HCV HMV HAV hA2 HLV
  generalize V.heap.size = LV at HD5 HL5
  obtain ⟨H5, HH5⟩ : ∃ h, Hid (w5.heap.size = h) := ⟨_, rfl⟩
  rw [HH5.out] at HD5
  have HH5' : Hid (H5 ≤ w5.heap.size) := Nat.le_of_eq HH5.out.symm
  replace HL5 : Hid (N < LV ∧ LV ≤ H5) := by rw [← HH5.out]; exact HL5.out
  clear HH5
  go_wp2_with fail
  refine Calls.mono (sa_eqs A2 A1 c2 c1 zs.length zs _ HD5.out.2 HA5.out.2 (by omega)) ?_
  rintro e w6 ⟨rfl, hb6⟩
  have HB6 : Hid (Below w.heap.size w w6) := HB5.out.trans (hb6.mono HB5.out.size)
  have HX6 : Hid (∀ X, Below w6.heap.size w6 X → X.heap[w.heap.size]? = some (.cells (tbA t a) 31 (0, 0))) := fun X hX => row_below (row_below HX5.out hb6) hX
  have HY6 : Hid (∀ X, Below w6.heap.size w6 X → X.heap[N]? = some (.cells (tbA t a4) 41 (0, 0))) := fun X hX => row_below (row_below HY5.out hb6) hX
  have HC6 : Hid (∀ X, Below w6.heap.size w6 X → Cpy X t a a4) := fun X hX => (HC5.out.below hb6).below hX
  have HM6 : Hid (∀ X, Below w6.heap.size w6 X → WT L3 N X a4) := fun X hX => (HM5.out.below hb6).below hX
  have HA6 : Hid (∀ X, Below w6.heap.size w6 X → OS X L2 L3 A1 zs.length (saX zs)) := fun X hX => (HA5.out.below hb6).below hX
  have HD6 : Hid (∀ X, Below w6.heap.size w6 X → OS X LV H5 A2 zs.length (saX zs)) := fun X hX => (HD5.out.below hb6).below hX
  have HH6 : Hid (H5 ≤ w6.heap.size) := Nat.le_trans HH5'.out hb6.size
  clear hb6 HB5 HX5 HY5 HC5 HM5 HA5 HD5 HH5'
  go_wp2
  refine wp_region_inv (by kernel_rfl) (by kernel_rfl) (fun A ℓ a' w' => ∃ (x39 x40 x41 x42 x43 : Value), a' = (((((A.put (some 35) x39).put (some 36) x40).put (some 37) x41).put (some 38) x42).put (some 39) x43) ∧ TI t a a4 w6 w' (ℓ 0) (ℓ 1) (ℓ 2) (ℓ 3) (ℓ 4) x39 x40 x41 x42 x43) ?_ ?_ ?_ ?_
  · exact ⟨undef, undef, undef, undef, undef, (by simp only [Act.put, List.setIfInBounds_toArray, List.set_cons_zero, List.set_cons_succ]), ⟨(Below.refl _ _).drew, (fun g => by cases g), (fun g => by cases g), (fun g => by cases g), (fun g => by cases g), (fun g => by cases g)⟩⟩
  · intro ℓ a' w' hI hall
    obtain ⟨x39, x40, x41, x42, x43, rfl, hr⟩ := hI
    have hall' : ∀ i, i < 5 → ℓ i = true := hall
    obtain rfl := hr.f4 (hall' 4 (by omega))
    have HB7 : Hid (Below w.heap.size w w') := HB6.out.trans (hr.gb.mono HB6.out.size)
    have HX7 : Hid (w'.heap[w.heap.size]? = some (.cells (tbA t a) 31 (0, 0))) := HX6.out _ hr.gb
    have HY7 : Hid (w'.heap[N]? = some (.cells (tbA t a4) 41 (0, 0))) := HY6.out _ hr.gb
    have HC7 : Hid (Cpy w' t a a4) := HC6.out _ hr.gb
    have HM7 : Hid (WT L3 N w' a4) := HM6.out _ hr.gb
    have HA7 : Hid (OS w' L2 L3 A1 zs.length (saX zs)) := HA6.out _ hr.gb
    have HD7 : Hid (OS w' LV H5 A2 zs.length (saX zs)) := HD6.out _ hr.gb
    have HH7 : Hid (H5 ≤ w'.heap.size) := Nat.le_trans HH6.out hr.gb.size
    clear hr hall hall' HX6 HY6 HC6 HM6 HA6 HD6 HH6 HB6
    simp only [Act.put, List.setIfInBounds_toArray, List.set_cons_zero, List.set_cons_succ]
    go_wp2_with (first | (refine wpList_load_row rfl 41 (.tmp 9) rfl N rfl 41 (tbA t a4) (0, 0) _ HY7.out Tryz.underlying41 rfl (by kernel_rfl) ?_) | fail)
    refine Calls.mono (mk_tab t a4 L3 N w' HM7.out HC7.out.s (by have := HL5.out; have := HH7.out; omega)) ?_
    rintro e w8 ⟨⟨rk, rfl, hrk⟩, hmk⟩
    have HB8 : Hid (Below w.heap.size w w8) := HB7.out.trans (hmk.low (by have := HLO.out; omega) HB7.out.size)
    have HX8 : Hid (w8.heap[w.heap.size]? = some (.cells (tbA t a) 31 (0, 0))) := (hmk.b.block _ (by have := HLO.out; have := HL5.out; have := HH7.out; omega) (.inl (by have := HLO.out; omega))).trans HX7.out
    have HA8 : Hid (OS w8 L2 L3 A1 zs.length (saX zs)) := HA7.out.mk hmk (.inl (Nat.le_refl _))
    have HD8 : Hid (OS w8 LV H5 A2 zs.length (saX zs)) := HD7.out.mk hmk (.inr (by have := HL5.out; omega))
    have HH8 : Hid (H5 ≤ w8.heap.size) := Nat.le_trans HH7.out hmk.b.size
    clear hmk HB7 HX7 HY7 HC7 HM7 HA7 HD7 HH7
    have hrk0 : ¬ (rk < 0) := by omega
    go_wp2_with fail
    refine Calls.mono (sa_eqs A2 A1 c2 c1 zs.length zs _ HD8.out.2 HA8.out.2 (by omega)) ?_
    rintro e w9 ⟨rfl, hb9⟩
    have HB9 : Hid (Below w.heap.size w w9) := HB8.out.trans (hb9.mono HB8.out.size)
    have HX9 : Hid (w9.heap[w.heap.size]? = some (.cells (tbA t a) 31 (0, 0))) := row_below HX8.out hb9
    have HA9 : Hid (OS w9 L2 L3 A1 zs.length (saX zs)) := HA8.out.below hb9
    have HD9 : Hid (OS w9 LV H5 A2 zs.length (saX zs)) := HD8.out.below hb9
    have HH9 : Hid (H5 ≤ w9.heap.size) := Nat.le_trans HH8.out hb9.size
    clear hb9 HB8 HX8 HA8 HD8 HH8
    go_wp2_with fail
    refine Calls.mono (mark_spans LV H5 c2 zs.length 1 A2 _ HD9.out.1 (by omega) (by omega) (by omega)) ?_
    rintro e v1 ⟨rfl, hmk1, hmr⟩
    have hbt := hmk1.b
    have KB1 : Hid (Below w.heap.size w v1) := HB9.out.trans (hbt.below (by have := HLO.out; have := HL5.out; omega) HB9.out.size)
    have KX1 : Hid (v1.heap[w.heap.size]? = some (.cells (tbA t a) 31 (0, 0))) := (hbt.block _ (by have := HLO.out; have := HL5.out; have := HH9.out; omega) (.inl (by have := HLO.out; have := HL5.out; omega))).trans HX9.out
    have KA1 : Hid (OS v1 L2 L3 A1 zs.length (saX zs)) := HA9.out.mk hmk1 (.inl (by have := HLO.out; have := HL5.out; omega))
    have KD1 : Hid (OS v1 LV H5 A2 zs.length (fun i => saL (mkS 1 i))) := ⟨HD9.out.1.mk hmk1, hmr⟩
    clear hbt hmr hmk1 HB9 HX9 HA9 HD9 HH9
    obtain ⟨q, HQ⟩ : ∃ q : Int, Hid (1 + 4 * (zs.length : Int) = q) := ⟨_, rfl⟩
    have hq0 : ¬ (q < 0) := by have := HQ.out; omega
    rw [HQ.out]
    go_wp2_with fail
    refine Calls.mono (held_spans A2 c2 zs.length 1 _ KD1.out.2 (by omega) (by omega) (by omega)) ?_
    rintro e v2 ⟨rfl, hv2⟩
    rw [HQ.out]
    obtain rfl : v2 = v1 := hv2
    go_wp2_with (first | (refine wpList_load_row rfl 31 (.tmp 3) rfl w.heap.size rfl 31 (tbA t a) (0, 0) _ KX1.out Tryz.underlying31 rfl (by kernel_rfl) ?_) | fail)
    refine Calls.mono (copy_tab t a _ (HU.out _ KB1.out).1 HW.out HS.out) ?_
    rintro e v3 ⟨a8, rfl, hb8, hc8⟩
    have KB3 : Hid (Below w.heap.size w v3) := KB1.out.trans (hb8.mono KB1.out.size)
    have KA3 : Hid (OS v3 L2 L3 A1 zs.length (saX zs)) := KA1.out.below hb8
    have KD3 : Hid (OS v3 LV H5 A2 zs.length (fun i => saL (mkS 1 i))) := KD1.out.below hb8
    have KC3 : Hid (Cpy v3 t a a8) := hc8
    clear hb8 hc8 KB1 KX1 KA1 KD1
    go_wp2_with fail
    refine Calls.mono (HSI.out a8 _ KC3.out.m KC3.out.w KC3.out.s (HU.out _ KB3.out).2 KC3.out.c KC3.out.c2) ?_
    rintro e v4 ⟨A3, c3, rfl, hb9, hA3⟩
    have KB4 : Hid (Below w.heap.size w v4) := KB3.out.trans (hb9.mono KB3.out.size)
    have KA4 : Hid (OS v4 L2 L3 A1 zs.length (saX zs)) := KA3.out.below hb9
    have KD4 : Hid (OS v4 LV H5 A2 zs.length (fun i => saL (mkS 1 i))) := KD3.out.below hb9
    have KE4 : Hid (GSeg 4 v4 A3 zs.length (saX zs)) := hA3.2
    clear hb9 hA3 KB3 KA3 KD3 KC3
    go_wp2_with fail
    refine Calls.mono (sa_eqs A3 A1 c3 c1 zs.length zs _ KE4.out KA4.out.2 (by omega)) ?_
    rintro e v5 ⟨rfl, hb10⟩
    have KB5 : Hid (Below w.heap.size w v5) := KB4.out.trans (hb10.mono KB4.out.size)
    have KD5 : Hid (OS v5 LV H5 A2 zs.length (fun i => saL (mkS 1 i))) := KD4.out.below hb10
    clear hb10 KB4 KA4 KD4 KE4
    go_wp2_with fail
    refine Calls.mono (held_spans A2 c2 zs.length 1 _ KD5.out.2 (by omega) (by omega) (by omega)) ?_
    rintro e v6 ⟨rfl, hv6⟩
    rw [HQ.out]
    obtain rfl : v6 = v5 := hv6
    go_wp2
    go_ret
    exact ⟨rfl, KB5.out⟩
  · intro ℓ a' w' i o hI ho hi hL hdep K hK
    obtain ⟨x39, x40, x41, x42, x43, rfl, hr⟩ := hI
    have hi7 : i < 5 := hi
    have hcs : i = 0 ∨ i = 1 ∨ i = 2 ∨ i = 3 ∨ i = 4 := by omega
    clear hi hi7
    rcases hcs with rfl | rfl | rfl | rfl | rfl
    · replace ho : some ({ dst := some 35, op := .load 41 (.tmp 9), type := 41, pos := "exact.go:7310", after := #[], guard := none } : Oper) = some o := ho
      obtain rfl := Option.some.inj ho
      clear hdep ho
      rw [if_pos (by rfl)]
      try simp only [Act.put, List.setIfInBounds_toArray, List.set_cons_zero, List.set_cons_succ]
      refine wp_load_row (P := Tryz.prog) 41 (.tmp 9) rfl N rfl 41 (tbA t a4) (0, 0) _ (HY6.out _ hr.gb) Tryz.underlying41 rfl (by kernel_rfl) ?_
      exact hK.out _ _ (fun j => if j = 0 then true else ℓ j) ⟨tbV t a4, x40, x41, x42, x43, (by simp only [Act.put, List.setIfInBounds_toArray, List.set_cons_zero, List.set_cons_succ]), ⟨hr.gb, (fun _ => rfl), hr.f1, hr.f2, hr.f3, hr.f4⟩⟩ (if_pos rfl) (fun j hj => if_neg hj)
    · replace ho : some ({ dst := some 36, op := .load 31 (.tmp 3), type := 31, pos := "exact.go:7310", after := #[], guard := none } : Oper) = some o := ho
      obtain rfl := Option.some.inj ho
      clear hdep ho
      rw [if_pos (by rfl)]
      try simp only [Act.put, List.setIfInBounds_toArray, List.set_cons_zero, List.set_cons_succ]
      refine wp_load_row (P := Tryz.prog) 31 (.tmp 3) rfl w.heap.size rfl 31 (tbA t a) (0, 0) _ (HX6.out _ hr.gb) Tryz.underlying31 rfl (by kernel_rfl) ?_
      exact hK.out _ _ (fun j => if j = 1 then true else ℓ j) ⟨x39, tbV t a, x41, x42, x43, (by simp only [Act.put, List.setIfInBounds_toArray, List.set_cons_zero, List.set_cons_succ]), ⟨hr.gb, hr.f0, (fun _ => rfl), hr.f2, hr.f3, hr.f4⟩⟩ (if_pos rfl) (fun j hj => if_neg hj)
    · obtain rfl := Option.some.inj ho
      have g : ℓ 1 = true := hdep { on := 1, ground := Ground.data } (by simp) rfl
      clear hdep ho
      obtain rfl := hr.f1 g
      rw [if_pos (by rfl)]
      try simp only [Act.put, List.setIfInBounds_toArray, List.set_cons_zero, List.set_cons_succ]
      go_simp
      refine Calls.mono (copy_tab t a _ (HU.out _ (HB6.out.trans (hr.gb.mono HB6.out.size))).1 HW.out HS.out) ?_
      rintro e w9 ⟨a9, rfl, hb9, hc9⟩
      have hr9 := hr.below hb9
      exact hK.out _ _ (fun j => if j = 2 then true else ℓ j) ⟨x39, tbV t a, tbV t a9, x42, x43, (by simp only [Act.put, List.setIfInBounds_toArray, List.set_cons_zero, List.set_cons_succ]), ⟨hr9.gb, hr9.f0, hr9.f1, (fun _ => ⟨a9, rfl, hc9⟩), hr9.f3, hr9.f4⟩⟩ (if_pos rfl) (fun j hj => if_neg hj)
    · obtain rfl := Option.some.inj ho
      have g0 : ℓ 0 = true := hdep { on := 0, ground := Ground.data } (by simp) rfl
      have g2 : ℓ 2 = true := hdep { on := 2, ground := Ground.data } (by simp) rfl
      clear hdep ho
      obtain rfl := hr.f0 g0
      obtain ⟨a9, rfl, hc9⟩ := hr.f2 g2
      have hc4 := HC6.out _ hr.gb
      rw [if_pos (by rfl)]
      try simp only [Act.put, List.setIfInBounds_toArray, List.set_cons_zero, List.set_cons_succ]
      go_simp
      refine Calls.mono (eq_tab t a4 a9 _ hc4.m hc9.m hc4.s (hc9.p1.trans hc4.p1.symm) (hc9.p2.trans hc4.p2.symm) (hc9.p3.trans hc4.p3.symm) (hc9.p4.trans hc4.p4.symm)) ?_
      rintro e w9 ⟨rfl, hb9⟩
      have hr9 := hr.below hb9
      exact hK.out _ _ (fun j => if j = 3 then true else ℓ j) ⟨tbV t a4, x40, tbV t a9, .bool true, x43, (by simp only [Act.put, List.setIfInBounds_toArray, List.set_cons_zero, List.set_cons_succ]), ⟨hr9.gb, hr9.f0, hr9.f1, hr9.f2, (fun _ => rfl), hr9.f4⟩⟩ (if_pos rfl) (fun j hj => if_neg hj)
    · obtain rfl := Option.some.inj ho
      have g : ℓ 3 = true := hdep { on := 3, ground := Ground.data } (by simp) rfl
      clear hdep ho
      obtain rfl := hr.f3 g
      rw [if_pos (by rfl)]
      try simp only [Act.put, List.setIfInBounds_toArray, List.set_cons_zero, List.set_cons_succ]
      go_simp
      exact hK.out _ _ (fun j => if j = 4 then true else ℓ j) ⟨x39, x40, x41, .bool true, .bool false, (by simp only [Act.put, List.setIfInBounds_toArray, List.set_cons_zero, List.set_cons_succ]), ⟨hr.gb, hr.f0, hr.f1, hr.f2, hr.f3, (fun _ => rfl)⟩⟩ (if_pos rfl) (fun j hj => if_neg hj)
  · rintro a' w' ℓ ℓ' hℓ hI
    rw [← show ℓ = ℓ' from funext hℓ]
    exact hI
end Go.Proofs.YtphdijkpjjokaaaGreatDoor
