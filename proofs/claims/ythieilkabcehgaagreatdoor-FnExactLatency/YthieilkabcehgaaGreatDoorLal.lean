
/-
  How long a partition waits: the law, walked. Conditions: the lists lie in memory; the program's table of extras holds what the program's text lays.
-/
import Derived.Test.YthieilkabcehgaaGreatDoorBas
import Derived.Test.YthieilkabcehgaaGreatDoorLsw
import Derived.Test.YthieilkabcehgaaGreatDoorLas
import Derived.Test.YthieilkabcehgaaGreatDoorLai
namespace Go.Proofs.YthieilkabcehgaaGreatDoor
open Go.ChangeShapes Go.WideShapes Go.ChangeAt Go.RowKit Go.Deep Go.Joins
set_option linter.unusedVariables false

set_option maxRecDepth 40000 in
set_option maxHeartbeats 4000000 in
theorem impl_lat (t : Tb) (a : Ad) (p : Int) (w : World) (hm : TM 0 w t a) (hw : TW t a) (hs : TS a) (he : TabE w) (hcp : a.pn ≤ a.pc) (hcs : a.sn ≤ a.sc) :
    Calls Tryz.prog 23 #[tbV t a, .int .i64 p] w fun e w' => (∃ r : Int, e = .returned (.int .i64 r) ∧ La.LR t p r) ∧ Below w.heap.size w w' := by
  obtain ⟨q, hq⟩ := told (Sd t)
  have HB0 : Hid (Below w.heap.size w (w.alloc (.cells (tbA t a) 39))) := (Below.refl _ _).alloc (Nat.le_refl _) _
  have HX0 : Hid (TBx (w.alloc (.cells (tbA t a) 39)) w.heap.size t a) := TBx.new w t a _ rfl
  have HSP : Hid (Calls Tryz.prog 38 #[tbV t a] (w.alloc (.cells (tbA t a) 39)) fun e w' => e = .returned (.bool q) ∧ Below (w.alloc (.cells (tbA t a) 39)).heap.size (w.alloc (.cells (tbA t a) 39)) w') := impl_sound t a q _ (hm.below HB0.out) hw hs (he.below HB0.out) hcp hq
  have HLG : Hid (Sd t → ∀ X, Below w.heap.size w X → Calls Tryz.prog 62 #[tbV t a, .int .i64 p] X fun e w' => (∃ r : Int, e = .returned (.int .i64 r) ∧ La.LN t p t.ss.length r) ∧ Below X.heap.size X w') := fun h X hX => La.longest t a p X (hm.below hX) hw hs hcs (sd_tm h)
  have HQ : Hid (q = true ↔ Sd t) := hq
  clear hq hm hw hs he hcp hcs
  go_enter Tryz.func23, Tryz.ntmps23
  go_wp2_with (first | (refine wpList_load_row rfl 39 (.tmp 2) rfl w.heap.size rfl 39 (tbA t a) (0, 0) _ HX0.out Tryz.underlying39 rfl (by kernel_rfl) ?_) | fail)
  refine Calls.mono HSP.out ?_
  rintro e w1 ⟨rfl, hb1⟩
  have HB1 : Hid (Below w.heap.size w w1) := HB0.out.trans (hb1.mono HB0.out.size)
  have HX1 : Hid (TBx w1 w.heap.size t a) := HX0.out.below hb1
  clear hb1 HB0 HX0 HSP
  cases q
  · have HN : Hid (La.LR t p (-1)) := Or.inl ⟨fun h => (by have := HQ.out.2 h; cases this), rfl⟩
    go_wp2
    go_ret
    exact ⟨⟨_, rfl, HN.out⟩, HB1.out⟩
  have HSD : Hid (Sd t) := HQ.out.1 rfl
  clear HQ
  go_wp2_with (first | (refine wpList_load_row rfl 39 (.tmp 2) rfl w.heap.size rfl 39 (tbA t a) (0, 0) _ HX1.out Tryz.underlying39 rfl (by kernel_rfl) ?_) | fail)
  refine Calls.mono (HLG.out HSD.out _ HB1.out) ?_
  rintro e w2 ⟨⟨r, rfl, hr⟩, hb2⟩
  have HB2 : Hid (Below w.heap.size w w2) := HB1.out.trans (hb2.mono HB1.out.size)
  have HR : Hid (La.LR t p r) := Or.inr ⟨HSD.out, hr⟩
  clear hb2 hr HB1 HX1 HLG
  go_wp2
  go_ret
  exact ⟨⟨_, rfl, HR.out⟩, HB2.out⟩
set_option maxRecDepth 40000 in
set_option maxHeartbeats 8000000 in
theorem walk_latency (t : Tb) (a : Ad) (p : Int) (w : World) (hm : TM 0 w t a) (hw : TW t a) (he : TabE w) : Calls Tryz.prog 6 #[tbV t a, .int .i64 p] w fun e w' => e = .returned (.bool true) ∧ Below w.heap.size w w' := by
  have HU : Hid (∀ X, Below w.heap.size w X → TM 0 X t a ∧ TabE X) := fun X hX => ⟨hm.below hX, he.below hX⟩
  have HW : Hid (TW t a) := hw
  have HB0 : Hid (Below w.heap.size w (w.alloc (.cells (tbA t a) 31))) := (Below.refl _ _).alloc (Nat.le_refl _) _
  have HX0 : Hid ((w.alloc (.cells (tbA t a) 31)).heap[w.heap.size]? = some (.cells (tbA t a) 31 (0, 0))) := new_row w _ _ _ rfl
  clear hm hw he
  go_enter Tryz.func6, Tryz.ntmps6
  go_wp2_with (first | (refine wpList_load_row rfl 31 (.tmp 2) rfl w.heap.size rfl 31 (tbA t a) (0, 0) _ HX0.out Tryz.underlying31 rfl (by kernel_rfl) ?_) | fail)
  refine Calls.mono (sz_tab t a _ (HU.out _ HB0.out).1 HW.out) ?_
  rintro e w1 ⟨⟨r, rfl, hr⟩, hb1⟩
  have HB1 : Hid (Below w.heap.size w w1) := HB0.out.trans (hb1.mono HB0.out.size)
  have HX1 : Hid (w1.heap[w.heap.size]? = some (.cells (tbA t a) 31 (0, 0))) := row_below HX0.out hb1
  clear hb1 HB0 HX0
  rcases hr with rfl | ⟨h0, hs⟩
  · go_wp2
    go_ret
    exact ⟨rfl, HB1.out⟩
  have HS : Hid (TS a) := hs
  clear hs
  have hr0 : ¬ (r < 0) := by omega
  go_wp2_with (first | (refine wpList_load_row rfl 31 (.tmp 2) rfl w.heap.size rfl 31 (tbA t a) (0, 0) _ HX1.out Tryz.underlying31 rfl (by kernel_rfl) ?_) | fail)
  refine Calls.mono (copy_tab t a _ (HU.out _ HB1.out).1 HW.out HS.out) ?_
  rintro e w2 ⟨a2, rfl, hb2, hc2⟩
  have HB2 : Hid (Below w.heap.size w w2) := HB1.out.trans (hb2.mono HB1.out.size)
  have HX2 : Hid (w2.heap[w.heap.size]? = some (.cells (tbA t a) 31 (0, 0))) := row_below HX1.out hb2
  have HC2 : Hid (Cpy w2 t a a2) := hc2
  clear hb2 hc2 HB1 HX1
  go_wp2_with fail
  refine Calls.mono (spec_lat t a2 p _ HC2.out.m HC2.out.w HC2.out.s) ?_
  rintro e w3 ⟨⟨R1, rfl, hR1⟩, hb3⟩
  have HB3 : Hid (Below w.heap.size w w3) := HB2.out.trans (hb3.mono HB2.out.size)
  have HX3 : Hid (w3.heap[w.heap.size]? = some (.cells (tbA t a) 31 (0, 0))) := row_below HX2.out hb3
  have HR1 : Hid (La.LR t p R1) := hR1
  clear hb3 HB2 HX2 HC2 hR1
  go_wp2_with (first | (refine wpList_load_row rfl 31 (.tmp 2) rfl w.heap.size rfl 31 (tbA t a) (0, 0) _ HX3.out Tryz.underlying31 rfl (by kernel_rfl) ?_) | fail)
  refine Calls.mono (copy_tab t a _ (HU.out _ HB3.out).1 HW.out HS.out) ?_
  rintro e w4 ⟨a4, rfl, hb4, hc4⟩
  have HB4 : Hid (Below w.heap.size w w4) := HB3.out.trans (hb4.mono HB3.out.size)
  have HX4 : Hid (w4.heap[w.heap.size]? = some (.cells (tbA t a) 31 (0, 0))) := row_below HX3.out hb4
  have HC4 : Hid (Cpy w4 t a a4) := hc4
  clear hb4 hc4 HB3 HX3
  have HN : Hid ((w4.alloc (.cells #[.int .i64 0, .int .i64 0, .int .i64 0, .int .i64 0, .int .i64 0, .int .i64 0, .int .i64 0, .int .i64 0, .int .i64 0, .int .i64 0, .int .i64 0, .int .i64 0, .int .i64 0, .int .i64 0, .int .i64 0, .slice none 0 0, .slice none 0 0, .slice none 0 0, .slice none 0 0] 39)).heap[w4.heap.size]? = some (.cells #[.int .i64 0, .int .i64 0, .int .i64 0, .int .i64 0, .int .i64 0, .int .i64 0, .int .i64 0, .int .i64 0, .int .i64 0, .int .i64 0, .int .i64 0, .int .i64 0, .int .i64 0, .int .i64 0, .int .i64 0, .slice none 0 0, .slice none 0 0, .slice none 0 0, .slice none 0 0] 39 (0, 0))) := new_row w4 _ _ _ rfl
  have hbV : Below w4.heap.size w4 ((w4.alloc (.cells #[.int .i64 0, .int .i64 0, .int .i64 0, .int .i64 0, .int .i64 0, .int .i64 0, .int .i64 0, .int .i64 0, .int .i64 0, .int .i64 0, .int .i64 0, .int .i64 0, .int .i64 0, .int .i64 0, .int .i64 0, .slice none 0 0, .slice none 0 0, .slice none 0 0, .slice none 0 0] 39)).setRow w4.heap.size (tbA t a4)) := below_setRow ((Below.refl _ _).alloc (Nat.le_refl _) _) (Nat.le_refl _) _
  have HXB : Hid (((w4.alloc (.cells #[.int .i64 0, .int .i64 0, .int .i64 0, .int .i64 0, .int .i64 0, .int .i64 0, .int .i64 0, .int .i64 0, .int .i64 0, .int .i64 0, .int .i64 0, .int .i64 0, .int .i64 0, .int .i64 0, .int .i64 0, .slice none 0 0, .slice none 0 0, .slice none 0 0, .slice none 0 0] 39)).setRow w4.heap.size (tbA t a4)).heap[w4.heap.size]? = some (.cells (tbA t a4) 39 (0, 0))) := setRow_heap _ _ _ _ _ _ HN.out
  have HBV : Hid (Below w.heap.size w ((w4.alloc (.cells #[.int .i64 0, .int .i64 0, .int .i64 0, .int .i64 0, .int .i64 0, .int .i64 0, .int .i64 0, .int .i64 0, .int .i64 0, .int .i64 0, .int .i64 0, .int .i64 0, .int .i64 0, .int .i64 0, .int .i64 0, .slice none 0 0, .slice none 0 0, .slice none 0 0, .slice none 0 0] 39)).setRow w4.heap.size (tbA t a4))) := HB4.out.trans (hbV.mono HB4.out.size)
  have HXV : Hid (((w4.alloc (.cells #[.int .i64 0, .int .i64 0, .int .i64 0, .int .i64 0, .int .i64 0, .int .i64 0, .int .i64 0, .int .i64 0, .int .i64 0, .int .i64 0, .int .i64 0, .int .i64 0, .int .i64 0, .int .i64 0, .int .i64 0, .slice none 0 0, .slice none 0 0, .slice none 0 0, .slice none 0 0] 39)).setRow w4.heap.size (tbA t a4)).heap[w.heap.size]? = some (.cells (tbA t a) 31 (0, 0))) := row_below HX4.out hbV
  have HCV : Hid (Cpy ((w4.alloc (.cells #[.int .i64 0, .int .i64 0, .int .i64 0, .int .i64 0, .int .i64 0, .int .i64 0, .int .i64 0, .int .i64 0, .int .i64 0, .int .i64 0, .int .i64 0, .int .i64 0, .int .i64 0, .int .i64 0, .int .i64 0, .slice none 0 0, .slice none 0 0, .slice none 0 0, .slice none 0 0] 39)).setRow w4.heap.size (tbA t a4)) t a a4) := HC4.out.below hbV
  clear hbV HB4 HX4 HC4
  go_wp2_with (first | (refine wpList_store_row rfl 39 (.tmp 7) (.tmp 19) rfl w4.heap.size (tbA t a4) rfl rfl 39 #[.int .i64 0, .int .i64 0, .int .i64 0, .int .i64 0, .int .i64 0, .int .i64 0, .int .i64 0, .int .i64 0, .int .i64 0, .int .i64 0, .int .i64 0, .int .i64 0, .int .i64 0, .int .i64 0, .int .i64 0, .slice none 0 0, .slice none 0 0, .slice none 0 0, .slice none 0 0] HN.out (by kernel_rfl) rfl (by simp [Value.oneCell']) ?_) | (refine wpList_load_row rfl 39 (.tmp 7) rfl w4.heap.size rfl 39 (tbA t a4) (0, 0) _ HXB.out Tryz.underlying39 rfl (by kernel_rfl) ?_) | fail)
  clear HN
  revert HXB HBV HXV HCV
  generalize (w4.alloc (.cells #[.int .i64 0, .int .i64 0, .int .i64 0, .int .i64 0, .int .i64 0, .int .i64 0, .int .i64 0, .int .i64 0, .int .i64 0, .int .i64 0, .int .i64 0, .int .i64 0, .int .i64 0, .int .i64 0, .int .i64 0, .slice none 0 0, .slice none 0 0, .slice none 0 0, .slice none 0 0] 39)).setRow w4.heap.size (tbA t a4) = V
  intro HXB HBV HXV HCV
  obtain ⟨N, hN⟩ : ∃ N, w4.heap.size = N := ⟨_, rfl⟩
  rw [hN] at HXB
  rw [hN]
  clear hN
  refine Calls.mono (impl_lat t a4 p _ HCV.out.m HCV.out.w HCV.out.s (HU.out _ HBV.out).2 HCV.out.c HCV.out.c2) ?_
  rintro e w5 ⟨⟨R2, rfl, hR2⟩, hb5⟩
  obtain rfl : R1 = R2 := La.LR.unique HR1.out hR2
  have HB5 : Hid (Below w.heap.size w w5) := HBV.out.trans (hb5.mono HBV.out.size)
  have HX5 : Hid (∀ X, Below w5.heap.size w5 X → X.heap[w.heap.size]? = some (.cells (tbA t a) 31 (0, 0))) := fun X hX => row_below (row_below HXV.out hb5) hX
  have HY5 : Hid (∀ X, Below w5.heap.size w5 X → X.heap[N]? = some (.cells (tbA t a4) 39 (0, 0))) := fun X hX => row_below (row_below HXB.out hb5) hX
  have HC5 : Hid (∀ X, Below w5.heap.size w5 X → Cpy X t a a4) := fun X hX => (HCV.out.below hb5).below hX
  clear hb5 HBV HXV HXB HCV HR1 hR2
  go_wp2
  refine wp_region_inv (by kernel_rfl) (by kernel_rfl) (fun A ℓ a' w' => ∃ (x26 x27 x28 x29 x30 : Value), a' = (((((A.put (some 26) x26).put (some 27) x27).put (some 28) x28).put (some 29) x29).put (some 30) x30) ∧ TI t a a4 w5 w' (ℓ 0) (ℓ 1) (ℓ 2) (ℓ 3) (ℓ 4) x26 x27 x28 x29 x30) ?_ ?_ ?_ ?_
  · exact ⟨undef, undef, undef, undef, undef, (by simp only [Act.put, List.setIfInBounds_toArray, List.set_cons_zero, List.set_cons_succ]), ⟨(Below.refl _ _).drew, (fun g => by cases g), (fun g => by cases g), (fun g => by cases g), (fun g => by cases g), (fun g => by cases g)⟩⟩
  · intro ℓ a' w' hI hall
    obtain ⟨x26, x27, x28, x29, x30, rfl, hr⟩ := hI
    have hall' : ∀ i, i < 5 → ℓ i = true := hall
    obtain rfl := hr.f4 (hall' 4 (by omega))
    have HE : Hid (Below w.heap.size w w') := HB5.out.trans (hr.gb.mono HB5.out.size)
    clear hr hall hall'
    simp only [Act.put, List.setIfInBounds_toArray, List.set_cons_zero, List.set_cons_succ]
    go_wp2
    go_ret
    exact ⟨rfl, HE.out⟩
  · intro ℓ a' w' i o hI ho hi hL hdep K hK
    obtain ⟨x26, x27, x28, x29, x30, rfl, hr⟩ := hI
    have hi7 : i < 5 := hi
    have hcs : i = 0 ∨ i = 1 ∨ i = 2 ∨ i = 3 ∨ i = 4 := by omega
    clear hi hi7
    rcases hcs with rfl | rfl | rfl | rfl | rfl
    · replace ho : some ({ dst := some 26, op := .load 39 (.tmp 7), type := 39, pos := "exact.go:7245", after := #[], guard := none } : Oper) = some o := ho
      obtain rfl := Option.some.inj ho
      clear hdep ho
      rw [if_pos (by rfl)]
      try simp only [Act.put, List.setIfInBounds_toArray, List.set_cons_zero, List.set_cons_succ]
      refine wp_load_row (P := Tryz.prog) 39 (.tmp 7) rfl N rfl 39 (tbA t a4) (0, 0) _ (HY5.out _ hr.gb) Tryz.underlying39 rfl (by kernel_rfl) ?_
      exact hK.out _ _ (fun j => if j = 0 then true else ℓ j) ⟨tbV t a4, x27, x28, x29, x30, (by simp only [Act.put, List.setIfInBounds_toArray, List.set_cons_zero, List.set_cons_succ]), ⟨hr.gb, (fun _ => rfl), hr.f1, hr.f2, hr.f3, hr.f4⟩⟩ (if_pos rfl) (fun j hj => if_neg hj)
    · replace ho : some ({ dst := some 27, op := .load 31 (.tmp 2), type := 31, pos := "exact.go:7245", after := #[], guard := none } : Oper) = some o := ho
      obtain rfl := Option.some.inj ho
      clear hdep ho
      rw [if_pos (by rfl)]
      try simp only [Act.put, List.setIfInBounds_toArray, List.set_cons_zero, List.set_cons_succ]
      refine wp_load_row (P := Tryz.prog) 31 (.tmp 2) rfl w.heap.size rfl 31 (tbA t a) (0, 0) _ (HX5.out _ hr.gb) Tryz.underlying31 rfl (by kernel_rfl) ?_
      exact hK.out _ _ (fun j => if j = 1 then true else ℓ j) ⟨x26, tbV t a, x28, x29, x30, (by simp only [Act.put, List.setIfInBounds_toArray, List.set_cons_zero, List.set_cons_succ]), ⟨hr.gb, hr.f0, (fun _ => rfl), hr.f2, hr.f3, hr.f4⟩⟩ (if_pos rfl) (fun j hj => if_neg hj)
    · obtain rfl := Option.some.inj ho
      have g : ℓ 1 = true := hdep { on := 1, ground := Ground.data } (by simp) rfl
      clear hdep ho
      obtain rfl := hr.f1 g
      rw [if_pos (by rfl)]
      try simp only [Act.put, List.setIfInBounds_toArray, List.set_cons_zero, List.set_cons_succ]
      go_simp
      refine Calls.mono (copy_tab t a _ (HU.out _ (HB5.out.trans (hr.gb.mono HB5.out.size))).1 HW.out HS.out) ?_
      rintro e w9 ⟨a9, rfl, hb9, hc9⟩
      have hr9 := hr.below hb9
      exact hK.out _ _ (fun j => if j = 2 then true else ℓ j) ⟨x26, tbV t a, tbV t a9, x29, x30, (by simp only [Act.put, List.setIfInBounds_toArray, List.set_cons_zero, List.set_cons_succ]), ⟨hr9.gb, hr9.f0, hr9.f1, (fun _ => ⟨a9, rfl, hc9⟩), hr9.f3, hr9.f4⟩⟩ (if_pos rfl) (fun j hj => if_neg hj)
    · obtain rfl := Option.some.inj ho
      have g0 : ℓ 0 = true := hdep { on := 0, ground := Ground.data } (by simp) rfl
      have g2 : ℓ 2 = true := hdep { on := 2, ground := Ground.data } (by simp) rfl
      clear hdep ho
      obtain rfl := hr.f0 g0
      obtain ⟨a9, rfl, hc9⟩ := hr.f2 g2
      have hc4 := HC5.out _ hr.gb
      rw [if_pos (by rfl)]
      try simp only [Act.put, List.setIfInBounds_toArray, List.set_cons_zero, List.set_cons_succ]
      go_simp
      refine Calls.mono (eq_tab t a4 a9 _ hc4.m hc9.m hc4.s (hc9.p1.trans hc4.p1.symm) (hc9.p2.trans hc4.p2.symm) (hc9.p3.trans hc4.p3.symm) (hc9.p4.trans hc4.p4.symm)) ?_
      rintro e w9 ⟨rfl, hb9⟩
      have hr9 := hr.below hb9
      exact hK.out _ _ (fun j => if j = 3 then true else ℓ j) ⟨tbV t a4, x27, tbV t a9, .bool true, x30, (by simp only [Act.put, List.setIfInBounds_toArray, List.set_cons_zero, List.set_cons_succ]), ⟨hr9.gb, hr9.f0, hr9.f1, hr9.f2, (fun _ => rfl), hr9.f4⟩⟩ (if_pos rfl) (fun j hj => if_neg hj)
    · obtain rfl := Option.some.inj ho
      have g : ℓ 3 = true := hdep { on := 3, ground := Ground.data } (by simp) rfl
      clear hdep ho
      obtain rfl := hr.f3 g
      rw [if_pos (by rfl)]
      try simp only [Act.put, List.setIfInBounds_toArray, List.set_cons_zero, List.set_cons_succ]
      go_simp
      exact hK.out _ _ (fun j => if j = 4 then true else ℓ j) ⟨x26, x27, x28, .bool true, .bool false, (by simp only [Act.put, List.setIfInBounds_toArray, List.set_cons_zero, List.set_cons_succ]), ⟨hr.gb, hr.f0, hr.f1, hr.f2, hr.f3, (fun _ => rfl)⟩⟩ (if_pos rfl) (fun j hj => if_neg hj)
  · rintro a' w' ℓ ℓ' hℓ hI
    rw [← show ℓ = ℓ' from funext hℓ]
    exact hI
end Go.Proofs.YthieilkabcehgaaGreatDoor
