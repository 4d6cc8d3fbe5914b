
/-
  The numbers of tables: the specification's own function. No conditions.
-/
import Derived.Test.YtofibnmbgfggkaaGreatDoorBas
import Derived.Test.YtofibnmbgfggkaaGreatDoorRul
import Derived.Test.YtofibnmbgfggkaaGreatDoorLrw
import Derived.BigQuiet

namespace Go.Proofs.YtofibnmbgfggkaaGreatDoor
open Go.ChangeShapes Go.WideShapes Go.ChangeAt Go.RowKit Go.Deep Go.Joins
set_option linter.unusedVariables false

/-- The rules on numbers. -/
def HeadP (t : Tb) : Prop := (64 ≤ t.mem ∧ t.mem ≤ 2048) ∧ t.mem % 4 = 0 ∧ shapeOk t.s1 t.s2 t.s3 = true ∧ (1 ≤ t.tlb ∧ t.tlb ≤ 8) ∧ costsOk t.c1 t.c2 t.c3 t.c4 t.c5 t.c6 t.c7 = true ∧ (1 ≤ t.pad ∧ t.pad ≤ 5000) ∧ (1 ≤ t.grd ∧ t.grd ≤ 5000) ∧ (1 ≤ t.maj ∧ t.maj ≤ 5000) ∧ worstStep t.c1 t.c2 t.c3 t.c4 t.c5 t.c6 t.c7 ≤ t.grd
set_option maxRecDepth 40000 in
set_option maxHeartbeats 8000000 in
theorem spec_head (t : Tb) (a : Ad) (q : Bool) (w : World) (hq : q = true ↔ HeadP t) :
    Calls Tryz.prog 25 #[tbV t a] w fun e w' => e = .returned (.bool q) ∧ Below w.heap.size w w' := by
  have HN : Hid (¬ HeadP t → q = false) := fun h => not_true hq h
  have HQ : Hid (q = true ↔ HeadP t) := hq
  have HM : Hid _ := tm4 t.mem
  clear hq
  have HB0 : Hid (Below w.heap.size w (w.alloc (.cells (tbA t a) 40))) := (Below.refl _ _).alloc (Nat.le_refl _) _
  have HX0 : Hid (TBx (w.alloc (.cells (tbA t a) 40)) w.heap.size t a) := TBx.new w t a _ rfl
  obtain ⟨b0, H0⟩ : ∃ b, Hid (inr t.mem 64 2048 = b) := ⟨_, rfl⟩
  obtain ⟨b1, H1⟩ : ∃ b, Hid (shapeOk t.s1 t.s2 t.s3 = b) := ⟨_, rfl⟩
  obtain ⟨b2, H2⟩ : ∃ b, Hid (inr t.tlb 1 8 = b) := ⟨_, rfl⟩
  obtain ⟨b3, H3⟩ : ∃ b, Hid (costsOk t.c1 t.c2 t.c3 t.c4 t.c5 t.c6 t.c7 = b) := ⟨_, rfl⟩
  go_enter Tryz.func25, Tryz.ntmps25
  go_wp2_with fail
  refine (in_any t.mem 64 2048 _).mono ?_
  rintro e w1 ⟨rfl, rfl⟩
  rw [H0.out]
  cases b0
  · have HT : Hid (q = false) := HN.out (fun h => by rw [inr_yes h.1] at H0; exact absurd H0.out (by simp))
    go_wp2
    go_ret
    exact ⟨ret_bool HT.out.symm, HB0.out⟩
  have hm := of_inr H0.out
  by_cases h4 : t.mem % 4 = 0
  rotate_left
  · have HT : Hid (q = false) := HN.out (fun h => h4 h.2.1)
    have h4' : (Int.tmod t.mem 4 != 0) = true := by
      have : ¬ Int.tmod t.mem 4 = 0 := fun h => h4 (HM.out.1 h)
      simpa using this
    have h5' : (t.mem % 4 != 0) = true := by simpa using h4
    clear h4 hm
    go_wp2
    go_ret
    exact ⟨ret_bool HT.out.symm, HB0.out⟩
  have h4' : Int.tmod t.mem 4 = 0 := HM.out.2 h4
  have HM4 : Hid (t.mem % 4 = 0 ∧ 64 ≤ t.mem ∧ t.mem ≤ 2048) := ⟨h4, hm⟩
  obtain ⟨hm1, hm2⟩ := hm
  go_wp2_with fail
  refine (spec_shok t.s1 t.s2 t.s3 _).mono ?_
  rintro e w2 ⟨rfl, hb2⟩
  have HB2 : Hid (Below w.heap.size w w2) := HB0.out.trans (hb2.mono HB0.out.size)
  have HX2 : Hid (TBx w2 w.heap.size t a) := HX0.out.below hb2
  clear hb2 HB0 HX0 h4 h4' hm1 hm2
  rw [H1.out]
  cases b1
  · have HT : Hid (q = false) := HN.out (fun h => by rw [h.2.2.1] at H1; exact absurd H1.out (by simp))
    go_wp2
    go_ret
    exact ⟨ret_bool HT.out.symm, HB2.out⟩
  have k4 : w2.cell? ⟨w.heap.size, 4, none⟩ = some (.int .i64 t.tlb) := HX2.out.cell 4 rfl
  go_wp2_with fail
  refine (in_any t.tlb 1 8 _).mono ?_
  rintro e w3 ⟨rfl, rfl⟩
  rw [H2.out]
  clear k4
  cases b2
  · have HT : Hid (q = false) := HN.out (fun h => by rw [inr_yes h.2.2.2.1] at H2; exact absurd H2.out (by simp))
    go_wp2
    go_ret
    exact ⟨ret_bool HT.out.symm, HB2.out⟩
  have k5 : w3.cell? ⟨w.heap.size, 5, none⟩ = some (.int .i64 t.c1) := HX2.out.cell 5 rfl
  have k6 : w3.cell? ⟨w.heap.size, 6, none⟩ = some (.int .i64 t.c2) := HX2.out.cell 6 rfl
  have k7 : w3.cell? ⟨w.heap.size, 7, none⟩ = some (.int .i64 t.c3) := HX2.out.cell 7 rfl
  have k8 : w3.cell? ⟨w.heap.size, 8, none⟩ = some (.int .i64 t.c4) := HX2.out.cell 8 rfl
  have k9 : w3.cell? ⟨w.heap.size, 9, none⟩ = some (.int .i64 t.c5) := HX2.out.cell 9 rfl
  have k10 : w3.cell? ⟨w.heap.size, 10, none⟩ = some (.int .i64 t.c6) := HX2.out.cell 10 rfl
  have k11 : w3.cell? ⟨w.heap.size, 11, none⟩ = some (.int .i64 t.c7) := HX2.out.cell 11 rfl
  go_wp2_with fail
  refine (spec_cok t.c1 t.c2 t.c3 t.c4 t.c5 t.c6 t.c7 _).mono ?_
  rintro e w5 ⟨rfl, hb5⟩
  have hb5' : Below w3.heap.size w3 w5 := by rw [hb5]; exact (Below.refl _ _).alloc (Nat.le_refl _) _
  have HB5 : Hid (Below w.heap.size w w5) := HB2.out.trans (hb5'.mono HB2.out.size)
  have HX5 : Hid (TBx w5 w.heap.size t a) := HX2.out.below hb5'
  clear hb5 hb5' HB2 HX2 k5 k6 k7 k8 k9 k10 k11
  rw [H3.out]
  cases b3
  · have HT : Hid (q = false) := HN.out (fun h => by rw [h.2.2.2.2.1] at H3; exact absurd H3.out (by simp))
    go_wp2
    go_ret
    exact ⟨ret_bool HT.out.symm, HB5.out⟩
  have k5 : w5.cell? ⟨w.heap.size, 5, none⟩ = some (.int .i64 t.c1) := HX5.out.cell 5 rfl
  have k6 : w5.cell? ⟨w.heap.size, 6, none⟩ = some (.int .i64 t.c2) := HX5.out.cell 6 rfl
  have k7 : w5.cell? ⟨w.heap.size, 7, none⟩ = some (.int .i64 t.c3) := HX5.out.cell 7 rfl
  have k8 : w5.cell? ⟨w.heap.size, 8, none⟩ = some (.int .i64 t.c4) := HX5.out.cell 8 rfl
  have k9 : w5.cell? ⟨w.heap.size, 9, none⟩ = some (.int .i64 t.c5) := HX5.out.cell 9 rfl
  have k10 : w5.cell? ⟨w.heap.size, 10, none⟩ = some (.int .i64 t.c6) := HX5.out.cell 10 rfl
  have k11 : w5.cell? ⟨w.heap.size, 11, none⟩ = some (.int .i64 t.c7) := HX5.out.cell 11 rfl
  have k12 : w5.cell? ⟨w.heap.size, 12, none⟩ = some (.int .i64 t.pad) := HX5.out.cell 12 rfl
  have k13 : w5.cell? ⟨w.heap.size, 13, none⟩ = some (.int .i64 t.grd) := HX5.out.cell 13 rfl
  have k14 : w5.cell? ⟨w.heap.size, 14, none⟩ = some (.int .i64 t.maj) := HX5.out.cell 14 rfl
  obtain ⟨v, HV⟩ : ∃ v, Hid (worstStep t.c1 t.c2 t.c3 t.c4 t.c5 t.c6 t.c7 = v) := ⟨_, rfl⟩
  have HWS : Hid (∀ x : Gr w5, Calls Tryz.prog 52 #[cst t.c1 t.c2 t.c3 t.c4 t.c5 t.c6 t.c7] x.w fun r w' => r = .returned (.int .i64 v) ∧ Below x.w.heap.size x.w w') := fun x => by rw [← HV.out]; exact spec_worstS t.c1 t.c2 t.c3 t.c4 t.c5 t.c6 t.c7 x.w
  have HQ2 : Hid (q = true ↔ ((1 ≤ t.pad ∧ t.pad ≤ 5000) ∧ (1 ≤ t.grd ∧ t.grd ≤ 5000) ∧ (1 ≤ t.maj ∧ t.maj ≤ 5000) ∧ v ≤ t.grd)) := by
    refine HQ.out.trans ⟨fun h => ⟨h.2.2.2.2.2.1, h.2.2.2.2.2.2.1, h.2.2.2.2.2.2.2.1, by rw [← HV.out]; exact h.2.2.2.2.2.2.2.2⟩, fun h => ⟨HM4.out.2, HM4.out.1, H1.out, of_inr H2.out, H3.out, h.1, h.2.1, h.2.2.1, by rw [HV.out]; exact h.2.2.2⟩⟩
  clear HQ HN HM HM4 H0 H1 H2 H3 HV HX5
  generalize t.pad = p at k12 HQ2
  generalize t.grd = g at k13 HQ2
  generalize t.maj = m at k14 HQ2
  obtain ⟨c1, D1⟩ : ∃ b, Hid (inr p 1 5000 = b) := ⟨_, rfl⟩
  obtain ⟨c2, D2⟩ : ∃ b, Hid (inr g 1 5000 = b) := ⟨_, rfl⟩
  obtain ⟨c3, D3⟩ : ∃ b, Hid (inr m 1 5000 = b) := ⟨_, rfl⟩
  have HI1 : Hid (∀ X, Calls Tryz.prog 49 #[.int .i64 p, .int .i64 1, .int .i64 5000] X fun e w' => e = .returned (.bool c1) ∧ w' = X) := fun X => by rw [← D1.out]; exact in_any p 1 5000 X
  have HI2 : Hid (∀ X, Calls Tryz.prog 49 #[.int .i64 g, .int .i64 1, .int .i64 5000] X fun e w' => e = .returned (.bool c2) ∧ w' = X) := fun X => by rw [← D2.out]; exact in_any g 1 5000 X
  have HI3 : Hid (∀ X, Calls Tryz.prog 49 #[.int .i64 m, .int .i64 1, .int .i64 5000] X fun e w' => e = .returned (.bool c3) ∧ w' = X) := fun X => by rw [← D3.out]; exact in_any m 1 5000 X
  cases c1
  · have HT : Hid (false = q) := (not_true HQ2.out (fun h => by rw [inr_yes h.1] at D1; exact absurd D1.out (by simp))).symm
    clear D1 D2 D3 HQ2
    replace k5 := fun x => gr_cell k5 x
    replace k6 := fun x => gr_cell k6 x
    replace k7 := fun x => gr_cell k7 x
    replace k8 := fun x => gr_cell k8 x
    replace k9 := fun x => gr_cell k9 x
    replace k10 := fun x => gr_cell k10 x
    replace k11 := fun x => gr_cell k11 x
    replace k12 := fun x => gr_cell k12 x
    replace k13 := fun x => gr_cell k13 x
    replace k14 := fun x => gr_cell k14 x
    go_wp2
    have hgr := gr_some w5
    refine region_alike (by kernel_rfl) (by kernel_rfl) ?_
    repeat (go_big_quiet_step (first | (go_at_call_of 49 (Value.int IntKind.i64 p); exact gr_same (HI1.out _))))
    refine wpQuiet_nil ?_
    intro _ hw'
    obtain ⟨X1, rfl⟩ := hw'
    have hb9 := X1.h
    generalize X1.w = W1 at hb9 ⊢
    have HB9 : Hid (Below w.heap.size w W1) := HB5.out.trans (hb9.mono HB5.out.size)
    clear hb9
    go_wp2
    go_ret
    exact ⟨ret_bool HT.out, HB9.out⟩
  cases c2
  · have HT : Hid (false = q) := (not_true HQ2.out (fun h => by rw [inr_yes h.2.1] at D2; exact absurd D2.out (by simp))).symm
    clear D1 D2 D3 HQ2
    replace k5 := fun x => gr_cell k5 x
    replace k6 := fun x => gr_cell k6 x
    replace k7 := fun x => gr_cell k7 x
    replace k8 := fun x => gr_cell k8 x
    replace k9 := fun x => gr_cell k9 x
    replace k10 := fun x => gr_cell k10 x
    replace k11 := fun x => gr_cell k11 x
    replace k12 := fun x => gr_cell k12 x
    replace k13 := fun x => gr_cell k13 x
    replace k14 := fun x => gr_cell k14 x
    go_wp2
    have hgr := gr_some w5
    refine region_alike (by kernel_rfl) (by kernel_rfl) ?_
    repeat (go_big_quiet_step (first | (go_at_call_of 49 (Value.int IntKind.i64 p); exact gr_same (HI1.out _)) | (go_at_call_of 49 (Value.int IntKind.i64 g); exact gr_same (HI2.out _))))
    refine wpQuiet_nil ?_
    intro _ hw'
    obtain ⟨X1, rfl⟩ := hw'
    have hb9 := X1.h
    generalize X1.w = W1 at hb9 ⊢
    have HB9 : Hid (Below w.heap.size w W1) := HB5.out.trans (hb9.mono HB5.out.size)
    clear hb9
    go_wp2
    go_ret
    exact ⟨ret_bool HT.out, HB9.out⟩
  cases c3
  · have HT : Hid (false = q) := (not_true HQ2.out (fun h => by rw [inr_yes h.2.2.1] at D3; exact absurd D3.out (by simp))).symm
    clear D1 D2 D3 HQ2
    replace k5 := fun x => gr_cell k5 x
    replace k6 := fun x => gr_cell k6 x
    replace k7 := fun x => gr_cell k7 x
    replace k8 := fun x => gr_cell k8 x
    replace k9 := fun x => gr_cell k9 x
    replace k10 := fun x => gr_cell k10 x
    replace k11 := fun x => gr_cell k11 x
    replace k12 := fun x => gr_cell k12 x
    replace k13 := fun x => gr_cell k13 x
    replace k14 := fun x => gr_cell k14 x
    go_wp2
    have hgr := gr_some w5
    refine region_alike (by kernel_rfl) (by kernel_rfl) ?_
    repeat (go_big_quiet_step (first | (go_at_call_of 49 (Value.int IntKind.i64 p); exact gr_same (HI1.out _)) | (go_at_call_of 49 (Value.int IntKind.i64 g); exact gr_same (HI2.out _)) | (go_at_call_of 49 (Value.int IntKind.i64 m); exact gr_same (HI3.out _))))
    refine wpQuiet_nil ?_
    intro _ hw'
    obtain ⟨X1, rfl⟩ := hw'
    have hb9 := X1.h
    generalize X1.w = W1 at hb9 ⊢
    have HB9 : Hid (Below w.heap.size w W1) := HB5.out.trans (hb9.mono HB5.out.size)
    clear hb9
    go_wp2
    go_ret
    exact ⟨ret_bool HT.out, HB9.out⟩
  · have HT : Hid (decide (v ≤ g) = q) := bool_is HQ2.out ⟨fun h => ⟨of_inr D1.out, of_inr D2.out, of_inr D3.out, of_decide_eq_true h⟩, fun h => decide_eq_true h.2.2.2⟩
    clear D1 D2 D3 HQ2
    generalize hd : decide (v ≤ g) = d at HT
    replace k5 := fun x => gr_cell k5 x
    replace k6 := fun x => gr_cell k6 x
    replace k7 := fun x => gr_cell k7 x
    replace k8 := fun x => gr_cell k8 x
    replace k9 := fun x => gr_cell k9 x
    replace k10 := fun x => gr_cell k10 x
    replace k11 := fun x => gr_cell k11 x
    replace k12 := fun x => gr_cell k12 x
    replace k13 := fun x => gr_cell k13 x
    replace k14 := fun x => gr_cell k14 x
    go_wp2
    have hgr := gr_some w5
    refine region_alike (by kernel_rfl) (by kernel_rfl) ?_
    repeat (go_big_quiet_step (first | (go_at_call_of 49 (Value.int IntKind.i64 p); exact gr_same (HI1.out _)) | (go_at_call_of 49 (Value.int IntKind.i64 g); exact gr_same (HI2.out _)) | (go_at_call_of 49 (Value.int IntKind.i64 m); exact gr_same (HI3.out _)) | (go_at_call 52; exact gr_call (HWS.out _))))
    refine wpQuiet_nil ?_
    intro _ hw'
    obtain ⟨X1, rfl⟩ := hw'
    have hb9 := X1.h
    generalize X1.w = W1 at hb9 ⊢
    have HB9 : Hid (Below w.heap.size w W1) := HB5.out.trans (hb9.mono HB5.out.size)
    clear hb9
    go_wp2
    go_ret
    exact ⟨ret_bool HT.out, HB9.out⟩
end Go.Proofs.YtofibnmbgfggkaaGreatDoor
