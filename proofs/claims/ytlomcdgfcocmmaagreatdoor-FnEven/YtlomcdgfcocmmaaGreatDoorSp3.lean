/-
  The numbers of tables: the specification's own function. No conditions.
  A partition that is right: the specification's own function. Conditions: its name and its windows are at most 1048576.
  Partitions that are right, one and all: the specification's own function. Conditions: names and windows are at most 1048576.
-/
import Derived.Test.YtlomcdgfcocmmaaGreatDoorBas
import Derived.Test.YtlomcdgfcocmmaaGreatDoorRul
import Derived.BigQuiet
import Derived.Test.YtlomcdgfcocmmaaGreatDoorPev
import Derived.Test.YtlomcdgfcocmmaaGreatDoorClo3
namespace Go.Proofs.YtlomcdgfcocmmaaGreatDoor
open Go.ChangeShapes Go.WideShapes Go.ChangeAt Go.RowKit Go.Deep Go.Joins
set_option linter.unusedVariables false

/-- The rules on numbers. -/
def HeadP (t : Tb) : Prop := (64 ≤ t.mem ∧ t.mem ≤ 2048) ∧ t.mem % 4 = 0 ∧ shapeOk t.s1 t.s2 t.s3 = true ∧ (1 ≤ t.tlb ∧ t.tlb ≤ 8) ∧ costsOk t.c1 t.c2 t.c3 t.c4 t.c5 t.c6 t.c7 = true ∧ (1 ≤ t.pad ∧ t.pad ≤ 5000) ∧ (1 ≤ t.grd ∧ t.grd ≤ 5000) ∧ (1 ≤ t.maj ∧ t.maj ≤ 5000) ∧ worstStep t.c1 t.c2 t.c3 t.c4 t.c5 t.c6 t.c7 ≤ t.grd
set_option maxRecDepth 40000 in
set_option maxHeartbeats 8000000 in
theorem spec_head (t : Tb) (a : Ad) (q : Bool) (w : World) (hq : q = true ↔ HeadP t) :
    Calls Tryz.prog 61 #[tbV t a] w fun e w' => e = .returned (.bool q) ∧ Below w.heap.size w w' := by
  have HN : Hid (¬ HeadP t → q = false) := fun h => not_true hq h
  have HQ : Hid (q = true ↔ HeadP t) := hq
  have HM : Hid _ := tm4 t.mem
  clear hq
  have HB0 : Hid (Below w.heap.size w (w.alloc (.cells (tbA t a) 33))) := (Below.refl _ _).alloc (Nat.le_refl _) _
  have HX0 : Hid (TBx (w.alloc (.cells (tbA t a) 33)) w.heap.size t a) := TBx.new w t a _ rfl
  obtain ⟨b0, H0⟩ : ∃ b, Hid (inr t.mem 64 2048 = b) := ⟨_, rfl⟩
  obtain ⟨b1, H1⟩ : ∃ b, Hid (shapeOk t.s1 t.s2 t.s3 = b) := ⟨_, rfl⟩
  obtain ⟨b2, H2⟩ : ∃ b, Hid (inr t.tlb 1 8 = b) := ⟨_, rfl⟩
  obtain ⟨b3, H3⟩ : ∃ b, Hid (costsOk t.c1 t.c2 t.c3 t.c4 t.c5 t.c6 t.c7 = b) := ⟨_, rfl⟩
  go_enter Tryz.func61, Tryz.ntmps61
  go_wp2_with fail
  refine (in_any t.mem 64 2048 _).mono ?_
  rintro e w1 ⟨rfl, rfl⟩
  rw [H0.out]
  cases b0
  · have HT : Hid (q = false) := HN.out (fun h => by rw [inr_yes h.1] at H0; exact absurd H0.out (by simp))
    go_wp2
    go_ret
    exact ⟨ret_bool HT.out.symm, HB0.out⟩
  have hm := of_inr H0.out
  by_cases h4 : t.mem % 4 = 0
  rotate_left
  · have HT : Hid (q = false) := HN.out (fun h => h4 h.2.1)
    have h4' : (Int.tmod t.mem 4 != 0) = true := by
      have : ¬ Int.tmod t.mem 4 = 0 := fun h => h4 (HM.out.1 h)
      simpa using this
    have h5' : (t.mem % 4 != 0) = true := by simpa using h4
    clear h4 hm
    go_wp2
    go_ret
    exact ⟨ret_bool HT.out.symm, HB0.out⟩
  have h4' : Int.tmod t.mem 4 = 0 := HM.out.2 h4
  have HM4 : Hid (t.mem % 4 = 0 ∧ 64 ≤ t.mem ∧ t.mem ≤ 2048) := ⟨h4, hm⟩
  obtain ⟨hm1, hm2⟩ := hm
  go_wp2_with fail
  refine (spec_shok t.s1 t.s2 t.s3 _).mono ?_
  rintro e w2 ⟨rfl, hb2⟩
  have HB2 : Hid (Below w.heap.size w w2) := HB0.out.trans (hb2.mono HB0.out.size)
  have HX2 : Hid (TBx w2 w.heap.size t a) := HX0.out.below hb2
  clear hb2 HB0 HX0 h4 h4' hm1 hm2
  rw [H1.out]
  cases b1
  · have HT : Hid (q = false) := HN.out (fun h => by rw [h.2.2.1] at H1; exact absurd H1.out (by simp))
    go_wp2
    go_ret
    exact ⟨ret_bool HT.out.symm, HB2.out⟩
  have k4 : w2.cell? ⟨w.heap.size, 4, none⟩ = some (.int .i64 t.tlb) := HX2.out.cell 4 rfl
  go_wp2_with fail
  refine (in_any t.tlb 1 8 _).mono ?_
  rintro e w3 ⟨rfl, rfl⟩
  rw [H2.out]
  clear k4
  cases b2
  · have HT : Hid (q = false) := HN.out (fun h => by rw [inr_yes h.2.2.2.1] at H2; exact absurd H2.out (by simp))
    go_wp2
    go_ret
    exact ⟨ret_bool HT.out.symm, HB2.out⟩
  have k5 : w3.cell? ⟨w.heap.size, 5, none⟩ = some (.int .i64 t.c1) := HX2.out.cell 5 rfl
  have k6 : w3.cell? ⟨w.heap.size, 6, none⟩ = some (.int .i64 t.c2) := HX2.out.cell 6 rfl
  have k7 : w3.cell? ⟨w.heap.size, 7, none⟩ = some (.int .i64 t.c3) := HX2.out.cell 7 rfl
  have k8 : w3.cell? ⟨w.heap.size, 8, none⟩ = some (.int .i64 t.c4) := HX2.out.cell 8 rfl
  have k9 : w3.cell? ⟨w.heap.size, 9, none⟩ = some (.int .i64 t.c5) := HX2.out.cell 9 rfl
  have k10 : w3.cell? ⟨w.heap.size, 10, none⟩ = some (.int .i64 t.c6) := HX2.out.cell 10 rfl
  have k11 : w3.cell? ⟨w.heap.size, 11, none⟩ = some (.int .i64 t.c7) := HX2.out.cell 11 rfl
  go_wp2_with fail
  refine (spec_cok t.c1 t.c2 t.c3 t.c4 t.c5 t.c6 t.c7 _).mono ?_
  rintro e w5 ⟨rfl, hb5⟩
  have hb5' : Below w3.heap.size w3 w5 := by rw [hb5]; exact (Below.refl _ _).alloc (Nat.le_refl _) _
  have HB5 : Hid (Below w.heap.size w w5) := HB2.out.trans (hb5'.mono HB2.out.size)
  have HX5 : Hid (TBx w5 w.heap.size t a) := HX2.out.below hb5'
  clear hb5 hb5' HB2 HX2 k5 k6 k7 k8 k9 k10 k11
  rw [H3.out]
  cases b3
  · have HT : Hid (q = false) := HN.out (fun h => by rw [h.2.2.2.2.1] at H3; exact absurd H3.out (by simp))
    go_wp2
    go_ret
    exact ⟨ret_bool HT.out.symm, HB5.out⟩
  have k5 : w5.cell? ⟨w.heap.size, 5, none⟩ = some (.int .i64 t.c1) := HX5.out.cell 5 rfl
  have k6 : w5.cell? ⟨w.heap.size, 6, none⟩ = some (.int .i64 t.c2) := HX5.out.cell 6 rfl
  have k7 : w5.cell? ⟨w.heap.size, 7, none⟩ = some (.int .i64 t.c3) := HX5.out.cell 7 rfl
  have k8 : w5.cell? ⟨w.heap.size, 8, none⟩ = some (.int .i64 t.c4) := HX5.out.cell 8 rfl
  have k9 : w5.cell? ⟨w.heap.size, 9, none⟩ = some (.int .i64 t.c5) := HX5.out.cell 9 rfl
  have k10 : w5.cell? ⟨w.heap.size, 10, none⟩ = some (.int .i64 t.c6) := HX5.out.cell 10 rfl
  have k11 : w5.cell? ⟨w.heap.size, 11, none⟩ = some (.int .i64 t.c7) := HX5.out.cell 11 rfl
  have k12 : w5.cell? ⟨w.heap.size, 12, none⟩ = some (.int .i64 t.pad) := HX5.out.cell 12 rfl
  have k13 : w5.cell? ⟨w.heap.size, 13, none⟩ = some (.int .i64 t.grd) := HX5.out.cell 13 rfl
  have k14 : w5.cell? ⟨w.heap.size, 14, none⟩ = some (.int .i64 t.maj) := HX5.out.cell 14 rfl
  obtain ⟨v, HV⟩ : ∃ v, Hid (worstStep t.c1 t.c2 t.c3 t.c4 t.c5 t.c6 t.c7 = v) := ⟨_, rfl⟩
  have HWS : Hid (∀ x : Gr w5, Calls Tryz.prog 76 #[cst t.c1 t.c2 t.c3 t.c4 t.c5 t.c6 t.c7] x.w fun r w' => r = .returned (.int .i64 v) ∧ Below x.w.heap.size x.w w') := fun x => by rw [← HV.out]; exact spec_worstS t.c1 t.c2 t.c3 t.c4 t.c5 t.c6 t.c7 x.w
  have HQ2 : Hid (q = true ↔ ((1 ≤ t.pad ∧ t.pad ≤ 5000) ∧ (1 ≤ t.grd ∧ t.grd ≤ 5000) ∧ (1 ≤ t.maj ∧ t.maj ≤ 5000) ∧ v ≤ t.grd)) := by
    refine HQ.out.trans ⟨fun h => ⟨h.2.2.2.2.2.1, h.2.2.2.2.2.2.1, h.2.2.2.2.2.2.2.1, by rw [← HV.out]; exact h.2.2.2.2.2.2.2.2⟩, fun h => ⟨HM4.out.2, HM4.out.1, H1.out, of_inr H2.out, H3.out, h.1, h.2.1, h.2.2.1, by rw [HV.out]; exact h.2.2.2⟩⟩
  clear HQ HN HM HM4 H0 H1 H2 H3 HV HX5
  generalize t.pad = p at k12 HQ2
  generalize t.grd = g at k13 HQ2
  generalize t.maj = m at k14 HQ2
  obtain ⟨c1, D1⟩ : ∃ b, Hid (inr p 1 5000 = b) := ⟨_, rfl⟩
  obtain ⟨c2, D2⟩ : ∃ b, Hid (inr g 1 5000 = b) := ⟨_, rfl⟩
  obtain ⟨c3, D3⟩ : ∃ b, Hid (inr m 1 5000 = b) := ⟨_, rfl⟩
  have HI1 : Hid (∀ X, Calls Tryz.prog 33 #[.int .i64 p, .int .i64 1, .int .i64 5000] X fun e w' => e = .returned (.bool c1) ∧ w' = X) := fun X => by rw [← D1.out]; exact in_any p 1 5000 X
  have HI2 : Hid (∀ X, Calls Tryz.prog 33 #[.int .i64 g, .int .i64 1, .int .i64 5000] X fun e w' => e = .returned (.bool c2) ∧ w' = X) := fun X => by rw [← D2.out]; exact in_any g 1 5000 X
  have HI3 : Hid (∀ X, Calls Tryz.prog 33 #[.int .i64 m, .int .i64 1, .int .i64 5000] X fun e w' => e = .returned (.bool c3) ∧ w' = X) := fun X => by rw [← D3.out]; exact in_any m 1 5000 X
  cases c1
  · have HT : Hid (false = q) := (not_true HQ2.out (fun h => by rw [inr_yes h.1] at D1; exact absurd D1.out (by simp))).symm
    clear D1 D2 D3 HQ2
    replace k5 := fun x => gr_cell k5 x
    replace k6 := fun x => gr_cell k6 x
    replace k7 := fun x => gr_cell k7 x
    replace k8 := fun x => gr_cell k8 x
    replace k9 := fun x => gr_cell k9 x
    replace k10 := fun x => gr_cell k10 x
    replace k11 := fun x => gr_cell k11 x
    replace k12 := fun x => gr_cell k12 x
    replace k13 := fun x => gr_cell k13 x
    replace k14 := fun x => gr_cell k14 x
    go_wp2
    have hgr := gr_some w5
    refine region_alike (by kernel_rfl) (by kernel_rfl) ?_
    repeat (go_big_quiet_step (first | (go_at_call_of 33 (Value.int IntKind.i64 p); exact gr_same (HI1.out _))))
    refine wpQuiet_nil ?_
    intro _ hw'
    obtain ⟨X1, rfl⟩ := hw'
    have hb9 := X1.h
    generalize X1.w = W1 at hb9 ⊢
    have HB9 : Hid (Below w.heap.size w W1) := HB5.out.trans (hb9.mono HB5.out.size)
    clear hb9
    go_wp2
    go_ret
    exact ⟨ret_bool HT.out, HB9.out⟩
  cases c2
  · have HT : Hid (false = q) := (not_true HQ2.out (fun h => by rw [inr_yes h.2.1] at D2; exact absurd D2.out (by simp))).symm
    clear D1 D2 D3 HQ2
    replace k5 := fun x => gr_cell k5 x
    replace k6 := fun x => gr_cell k6 x
    replace k7 := fun x => gr_cell k7 x
    replace k8 := fun x => gr_cell k8 x
    replace k9 := fun x => gr_cell k9 x
    replace k10 := fun x => gr_cell k10 x
    replace k11 := fun x => gr_cell k11 x
    replace k12 := fun x => gr_cell k12 x
    replace k13 := fun x => gr_cell k13 x
    replace k14 := fun x => gr_cell k14 x
    go_wp2
    have hgr := gr_some w5
    refine region_alike (by kernel_rfl) (by kernel_rfl) ?_
    repeat (go_big_quiet_step (first | (go_at_call_of 33 (Value.int IntKind.i64 p); exact gr_same (HI1.out _)) | (go_at_call_of 33 (Value.int IntKind.i64 g); exact gr_same (HI2.out _))))
    refine wpQuiet_nil ?_
    intro _ hw'
    obtain ⟨X1, rfl⟩ := hw'
    have hb9 := X1.h
    generalize X1.w = W1 at hb9 ⊢
    have HB9 : Hid (Below w.heap.size w W1) := HB5.out.trans (hb9.mono HB5.out.size)
    clear hb9
    go_wp2
    go_ret
    exact ⟨ret_bool HT.out, HB9.out⟩
  cases c3
  · have HT : Hid (false = q) := (not_true HQ2.out (fun h => by rw [inr_yes h.2.2.1] at D3; exact absurd D3.out (by simp))).symm
    clear D1 D2 D3 HQ2
    replace k5 := fun x => gr_cell k5 x
    replace k6 := fun x => gr_cell k6 x
    replace k7 := fun x => gr_cell k7 x
    replace k8 := fun x => gr_cell k8 x
    replace k9 := fun x => gr_cell k9 x
    replace k10 := fun x => gr_cell k10 x
    replace k11 := fun x => gr_cell k11 x
    replace k12 := fun x => gr_cell k12 x
    replace k13 := fun x => gr_cell k13 x
    replace k14 := fun x => gr_cell k14 x
    go_wp2
    have hgr := gr_some w5
    refine region_alike (by kernel_rfl) (by kernel_rfl) ?_
    repeat (go_big_quiet_step (first | (go_at_call_of 33 (Value.int IntKind.i64 p); exact gr_same (HI1.out _)) | (go_at_call_of 33 (Value.int IntKind.i64 g); exact gr_same (HI2.out _)) | (go_at_call_of 33 (Value.int IntKind.i64 m); exact gr_same (HI3.out _))))
    refine wpQuiet_nil ?_
    intro _ hw'
    obtain ⟨X1, rfl⟩ := hw'
    have hb9 := X1.h
    generalize X1.w = W1 at hb9 ⊢
    have HB9 : Hid (Below w.heap.size w W1) := HB5.out.trans (hb9.mono HB5.out.size)
    clear hb9
    go_wp2
    go_ret
    exact ⟨ret_bool HT.out, HB9.out⟩
  · have HT : Hid (decide (v ≤ g) = q) := bool_is HQ2.out ⟨fun h => ⟨of_inr D1.out, of_inr D2.out, of_inr D3.out, of_decide_eq_true h⟩, fun h => decide_eq_true h.2.2.2⟩
    clear D1 D2 D3 HQ2
    generalize hd : decide (v ≤ g) = d at HT
    replace k5 := fun x => gr_cell k5 x
    replace k6 := fun x => gr_cell k6 x
    replace k7 := fun x => gr_cell k7 x
    replace k8 := fun x => gr_cell k8 x
    replace k9 := fun x => gr_cell k9 x
    replace k10 := fun x => gr_cell k10 x
    replace k11 := fun x => gr_cell k11 x
    replace k12 := fun x => gr_cell k12 x
    replace k13 := fun x => gr_cell k13 x
    replace k14 := fun x => gr_cell k14 x
    go_wp2
    have hgr := gr_some w5
    refine region_alike (by kernel_rfl) (by kernel_rfl) ?_
    repeat (go_big_quiet_step (first | (go_at_call_of 33 (Value.int IntKind.i64 p); exact gr_same (HI1.out _)) | (go_at_call_of 33 (Value.int IntKind.i64 g); exact gr_same (HI2.out _)) | (go_at_call_of 33 (Value.int IntKind.i64 m); exact gr_same (HI3.out _)) | (go_at_call 76; exact gr_call (HWS.out _))))
    refine wpQuiet_nil ?_
    intro _ hw'
    obtain ⟨X1, rfl⟩ := hw'
    have hb9 := X1.h
    generalize X1.w = W1 at hb9 ⊢
    have HB9 : Hid (Below w.heap.size w W1) := HB5.out.trans (hb9.mono HB5.out.size)
    clear hb9
    go_wp2
    go_ret
    exact ⟨ret_bool HT.out, HB9.out⟩
end Go.Proofs.YtlomcdgfcocmmaaGreatDoor
namespace Go.Proofs.YtlomcdgfcocmmaaGreatDoor
open Go.ChangeShapes Go.WideShapes Go.ChangeAt Go.RowKit Go.Deep Go.Joins
set_option linter.unusedVariables false

def PartP (p : Pt) (mem : Int) : Prop := Lab.nok (Tx.nums p.nm) = true ∧ polOk p.kd p.ms = true ∧ (1 ≤ p.ws.length ∧ p.ws.length ≤ 4) ∧ (∀ j, j < p.ws.length → WOk (p.ws.getD j wi0) ∧ (p.ws.getD j wi0).1 + (p.ws.getD j wi0).2.1 ≤ mem) ∧ (∃ j, j < p.ws.length ∧ Has (p.ws.getD j wi0) p.en ∧ 4 ≤ (p.ws.getD j wi0).2.2) ∧ p.en % 4 = 0
theorem div4 (x : Int) (h : 1 ≤ x ∧ x ≤ 7) : (Int.tdiv x 4 == 1) = decide (4 ≤ x) ∧ (x / 4 == 1) = decide (4 ≤ x) ∧ (wrap64 (Int.tdiv x 4) == 1) = decide (4 ≤ x) := by
  have : x = 1 ∨ x = 2 ∨ x = 3 ∨ x = 4 ∨ x = 5 ∨ x = 6 ∨ x = 7 := by omega
  rcases this with rfl | rfl | rfl | rfl | rfl | rfl | rfl <;> decide +kernel
set_option maxRecDepth 40000 in
set_option maxHeartbeats 8000000 in
theorem spec_part (y : Rw) (p : Pt) (mem : Int) (q : Bool) (w : World) (hg : Good 0 w y p) (hn : y.wn ≤ 1048576) (hm : y.nm.size ≤ 1048576) (hq : q = true ↔ PartP p mem) :
    Calls Tryz.prog 90 #[rwV y, .int .i64 mem] w fun e w' => e = .returned (.bool q) ∧ Below w.heap.size w w' := by
  have e1 := hg.nm
  have e2 := hg.en
  have e3 := hg.kd
  have e4 := hg.ms
  have e5 := hg.ln
  have HSG : Hid (GSeg 3 w y.wa y.wn (wiX p.ws)) := hg.sg.seg
  clear hg
  obtain ⟨nm, en, kd, ms, wa, wn, wc⟩ := y
  obtain ⟨nm', en', kd', ms', ws⟩ := p
  simp only at e1 e2 e3 e4 e5 hn hm HSG
  subst e1 e2 e3 e4
  simp only [PartP] at hq
  rw [e5] at hq
  have HN : Hid (∀ {P : Prop}, P → ¬ (Lab.nok (Tx.nums nm) = true ∧ polOk kd ms = true ∧ (1 ≤ wn ∧ wn ≤ 4) ∧ (∀ j, j < wn → WOk (ws.getD j wi0) ∧ (ws.getD j wi0).1 + (ws.getD j wi0).2.1 ≤ mem) ∧ (∃ j, j < wn ∧ Has (ws.getD j wi0) en ∧ 4 ≤ (ws.getD j wi0).2.2) ∧ en % 4 = 0) → q = false) := fun _ h => not_true hq h
  have HQ : Hid (q = true ↔ (Lab.nok (Tx.nums nm) = true ∧ polOk kd ms = true ∧ (1 ≤ wn ∧ wn ≤ 4) ∧ (∀ j, j < wn → WOk (ws.getD j wi0) ∧ (ws.getD j wi0).1 + (ws.getD j wi0).2.1 ≤ mem) ∧ (∃ j, j < wn ∧ Has (ws.getD j wi0) en ∧ 4 ≤ (ws.getD j wi0).2.2) ∧ en % 4 = 0)) := hq
  have HM4 : Hid _ := tm4 en
  clear hq e5
  simp only [rwV]
  have HB0 : Hid (Below w.heap.size w (w.alloc (.cells #[.string nm, .int .i64 en, .int .i64 kd, .int .i64 ms, .slice wa wn wc] 72))) := (Below.refl _ _).alloc (Nat.le_refl _) _
  have HK0 : Hid (CellsAt (w.alloc (.cells #[.string nm, .int .i64 en, .int .i64 kd, .int .i64 ms, .slice wa wn wc] 72)) w.heap.size 0 [.string nm, .int .i64 en, .int .i64 kd, .int .i64 ms, .slice wa wn wc]) := CellsAt.new w [.string nm, .int .i64 en, .int .i64 kd, .int .i64 ms, .slice wa wn wc] 72 _ rfl
  obtain ⟨b0, H0⟩ : ∃ b, Hid (Lab.nok (Tx.nums nm) = b) := ⟨_, rfl⟩
  obtain ⟨b1, H1⟩ : ∃ b, Hid (polOk kd ms = b) := ⟨_, rfl⟩
  obtain ⟨b2, H2⟩ : ∃ b, Hid (inr (wn : Int) 1 4 = b) := ⟨_, rfl⟩
  go_enter Tryz.func90, Tryz.ntmps90
  go_wp2_with fail
  refine (spec_name nm b0 _ hm H0).mono ?_
  rintro e w1 ⟨rfl, rfl⟩
  cases b0
  · have HT : Hid (q = false) := HN.out trivial (fun h => by rw [h.1] at H0; exact absurd H0.out (by simp))
    go_wp2
    go_ret
    exact ⟨ret_bool HT.out.symm, HB0.out⟩
  go_wp2_with fail
  refine (spec_pok kd ms _).mono ?_
  rintro e w2 ⟨rfl, hb2⟩
  have HB2 : Hid (Below w.heap.size w w2) := HB0.out.trans (hb2.mono HB0.out.size)
  have HK2 : Hid (CellsAt w2 w.heap.size 0 [.string nm, .int .i64 en, .int .i64 kd, .int .i64 ms, .slice wa wn wc]) := HK0.out.below hb2
  clear hb2 HB0 HK0
  rw [H1.out]
  cases b1
  · have HT : Hid (q = false) := HN.out trivial (fun h => by rw [h.2.1] at H1; exact absurd H1.out (by simp))
    go_wp2
    go_ret
    exact ⟨ret_bool HT.out.symm, HB2.out⟩
  have k4 : w2.cell? ⟨w.heap.size, 4, none⟩ = some (.slice wa wn wc) := cell0 HK2.out 4 rfl
  go_wp2_with fail
  refine (in_any (wn : Int) 1 4 _).mono ?_
  rintro e w3 ⟨rfl, rfl⟩
  rw [H2.out]
  cases b2
  · have HT : Hid (q = false) := HN.out trivial (fun h => by rw [inr_yes (by omega)] at H2; exact absurd H2.out (by simp))
    go_wp2
    go_ret
    exact ⟨ret_bool HT.out.symm, HB2.out⟩
  have hw4 := of_inr H2.out
  have HW4 : Hid (1 ≤ wn ∧ wn ≤ 4) := by show _ ∧ _; omega
  clear hw4 k4
  go_wp2
  go_loopw [5, 6] (fun v i wr => ∃ (m : Nat) (ins : Bool), m ≤ wn ∧ i = .int .i64 m ∧ v = .bool ins ∧ Hid (Below w.heap.size w wr ∧ CellsAt wr w.heap.size 0 [.string nm, .int .i64 en, .int .i64 kd, .int .i64 ms, .slice wa wn wc] ∧ (∀ j, j < m → WOk (ws.getD j wi0) ∧ (ws.getD j wi0).1 + (ws.getD j wi0).2.1 ≤ mem) ∧ (ins = true ↔ ∃ j, j < m ∧ Has (ws.getD j wi0) en ∧ 4 ≤ (ws.getD j wi0).2.2))) (fun _ i _ => wn - (intOf i).toNat)
  case atStart => exact ⟨0, false, by omega, rfl, rfl, HB2.out, HK2.out, fun j hj => absurd hj (by omega), ⟨fun h => (by cases h), fun ⟨j, hj, _⟩ => absurd hj (by omega)⟩⟩
  case round =>
    obtain ⟨m, ins, hm', rfl, rfl, HR⟩ := hrel
    have k4 : wr.cell? ⟨w.heap.size, 4, none⟩ = some (.slice wa wn wc) := cell0 HR.out.2.1 4 rfl
    have k1 : wr.cell? ⟨w.heap.size, 1, none⟩ = some (.int .i64 en) := cell0 HR.out.2.1 1 rfl
    by_cases hmn : m < wn
    rotate_left
    · obtain rfl : m = wn := by omega
      have HF : Hid (q = true ↔ (ins = true ∧ en % 4 = 0)) := HQ.out.trans ⟨fun h => ⟨HR.out.2.2.2.2 h.2.2.2.2.1, h.2.2.2.2.2⟩, fun h => ⟨H0.out, H1.out, HW4.out, HR.out.2.2.1, HR.out.2.2.2.1 h.1, h.2⟩⟩
      have HBF : Hid (Below w.heap.size w wr) := HR.out.1
      cases ins
      · have HT : Hid (q = false) := not_true HF.out (fun h => by cases h.1)
        clear HF HR
        go_wp2
        go_ret
        exact ⟨ret_bool HT.out.symm, HBF.out⟩
      · by_cases h4 : en % 4 = 0
        · have HT : Hid (q = true) := HF.out.2 ⟨by trivial, h4⟩
          have h4' : Int.tmod en 4 = 0 := HM4.out.2 h4
          clear HF HR
          go_wp2
          go_ret
          exact ⟨ret_bool HT.out.symm, HBF.out⟩
        · have HT : Hid (q = false) := not_true HF.out (fun h => h4 h.2)
          have h4' : (Int.tmod en 4 == 0) = false := by
            have : ¬ Int.tmod en 4 = 0 := fun h => h4 (HM4.out.1 h)
            simpa using this
          have h5' : (en % 4 == 0) = false := by simpa using h4
          clear HF HR h4
          go_wp2
          go_ret
          exact ⟨ret_bool HT.out.symm, HBF.out⟩
    have hmn' : (m : Int) < (wn : Int) := by omega
    obtain ⟨b1, o1, rfl, hbl1, p1⟩ := HSG.out.at m hmn
    replace p1 := p1.of (w' := wr) (fun j => HR.out.1.cell (p := ⟨b1, j, none⟩) hbl1)
    have HNO : Hid (¬ (WOk (ws.getD m wi0) ∧ (ws.getD m wi0).1 + (ws.getD m wi0).2.1 ≤ mem) → q = false) := fun h => HN.out trivial (fun g => h (g.2.2.2.1 m hmn))
    have HYA : Hid (WOk (ws.getD m wi0) ∧ (ws.getD m wi0).1 + (ws.getD m wi0).2.1 ≤ mem → ∀ j, j < m + 1 → WOk (ws.getD j wi0) ∧ (ws.getD j wi0).1 + (ws.getD j wi0).2.1 ≤ mem) := fun h j hj => by
      by_cases e : j = m
      · subst e; exact h
      · exact HR.out.2.2.1 j (by omega)
    have HYB : Hid (∀ r : Bool, (r = true ↔ (Has (ws.getD m wi0) en ∧ 4 ≤ (ws.getD m wi0).2.2)) → ((r || ins) = true ↔ ∃ j, j < m + 1 ∧ Has (ws.getD j wi0) en ∧ 4 ≤ (ws.getD j wi0).2.2)) := fun r hr => by
      rw [Bool.or_eq_true, hr, HR.out.2.2.2]
      constructor
      · rintro (h | ⟨j, hj, h⟩)
        · exact ⟨m, by omega, h⟩
        · exact ⟨j, by omega, h⟩
      · rintro ⟨j, hj, h⟩
        by_cases e : j = m
        · subst e; exact .inl h
        · exact .inr ⟨j, by omega, h⟩
    obtain ⟨qo, hqo⟩ := told (WOk (ws.getD m wi0))
    have HQO : Hid (qo = true ↔ WOk (ws.getD m wi0)) := hqo
    clear hqo
    simp only [wiX] at p1
    generalize ws.getD m wi0 = x at p1 HNO HYA HYB HQO
    obtain ⟨c0, c1, c2⟩ := wi_cells p1
    have HWO : Hid (∀ X, Calls Tryz.prog 110 #[win x.1 x.2.1 x.2.2] X fun e w' => e = .returned (.bool qo) ∧ Below X.heap.size X w') := fun X => spec_wok _ _ _ qo X HQO.out
    have HHS : Hid (WOk x → ∀ r : Bool, (r = true ↔ Has x en) → ∀ X, Calls Tryz.prog 111 #[win x.1 x.2.1 x.2.2, .int .i64 en] X fun e w' => e = .returned (.bool r) ∧ Below X.heap.size X w') := fun h r hr X => spec_has _ _ _ en r X h.fit hr
    have HFIT : Hid (WOk x → wrap64 (x.1 + x.2.1) = x.1 + x.2.1 ∧ (1 ≤ x.2.2 ∧ x.2.2 ≤ 7)) := fun h => ⟨h.fit, h.2.2.2.2.2.1, h.2.2.2.2.2.2⟩
    obtain ⟨x1, x2, x3⟩ := x
    simp only at c0 c1 c2 HWO HHS HNO HYA HYB HQO HFIT
    have hal : Below wr.heap.size wr (wr.alloc (.cells #[.int .i64 x1, .int .i64 x2, .int .i64 x3] 74)) := (Below.refl _ _).alloc (Nat.le_refl _) _
    have HBV : Hid (Below w.heap.size w (wr.alloc (.cells #[.int .i64 x1, .int .i64 x2, .int .i64 x3] 74)) ∧ CellsAt (wr.alloc (.cells #[.int .i64 x1, .int .i64 x2, .int .i64 x3] 74)) w.heap.size 0 [.string nm, .int .i64 en, .int .i64 kd, .int .i64 ms, .slice (some ⟨b1, o1, none⟩) wn wc] ∧ CellsAt (wr.alloc (.cells #[.int .i64 x1, .int .i64 x2, .int .i64 x3] 74)) wr.heap.size 0 [.int .i64 x1, .int .i64 x2, .int .i64 x3]) := ⟨HR.out.1.trans (hal.mono HR.out.1.size), HR.out.2.1.below hal, CellsAt.new wr [.int .i64 x1, .int .i64 x2, .int .i64 x3] 74 _ rfl⟩
    clear p1 hbl1 hal HR
    go_wp2_with fail
    refine Calls.mono (HWO.out _) ?_
    rintro e w4 ⟨rfl, hb4⟩
    have HB4 : Hid (Below w.heap.size w w4 ∧ CellsAt w4 w.heap.size 0 [.string nm, .int .i64 en, .int .i64 kd, .int .i64 ms, .slice (some ⟨b1, o1, none⟩) wn wc] ∧ CellsAt w4 wr.heap.size 0 [.int .i64 x1, .int .i64 x2, .int .i64 x3]) := ⟨HBV.out.1.trans (hb4.mono HBV.out.1.size), HBV.out.2.1.below hb4, HBV.out.2.2.below hb4⟩
    clear hb4 HBV HWO c0 c1 c2 k1 k4
    generalize wr.heap.size = Bv at HB4 ⊢
    cases qo
    · have HT : Hid (q = false) := HNO.out (fun h => by have := HQO.out.2 h.1; cases this)
      go_wp2
      go_ret
      exact ⟨ret_bool HT.out.symm, HB4.out.1⟩
    have hwk := HQO.out.1 (by trivial)
    obtain ⟨hfit, hp1, hp7⟩ := HFIT.out hwk
    have HWK : Hid (WinOk x1 x2 x3) := hwk
    obtain ⟨ex, HEX⟩ : ∃ ex, Hid (x1 + x2 = ex) := ⟨_, rfl⟩
    rw [HEX.out] at HNO HYA
    have d0 : w4.cell? ⟨Bv, 0, none⟩ = some (.int .i64 x1) := cell0 HB4.out.2.2 0 rfl
    have d1 : w4.cell? ⟨Bv, 1, none⟩ = some (.int .i64 x2) := cell0 HB4.out.2.2 1 rfl
    have d2 : w4.cell? ⟨Bv, 2, none⟩ = some (.int .i64 x3) := cell0 HB4.out.2.2 2 rfl
    have k1 : w4.cell? ⟨w.heap.size, 1, none⟩ = some (.int .i64 en) := cell0 HB4.out.2.1 1 rfl
    rw [HEX.out] at hfit
    have hexw : wrap64 (x1 + x2) = ex := by rw [HEX.out]; exact hfit
    have hD := div4 x3 ⟨hp1, hp7⟩
    clear HFIT HQO hwk hp1 hp7 hfit
    by_cases hle : ex ≤ mem
    rotate_left
    · have HT : Hid (q = false) := HNO.out (fun h => hle h.2)
      have hgt : mem < ex := by omega
      clear hD
      go_wp2
      go_ret
      exact ⟨ret_bool HT.out.symm, HB4.out.1⟩
    have hgt : ¬ mem < ex := by omega
    have HYA2 : Hid _ := HYA.out ⟨HWK.out, hle⟩
    obtain ⟨r, hr⟩ := told (Has (x1, x2, x3) en)
    have HRr : Hid (r = true ↔ Has (x1, x2, x3) en) := hr
    have HCH : Hid _ := HHS.out HWK.out r hr
    clear hr HHS HYA HNO
    obtain ⟨d, HDd⟩ : ∃ d, Hid (decide (4 ≤ x3) = d) := ⟨_, rfl⟩
    rw [HDd.out] at hD
    obtain ⟨hD1, hD2, hD3⟩ := hD
    go_wp2_with fail
    refine Calls.mono (HCH.out _) ?_
    rintro e w5 ⟨rfl, hb5⟩
    have HB5 : Hid (Below w.heap.size w w5 ∧ CellsAt w5 w.heap.size 0 [.string nm, .int .i64 en, .int .i64 kd, .int .i64 ms, .slice (some ⟨b1, o1, none⟩) wn wc]) := ⟨HB4.out.1.trans (hb5.mono HB4.out.1.size), HB4.out.2.1.below hb5⟩
    have d2 : w5.cell? ⟨Bv, 2, none⟩ = some (.int .i64 x3) := cell0 (HB4.out.2.2.below hb5) 2 rfl
    clear hb5 HB4 d0 d1 k1 HCH hexw
    cases r
    · have HI : Hid (ins = true ↔ ∃ j, j < m + 1 ∧ Has (ws.getD j wi0) en ∧ 4 ≤ (ws.getD j wi0).2.2) := by
        have h9 := HYB.out false ⟨fun h => (by cases h), fun h => (by have := HRr.out.2 h.1; cases this)⟩
        have h8 : ins = true ↔ ∃ j, j < m + 1 ∧ Has (ws.getD j wi0) en ∧ 4 ≤ (ws.getD j wi0).2.2 := by simpa using h9
        exact h8
      clear HYB HRr hD1 hD2 hD3 HDd
      go_wp2
      go_roundw
      case rel => exact ⟨m + 1, ins, by omega, by go_num, rfl, HB5.out.1, HB5.out.2, HYA2.out, HI.out⟩
      case measure => simp [intOf]; omega
    · have HI : Hid ((d || ins) = true ↔ ∃ j, j < m + 1 ∧ Has (ws.getD j wi0) en ∧ 4 ≤ (ws.getD j wi0).2.2) := HYB.out d ⟨fun h => ⟨HRr.out.1 (by trivial), of_decide_eq_true (HDd.out.trans h)⟩, fun h => by rw [← HDd.out]; exact decide_eq_true h.2⟩
      clear HYB HRr HDd
      cases d
      · go_wp2
        go_roundw
        case rel => exact ⟨m + 1, ins, by omega, by go_num, rfl, HB5.out.1, HB5.out.2, HYA2.out, by simpa using HI.out⟩
        case measure => simp [intOf]; omega
      · go_wp2
        go_roundw
        case rel => exact ⟨m + 1, true, by omega, by go_num, rfl, HB5.out.1, HB5.out.2, HYA2.out, by simpa using HI.out⟩
        case measure => simp [intOf]; omega
end Go.Proofs.YtlomcdgfcocmmaaGreatDoor
namespace Go.Proofs.YtlomcdgfcocmmaaGreatDoor
open Go.ChangeShapes Go.WideShapes Go.ChangeAt Go.RowKit Go.Deep Go.Joins
set_option linter.unusedVariables false

def Meet (x y : wiT) : Prop := x.1 < y.1 + y.2.1 ∧ y.1 < x.1 + x.2.1
def PartsP (ps : List Pt) (mem : Int) : Prop := (1 ≤ ps.length ∧ ps.length ≤ 6) ∧ (∀ i, i < ps.length → PartP (ps.getD i pt0) mem ∧ ∀ j, j < i → (ps.getD j pt0).nm ≠ (ps.getD i pt0).nm) ∧ ∀ i, i < (allW ps).length → ∀ j, j < i → ¬ Meet ((allW ps).getD j wi0) ((allW ps).getD i wi0)
def strEq (x y : ByteArray) : Bool := x.toList == y.toList
theorem strEq_iff {x y : ByteArray} : strEq x y = true ↔ x = y := by
  unfold strEq
  rw [ByteArray.toList_eq, ByteArray.toList_eq]
  constructor
  · intro h
    have : x.data.toList = y.data.toList := by simpa using h
    exact ByteArray.ext (by simpa using congrArg List.toArray this)
  · intro h
    subst h
    simp
set_option maxRecDepth 40000 in
set_option maxHeartbeats 8000000 in
theorem spec_parts0 (t : Tb) (pa da ca sa : Option Addr) (n pc dn dc cn cc sn sc : Nat) (ps : List Pt) (Y : Nat → Rw) (q : Bool) (w : World) (hs : PSegL 0 w pa n ps Y) (hl : ps.length = n) (hn : n ≤ 9223372036854775807) (hw : ∀ i, i < n → (Y i).wn ≤ 1048576 ∧ (Y i).nm.size ≤ 1048576) (hq : q = true ↔ PartsP ps t.mem) :
    Calls Tryz.prog 62 #[.agg #[.int .i64 t.mem, .int .i64 t.s1, .int .i64 t.s2, .int .i64 t.s3, .int .i64 t.tlb, .int .i64 t.c1, .int .i64 t.c2, .int .i64 t.c3, .int .i64 t.c4, .int .i64 t.c5, .int .i64 t.c6, .int .i64 t.c7, .int .i64 t.pad, .int .i64 t.grd, .int .i64 t.maj, .slice pa n pc, .slice da dn dc, .slice ca cn cc, .slice sa sn sc]] w fun e w' => e = .returned (.bool q) ∧ Below w.heap.size w w' := by
  have HS : Hid (PSegL 0 w pa n ps Y) := hs
  have HL : Hid (ps.length = n) := hl
  have HW : Hid (∀ i, i < n → (Y i).wn ≤ 1048576 ∧ (Y i).nm.size ≤ 1048576) := hw
  have HQ : Hid (q = true ↔ PartsP ps t.mem) := hq
  have HN : Hid (∀ {P : Prop}, P → ¬ PartsP ps t.mem → q = false) := fun _ h => not_true hq h
  clear hs hl hw hq
  have HB0 : Hid (Below w.heap.size w (w.alloc (.cells #[.int .i64 t.mem, .int .i64 t.s1, .int .i64 t.s2, .int .i64 t.s3, .int .i64 t.tlb, .int .i64 t.c1, .int .i64 t.c2, .int .i64 t.c3, .int .i64 t.c4, .int .i64 t.c5, .int .i64 t.c6, .int .i64 t.c7, .int .i64 t.pad, .int .i64 t.grd, .int .i64 t.maj, .slice pa n pc, .slice da dn dc, .slice ca cn cc, .slice sa sn sc] 33))) := (Below.refl _ _).alloc (Nat.le_refl _) _
  have HK0 : Hid (CellsAt (w.alloc (.cells #[.int .i64 t.mem, .int .i64 t.s1, .int .i64 t.s2, .int .i64 t.s3, .int .i64 t.tlb, .int .i64 t.c1, .int .i64 t.c2, .int .i64 t.c3, .int .i64 t.c4, .int .i64 t.c5, .int .i64 t.c6, .int .i64 t.c7, .int .i64 t.pad, .int .i64 t.grd, .int .i64 t.maj, .slice pa n pc, .slice da dn dc, .slice ca cn cc, .slice sa sn sc] 33)) w.heap.size 0 [.int .i64 t.mem, .int .i64 t.s1, .int .i64 t.s2, .int .i64 t.s3, .int .i64 t.tlb, .int .i64 t.c1, .int .i64 t.c2, .int .i64 t.c3, .int .i64 t.c4, .int .i64 t.c5, .int .i64 t.c6, .int .i64 t.c7, .int .i64 t.pad, .int .i64 t.grd, .int .i64 t.maj, .slice pa n pc, .slice da dn dc, .slice ca cn cc, .slice sa sn sc]) := CellsAt.new w [.int .i64 t.mem, .int .i64 t.s1, .int .i64 t.s2, .int .i64 t.s3, .int .i64 t.tlb, .int .i64 t.c1, .int .i64 t.c2, .int .i64 t.c3, .int .i64 t.c4, .int .i64 t.c5, .int .i64 t.c6, .int .i64 t.c7, .int .i64 t.pad, .int .i64 t.grd, .int .i64 t.maj, .slice pa n pc, .slice da dn dc, .slice ca cn cc, .slice sa sn sc] 33 _ rfl
  obtain ⟨b2, H2⟩ : ∃ b, Hid (inr (n : Int) 1 6 = b) := ⟨_, rfl⟩
  go_enter Tryz.func62, Tryz.ntmps62
  go_wp2_with fail
  refine (in_any (n : Int) 1 6 _).mono ?_
  rintro e w1 ⟨rfl, rfl⟩
  rw [H2.out]
  cases b2
  · have HT : Hid (q = false) := HN.out trivial (fun h => by have := h.1; rw [HL.out] at this; rw [inr_yes (by omega)] at H2; exact absurd H2.out (by simp))
    go_wp2
    go_ret
    exact ⟨ret_bool HT.out.symm, HB0.out⟩
  have hn6 : 1 ≤ n ∧ n ≤ 6 := by have := of_inr H2.out; omega
  go_wp2
  go_loopw [3] (fun i wr => ∃ m : Nat, m ≤ n ∧ i = .int .i64 m ∧ Hid (Below w.heap.size w wr ∧ CellsAt wr w.heap.size 0 [.int .i64 t.mem, .int .i64 t.s1, .int .i64 t.s2, .int .i64 t.s3, .int .i64 t.tlb, .int .i64 t.c1, .int .i64 t.c2, .int .i64 t.c3, .int .i64 t.c4, .int .i64 t.c5, .int .i64 t.c6, .int .i64 t.c7, .int .i64 t.pad, .int .i64 t.grd, .int .i64 t.maj, .slice pa n pc, .slice da dn dc, .slice ca cn cc, .slice sa sn sc] ∧ ∀ i, i < m → PartP (ps.getD i pt0) t.mem ∧ ∀ j, j < i → (ps.getD j pt0).nm ≠ (ps.getD i pt0).nm)) (fun i _ => n - (intOf i).toNat)
  case atStart => exact ⟨0, by omega, rfl, HB0.out, HK0.out, fun i hi => absurd hi (by omega)⟩
  case round =>
    obtain ⟨m, hm, rfl, HR⟩ := hrel
    have k15 : wr.cell? ⟨w.heap.size, 15, none⟩ = some (.slice pa n pc) := cell0 HR.out.2.1 15 rfl
    by_cases hmn : m < n
    rotate_left
    · obtain rfl : m = n := by omega
      have HAL : Hid (Calls Tryz.prog 91 #[.slice pa m pc] wr fun e w' => (∃ A c, e = .returned (.slice A (allW ps).length c) ∧ (allW ps).length ≤ c ∧ GSeg 3 w' A (allW ps).length (wiX (allW ps))) ∧ Below wr.heap.size wr w') := spec_all pa pc m ps Y wr (HS.out.below HR.out.1) HL.out (by omega) (fun i hi => by have := (HR.out.2.2 i hi).1.2.2.1; rw [(HS.out.2 i hi).ln] at this; exact this)
      have HPA : Hid (∀ i, i < m → PartP (ps.getD i pt0) t.mem ∧ ∀ j, j < i → (ps.getD j pt0).nm ≠ (ps.getD i pt0).nm) := HR.out.2.2
      have hN : (allW ps).length ≤ 24 := by
        have := allW_len (ps := ps) (fun i hi => ((HR.out.2.2 i (by rw [← HL.out]; exact hi)).1.2.2.1).2) ps.length (Nat.le_refl _)
        rw [List.take_length, HL.out] at this
        omega
      have HWK : Hid (∀ i, i < (allW ps).length → WOk ((allW ps).getD i wi0)) := fun i hi => by
        have hmem : (allW ps).getD i wi0 ∈ allW ps := by simp [List.getD, hi]
        obtain ⟨p, hp, j, hj, e⟩ := allW_mem hmem
        rw [e]
        exact ((HPA.out p (by rw [← HL.out]; exact hp)).1.2.2.2.1 j hj).1
      have HBR : Hid (Below w.heap.size w wr) := HR.out.1
      clear HR
      go_wp2_with fail
      refine Calls.mono HAL.out ?_
      rintro e w2 ⟨⟨A, c, rfl, hAc, hAs⟩, hb2⟩
      have HB2 : Hid (Below w.heap.size w w2) := HBR.out.trans (hb2.mono HBR.out.size)
      have HAS : Hid (GSeg 3 w2 A (allW ps).length (wiX (allW ps))) := hAs
      obtain ⟨xs, HXS⟩ : ∃ xs, Hid (allW ps = xs) := ⟨_, rfl⟩
      have HFN : Hid ((∀ i, i < xs.length → ∀ j, j < i → ¬ Meet (xs.getD j wi0) (xs.getD i wi0)) → q = true) := fun h => HQ.out.2 ⟨by rw [HL.out]; exact hn6, by rw [HL.out]; exact HPA.out, by rw [HXS.out]; exact h⟩
      have HFM : Hid (∀ i, i < xs.length → ∀ j, j < i → Meet (xs.getD j wi0) (xs.getD i wi0) → q = false) := fun i hi j hj h => HN.out trivial (fun g => by have := g.2.2 i (by rw [HXS.out]; exact hi) j hj; rw [HXS.out] at this; exact this h)
      rw [HXS.out] at HAS HWK hN
      rw [HXS.out]
      clear hb2 hAc hAs HBR HAL HPA HXS HQ HN k15
      obtain ⟨N, HNN⟩ : ∃ N, Hid (xs.length = N) := ⟨_, rfl⟩
      rw [HNN.out] at HAS HWK hN HFN HFM
      rw [HNN.out]
      go_wp2
      go_loopw [6] (fun i wq => ∃ m : Nat, m ≤ N ∧ i = .int .i64 m ∧ Hid (Below w2.heap.size w2 wq ∧ ∀ i, i < m → ∀ j, j < i → ¬ Meet (xs.getD j wi0) (xs.getD i wi0))) (fun i _ => N - (intOf i).toNat)
      case atStart => exact ⟨0, by omega, rfl, Below.refl _ _, fun i hi => absurd hi (by omega)⟩
      case round =>
        rename World => wq
        obtain ⟨i, hi, rfl, HR⟩ := hrel
        by_cases hiN : i < N
        rotate_left
        · obtain rfl : i = N := by omega
          have HT : Hid (q = true) := HFN.out HR.out.2
          have HBF : Hid (Below w.heap.size w wq) := HB2.out.trans (HR.out.1.mono HB2.out.size)
          clear HR
          go_wp2
          go_ret
          exact ⟨ret_bool HT.out.symm, HBF.out⟩
        have hiN' : (i : Int) < (N : Int) := by omega
        go_wp2
        go_loopw [7] (fun v wz => ∃ k : Nat, k ≤ i ∧ v = .int .i64 k ∧ Hid (Below w2.heap.size w2 wz ∧ ∀ j, j < k → ¬ Meet (xs.getD j wi0) (xs.getD i wi0))) (fun v _ => i - (intOf v).toNat)
        case atStart => exact ⟨0, by omega, rfl, HR.out.1, fun j hj => absurd hj (by omega)⟩
        case round =>
          rename World => wz
          obtain ⟨k, hk, rfl, HR2⟩ := hrel
          by_cases hki : k < i
          rotate_left
          · obtain rfl : k = i := by omega
            have HR3 : Hid (∀ j, j < k + 1 → ∀ j', j' < j → ¬ Meet (xs.getD j' wi0) (xs.getD j wi0)) := fun j hj j' hj' => by
              by_cases e : j = k
              · subst e; exact HR2.out.2 j' hj'
              · exact HR.out.2 j (by omega) j' hj'
            go_wp2
            go_roundw
            case rel => exact ⟨k + 1, by omega, by go_num, HR2.out.1, HR3.out⟩
            case measure => simp [intOf]; omega
          have hki' : (k : Int) < (i : Int) := by omega
          have hkN' : (k : Int) < (N : Int) := by omega
          obtain ⟨b1, o1, rfl, hbl1, p1⟩ := HAS.out.at i hiN
          obtain ⟨b2, o2, hbe, hbl2, p2⟩ := HAS.out.at k (by omega)
          cases hbe
          replace p1 := p1.of (w' := wz) (fun j => HR2.out.1.cell (p := ⟨b1, j, none⟩) hbl1)
          replace p2 := p2.of (w' := wz) (fun j => HR2.out.1.cell (p := ⟨b1, j, none⟩) hbl1)
          have hwi := HWK.out i hiN
          have hwk := HWK.out k (by omega)
          have HM1 : Hid (Meet (xs.getD k wi0) (xs.getD i wi0) → q = false) := HFM.out i hiN k hki
          obtain ⟨PP, HPP⟩ : ∃ PP : Prop, Hid (PP ↔ ∀ j, j < k + 1 → ¬ Meet (xs.getD j wi0) (xs.getD i wi0)) := ⟨_, Iff.rfl⟩
          have HM2 : Hid (¬ Meet (xs.getD k wi0) (xs.getD i wi0) → PP) := fun h => HPP.out.2 (fun j hj => by
            by_cases e : j = k
            · subst e; exact h
            · exact HR2.out.2 j (by omega))
          have HBZ : Hid (Below w2.heap.size w2 wz) := HR2.out.1
          simp only [wiX] at p1 p2
          obtain ⟨x, HXI⟩ : ∃ x, Hid (xs.getD i wi0 = x) := ⟨_, rfl⟩
          obtain ⟨y, HYK⟩ : ∃ y, Hid (xs.getD k wi0 = y) := ⟨_, rfl⟩
          rw [HXI.out] at p1 hwi HM1 HM2
          rw [HYK.out] at p2 hwk HM1 HM2
          clear HXI HYK
          obtain ⟨c0, c1, c2⟩ := wi_cells p1
          obtain ⟨d0, d1, d2⟩ := wi_cells p2
          have hf1 := hwi.fit
          have hf2 := hwk.fit
          obtain ⟨x1, x2, x3⟩ := x
          obtain ⟨y1, y2, y3⟩ := y
          simp only [Meet] at c0 c1 c2 d0 d1 d2 hf1 hf2 HM1 HM2
          obtain ⟨ex, HEX⟩ : ∃ e, Hid (x1 + x2 = e) := ⟨_, rfl⟩
          obtain ⟨ey, HEY⟩ : ∃ e, Hid (y1 + y2 = e) := ⟨_, rfl⟩
          rw [HEX.out] at HM1 HM2
          rw [HEY.out] at HM1 HM2
          have hg1 : wrap64 (x1 + x2) = ex := hf1.trans HEX.out
          have hg2 : wrap64 (y1 + y2) = ey := hf2.trans HEY.out
          have hh1 : IntKind.i64.wrap (x1 + x2) = ex := by
            have g1 : 0 ≤ x1 := hwi.1
            have g2 : 4 ≤ x2 := hwi.2.1
            have g3 : x1 + x2 ≤ 2048 := hwi.2.2.2.2.1
            rw [← HEX.out, IntKind.wrap_i64]
            omega
          have hh2 : IntKind.i64.wrap (y1 + y2) = ey := by
            have g1 : 0 ≤ y1 := hwk.1
            have g2 : 4 ≤ y2 := hwk.2.1
            have g3 : y1 + y2 ≤ 2048 := hwk.2.2.2.2.1
            rw [← HEY.out, IntKind.wrap_i64]
            omega
          clear p1 p2 hbl1 hwi hwk hf1 hf2 HR2
          replace c0 := fun X => gr_cell c0 X
          replace c1 := fun X => gr_cell c1 X
          replace c2 := fun X => gr_cell c2 X
          replace d0 := fun X => gr_cell d0 X
          replace d1 := fun X => gr_cell d1 X
          replace d2 := fun X => gr_cell d2 X
          by_cases h1 : y1 < ex
          · by_cases h2 : x1 < ey
            · have HT : Hid (q = false) := HM1.out ⟨h1, h2⟩
              go_wp2
              have hgr := gr_some wz
              refine region_alike (by kernel_rfl) (by kernel_rfl) ?_
              repeat (go_big_quiet_step (fail))
              refine wpQuiet_nil ?_
              intro _ hw'
              obtain ⟨X1, rfl⟩ := hw'
              have hb9 := X1.h
              generalize X1.w = W1 at hb9 ⊢
              have HB9 : Hid (Below w.heap.size w W1) := HB2.out.trans ((HBZ.out.trans (hb9.mono HBZ.out.size)).mono HB2.out.size)
              clear hb9 c0 c1 c2 d0 d1 d2
              go_wp2
              go_ret
              exact ⟨ret_bool HT.out.symm, HB9.out⟩
            · have HT : Hid PP := HM2.out (fun h => h2 h.2)
              have h2' : decide (x1 < ey) = false := decide_eq_false h2
              clear h2
              go_wp2
              have hgr := gr_some wz
              refine region_alike (by kernel_rfl) (by kernel_rfl) ?_
              repeat (go_big_quiet_step (fail))
              refine wpQuiet_nil ?_
              intro _ hw'
              obtain ⟨X1, rfl⟩ := hw'
              have hb9 := X1.h
              generalize X1.w = W1 at hb9 ⊢
              have HB9 : Hid (Below w2.heap.size w2 W1) := HBZ.out.trans (hb9.mono HBZ.out.size)
              clear hb9 c0 c1 c2 d0 d1 d2
              go_wp2
              go_roundw
              case rel => exact ⟨k + 1, by omega, by go_num, HB9.out, HPP.out.1 HT.out⟩
              case measure => simp [intOf]; omega
          · have HT : Hid PP := HM2.out (fun h => h1 h.1)
            have h1' : decide (y1 < ex) = false := decide_eq_false h1
            clear h1
            go_wp2
            have hgr := gr_some wz
            refine region_alike (by kernel_rfl) (by kernel_rfl) ?_
            repeat (go_big_quiet_step (fail))
            refine wpQuiet_nil ?_
            intro _ hw'
            obtain ⟨X1, rfl⟩ := hw'
            have hb9 := X1.h
            generalize X1.w = W1 at hb9 ⊢
            have HB9 : Hid (Below w2.heap.size w2 W1) := HBZ.out.trans (hb9.mono HBZ.out.size)
            clear hb9 c0 c1 c2 d0 d1 d2
            go_wp2
            go_roundw
            case rel => exact ⟨k + 1, by omega, by go_num, HB9.out, HPP.out.1 HT.out⟩
            case measure => simp [intOf]; omega
    have hmn' : (m : Int) < (n : Int) := by omega
    obtain ⟨b1, o1, rfl, hbl1, p0⟩ := HS.out.1.seg.at m hmn
    have HP : Hid (∀ X, Below w.heap.size w X → ∀ i, i < n → CellsAt X b1 (o1 + i * 5) (rwL (Y i))) := fun X hX i hi => by
      obtain ⟨b2, o2, e, hbl2, p2⟩ := HS.out.1.seg.at i hi
      cases e
      exact p2.of (fun j => hX.cell (p := ⟨b1, j, none⟩) hbl1)
    obtain ⟨c0, c1, c2, c3, c4⟩ := rw_cells (HP.out _ HR.out.1 m hmn)
    obtain ⟨qp, hqp⟩ := told (PartP (ps.getD m pt0) t.mem)
    have HQP : Hid (qp = true ↔ PartP (ps.getD m pt0) t.mem) := hqp
    have HPT : Hid (∀ x : Gr wr, Calls Tryz.prog 90 #[rwV (Y m), .int .i64 t.mem] x.w fun e w' => e = .returned (.bool qp) ∧ Below x.w.heap.size x.w w') := fun x => spec_part (Y m) (ps.getD m pt0) t.mem qp x.w ((HS.out.2 m hmn).below (HR.out.1.trans (x.h.mono HR.out.1.size))) (HW.out m hmn).1 (HW.out m hmn).2 hqp
    clear hqp p0
    have k0 : wr.cell? ⟨w.heap.size, 0, none⟩ = some (.int .i64 t.mem) := cell0 HR.out.2.1 0 rfl
    generalize hYm : Y m = y at c0 c1 c2 c3 c4 HPT
    have HYm : Hid (Y m = y) := hYm
    clear hYm
    obtain ⟨nm, en, kd, ms, wa, wn, wc⟩ := y
    simp only [rwV] at c0 c1 c2 c3 c4 HPT
    have HBR : Hid (Below w.heap.size w wr ∧ CellsAt wr w.heap.size 0 [.int .i64 t.mem, .int .i64 t.s1, .int .i64 t.s2, .int .i64 t.s3, .int .i64 t.tlb, .int .i64 t.c1, .int .i64 t.c2, .int .i64 t.c3, .int .i64 t.c4, .int .i64 t.c5, .int .i64 t.c6, .int .i64 t.c7, .int .i64 t.pad, .int .i64 t.grd, .int .i64 t.maj, .slice (some ⟨b1, o1, none⟩) n pc, .slice da dn dc, .slice ca cn cc, .slice sa sn sc]) := ⟨HR.out.1, HR.out.2.1⟩
    have HPR : Hid (∀ i, i < m → PartP (ps.getD i pt0) t.mem ∧ ∀ j, j < i → (ps.getD j pt0).nm ≠ (ps.getD i pt0).nm) := HR.out.2.2
    clear HR
    have k15' := k15
    replace k15 := fun X => gr_cell k15 X
    replace k0 := fun X => gr_cell k0 X
    replace c0 := fun X => gr_cell c0 X
    replace c1 := fun X => gr_cell c1 X
    replace c2 := fun X => gr_cell c2 X
    replace c3 := fun X => gr_cell c3 X
    replace c4 := fun X => gr_cell c4 X
    go_wp2
    have hgr := gr_some wr
    refine region_alike (by kernel_rfl) (by kernel_rfl) ?_
    repeat (go_big_quiet_step (first | (go_at_call 90; exact gr_call (HPT.out _))))
    refine wpQuiet_nil ?_
    intro _ hw'
    obtain ⟨X1, rfl⟩ := hw'
    have hb9 := X1.h
    generalize X1.w = W1 at hb9 ⊢
    have HB9 : Hid (Below w.heap.size w W1 ∧ CellsAt W1 w.heap.size 0 [.int .i64 t.mem, .int .i64 t.s1, .int .i64 t.s2, .int .i64 t.s3, .int .i64 t.tlb, .int .i64 t.c1, .int .i64 t.c2, .int .i64 t.c3, .int .i64 t.c4, .int .i64 t.c5, .int .i64 t.c6, .int .i64 t.c7, .int .i64 t.pad, .int .i64 t.grd, .int .i64 t.maj, .slice (some ⟨b1, o1, none⟩) n pc, .slice da dn dc, .slice ca cn cc, .slice sa sn sc]) := ⟨HBR.out.1.trans (hb9.mono HBR.out.1.size), HBR.out.2.below hb9⟩
    clear hb9 c0 c1 c2 c3 c4 k15 k0 k15' HBR HPT
    cases qp
    · have HT : Hid (q = false) := HN.out trivial (fun h => by have := HQP.out.2 (h.2.1 m (by rw [HL.out]; exact hmn)).1; cases this)
      go_wp2
      go_ret
      exact ⟨ret_bool HT.out.symm, HB9.out.1⟩
    have HPm : Hid _ := HQP.out.1 (by trivial)
    clear HQP
    go_wp2
    go_loopw [4] (fun v wq => ∃ k : Nat, k ≤ m ∧ v = .int .i64 k ∧ Hid (Below w.heap.size w wq ∧ CellsAt wq w.heap.size 0 [.int .i64 t.mem, .int .i64 t.s1, .int .i64 t.s2, .int .i64 t.s3, .int .i64 t.tlb, .int .i64 t.c1, .int .i64 t.c2, .int .i64 t.c3, .int .i64 t.c4, .int .i64 t.c5, .int .i64 t.c6, .int .i64 t.c7, .int .i64 t.pad, .int .i64 t.grd, .int .i64 t.maj, .slice (some ⟨b1, o1, none⟩) n pc, .slice da dn dc, .slice ca cn cc, .slice sa sn sc] ∧ ∀ j, j < k → (ps.getD j pt0).nm ≠ (ps.getD m pt0).nm)) (fun v _ => m - (intOf v).toNat)
    case atStart => exact ⟨0, by omega, rfl, HB9.out.1, HB9.out.2, fun j hj => absurd hj (by omega)⟩
    case round =>
      rename World => wq
      obtain ⟨k, hk, rfl, HR2⟩ := hrel
      by_cases hkm : k < m
      rotate_left
      · obtain rfl : k = m := by omega
        have HR3 : Hid (∀ i, i < k + 1 → PartP (ps.getD i pt0) t.mem ∧ ∀ j, j < i → (ps.getD j pt0).nm ≠ (ps.getD i pt0).nm) := fun i hi => by
          by_cases e : i = k
          · subst e; exact ⟨HPm.out, HR2.out.2.2⟩
          · exact HPR.out i (by omega)
        go_wp2
        go_roundw
        case rel => exact ⟨k + 1, by omega, by go_num, HR2.out.1, HR2.out.2.1, HR3.out⟩
        case measure => simp [intOf]; omega
      have hkm' : (k : Int) < (m : Int) := by omega
      have hkn' : (k : Int) < (n : Int) := by omega
      have c0 := (rw_cells (HP.out _ HR2.out.1 m hmn)).1
      have d0 := (rw_cells (HP.out _ HR2.out.1 k (by omega))).1
      have k15 : wq.cell? ⟨w.heap.size, 15, none⟩ = some (.slice (some ⟨b1, o1, none⟩) n pc) := cell0 HR2.out.2.1 15 rfl
      have HNE : Hid (strEq (Y k).nm (Y m).nm = true → q = false) := fun h => HN.out trivial (fun g => (g.2.1 m (by rw [HL.out]; exact hmn)).2 k hkm (by rw [← (HS.out.2 k (by omega)).nm, ← (HS.out.2 m hmn).nm]; exact strEq_iff.1 h))
      have HNN : Hid (strEq (Y k).nm (Y m).nm = false → ∀ j, j < k + 1 → (ps.getD j pt0).nm ≠ (ps.getD m pt0).nm) := fun h j hj => by
        by_cases e : j = k
        · subst e
          rw [← (HS.out.2 j (by omega)).nm, ← (HS.out.2 m hmn).nm]
          intro g
          rw [strEq_iff.2 g] at h
          cases h
        · exact HR2.out.2.2 j (by omega)
      have HBQ : Hid (Below w.heap.size w wq ∧ CellsAt wq w.heap.size 0 [.int .i64 t.mem, .int .i64 t.s1, .int .i64 t.s2, .int .i64 t.s3, .int .i64 t.tlb, .int .i64 t.c1, .int .i64 t.c2, .int .i64 t.c3, .int .i64 t.c4, .int .i64 t.c5, .int .i64 t.c6, .int .i64 t.c7, .int .i64 t.pad, .int .i64 t.grd, .int .i64 t.maj, .slice (some ⟨b1, o1, none⟩) n pc, .slice da dn dc, .slice ca cn cc, .slice sa sn sc]) := ⟨HR2.out.1, HR2.out.2.1⟩
      generalize (Y m).nm = nm1 at c0 HNE HNN
      generalize (Y k).nm = nm2 at d0 HNE HNN
      obtain ⟨se, HSE⟩ : ∃ b, Hid (strEq nm2 nm1 = b) := ⟨_, rfl⟩
      rw [HSE.out] at HNE HNN
      have hse : (nm2.toList == nm1.toList) = se := HSE.out
      clear HR2
      have k15' := k15
      replace c0 := fun X => gr_cell c0 X
      replace d0 := fun X => gr_cell d0 X
      replace k15 := fun X => gr_cell k15 X
      go_wp2
      have hgr := gr_some wq
      refine region_alike (by kernel_rfl) (by kernel_rfl) ?_
      repeat (go_big_quiet_step (fail))
      refine wpQuiet_nil ?_
      intro _ hw'
      obtain ⟨X1, rfl⟩ := hw'
      have hb9 := X1.h
      generalize X1.w = W2 at hb9 ⊢
      have HB8 : Hid (Below w.heap.size w W2 ∧ CellsAt W2 w.heap.size 0 [.int .i64 t.mem, .int .i64 t.s1, .int .i64 t.s2, .int .i64 t.s3, .int .i64 t.tlb, .int .i64 t.c1, .int .i64 t.c2, .int .i64 t.c3, .int .i64 t.c4, .int .i64 t.c5, .int .i64 t.c6, .int .i64 t.c7, .int .i64 t.pad, .int .i64 t.grd, .int .i64 t.maj, .slice (some ⟨b1, o1, none⟩) n pc, .slice da dn dc, .slice ca cn cc, .slice sa sn sc]) := ⟨HBQ.out.1.trans (hb9.mono HBQ.out.1.size), HBQ.out.2.below hb9⟩
      clear hb9 c0 d0 k15 k15' HBQ hse HSE
      cases se
      · have HT : Hid _ := HNN.out (by trivial)
        go_wp2
        go_roundw
        case rel => exact ⟨k + 1, by omega, by go_num, HB8.out.1, HB8.out.2, HT.out⟩
        case measure => simp [intOf]; omega
      · have HT : Hid (q = false) := HNE.out (by trivial)
        go_wp2
        go_ret
        exact ⟨ret_bool HT.out.symm, HB8.out.1⟩
theorem spec_parts (t : Tb) (a : Ad) (q : Bool) (w : World) (hm : TM 0 w t a) (hw : TW t a) (hs : TS a) (hq : q = true ↔ PartsP t.ps t.mem) :
    Calls Tryz.prog 62 #[tbV t a] w fun e w' => e = .returned (.bool q) ∧ Below w.heap.size w w' :=
  spec_parts0 t a.pa a.da a.ca a.sa a.pn a.pc a.dn a.dc a.cn a.cc a.sn a.sc t.ps a.Y q w hm.p hw.pl hw.pb hs.w hq
end Go.Proofs.YtlomcdgfcocmmaaGreatDoor
