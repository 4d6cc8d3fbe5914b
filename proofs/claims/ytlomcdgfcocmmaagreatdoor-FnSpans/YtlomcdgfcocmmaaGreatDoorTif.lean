
/-
  The slot that has a cycle, its phase, who may begin a step, whose slot begins: the specification's own functions. Conditions: the slots lie in memory; the tables are sound.
-/
import Derived.Test.YtlomcdgfcocmmaaGreatDoorBas
import Derived.Test.YtlomcdgfcocmmaaGreatDoorTia
namespace Go.Proofs.YtlomcdgfcocmmaaGreatDoor
open Go.ChangeShapes Go.WideShapes Go.ChangeAt Go.RowKit Go.Deep Go.Joins
set_option linter.unusedVariables false

set_option maxRecDepth 40000 in
set_option maxHeartbeats 4000000 in
theorem spec_slot (t : Tb) (a : Ad) (c : Int) (w : World) (hm : TM 0 w t a) (hw : TW t a) (hs : TS a) (ht : Tm t) (hc : 0 ≤ c) (hc2 : c ≤ 1000000) :
    Calls Tryz.prog 53 #[tbV t a, .int .i64 c] w fun e w' => e = .returned (.int .i64 (slotV t (c % t.maj))) ∧ Below w.heap.size w w' := by
  have hL : t.ss.length = a.sn := hw.sl
  have hn : a.sn ≤ 1048576 := hs.s
  have HSL : Hid (∀ X, Below w.heap.size w X → GSeg 3 X a.sa a.sn (slX t.ss)) := fun X hX => (hm.below hX).s.seg
  have HTM : Hid (Tm t) := ht
  have hpp : 0 ≤ c % t.maj ∧ c % t.maj < t.maj := mod_lt ht.maj1
  have hmj : t.maj ≤ 5000 := ht.maj2
  have hm0 : ¬ (t.maj = 0) := by have := ht.maj1; omega
  have HB0 : Hid (Below w.heap.size w (w.alloc (.cells (tbA t a) 33))) := (Below.refl _ _).alloc (Nat.le_refl _) _
  have HX0 : Hid (TBx (w.alloc (.cells (tbA t a) 33)) w.heap.size t a) := TBx.new w t a _ rfl
  have k14 : (w.alloc (.cells (tbA t a) 33)).cell? ⟨w.heap.size, 14, none⟩ = some (.int .i64 t.maj) := HX0.out.cell 14 rfl
  have HV : Hid (slotV t (c % t.maj) = slotF t.ss (c % t.maj) a.sn) := by show _ = _; rw [← hL]; rfl
  rw [HV.out]
  obtain ⟨p, HP⟩ : ∃ p, Hid (c % t.maj = p) := ⟨_, rfl⟩
  rw [HP.out] at hpp ⊢
  clear hm hw hs ht HV
  go_enter Tryz.func53, Tryz.ntmps53
  go_wp2
  clear k14
  rw [HP.out]
  have HX1 : Hid (∀ X, Below (w.alloc (.cells (tbA t a) 33)).heap.size (w.alloc (.cells (tbA t a) 33)) X → TBx X w.heap.size t a) := fun X hX => HX0.out.below hX
  revert HB0 HX1
  clear HX0
  generalize w.alloc (.cells (tbA t a) 33) = V0
  intro HB0 HX1
  go_loopw [6] (fun i wr => ∃ m : Nat, m ≤ a.sn ∧ i = .int .i64 m ∧ Hid (slotF t.ss p m = -1 ∧ Below V0.heap.size V0 wr)) (fun i _ => a.sn - (intOf i).toNat)
  case atStart => exact ⟨0, by omega, rfl, rfl, Below.refl _ _⟩
  case round =>
    obtain ⟨m, hm, rfl, HR⟩ := hrel
    have HBR : Hid (Below w.heap.size w wr) := HB0.out.trans (HR.out.2.mono HB0.out.size)
    have HXR : Hid (TBx wr w.heap.size t a) := HX1.out _ HR.out.2
    by_cases hmn : m < a.sn
    rotate_left
    · obtain rfl : m = a.sn := by omega
      have HT : Hid (-1 = slotF t.ss p a.sn) := HR.out.1.symm
      have k18 : wr.cell? ⟨w.heap.size, 18, none⟩ = some (.slice a.sa a.sn a.sc) := HXR.out.cell 18 rfl
      clear HR HXR HX1
      go_wp2
      go_ret
      exact ⟨ret_int HT.out, HBR.out⟩
    have hmn' : (m : Int) < (a.sn : Int) := by omega
    have k14 : wr.cell? ⟨w.heap.size, 14, none⟩ = some (.int .i64 t.maj) := HXR.out.cell 14 rfl
    obtain ⟨b1, o1, hsa, hbl1, p1⟩ := (HSL.out _ HBR.out).at m hmn
    have k18 : wr.cell? ⟨w.heap.size, 18, none⟩ = some (.slice (some ⟨b1, o1, none⟩) a.sn a.sc) := by rw [← hsa]; exact HXR.out.cell 18 rfl
    have hx1 := HTM.out.st m (by omega)
    have hx2 := HTM.out.ln m (by omega)
    have hx3 := HTM.out.en m (by omega)
    have hq1 := HTM.out.pad1
    have hq2 := HTM.out.grd1
    have HY : Hid (HasP (t.ss.getD m sl0) p → (m : Int) = slotF t.ss p a.sn) := fun h => (slotF_yes HR.out.1 h hmn).symm
    have HNO : Hid (¬ HasP (t.ss.getD m sl0) p → slotF t.ss p (m + 1) = -1) := fun h => slotF_no HR.out.1 h
    simp only [slX] at p1
    generalize t.ss.getD m sl0 = y at p1 hx1 hx2 hx3 HY HNO
    obtain ⟨c0, c1, c2⟩ := sl_cells p1
    obtain ⟨x1, x2, x3⟩ := y
    simp only at c0 c1 c2 hx1 hx2 hx3
    have hw1 : IntKind.i64.wrap (x2 + x3) = x2 + x3 := by rw [IntKind.wrap_i64]; omega
    have G18 := fun X => gr_cell (W0 := wr) k18 X
    have G14 := fun X => gr_cell (W0 := wr) k14 X
    have G0 := fun X => gr_cell (W0 := wr) c0 X
    have G1 := fun X => gr_cell (W0 := wr) c1 X
    have G2 := fun X => gr_cell (W0 := wr) c2 X
    clear p1 hbl1
    have HRB : Hid (Below V0.heap.size V0 wr) := HR.out.2
    have HBX : Hid (∀ X, Below wr.heap.size wr X → Below V0.heap.size V0 X) := fun X hX => HRB.out.trans (hX.mono HRB.out.size)
    clear HR
    by_cases h1 : x2 ≤ p
    · by_cases h2 : p < x2 + x3
      · have HT : Hid ((m : Int) = slotF t.ss p a.sn) := HY.out ⟨h1, h2⟩
        clear HY HNO
        go_wp2
        have hgr := gr_some wr
        refine region_alike (by kernel_rfl) (by kernel_rfl) ?_
        repeat (go_big_quiet_step (fail))
        refine wpQuiet_nil ?_
        intro _ hw'
        obtain ⟨X1, rfl⟩ := hw'
        have HBE : Hid (Below w.heap.size w X1.w) := HBR.out.trans (X1.h.mono HBR.out.size)
        generalize X1.w = W2 at HBE ⊢
        clear hgr G18 G14 G0 G1 G2 HBX
        go_wp2
        go_ret
        exact ⟨ret_int HT.out, HBE.out⟩
      · have HT : Hid (slotF t.ss p (m + 1) = -1) := HNO.out (fun g => h2 g.2)
        have hd1 : decide (p < x2 + x3) = false := decide_eq_false h2
        clear HY HNO
        go_wp2
        have hgr := gr_some wr
        refine region_alike (by kernel_rfl) (by kernel_rfl) ?_
        repeat (first | (go_big_quiet_step (fail)) | (rw [hd1]) | (simp only [hd1]))
        refine wpQuiet_nil ?_
        intro _ hw'
        obtain ⟨X1, rfl⟩ := hw'
        have HBE : Hid (Below V0.heap.size V0 X1.w) := HBX.out _ X1.h
        generalize X1.w = W2 at HBE ⊢
        clear hgr G18 G14 G0 G1 G2 HBX k18 k14 c0 c1 c2
        go_wp2
        go_roundw
        case rel => exact ⟨m + 1, by omega, by go_num, HT.out, HBE.out⟩
        case measure => simp [intOf]; omega
    · have HT : Hid (slotF t.ss p (m + 1) = -1) := HNO.out (fun g => h1 g.1)
      have hd1 : decide (x2 ≤ p) = false := decide_eq_false h1
      clear HY HNO
      go_wp2
      have hgr := gr_some wr
      refine region_alike (by kernel_rfl) (by kernel_rfl) ?_
      repeat (first | (go_big_quiet_step (fail)) | (rw [hd1]) | (simp only [hd1]))
      refine wpQuiet_nil ?_
      intro _ hw'
      obtain ⟨X1, rfl⟩ := hw'
      have HBE : Hid (Below V0.heap.size V0 X1.w) := HBX.out _ X1.h
      generalize X1.w = W2 at HBE ⊢
      clear hgr G18 G14 G0 G1 G2 HBX k18 k14 c0 c1 c2
      go_wp2
      go_roundw
      case rel => exact ⟨m + 1, by omega, by go_num, HT.out, HBE.out⟩
      case measure => simp [intOf]; omega
set_option maxRecDepth 40000 in
set_option maxHeartbeats 4000000 in
theorem spec_phase (t : Tb) (a : Ad) (c : Int) (w : World) (hm : TM 0 w t a) (hw : TW t a) (hs : TS a) (ht : Tm t) (hc : 0 ≤ c) (hc2 : c ≤ 1000000) :
    Calls Tryz.prog 84 #[tbV t a, .int .i64 c] w fun e w' => e = .returned (.int .i64 (phaseV t (c % t.maj))) ∧ Below w.heap.size w w' := by
  have hL : t.ss.length = a.sn := hw.sl
  have hn : a.sn ≤ 1048576 := hs.s
  have HSL : Hid (∀ X, Below w.heap.size w X → GSeg 3 X a.sa a.sn (slX t.ss)) := fun X hX => (hm.below hX).s.seg
  have HTM : Hid (Tm t) := ht
  have hpp : 0 ≤ c % t.maj ∧ c % t.maj < t.maj := mod_lt ht.maj1
  have hmj : t.maj ≤ 5000 := ht.maj2
  have hm0 : ¬ (t.maj = 0) := by have := ht.maj1; omega
  have HCS : Hid (∀ X, Below w.heap.size w X → Calls Tryz.prog 53 #[tbV t a, .int .i64 c] X fun e w' => e = .returned (.int .i64 (slotV t (c % t.maj))) ∧ Below X.heap.size X w') := fun X hX => spec_slot t a c X (hm.below hX) hw hs ht hc hc2
  have HB0 : Hid (Below w.heap.size w (w.alloc (.cells (tbA t a) 33))) := (Below.refl _ _).alloc (Nat.le_refl _) _
  have HX0 : Hid (TBx (w.alloc (.cells (tbA t a) 33)) w.heap.size t a) := TBx.new w t a _ rfl
  clear hm hw hs ht
  obtain ⟨s, HS⟩ : ∃ s, Hid (slotV t (c % t.maj) = s) := ⟨_, rfl⟩
  rw [HS.out] at HCS
  obtain ⟨f, HF⟩ : ∃ f, Hid (phaseV t (c % t.maj) = f) := ⟨_, rfl⟩
  rw [HF.out]
  have hpt := slotV_cases t (c % t.maj)
  rw [HS.out] at hpt
  rcases hpt with ⟨rfl, _⟩ | ⟨i, hi, rfl, hq⟩
  · have HT : Hid (f = 0) := by rw [← HF.out]; exact phaseV_free HS.out
    clear HF HS HSL HTM
    go_enter Tryz.func84, Tryz.ntmps84
    go_wp2_with (first | (refine wpList_load_row rfl 33 (.tmp 2) rfl w.heap.size rfl 33 (tbA t a) (0, 0) _ HX0.out Tryz.underlying33 rfl (by kernel_rfl) ?_) | fail)
    refine Calls.mono (HCS.out _ HB0.out) ?_
    rintro e w1 ⟨rfl, hb1⟩
    have HB1 : Hid (Below w.heap.size w w1) := HB0.out.trans (hb1.mono HB0.out.size)
    clear hb1 HB0 HX0 HCS
    go_wp2
    go_ret
    exact ⟨ret_int HT.out.symm, HB1.out⟩
  have HT0 : Hid (f = (if c % t.maj - (t.ss.getD i sl0).2.1 < t.pad then 1 else if (t.ss.getD i sl0).2.2 - t.grd ≤ c % t.maj - (t.ss.getD i sl0).2.1 then 3 else 2)) := by show _ = _; rw [← HF.out]; exact phaseV_at HS.out
  have hx1 := HTM.out.st i hi
  have hx2 := HTM.out.ln i hi
  have hx3 := HTM.out.en i hi
  have hp1 : 1 ≤ t.pad ∧ t.pad ≤ 5000 := ⟨HTM.out.pad1, HTM.out.pad2⟩
  have hg1 : 1 ≤ t.grd ∧ t.grd ≤ 5000 := ⟨HTM.out.grd1, HTM.out.grd2⟩
  have hin : ¬ ((i : Int) < 0) := by omega
  have hi2 : i < a.sn := by omega
  have hi3 : (i : Int) < (a.sn : Int) := by omega
  clear HF HS HTM hq hL
  go_enter Tryz.func84, Tryz.ntmps84
  go_wp2_with (first | (refine wpList_load_row rfl 33 (.tmp 2) rfl w.heap.size rfl 33 (tbA t a) (0, 0) _ HX0.out Tryz.underlying33 rfl (by kernel_rfl) ?_) | fail)
  refine Calls.mono (HCS.out _ HB0.out) ?_
  rintro e V ⟨rfl, hb1⟩
  have HB1 : Hid (Below w.heap.size w V) := HB0.out.trans (hb1.mono HB0.out.size)
  have HX1 : Hid (∀ X, Below V.heap.size V X → TBx X w.heap.size t a) := fun X hX => (HX0.out.below hb1).below hX
  clear hb1 HB0 HX0 HCS
  obtain ⟨b1, o1, hsa, hbl1, p1⟩ := (HSL.out _ HB1.out).at i hi2
  have k18 : V.cell? ⟨w.heap.size, 18, none⟩ = some (.slice (some ⟨b1, o1, none⟩) a.sn a.sc) := by rw [← hsa]; exact (HX1.out _ (Below.refl _ _)).cell 18 rfl
  have k14 : V.cell? ⟨w.heap.size, 14, none⟩ = some (.int .i64 t.maj) := (HX1.out _ (Below.refl _ _)).cell 14 rfl
  have HKD : Hid (∀ X, Below V.heap.size V X → X.cell? ⟨w.heap.size, 18, none⟩ = some (.slice (some ⟨b1, o1, none⟩) a.sn a.sc) ∧ X.cell? ⟨w.heap.size, 12, none⟩ = some (.int .i64 t.pad) ∧ X.cell? ⟨w.heap.size, 13, none⟩ = some (.int .i64 t.grd)) := fun X hX => ⟨by rw [← hsa]; exact (HX1.out _ hX).cell 18 rfl, (HX1.out _ hX).cell 12 rfl, (HX1.out _ hX).cell 13 rfl⟩
  simp only [slX] at p1
  generalize t.ss.getD i sl0 = y at p1 HT0 hx1 hx2 hx3
  obtain ⟨c0, c1, c2⟩ := sl_cells p1
  obtain ⟨x1, x2, x3⟩ := y
  simp only at c0 c1 c2 HT0 hx1 hx2 hx3
  have G18 := fun X => gr_cell (W0 := V) k18 X
  have G14 := fun X => gr_cell (W0 := V) k14 X
  have G1 := fun X => gr_cell (W0 := V) c1 X
  have HK2 : Hid (∀ X, Below V.heap.size V X → X.cell? ⟨b1, o1 + i * 3 + 2, none⟩ = some (.int .i64 x3)) := fun X hX => kept_cell hX c2
  have hwp : IntKind.i64.wrap (c % t.maj - x2) = c % t.maj - x2 := by rw [IntKind.wrap_i64]; omega
  clear p1 hbl1 HSL HX1
  go_wp2
  have hgr := gr_some V
  refine region_alike (by kernel_rfl) (by kernel_rfl) ?_
  repeat (go_big_quiet_step (fail))
  refine wpQuiet_nil ?_
  intro _ hw'
  obtain ⟨X1, rfl⟩ := hw'
  have HB2 : Hid (Below w.heap.size w X1.w) := HB1.out.trans (X1.h.mono HB1.out.size)
  have k18 := (HKD.out _ X1.h).1
  have k12 := (HKD.out _ X1.h).2.1
  have k13 := (HKD.out _ X1.h).2.2
  have c2 := HK2.out _ X1.h
  generalize X1.w = W2 at HB2 k18 k12 k13 c2 ⊢
  try rw [hwp]
  obtain ⟨d, HD⟩ : ∃ d, Hid (c % t.maj - x2 = d) := ⟨_, rfl⟩
  have hd1 : -5000 ≤ d ∧ d ≤ 5000 := by have := HD.out; omega
  rw [HD.out] at HT0 ⊢
  have hw2 : IntKind.i64.wrap (x3 - t.grd) = x3 - t.grd := by rw [IntKind.wrap_i64]; omega
  clear hgr G18 G14 G1 HKD HK2 hwp HD k14 c0 c1 hpp
  by_cases g1 : d < t.pad
  · have HT : Hid (1 = f) := by
      show _ = _
      rw [HT0.out, if_pos g1]
    clear HT0
    go_wp2
    go_ret
    exact ⟨ret_int HT.out, HB2.out⟩
  obtain ⟨z, HZ⟩ : ∃ z, Hid (x3 - t.grd = z) := ⟨_, rfl⟩
  have Gk18 := fun X => gr_cell (W0 := W2) k18 X
  have Gk13 := fun X => gr_cell (W0 := W2) k13 X
  have Gc2 := fun X => gr_cell (W0 := W2) c2 X
  by_cases g2 : x3 - t.grd ≤ d
  · have HT : Hid (3 = f) := by
      show _ = _
      rw [HT0.out, if_neg g1, if_pos g2]
    clear HT0
    go_wp2
    have hgr := gr_some W2
    refine region_alike (by kernel_rfl) (by kernel_rfl) ?_
    repeat (go_big_quiet_step (fail))
    refine wpQuiet_nil ?_
    intro _ hw'
    obtain ⟨X1, rfl⟩ := hw'
    have HB3 : Hid (Below w.heap.size w X1.w) := HB2.out.trans (X1.h.mono HB2.out.size)
    generalize X1.w = W3 at HB3 ⊢
    clear Gk18 Gk13 Gc2 hgr k18 k12 k13 c2
    go_wp2
    go_ret
    exact ⟨ret_int HT.out, HB3.out⟩
  · have HT : Hid (2 = f) := by
      show _ = _
      rw [HT0.out, if_neg g1, if_neg g2]
    have hd2 : decide (x3 - t.grd ≤ d) = false := decide_eq_false g2
    clear HT0
    go_wp2
    have hgr := gr_some W2
    refine region_alike (by kernel_rfl) (by kernel_rfl) ?_
    repeat (first | (go_big_quiet_step (fail)) | (rw [hd2]) | (simp only [hd2]))
    refine wpQuiet_nil ?_
    intro _ hw'
    obtain ⟨X1, rfl⟩ := hw'
    have HB3 : Hid (Below w.heap.size w X1.w) := HB2.out.trans (X1.h.mono HB2.out.size)
    generalize X1.w = W3 at HB3 ⊢
    clear Gk18 Gk13 Gc2 hgr k18 k12 k13 c2
    go_wp2
    go_ret
    exact ⟨ret_int HT.out, HB3.out⟩
end Go.Proofs.YtlomcdgfcocmmaaGreatDoor
