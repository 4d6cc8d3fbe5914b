
/-
  The phase of a cycle, and whose slot it is in given phases: the program's own functions. Conditions: the slots lie in memory; the tables are sound.
-/
import Derived.Test.YtlomcdgfcocmmaaGreatDoorBas
import Derived.Test.YtlomcdgfcocmmaaGreatDoorTic
namespace Go.Proofs.YtlomcdgfcocmmaaGreatDoor
open Go.ChangeShapes Go.WideShapes Go.ChangeAt Go.RowKit Go.Deep Go.Joins
set_option linter.unusedVariables false

set_option maxRecDepth 40000 in
set_option maxHeartbeats 4000000 in
theorem run_of (t : Tb) (a : Ad) (x1 x2 x3 : Int) (w : World) (hp : 1 ≤ t.pad ∧ t.pad ≤ 5000) (hg : 1 ≤ t.grd ∧ t.grd ≤ 5000) (hx : 0 ≤ x2 ∧ 0 ≤ x3 ∧ x2 + x3 ≤ 5000) :
    Calls Tryz.prog 78 #[tbV t a, .agg #[.int .i64 x1, .int .i64 x2, .int .i64 x3]] w fun e w' => e = .returned (.tuple #[.int .i64 (x2 + t.pad), .int .i64 (x2 + x3 - t.grd)]) ∧ Below w.heap.size w w' := by
  have HE : Hid (∀ Y, Calls Tryz.prog 65 #[.agg #[.int .i64 x1, .int .i64 x2, .int .i64 x3]] Y fun e w' => e = .returned (.int .i64 (x2 + x3)) ∧ Below Y.heap.size Y w') := fun Y => slot_end x1 x2 x3 Y (by rw [IntKind.wrap_i64]; omega)
  obtain ⟨z, HZ⟩ : ∃ z, Hid (x2 + x3 = z) := ⟨_, rfl⟩
  rw [HZ.out] at HE hx ⊢
  have HB0 : Hid (Below w.heap.size w (w.alloc (.cells (tbA t a) 33))) := (Below.refl _ _).alloc (Nat.le_refl _) _
  have HX0 : Hid (TBx (w.alloc (.cells (tbA t a) 33)) w.heap.size t a) := TBx.new w t a _ rfl
  have hbV : Below (w.alloc (.cells (tbA t a) 33)).heap.size (w.alloc (.cells (tbA t a) 33)) ((w.alloc (.cells (tbA t a) 33)).alloc (.cells #[.int .i64 x1, .int .i64 x2, .int .i64 x3] 42)) := (Below.refl _ _).alloc (Nat.le_refl _) _
  have HBV : Hid (Below w.heap.size w ((w.alloc (.cells (tbA t a) 33)).alloc (.cells #[.int .i64 x1, .int .i64 x2, .int .i64 x3] 42))) := HB0.out.trans (hbV.mono HB0.out.size)
  have k12 : ((w.alloc (.cells (tbA t a) 33)).alloc (.cells #[.int .i64 x1, .int .i64 x2, .int .i64 x3] 42)).cell? ⟨w.heap.size, 12, none⟩ = some (.int .i64 t.pad) := (HX0.out.below hbV).cell 12 rfl
  have k13 : ((w.alloc (.cells (tbA t a) 33)).alloc (.cells #[.int .i64 x1, .int .i64 x2, .int .i64 x3] 42)).cell? ⟨w.heap.size, 13, none⟩ = some (.int .i64 t.grd) := (HX0.out.below hbV).cell 13 rfl
  have K : Hid (CellsAt ((w.alloc (.cells (tbA t a) 33)).alloc (.cells #[.int .i64 x1, .int .i64 x2, .int .i64 x3] 42)) (w.heap.size + 1) 0 [.int .i64 x1, .int .i64 x2, .int .i64 x3]) := CellsAt.new _ [.int .i64 x1, .int .i64 x2, .int .i64 x3] _ (w.heap.size + 1) (by simp)
  have c0 := cell0 K.out 0 rfl
  have c1 := cell0 K.out 1 rfl
  have c2 := cell0 K.out 2 rfl
  have hw1 : IntKind.i64.wrap (x2 + t.pad) = x2 + t.pad := by rw [IntKind.wrap_i64]; have := HZ.out; omega
  have hw2 : IntKind.i64.wrap (z - t.grd) = z - t.grd := by rw [IntKind.wrap_i64]; have := HZ.out; omega
  clear hbV HB0 HX0 K hx hp hg HZ
  go_enter Tryz.func78, Tryz.ntmps78
  go_wp2
  revert HBV k12 k13 c0 c1 c2
  generalize (w.alloc (.cells (tbA t a) 33)).alloc (.cells #[.int .i64 x1, .int .i64 x2, .int .i64 x3] 42) = V
  intro HBV k12 k13 c0 c1 c2
  have G12 := fun Y => gr_cell (W0 := V) k12 Y
  have G13 := fun Y => gr_cell (W0 := V) k13 Y
  have G0 := fun Y => gr_cell (W0 := V) c0 Y
  have G1 := fun Y => gr_cell (W0 := V) c1 Y
  have G2 := fun Y => gr_cell (W0 := V) c2 Y
  have hgr := gr_some V
  refine region_alike (by kernel_rfl) (by kernel_rfl) ?_
  repeat (go_big_quiet_step (first | (go_at_call 65; exact gr_call (HE.out _))))
  refine wpQuiet_nil ?_
  intro _ hw'
  obtain ⟨X1, rfl⟩ := hw'
  have HB2 : Hid (Below w.heap.size w X1.w) := HBV.out.trans (X1.h.mono HBV.out.size)
  generalize X1.w = W2 at HB2 ⊢
  clear G12 G13 G0 G1 G2 HE hgr k12 k13 c0 c1 c2 HBV
  try rw [hw1]
  try rw [hw2]
  go_wp2
  exact bodyPost_ret (v := .tuple #[.int .i64 (x2 + t.pad), .int .i64 (z - t.grd)]) (by simp [results, Tryz.results78, go_sem]) rfl ⟨rfl, HB2.out⟩
set_option maxRecDepth 40000 in
set_option maxHeartbeats 4000000 in
theorem phase_at (t : Tb) (a : Ad) (c : Int) (w : World) (hm : TM 0 w t a) (hw : TW t a) (hs : TS a) (hcs : a.sn ≤ a.sc) (ht : Tm t) (hc : 0 ≤ c) (hc2 : c ≤ 1000000) :
    Calls Tryz.prog 106 #[tbV t a, .int .i64 c] w fun e w' => e = .returned (.int .i64 (phaseV t (c % t.maj))) ∧ Below w.heap.size w w' := by
  have HCP : Hid (∀ X, Calls Tryz.prog 87 #[tbV t a, .int .i64 c] X fun e w' => e = .returned (.int .i64 (c % t.maj)) ∧ Below X.heap.size X w') := fun X => place_of t a c _ X ht.maj1 hc hc2 rfl
  have HCS : Hid (∀ X, Below w.heap.size w X → Calls Tryz.prog 107 #[tbV t a, .int .i64 c] X fun e w' => e = .returned (.int .i64 (slotV t (c % t.maj))) ∧ Below X.heap.size X w') := fun X hX => slot_at t a c X (hm.below hX) hw hs hcs ht hc hc2
  have hL : t.ss.length = a.sn := hw.sl
  have hn : a.sn ≤ 1048576 := hs.s
  have HSL : Hid (∀ X, Below w.heap.size w X → GSeg 3 X a.sa a.sn (slX t.ss)) := fun X hX => (hm.below hX).s.seg
  have HTM : Hid (Tm t) := ht
  have hpp : 0 ≤ c % t.maj ∧ c % t.maj < t.maj := mod_lt ht.maj1
  have hmj : t.maj ≤ 5000 := ht.maj2
  obtain ⟨p, HP⟩ : ∃ p, Hid (c % t.maj = p) := ⟨_, rfl⟩
  rw [HP.out] at HCP HCS hpp ⊢
  have HB0 : Hid (Below w.heap.size w (w.alloc (.cells (tbA t a) 33))) := (Below.refl _ _).alloc (Nat.le_refl _) _
  have HX0 : Hid (TBx (w.alloc (.cells (tbA t a) 33)) w.heap.size t a) := TBx.new w t a _ rfl
  clear hm hw hs ht hc hc2 hcs HP
  obtain ⟨s, HS⟩ : ∃ s, Hid (slotV t p = s) := ⟨_, rfl⟩
  rw [HS.out] at HCS
  obtain ⟨f, HF⟩ : ∃ f, Hid (phaseV t p = f) := ⟨_, rfl⟩
  rw [HF.out]
  have hpt := slotV_cases t p
  rw [HS.out] at hpt
  rcases hpt with ⟨rfl, _⟩ | ⟨i, hi, rfl, hq⟩
  · have HT : Hid (f = 0) := by rw [← HF.out]; exact phaseV_free HS.out
    clear HF HS HSL HTM HCP
    go_enter Tryz.func106, Tryz.ntmps106
    go_wp2_with (first | (refine wpList_load_row rfl 33 (.tmp 2) rfl w.heap.size rfl 33 (tbA t a) (0, 0) _ HX0.out Tryz.underlying33 rfl (by kernel_rfl) ?_) | fail)
    refine Calls.mono (HCS.out _ HB0.out) ?_
    rintro e w1 ⟨rfl, hb1⟩
    have HB1 : Hid (Below w.heap.size w w1) := HB0.out.trans (hb1.mono HB0.out.size)
    clear hb1 HB0 HX0 HCS
    go_wp2
    go_ret
    exact ⟨ret_int HT.out.symm, HB1.out⟩
  have HT0 : Hid (f = (if p - (t.ss.getD i sl0).2.1 < t.pad then 1 else if (t.ss.getD i sl0).2.2 - t.grd ≤ p - (t.ss.getD i sl0).2.1 then 3 else 2)) := by show _ = _; rw [← HF.out]; exact phaseV_at HS.out
  have hx1 := HTM.out.st i hi
  have hx2 := HTM.out.ln i hi
  have hx3 := HTM.out.en i hi
  have hp1 : 1 ≤ t.pad ∧ t.pad ≤ 5000 := ⟨HTM.out.pad1, HTM.out.pad2⟩
  have hg1 : 1 ≤ t.grd ∧ t.grd ≤ 5000 := ⟨HTM.out.grd1, HTM.out.grd2⟩
  have hin : ¬ ((i : Int) < 0) := by omega
  have hi2 : i < a.sn := by omega
  have hi3 : (i : Int) < (a.sn : Int) := by omega
  have HRO : Hid (∀ X, Calls Tryz.prog 78 #[tbV t a, slV (t.ss.getD i sl0)] X fun e w' => e = .returned (.tuple #[.int .i64 ((t.ss.getD i sl0).2.1 + t.pad), .int .i64 ((t.ss.getD i sl0).2.1 + (t.ss.getD i sl0).2.2 - t.grd)]) ∧ Below X.heap.size X w') := fun X => run_of t a _ _ _ X hp1 hg1 ⟨hx1, by omega, by omega⟩
  clear HF HS HTM hq hL
  go_enter Tryz.func106, Tryz.ntmps106
  go_wp2_with (first | (refine wpList_load_row rfl 33 (.tmp 2) rfl w.heap.size rfl 33 (tbA t a) (0, 0) _ HX0.out Tryz.underlying33 rfl (by kernel_rfl) ?_) | fail)
  refine Calls.mono (HCS.out _ HB0.out) ?_
  rintro e V ⟨rfl, hb1⟩
  have HB1 : Hid (Below w.heap.size w V) := HB0.out.trans (hb1.mono HB0.out.size)
  have HX1 : Hid (TBx V w.heap.size t a) := HX0.out.below hb1
  clear hb1 HB0 HX0 HCS
  obtain ⟨b1, o1, hsa, hbl1, p1⟩ := (HSL.out _ HB1.out).at i hi2
  have k18 : V.cell? ⟨w.heap.size, 18, none⟩ = some (.slice (some ⟨b1, o1, none⟩) a.sn a.sc) := by rw [← hsa]; exact HX1.out.cell 18 rfl
  simp only [slX] at p1
  generalize t.ss.getD i sl0 = y at p1 HT0 hx1 hx2 hx3 HRO
  obtain ⟨c0, c1, c2⟩ := sl_cells p1
  obtain ⟨x1, x2, x3⟩ := y
  simp only [slV] at c0 c1 c2 HT0 hx1 hx2 hx3 HRO
  have G18 := fun X => gr_cell (W0 := V) k18 X
  have G0 := fun X => gr_cell (W0 := V) c0 X
  have G1 := fun X => gr_cell (W0 := V) c1 X
  have G2 := fun X => gr_cell (W0 := V) c2 X
  obtain ⟨u, HU⟩ : ∃ u, Hid (x2 + t.pad = u) := ⟨_, rfl⟩
  obtain ⟨v, HV⟩ : ∃ v, Hid (x2 + x3 - t.grd = v) := ⟨_, rfl⟩
  rw [HU.out, HV.out] at HRO
  have HXX : Hid (∀ w', (∃ X : Gr V, w' = X.w) → w'.heap[w.heap.size]? = some (.cells (tbA t a) 33 (0, 0))) := fun w' hX => by
    obtain ⟨X, rfl⟩ := hX
    exact HX1.out.below X.h
  clear p1 hbl1 HSL
  go_wp2
  have hgr := gr_some V
  refine region_alike (by kernel_rfl) (by kernel_rfl) ?_
  repeat (first | (refine wpQuiet_load_row rfl 33 (.tmp 2) rfl w.heap.size rfl 33 (tbA t a) (0, 0) _ HXX.out Tryz.underlying33 rfl (by kernel_rfl) ?_; simp only [Act.put, List.setIfInBounds_toArray, List.set_cons_zero, List.set_cons_succ]) | go_big_quiet_step (first | (go_at_call 78; exact gr_call (HRO.out _))))
  refine wpQuiet_nil ?_
  intro _ hw'
  obtain ⟨X1, rfl⟩ := hw'
  have HB2 : Hid (Below w.heap.size w X1.w) := HB1.out.trans (X1.h.mono HB1.out.size)
  have HX2 : Hid (TBx X1.w w.heap.size t a) := HX1.out.below X1.h
  generalize X1.w = W2 at HB2 HX2 ⊢
  clear G18 G0 G1 G2 HRO hgr HXX k18 c0 c1 c2 HX1 HB1
  go_wp2_with (first | (refine wpList_load_row rfl 33 (.tmp 2) rfl w.heap.size rfl 33 (tbA t a) (0, 0) _ HX2.out Tryz.underlying33 rfl (by kernel_rfl) ?_) | fail)
  refine Calls.mono (HCP.out _) ?_
  rintro e w3 ⟨rfl, hb3⟩
  have HB3 : Hid (Below w.heap.size w w3) := HB2.out.trans (hb3.mono HB2.out.size)
  clear hb3 HB2 HX2 HCP
  by_cases g1 : p < u
  · have HT : Hid (1 = f) := by
      show _ = _
      have := HU.out
      rw [HT0.out, if_pos (by omega)]
    clear HT0 HU HV
    go_wp2
    go_ret
    exact ⟨ret_int HT.out, HB3.out⟩
  by_cases g2 : p < v
  · have HT : Hid (2 = f) := by
      show _ = _
      have := HU.out
      have := HV.out
      rw [HT0.out, if_neg (by omega), if_neg (by omega)]
    clear HT0 HU HV
    go_wp2
    go_ret
    exact ⟨ret_int HT.out, HB3.out⟩
  · have HT : Hid (3 = f) := by
      show _ = _
      have := HU.out
      have := HV.out
      rw [HT0.out, if_neg (by omega), if_pos (by omega)]
    clear HT0 HU HV
    go_wp2
    go_ret
    exact ⟨ret_int HT.out, HB3.out⟩
end Go.Proofs.YtlomcdgfcocmmaaGreatDoor
