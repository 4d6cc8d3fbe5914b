
/-
  The images of all partitions, right or not: both sides. Conditions: the lists lie in memory and are of at most 1048576 items; the program's table of extras holds what the program's text lays.
-/
import Derived.Test.YtgmhcngdgfhhaaaGreatDoorBas
import Derived.Test.YtgmhcngdgfhhaaaGreatDoorImg
import Derived.Test.YtgmhcngdgfhhaaaGreatDoorIms
import Derived.Test.YtgmhcngdgfhhaaaGreatDoorLsw
namespace Go.Proofs.YtgmhcngdgfhhaaaGreatDoor
open Go.ChangeShapes Go.WideShapes Go.ChangeAt Go.RowKit Go.Deep Go.Joins
set_option linter.unusedVariables false

/-- The images fit the partitions. -/
def ImsFit (t : Tb) (n : Nat) (N : Nat → Nat) (D : Nat → Nat → List Int) : Prop := n = t.ps.length ∧ ∀ i, i < n → ImFit t (i : Int) (N i) (D i)
theorem row_of {w : World} {B : Nat} {t : Tb} {a : Ad} (h : TBx w B t a) : w.heap[B]? = some (.cells (tbA t a) 44 (0, 0)) := h
set_option maxRecDepth 40000 in
set_option maxHeartbeats 8000000 in
theorem spec_images (t : Tb) (a : Ad) (ia : Option Addr) (ic n : Nat) (N : Nat → Nat) (D : Nat → Nat → List Int) (q : Bool) (w : World) (hm : TM 0 w t a) (hw : TW t a) (hs : TS a) (hi : MSeg w ia n N D) (hn : n ≤ 1048576) (hd : MSz n N D) (hq : q = true ↔ (Sd t ∧ ImsFit t n N D)) :
    Calls Tryz.prog 20 #[tbV t a, .slice ia n ic] w fun e w' => e = .returned (.bool q) ∧ Below w.heap.size w w' := by
  obtain ⟨q1, hq1⟩ := told (Sd t)
  have HB0 : Hid (Below w.heap.size w (w.alloc (.cells (tbA t a) 44))) := (Below.refl _ _).alloc (Nat.le_refl _) _
  have HX0 : Hid (TBx (w.alloc (.cells (tbA t a) 44)) w.heap.size t a) := TBx.new w t a _ rfl
  have HQ1 : Hid (q1 = true ↔ Sd t) := hq1
  have HQ : Hid (q = true ↔ (Sd t ∧ ImsFit t n N D)) := hq
  have HL : Hid (t.ps.length = a.pn) := hw.pl
  have HI : Hid (MSeg w ia n N D) := hi
  have hpn : a.pn ≤ 1048576 := hs.p
  have HDD : Hid (∀ i j, i < n → j < N i → (D i j).length ≤ 1048576) := fun i j hi hj => Nat.le_trans (btot_row (D i) hj) (hd i hi).2
  have HSP : Hid (Calls Tryz.prog 51 #[tbV t a] (w.alloc (.cells (tbA t a) 44)) fun e w' => e = .returned (.bool q1) ∧ Below (w.alloc (.cells (tbA t a) 44)).heap.size (w.alloc (.cells (tbA t a) 44)) w') := spec_sound t a q1 _ (hm.below HB0.out) hw hs hq1
  have HC : Hid (∀ (m : Nat) (q2 : Bool) (X : World) A C, m < n → (q2 = true ↔ (ImFit t (m : Int) (N m) (D m))) → Below w.heap.size w X → BSeg X A (N m) (D m) → Calls Tryz.prog 52 #[tbV t a, .int .i64 (m : Int), .slice A (N m) C] X fun e w' => e = .returned (.bool q2) ∧ Below X.heap.size X w') := fun m q2 X A C hmn hq2 hX hA => spec_fits0 t a.pa a.da a.ca a.sa a.pn a.pc a.dn a.dc a.cn a.cc a.sn a.sc a.Y (m : Int) A C (N m) (D m) q2 X (hm.below hX) hw hs hA (hd m hmn).1 (fun j hj => Nat.le_trans (btot_row (D m) hj) (hd m hmn).2) hq2
  clear hm hw hs hi hd hq hq1
  go_enter Tryz.func20, Tryz.ntmps20
  go_wp2_with (first | (refine wpList_load_row rfl 44 (.tmp 2) rfl w.heap.size rfl 44 (tbA t a) (0, 0) _ HX0.out Tryz.underlying44 rfl (by kernel_rfl) ?_) | fail)
  refine Calls.mono HSP.out ?_
  rintro e w1 ⟨rfl, hb1⟩
  have HB1 : Hid (Below w.heap.size w w1) := HB0.out.trans (hb1.mono HB0.out.size)
  have HX1 : Hid (TBx w1 w.heap.size t a) := HX0.out.below hb1
  clear hb1 HB0 HX0 HSP
  cases q1
  · have HT : Hid (q = false) := not_true HQ.out (fun h => by have := HQ1.out.2 h.1; cases this)
    go_wp2
    go_ret
    exact ⟨ret_bool HT.out.symm, HB1.out⟩
  have HSD : Hid (Sd t) := HQ1.out.1 (by first | rfl | trivial)
  have k15 : w1.cell? ⟨w.heap.size, 15, none⟩ = some (.slice a.pa a.pn a.pc) := HX1.out.cell 15 rfl
  by_cases hnp : n = a.pn
  rotate_left
  · have hne : ((n : Int) != (a.pn : Int)) = true := neq_nat hnp
    have HT : Hid (q = false) := not_true HQ.out (fun h => hnp (by rw [h.2.1, HL.out]))
    go_wp2
    go_ret
    exact ⟨ret_bool HT.out.symm, HB1.out⟩
  have hne : ((n : Int) != (a.pn : Int)) = false := by simp [hnp]
  have HQ4 : Hid (q = true ↔ ∀ i, i < n → ImFit t (i : Int) (N i) (D i)) := HQ.out.trans ⟨fun h => h.2.2, fun h => ⟨HSD.out, by rw [HL.out]; exact hnp, h⟩⟩
  clear HQ HQ1 hnp
  go_wp2
  clear k15 hne
  go_loopw [5] (fun i wr => ∃ m : Nat, m ≤ n ∧ i = .int .i64 m ∧ Hid (Below w1.heap.size w1 wr ∧ ∀ i, i < m → ImFit t (i : Int) (N i) (D i))) (fun i _ => n - (intOf i).toNat)
  case atStart => exact ⟨0, by omega, rfl, Below.refl _ _, fun i hi => absurd hi (by omega)⟩
  case round =>
    obtain ⟨m, hm, rfl, HR⟩ := hrel
    have HBR : Hid (Below w.heap.size w wr) := HB1.out.trans (HR.out.1.mono HB1.out.size)
    by_cases hmn : m < n
    rotate_left
    · obtain rfl : m = n := by omega
      have HT : Hid (q = true) := HQ4.out.2 HR.out.2
      go_wp2
      go_ret
      exact ⟨ret_bool HT.out.symm, HBR.out⟩
    have hmn' : (m : Int) < (n : Int) := by omega
    obtain ⟨b2, o2, ai, ci, rfl, hbl2, r1, s1⟩ := HI.out.at m hmn
    replace r1 := (HBR.out.cell (p := ⟨b2, o2 + m, none⟩) hbl2).trans r1
    obtain ⟨q2, hq2⟩ := told (ImFit t (m : Int) (N m) (D m))
    have HF : Hid (∀ X, Below wr.heap.size wr X → Calls Tryz.prog 52 #[tbV t a, .int .i64 (m : Int), .slice ai (N m) ci] X fun e w' => e = .returned (.bool q2) ∧ Below X.heap.size X w') := fun X hX => by
      have hX2 := HBR.out.trans (hX.mono HBR.out.size)
      exact HC.out m q2 X ai ci hmn hq2 hX2 (s1.below hX2)
    have HY : Hid (q2 = true → ∀ i, i < m + 1 → ImFit t (i : Int) (N i) (D i)) := fun h i hi => by
      by_cases e : i = m
      · subst e; exact hq2.1 h
      · exact HR.out.2 i (by omega)
    have HN : Hid (q2 = false → q = false) := fun h => not_true HQ4.out (fun g => by
      have := hq2.2 (g m hmn)
      rw [h] at this; cases this)
    have HXR : Hid (TBx wr w.heap.size t a) := HX1.out.below HR.out.1
    have HRB : Hid (Below w1.heap.size w1 wr) := HR.out.1
    generalize N m = len at r1 HF
    clear s1 hq2 HR hbl2
    have HXX : Hid (∀ w', (∃ X : Gr wr, w' = X.w) → w'.heap[w.heap.size]? = some (.cells (tbA t a) 44 (0, 0))) := fun w' hX => by obtain ⟨X, rfl⟩ := hX; exact row_of (HXR.out.below X.h)
    have HFG : Hid (∀ X : Gr wr, Calls Tryz.prog 52 #[tbV t a, .int .i64 (m : Int), .slice ai len ci] X.w fun e w' => e = .returned (.bool q2) ∧ Below X.w.heap.size X.w w') := fun X => HF.out X.w X.h
    cases q2
    · have HT : Hid (q = false) := HN.out rfl
      clear HN HY HF HXR
      go_wp2
      have E1 := fun X => gr_cell (W0 := wr) r1 X
      clear r1
      have hgr := gr_some wr
      refine region_alike (by kernel_rfl) (by kernel_rfl) ?_
      repeat (first | (refine wpQuiet_load_row rfl 44 (.tmp 2) rfl w.heap.size rfl 44 (tbA t a) (0, 0) _ HXX.out Tryz.underlying44 rfl (by kernel_rfl) ?_; simp only [Act.put, List.setIfInBounds_toArray, List.set_cons_zero, List.set_cons_succ]) | go_big_quiet_step (first | (go_at_call 52; exact gr_call (HFG.out _))))
      refine wpQuiet_nil ?_
      intro _ hw'
      obtain ⟨X2, rfl⟩ := hw'
      have HE : Hid (Below w.heap.size w X2.w) := HBR.out.trans (X2.h.mono HBR.out.size)
      generalize X2.w = W4 at HE ⊢
      clear hgr HXX E1 HFG
      go_wp2
      go_ret
      exact ⟨ret_bool HT.out.symm, HE.out⟩
    · have HT : Hid _ := HY.out rfl
      clear HN HY HF HXR
      go_wp2
      have E1 := fun X => gr_cell (W0 := wr) r1 X
      clear r1
      have hgr := gr_some wr
      refine region_alike (by kernel_rfl) (by kernel_rfl) ?_
      repeat (first | (refine wpQuiet_load_row rfl 44 (.tmp 2) rfl w.heap.size rfl 44 (tbA t a) (0, 0) _ HXX.out Tryz.underlying44 rfl (by kernel_rfl) ?_; simp only [Act.put, List.setIfInBounds_toArray, List.set_cons_zero, List.set_cons_succ]) | go_big_quiet_step (first | (go_at_call 52; exact gr_call (HFG.out _))))
      refine wpQuiet_nil ?_
      intro _ hw'
      obtain ⟨X2, rfl⟩ := hw'
      have HE : Hid (Below w1.heap.size w1 X2.w) := HRB.out.trans (X2.h.mono HRB.out.size)
      generalize X2.w = W4 at HE ⊢
      clear hgr HXX E1 HFG HBR HRB
      go_wp2
      go_roundw
      case rel => exact ⟨m + 1, by omega, by go_num, HE.out, HT.out⟩
      case measure => simp [intOf]; omega
set_option maxRecDepth 40000 in
set_option maxHeartbeats 8000000 in
theorem impl_images (t : Tb) (a : Ad) (ia : Option Addr) (ic n : Nat) (N : Nat → Nat) (D : Nat → Nat → List Int) (q : Bool) (w : World) (hm : TM 0 w t a) (hw : TW t a) (hs : TS a) (hi : MSeg w ia n N D) (hn : n ≤ 1048576) (hd : MSz n N D) (he : TabE w) (hpc : a.pn ≤ a.pc) (hq : q = true ↔ (Sd t ∧ ImsFit t n N D)) :
    Calls Tryz.prog 34 #[tbV t a, .slice ia n ic] w fun e w' => e = .returned (.bool q) ∧ Below w.heap.size w w' := by
  obtain ⟨q1, hq1⟩ := told (Sd t)
  have HB0 : Hid (Below w.heap.size w (w.alloc (.cells (tbA t a) 44))) := (Below.refl _ _).alloc (Nat.le_refl _) _
  have HX0 : Hid (TBx (w.alloc (.cells (tbA t a) 44)) w.heap.size t a) := TBx.new w t a _ rfl
  have HQ1 : Hid (q1 = true ↔ Sd t) := hq1
  have HQ : Hid (q = true ↔ (Sd t ∧ ImsFit t n N D)) := hq
  have HL : Hid (t.ps.length = a.pn) := hw.pl
  have HI : Hid (MSeg w ia n N D) := hi
  have hpn : a.pn ≤ 1048576 := hs.p
  have HDD : Hid (∀ i j, i < n → j < N i → (D i j).length ≤ 1048576) := fun i j hi hj => Nat.le_trans (btot_row (D i) hj) (hd i hi).2
  have HSP : Hid (Calls Tryz.prog 58 #[tbV t a] (w.alloc (.cells (tbA t a) 44)) fun e w' => e = .returned (.bool q1) ∧ Below (w.alloc (.cells (tbA t a) 44)).heap.size (w.alloc (.cells (tbA t a) 44)) w') := impl_sound t a q1 _ (hm.below HB0.out) hw hs (he.below HB0.out) hpc hq1
  have HC : Hid (∀ (m : Nat) (q2 : Bool) (X : World) A C, m < n → (q2 = true ↔ (Sd t ∧ ImFit t (m : Int) (N m) (D m))) → Below w.heap.size w X → BSeg X A (N m) (D m) → Calls Tryz.prog 59 #[tbV t a, .int .i64 (m : Int), .slice A (N m) C] X fun e w' => e = .returned (.bool q2) ∧ Below X.heap.size X w') := fun m q2 X A C hmn hq2 hX hA => impl_image t a (m : Int) A C (N m) (D m) q2 X (hm.below hX) hw hs hA (hd m hmn).1 (fun j hj => Nat.le_trans (btot_row (D m) hj) (hd m hmn).2) (he.below hX) hpc hq2
  clear hm hw hs hi hd hq hq1 he hpc
  go_enter Tryz.func34, Tryz.ntmps34
  go_wp2_with (first | (refine wpList_load_row rfl 44 (.tmp 2) rfl w.heap.size rfl 44 (tbA t a) (0, 0) _ HX0.out Tryz.underlying44 rfl (by kernel_rfl) ?_) | fail)
  refine Calls.mono HSP.out ?_
  rintro e w1 ⟨rfl, hb1⟩
  have HB1 : Hid (Below w.heap.size w w1) := HB0.out.trans (hb1.mono HB0.out.size)
  have HX1 : Hid (TBx w1 w.heap.size t a) := HX0.out.below hb1
  clear hb1 HB0 HX0 HSP
  cases q1
  · have HT : Hid (q = false) := not_true HQ.out (fun h => by have := HQ1.out.2 h.1; cases this)
    go_wp2
    go_ret
    exact ⟨ret_bool HT.out.symm, HB1.out⟩
  have HSD : Hid (Sd t) := HQ1.out.1 (by first | rfl | trivial)
  have k15 : w1.cell? ⟨w.heap.size, 15, none⟩ = some (.slice a.pa a.pn a.pc) := HX1.out.cell 15 rfl
  by_cases hnp : n = a.pn
  rotate_left
  · have hne : ((n : Int) != (a.pn : Int)) = true := neq_nat hnp
    have HT : Hid (q = false) := not_true HQ.out (fun h => hnp (by rw [h.2.1, HL.out]))
    go_wp2
    go_ret
    exact ⟨ret_bool HT.out.symm, HB1.out⟩
  have hne : ((n : Int) != (a.pn : Int)) = false := by simp [hnp]
  have HQ4 : Hid (q = true ↔ ∀ i, i < n → ImFit t (i : Int) (N i) (D i)) := HQ.out.trans ⟨fun h => h.2.2, fun h => ⟨HSD.out, by rw [HL.out]; exact hnp, h⟩⟩
  clear HQ HQ1 hnp
  go_wp2
  clear k15 hne
  go_loopw [20] (fun i wr => ∃ m : Nat, m ≤ n ∧ i = .int .i64 m ∧ Hid (Below w1.heap.size w1 wr ∧ ∀ i, i < m → ImFit t (i : Int) (N i) (D i))) (fun i _ => n - (intOf i).toNat)
  case atStart => exact ⟨0, by omega, rfl, Below.refl _ _, fun i hi => absurd hi (by omega)⟩
  case round =>
    obtain ⟨m, hm, rfl, HR⟩ := hrel
    have HBR : Hid (Below w.heap.size w wr) := HB1.out.trans (HR.out.1.mono HB1.out.size)
    by_cases hmn : m < n
    rotate_left
    · obtain rfl : m = n := by omega
      have HT : Hid (q = true) := HQ4.out.2 HR.out.2
      go_wp2
      go_ret
      exact ⟨ret_bool HT.out.symm, HBR.out⟩
    have hmn' : (m : Int) < (n : Int) := by omega
    obtain ⟨b2, o2, ai, ci, rfl, hbl2, r1, s1⟩ := HI.out.at m hmn
    replace r1 := (HBR.out.cell (p := ⟨b2, o2 + m, none⟩) hbl2).trans r1
    obtain ⟨q2, hq2⟩ := told (Sd t ∧ ImFit t (m : Int) (N m) (D m))
    have HF : Hid (∀ X, Below wr.heap.size wr X → Calls Tryz.prog 59 #[tbV t a, .int .i64 (m : Int), .slice ai (N m) ci] X fun e w' => e = .returned (.bool q2) ∧ Below X.heap.size X w') := fun X hX => by
      have hX2 := HBR.out.trans (hX.mono HBR.out.size)
      exact HC.out m q2 X ai ci hmn hq2 hX2 (s1.below hX2)
    have HY : Hid (q2 = true → ∀ i, i < m + 1 → ImFit t (i : Int) (N i) (D i)) := fun h i hi => by
      by_cases e : i = m
      · subst e; exact (hq2.1 h).2
      · exact HR.out.2 i (by omega)
    have HN : Hid (q2 = false → q = false) := fun h => not_true HQ4.out (fun g => by
      have := hq2.2 ⟨HSD.out, g m hmn⟩
      rw [h] at this; cases this)
    have HXR : Hid (TBx wr w.heap.size t a) := HX1.out.below HR.out.1
    have HRB : Hid (Below w1.heap.size w1 wr) := HR.out.1
    generalize N m = len at r1 HF
    clear s1 hq2 HR hbl2
    go_wp2_with (first | (refine wpList_load_row rfl 44 (.tmp 2) rfl w.heap.size rfl 44 (tbA t a) (0, 0) _ HXR.out Tryz.underlying44 rfl (by kernel_rfl) ?_) | fail)
    refine Calls.mono (HF.out _ (Below.refl _ _)) ?_
    rintro e w3 ⟨rfl, hb3⟩
    have HE : Hid (Below w.heap.size w w3) := HBR.out.trans (hb3.mono HBR.out.size)
    have HE1 : Hid (Below w1.heap.size w1 w3) := HRB.out.trans (hb3.mono HRB.out.size)
    clear hb3 HF HXR HBR HRB r1
    cases q2
    · have HT : Hid (q = false) := HN.out (by first | rfl | trivial)
      clear HN HY
      go_wp2
      go_ret
      exact ⟨ret_bool HT.out.symm, HE.out⟩
    · have HT : Hid _ := HY.out (by first | rfl | trivial)
      clear HN HY
      go_wp2
      go_roundw
      case rel => exact ⟨m + 1, by omega, by go_num, HE1.out, HT.out⟩
      case measure => simp [intOf]; omega
end Go.Proofs.YtgmhcngdgfhhaaaGreatDoor
