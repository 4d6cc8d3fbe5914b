
/-
  Frames, slots, phases, holders of cycles: the exported functions of the program and of the specification. Conditions: the lists lie in memory; the program's table of extras holds what the program's text lays.
-/
import Derived.Test.YtoalamgongaaeaaGreatDoorBas
import Derived.Test.YtoalamgongaaeaaGreatDoorTig
namespace Go.Proofs.YtoalamgongaaeaaGreatDoor
open Go.ChangeShapes Go.WideShapes Go.ChangeAt Go.RowKit Go.Deep Go.Joins
set_option linter.unusedVariables false

set_option maxRecDepth 40000 in
set_option maxHeartbeats 4000000 in
theorem impl_frameof (t : Tb) (a : Ad) (c : Int) (w : World) (hm : TM 0 w t a) (hw : TW t a) (hs : TS a) (he : TabE w) (hcp : a.pn ≤ a.pc) (hcs : a.sn ≤ a.sc) :
    Calls Tryz.prog 26 #[tbV t a, .int .i64 c] w fun e w' => (∃ r : Int, e = .returned (.int .i64 r) ∧ TR t c (c / t.maj) r) ∧ Below w.heap.size w w' := by
  obtain ⟨q, hq⟩ := told (Sd t ∧ IsC c)
  have HB0 : Hid (Below w.heap.size w (w.alloc (.cells (tbA t a) 40))) := (Below.refl _ _).alloc (Nat.le_refl _) _
  have HX0 : Hid (TBx (w.alloc (.cells (tbA t a) 40)) w.heap.size t a) := TBx.new w t a _ rfl
  have hbA : Below (w.alloc (.cells (tbA t a) 40)).heap.size (w.alloc (.cells (tbA t a) 40)) ((w.alloc (.cells (tbA t a) 40)).alloc (.cells #[.int .i64 c] 3)) := (Below.refl _ _).alloc (Nat.le_refl _) _
  have HBA : Hid (Below w.heap.size w ((w.alloc (.cells (tbA t a) 40)).alloc (.cells #[.int .i64 c] 3))) := HB0.out.trans (hbA.mono HB0.out.size)
  have HXA : Hid (TBx ((w.alloc (.cells (tbA t a) 40)).alloc (.cells #[.int .i64 c] 3)) w.heap.size t a) := HX0.out.below hbA
  have KA : Hid (GSeg 1 ((w.alloc (.cells (tbA t a) 40)).alloc (.cells #[.int .i64 c] 3)) (some ⟨w.heap.size + 1, 0, none⟩) 1 (inX [c])) := fun _ => ⟨w.heap.size + 1, 0, rfl, by simp, fun i hi => by
    have : i = 0 := by omega
    subst this
    exact CellsAt.new (w.alloc (.cells (tbA t a) 40)) [.int .i64 c] _ _ (by simp)⟩
  have HK : Hid (Calls Tryz.prog 74 #[tbV t a, .slice (some ⟨w.heap.size + 1, 0, none⟩) 1 1] ((w.alloc (.cells (tbA t a) 40)).alloc (.cells #[.int .i64 c] 3)) fun e w' => e = .returned (.bool q) ∧ Below ((w.alloc (.cells (tbA t a) 40)).alloc (.cells #[.int .i64 c] 3)).heap.size ((w.alloc (.cells (tbA t a) 40)).alloc (.cells #[.int .i64 c] 3)) w') :=
    keeps t a [c] 1 1 _ q _ (hm.below HBA.out) hw hs (he.below HBA.out) hcp KA.out (by omega) (hq.trans ⟨fun h => ⟨fun i hi => by
      have : i = 0 := by omega
      subst this; exact h.2, h.1⟩, fun h => ⟨h.2, h.1 0 (by omega)⟩⟩)
  have HI : Hid (Sd t ∧ IsC c → ∀ X, Below w.heap.size w X → Calls Tryz.prog 75 #[tbV t a, .int .i64 c] X fun e w' => e = .returned (.int .i64 (c / t.maj)) ∧ Below X.heap.size X w') := fun h X hX => frame_of t a c _ X (sd_tm h.1).maj1 h.2.1 (by have := h.2.2; omega) rfl
  have HQ : Hid (q = true ↔ (Sd t ∧ IsC c)) := hq
  clear hm hw hs hq he hcp hcs KA hbA HB0
  go_enter Tryz.func26, Tryz.ntmps26
  go_wp2_with (first | (refine wpList_load_row rfl 40 (.tmp 2) rfl w.heap.size rfl 40 (tbA t a) (0, 0) _ HX0.out Tryz.underlying40 rfl (by kernel_rfl) ?_) | fail)
  refine Calls.mono HK.out ?_
  rintro e w1 ⟨rfl, hb1⟩
  have HB1 : Hid (Below w.heap.size w w1) := HBA.out.trans (hb1.mono HBA.out.size)
  have HX1 : Hid (TBx w1 w.heap.size t a) := HXA.out.below hb1
  clear hb1 HBA HXA HK HX0
  cases q
  · have HT : Hid (¬ (Sd t ∧ IsC c)) := fun h => by have := HQ.out.2 h; cases this
    clear HQ HI HX1
    go_wp2
    go_ret
    exact ⟨⟨_, rfl, .inl ⟨HT.out, rfl⟩⟩, HB1.out⟩
  have HT : Hid (Sd t ∧ IsC c) := HQ.out.1 rfl
  clear HQ
  go_wp2_with (first | (refine wpList_load_row rfl 40 (.tmp 2) rfl w.heap.size rfl 40 (tbA t a) (0, 0) _ HX1.out Tryz.underlying40 rfl (by kernel_rfl) ?_) | fail)
  refine Calls.mono (HI.out HT.out _ HB1.out) ?_
  rintro e w2 ⟨rfl, hb2⟩
  have HB2 : Hid (Below w.heap.size w w2) := HB1.out.trans (hb2.mono HB1.out.size)
  clear hb2 HB1 HX1 HI
  go_wp2
  go_ret
  exact ⟨⟨_, rfl, .inr ⟨HT.out, rfl⟩⟩, HB2.out⟩
set_option maxRecDepth 40000 in
set_option maxHeartbeats 4000000 in
theorem impl_slotat (t : Tb) (a : Ad) (c : Int) (w : World) (hm : TM 0 w t a) (hw : TW t a) (hs : TS a) (he : TabE w) (hcp : a.pn ≤ a.pc) (hcs : a.sn ≤ a.sc) :
    Calls Tryz.prog 28 #[tbV t a, .int .i64 c] w fun e w' => (∃ r : Int, e = .returned (.int .i64 r) ∧ TR t c (slotV t (c % t.maj)) r) ∧ Below w.heap.size w w' := by
  obtain ⟨q, hq⟩ := told (Sd t ∧ IsC c)
  have HB0 : Hid (Below w.heap.size w (w.alloc (.cells (tbA t a) 40))) := (Below.refl _ _).alloc (Nat.le_refl _) _
  have HX0 : Hid (TBx (w.alloc (.cells (tbA t a) 40)) w.heap.size t a) := TBx.new w t a _ rfl
  have hbA : Below (w.alloc (.cells (tbA t a) 40)).heap.size (w.alloc (.cells (tbA t a) 40)) ((w.alloc (.cells (tbA t a) 40)).alloc (.cells #[.int .i64 c] 3)) := (Below.refl _ _).alloc (Nat.le_refl _) _
  have HBA : Hid (Below w.heap.size w ((w.alloc (.cells (tbA t a) 40)).alloc (.cells #[.int .i64 c] 3))) := HB0.out.trans (hbA.mono HB0.out.size)
  have HXA : Hid (TBx ((w.alloc (.cells (tbA t a) 40)).alloc (.cells #[.int .i64 c] 3)) w.heap.size t a) := HX0.out.below hbA
  have KA : Hid (GSeg 1 ((w.alloc (.cells (tbA t a) 40)).alloc (.cells #[.int .i64 c] 3)) (some ⟨w.heap.size + 1, 0, none⟩) 1 (inX [c])) := fun _ => ⟨w.heap.size + 1, 0, rfl, by simp, fun i hi => by
    have : i = 0 := by omega
    subst this
    exact CellsAt.new (w.alloc (.cells (tbA t a) 40)) [.int .i64 c] _ _ (by simp)⟩
  have HK : Hid (Calls Tryz.prog 74 #[tbV t a, .slice (some ⟨w.heap.size + 1, 0, none⟩) 1 1] ((w.alloc (.cells (tbA t a) 40)).alloc (.cells #[.int .i64 c] 3)) fun e w' => e = .returned (.bool q) ∧ Below ((w.alloc (.cells (tbA t a) 40)).alloc (.cells #[.int .i64 c] 3)).heap.size ((w.alloc (.cells (tbA t a) 40)).alloc (.cells #[.int .i64 c] 3)) w') :=
    keeps t a [c] 1 1 _ q _ (hm.below HBA.out) hw hs (he.below HBA.out) hcp KA.out (by omega) (hq.trans ⟨fun h => ⟨fun i hi => by
      have : i = 0 := by omega
      subst this; exact h.2, h.1⟩, fun h => ⟨h.2, h.1 0 (by omega)⟩⟩)
  have HI : Hid (Sd t ∧ IsC c → ∀ X, Below w.heap.size w X → Calls Tryz.prog 77 #[tbV t a, .int .i64 c] X fun e w' => e = .returned (.int .i64 (slotV t (c % t.maj))) ∧ Below X.heap.size X w') := fun h X hX => slot_at t a c X (hm.below hX) hw hs hcs (sd_tm h.1) h.2.1 (by have := h.2.2; omega)
  have HQ : Hid (q = true ↔ (Sd t ∧ IsC c)) := hq
  clear hm hw hs hq he hcp hcs KA hbA HB0
  go_enter Tryz.func28, Tryz.ntmps28
  go_wp2_with (first | (refine wpList_load_row rfl 40 (.tmp 2) rfl w.heap.size rfl 40 (tbA t a) (0, 0) _ HX0.out Tryz.underlying40 rfl (by kernel_rfl) ?_) | fail)
  refine Calls.mono HK.out ?_
  rintro e w1 ⟨rfl, hb1⟩
  have HB1 : Hid (Below w.heap.size w w1) := HBA.out.trans (hb1.mono HBA.out.size)
  have HX1 : Hid (TBx w1 w.heap.size t a) := HXA.out.below hb1
  clear hb1 HBA HXA HK HX0
  cases q
  · have HT : Hid (¬ (Sd t ∧ IsC c)) := fun h => by have := HQ.out.2 h; cases this
    clear HQ HI HX1
    go_wp2
    go_ret
    exact ⟨⟨_, rfl, .inl ⟨HT.out, rfl⟩⟩, HB1.out⟩
  have HT : Hid (Sd t ∧ IsC c) := HQ.out.1 rfl
  clear HQ
  go_wp2_with (first | (refine wpList_load_row rfl 40 (.tmp 2) rfl w.heap.size rfl 40 (tbA t a) (0, 0) _ HX1.out Tryz.underlying40 rfl (by kernel_rfl) ?_) | fail)
  refine Calls.mono (HI.out HT.out _ HB1.out) ?_
  rintro e w2 ⟨rfl, hb2⟩
  have HB2 : Hid (Below w.heap.size w w2) := HB1.out.trans (hb2.mono HB1.out.size)
  clear hb2 HB1 HX1 HI
  go_wp2
  go_ret
  exact ⟨⟨_, rfl, .inr ⟨HT.out, rfl⟩⟩, HB2.out⟩
set_option maxRecDepth 40000 in
set_option maxHeartbeats 4000000 in
theorem impl_phaseat (t : Tb) (a : Ad) (c : Int) (w : World) (hm : TM 0 w t a) (hw : TW t a) (hs : TS a) (he : TabE w) (hcp : a.pn ≤ a.pc) (hcs : a.sn ≤ a.sc) :
    Calls Tryz.prog 30 #[tbV t a, .int .i64 c] w fun e w' => (∃ r : Int, e = .returned (.int .i64 r) ∧ TR t c (phaseV t (c % t.maj)) r) ∧ Below w.heap.size w w' := by
  obtain ⟨q, hq⟩ := told (Sd t ∧ IsC c)
  have HB0 : Hid (Below w.heap.size w (w.alloc (.cells (tbA t a) 40))) := (Below.refl _ _).alloc (Nat.le_refl _) _
  have HX0 : Hid (TBx (w.alloc (.cells (tbA t a) 40)) w.heap.size t a) := TBx.new w t a _ rfl
  have hbA : Below (w.alloc (.cells (tbA t a) 40)).heap.size (w.alloc (.cells (tbA t a) 40)) ((w.alloc (.cells (tbA t a) 40)).alloc (.cells #[.int .i64 c] 3)) := (Below.refl _ _).alloc (Nat.le_refl _) _
  have HBA : Hid (Below w.heap.size w ((w.alloc (.cells (tbA t a) 40)).alloc (.cells #[.int .i64 c] 3))) := HB0.out.trans (hbA.mono HB0.out.size)
  have HXA : Hid (TBx ((w.alloc (.cells (tbA t a) 40)).alloc (.cells #[.int .i64 c] 3)) w.heap.size t a) := HX0.out.below hbA
  have KA : Hid (GSeg 1 ((w.alloc (.cells (tbA t a) 40)).alloc (.cells #[.int .i64 c] 3)) (some ⟨w.heap.size + 1, 0, none⟩) 1 (inX [c])) := fun _ => ⟨w.heap.size + 1, 0, rfl, by simp, fun i hi => by
    have : i = 0 := by omega
    subst this
    exact CellsAt.new (w.alloc (.cells (tbA t a) 40)) [.int .i64 c] _ _ (by simp)⟩
  have HK : Hid (Calls Tryz.prog 74 #[tbV t a, .slice (some ⟨w.heap.size + 1, 0, none⟩) 1 1] ((w.alloc (.cells (tbA t a) 40)).alloc (.cells #[.int .i64 c] 3)) fun e w' => e = .returned (.bool q) ∧ Below ((w.alloc (.cells (tbA t a) 40)).alloc (.cells #[.int .i64 c] 3)).heap.size ((w.alloc (.cells (tbA t a) 40)).alloc (.cells #[.int .i64 c] 3)) w') :=
    keeps t a [c] 1 1 _ q _ (hm.below HBA.out) hw hs (he.below HBA.out) hcp KA.out (by omega) (hq.trans ⟨fun h => ⟨fun i hi => by
      have : i = 0 := by omega
      subst this; exact h.2, h.1⟩, fun h => ⟨h.2, h.1 0 (by omega)⟩⟩)
  have HI : Hid (Sd t ∧ IsC c → ∀ X, Below w.heap.size w X → Calls Tryz.prog 79 #[tbV t a, .int .i64 c] X fun e w' => e = .returned (.int .i64 (phaseV t (c % t.maj))) ∧ Below X.heap.size X w') := fun h X hX => phase_at t a c X (hm.below hX) hw hs hcs (sd_tm h.1) h.2.1 (by have := h.2.2; omega)
  have HQ : Hid (q = true ↔ (Sd t ∧ IsC c)) := hq
  clear hm hw hs hq he hcp hcs KA hbA HB0
  go_enter Tryz.func30, Tryz.ntmps30
  go_wp2_with (first | (refine wpList_load_row rfl 40 (.tmp 2) rfl w.heap.size rfl 40 (tbA t a) (0, 0) _ HX0.out Tryz.underlying40 rfl (by kernel_rfl) ?_) | fail)
  refine Calls.mono HK.out ?_
  rintro e w1 ⟨rfl, hb1⟩
  have HB1 : Hid (Below w.heap.size w w1) := HBA.out.trans (hb1.mono HBA.out.size)
  have HX1 : Hid (TBx w1 w.heap.size t a) := HXA.out.below hb1
  clear hb1 HBA HXA HK HX0
  cases q
  · have HT : Hid (¬ (Sd t ∧ IsC c)) := fun h => by have := HQ.out.2 h; cases this
    clear HQ HI HX1
    go_wp2
    go_ret
    exact ⟨⟨_, rfl, .inl ⟨HT.out, rfl⟩⟩, HB1.out⟩
  have HT : Hid (Sd t ∧ IsC c) := HQ.out.1 rfl
  clear HQ
  go_wp2_with (first | (refine wpList_load_row rfl 40 (.tmp 2) rfl w.heap.size rfl 40 (tbA t a) (0, 0) _ HX1.out Tryz.underlying40 rfl (by kernel_rfl) ?_) | fail)
  refine Calls.mono (HI.out HT.out _ HB1.out) ?_
  rintro e w2 ⟨rfl, hb2⟩
  have HB2 : Hid (Below w.heap.size w w2) := HB1.out.trans (hb2.mono HB1.out.size)
  clear hb2 HB1 HX1 HI
  go_wp2
  go_ret
  exact ⟨⟨_, rfl, .inr ⟨HT.out, rfl⟩⟩, HB2.out⟩
set_option maxRecDepth 40000 in
set_option maxHeartbeats 4000000 in
theorem impl_maybegin (t : Tb) (a : Ad) (c : Int) (w : World) (hm : TM 0 w t a) (hw : TW t a) (hs : TS a) (he : TabE w) (hcp : a.pn ≤ a.pc) (hcs : a.sn ≤ a.sc) :
    Calls Tryz.prog 32 #[tbV t a, .int .i64 c] w fun e w' => (∃ r : Int, e = .returned (.int .i64 r) ∧ TR t c (begV t (c % t.maj)) r) ∧ Below w.heap.size w w' := by
  obtain ⟨q, hq⟩ := told (Sd t ∧ IsC c)
  have HB0 : Hid (Below w.heap.size w (w.alloc (.cells (tbA t a) 40))) := (Below.refl _ _).alloc (Nat.le_refl _) _
  have HX0 : Hid (TBx (w.alloc (.cells (tbA t a) 40)) w.heap.size t a) := TBx.new w t a _ rfl
  have hbA : Below (w.alloc (.cells (tbA t a) 40)).heap.size (w.alloc (.cells (tbA t a) 40)) ((w.alloc (.cells (tbA t a) 40)).alloc (.cells #[.int .i64 c] 3)) := (Below.refl _ _).alloc (Nat.le_refl _) _
  have HBA : Hid (Below w.heap.size w ((w.alloc (.cells (tbA t a) 40)).alloc (.cells #[.int .i64 c] 3))) := HB0.out.trans (hbA.mono HB0.out.size)
  have HXA : Hid (TBx ((w.alloc (.cells (tbA t a) 40)).alloc (.cells #[.int .i64 c] 3)) w.heap.size t a) := HX0.out.below hbA
  have KA : Hid (GSeg 1 ((w.alloc (.cells (tbA t a) 40)).alloc (.cells #[.int .i64 c] 3)) (some ⟨w.heap.size + 1, 0, none⟩) 1 (inX [c])) := fun _ => ⟨w.heap.size + 1, 0, rfl, by simp, fun i hi => by
    have : i = 0 := by omega
    subst this
    exact CellsAt.new (w.alloc (.cells (tbA t a) 40)) [.int .i64 c] _ _ (by simp)⟩
  have HK : Hid (Calls Tryz.prog 74 #[tbV t a, .slice (some ⟨w.heap.size + 1, 0, none⟩) 1 1] ((w.alloc (.cells (tbA t a) 40)).alloc (.cells #[.int .i64 c] 3)) fun e w' => e = .returned (.bool q) ∧ Below ((w.alloc (.cells (tbA t a) 40)).alloc (.cells #[.int .i64 c] 3)).heap.size ((w.alloc (.cells (tbA t a) 40)).alloc (.cells #[.int .i64 c] 3)) w') :=
    keeps t a [c] 1 1 _ q _ (hm.below HBA.out) hw hs (he.below HBA.out) hcp KA.out (by omega) (hq.trans ⟨fun h => ⟨fun i hi => by
      have : i = 0 := by omega
      subst this; exact h.2, h.1⟩, fun h => ⟨h.2, h.1 0 (by omega)⟩⟩)
  have HI : Hid (Sd t ∧ IsC c → ∀ X, Below w.heap.size w X → ∀ A, GSeg 1 X A 1 (inX [2]) → ∀ cap, Calls Tryz.prog 81 #[tbV t a, .int .i64 c, .slice A 1 cap] X fun e w' => e = .returned (.int .i64 (begV t (c % t.maj))) ∧ Below X.heap.size X w') := fun h X hX => fun A hA cap => by
    obtain ⟨q9, hq9⟩ := told (phaseV t (c % t.maj) = 2)
    refine (part_in t a c A cap 1 [2] q9 X (hm.below hX) hw hs hcs (sd_tm h.1) h.2.1 (by have := h.2.2; omega) hA (by omega) (fun i hi => ?_) (hq9.trans ?_)).mono fun e w' ⟨he', hb⟩ => ⟨he'.trans (ret_int ?_), hb⟩
    · have : i = 0 := by omega
      subst this; decide
    · exact ⟨fun g => ⟨0, by omega, g.symm⟩, fun ⟨i, hi, e⟩ => by have h0 : i = 0 := (by omega); subst h0; exact e.symm⟩
    · unfold begV
      by_cases g : phaseV t (c % t.maj) = 2
      · rw [if_pos g, if_pos (hq9.2 g)]
      · rw [if_neg g, if_neg (fun h9 => g (hq9.1 h9))]
  have HQ : Hid (q = true ↔ (Sd t ∧ IsC c)) := hq
  clear hm hw hs hq he hcp hcs KA hbA HB0
  go_enter Tryz.func32, Tryz.ntmps32
  go_wp2_with (first | (refine wpList_load_row rfl 40 (.tmp 2) rfl w.heap.size rfl 40 (tbA t a) (0, 0) _ HX0.out Tryz.underlying40 rfl (by kernel_rfl) ?_) | fail)
  refine Calls.mono HK.out ?_
  rintro e w1 ⟨rfl, hb1⟩
  have HB1 : Hid (Below w.heap.size w w1) := HBA.out.trans (hb1.mono HBA.out.size)
  have HX1 : Hid (TBx w1 w.heap.size t a) := HXA.out.below hb1
  clear hb1 HBA HXA HK HX0
  cases q
  · have HT : Hid (¬ (Sd t ∧ IsC c)) := fun h => by have := HQ.out.2 h; cases this
    clear HQ HI HX1
    go_wp2
    go_ret
    exact ⟨⟨_, rfl, .inl ⟨HT.out, rfl⟩⟩, HB1.out⟩
  have HT : Hid (Sd t ∧ IsC c) := HQ.out.1 rfl
  clear HQ
  have hbP : Below w1.heap.size w1 (w1.alloc (.cells #[.int .i64 2] 3)) := (Below.refl _ _).alloc (Nat.le_refl _) _
  have HBP : Hid (Below w.heap.size w (w1.alloc (.cells #[.int .i64 2] 3))) := HB1.out.trans (hbP.mono HB1.out.size)
  have KP : Hid (GSeg 1 (w1.alloc (.cells #[.int .i64 2] 3)) (some ⟨w1.heap.size, 0, none⟩) 1 (inX [2])) := fun _ => ⟨w1.heap.size, 0, rfl, by simp, fun i hi => by
    have g := CellsAt.new w1 [.int .i64 2] 3 _ rfl
    have : i = 0 := by omega
    subst this
    exact g⟩
  clear hbP HB1
  go_wp2_with (first | (refine wpList_load_row rfl 40 (.tmp 2) rfl w.heap.size rfl 40 (tbA t a) (0, 0) _ HX1.out Tryz.underlying40 rfl (by kernel_rfl) ?_) | fail)
  refine Calls.mono (HI.out HT.out _ HBP.out _ KP.out _) ?_
  rintro e w2 ⟨rfl, hb2⟩
  have HB2 : Hid (Below w.heap.size w w2) := HBP.out.trans (hb2.mono HBP.out.size)
  clear hb2 HBP KP HX1 HI
  go_wp2
  go_ret
  exact ⟨⟨_, rfl, .inr ⟨HT.out, rfl⟩⟩, HB2.out⟩
set_option maxRecDepth 40000 in
set_option maxHeartbeats 4000000 in
theorem impl_holderat (t : Tb) (a : Ad) (c : Int) (w : World) (hm : TM 0 w t a) (hw : TW t a) (hs : TS a) (he : TabE w) (hcp : a.pn ≤ a.pc) (hcs : a.sn ≤ a.sc) :
    Calls Tryz.prog 34 #[tbV t a, .int .i64 c] w fun e w' => (∃ r : Int, e = .returned (.int .i64 r) ∧ TR t c (holdV t (c % t.maj)) r) ∧ Below w.heap.size w w' := by
  obtain ⟨q, hq⟩ := told (Sd t ∧ IsC c)
  have HB0 : Hid (Below w.heap.size w (w.alloc (.cells (tbA t a) 40))) := (Below.refl _ _).alloc (Nat.le_refl _) _
  have HX0 : Hid (TBx (w.alloc (.cells (tbA t a) 40)) w.heap.size t a) := TBx.new w t a _ rfl
  have hbA : Below (w.alloc (.cells (tbA t a) 40)).heap.size (w.alloc (.cells (tbA t a) 40)) ((w.alloc (.cells (tbA t a) 40)).alloc (.cells #[.int .i64 c] 3)) := (Below.refl _ _).alloc (Nat.le_refl _) _
  have HBA : Hid (Below w.heap.size w ((w.alloc (.cells (tbA t a) 40)).alloc (.cells #[.int .i64 c] 3))) := HB0.out.trans (hbA.mono HB0.out.size)
  have HXA : Hid (TBx ((w.alloc (.cells (tbA t a) 40)).alloc (.cells #[.int .i64 c] 3)) w.heap.size t a) := HX0.out.below hbA
  have KA : Hid (GSeg 1 ((w.alloc (.cells (tbA t a) 40)).alloc (.cells #[.int .i64 c] 3)) (some ⟨w.heap.size + 1, 0, none⟩) 1 (inX [c])) := fun _ => ⟨w.heap.size + 1, 0, rfl, by simp, fun i hi => by
    have : i = 0 := by omega
    subst this
    exact CellsAt.new (w.alloc (.cells (tbA t a) 40)) [.int .i64 c] _ _ (by simp)⟩
  have HK : Hid (Calls Tryz.prog 74 #[tbV t a, .slice (some ⟨w.heap.size + 1, 0, none⟩) 1 1] ((w.alloc (.cells (tbA t a) 40)).alloc (.cells #[.int .i64 c] 3)) fun e w' => e = .returned (.bool q) ∧ Below ((w.alloc (.cells (tbA t a) 40)).alloc (.cells #[.int .i64 c] 3)).heap.size ((w.alloc (.cells (tbA t a) 40)).alloc (.cells #[.int .i64 c] 3)) w') :=
    keeps t a [c] 1 1 _ q _ (hm.below HBA.out) hw hs (he.below HBA.out) hcp KA.out (by omega) (hq.trans ⟨fun h => ⟨fun i hi => by
      have : i = 0 := by omega
      subst this; exact h.2, h.1⟩, fun h => ⟨h.2, h.1 0 (by omega)⟩⟩)
  have HI : Hid (Sd t ∧ IsC c → ∀ X, Below w.heap.size w X → ∀ A, GSeg 1 X A 2 (inX [2, 3]) → ∀ cap, Calls Tryz.prog 81 #[tbV t a, .int .i64 c, .slice A 2 cap] X fun e w' => e = .returned (.int .i64 (holdV t (c % t.maj))) ∧ Below X.heap.size X w') := fun h X hX => fun A hA cap => by
    obtain ⟨q9, hq9⟩ := told (phaseV t (c % t.maj) = 2 ∨ phaseV t (c % t.maj) = 3)
    refine (part_in t a c A cap 2 [2, 3] q9 X (hm.below hX) hw hs hcs (sd_tm h.1) h.2.1 (by have := h.2.2; omega) hA (by omega) (fun i hi => ?_) (hq9.trans ?_)).mono fun e w' ⟨he', hb⟩ => ⟨he'.trans (ret_int ?_), hb⟩
    · have : i = 0 ∨ i = 1 := by omega
      rcases this with rfl | rfl <;> decide
    · refine ⟨fun g => ?_, fun ⟨i, hi, e⟩ => ?_⟩
      · rcases g with g | g
        · exact ⟨0, by omega, g.symm⟩
        · exact ⟨1, by omega, g.symm⟩
      · have : i = 0 ∨ i = 1 := by omega
        rcases this with rfl | rfl
        · exact .inl e.symm
        · exact .inr e.symm
    · unfold holdV
      by_cases g : phaseV t (c % t.maj) = 2 ∨ phaseV t (c % t.maj) = 3
      · rw [if_pos g, if_pos (hq9.2 g)]
      · rw [if_neg g, if_neg (fun h9 => g (hq9.1 h9))]
  have HQ : Hid (q = true ↔ (Sd t ∧ IsC c)) := hq
  clear hm hw hs hq he hcp hcs KA hbA HB0
  go_enter Tryz.func34, Tryz.ntmps34
  go_wp2_with (first | (refine wpList_load_row rfl 40 (.tmp 2) rfl w.heap.size rfl 40 (tbA t a) (0, 0) _ HX0.out Tryz.underlying40 rfl (by kernel_rfl) ?_) | fail)
  refine Calls.mono HK.out ?_
  rintro e w1 ⟨rfl, hb1⟩
  have HB1 : Hid (Below w.heap.size w w1) := HBA.out.trans (hb1.mono HBA.out.size)
  have HX1 : Hid (TBx w1 w.heap.size t a) := HXA.out.below hb1
  clear hb1 HBA HXA HK HX0
  cases q
  · have HT : Hid (¬ (Sd t ∧ IsC c)) := fun h => by have := HQ.out.2 h; cases this
    clear HQ HI HX1
    go_wp2
    go_ret
    exact ⟨⟨_, rfl, .inl ⟨HT.out, rfl⟩⟩, HB1.out⟩
  have HT : Hid (Sd t ∧ IsC c) := HQ.out.1 rfl
  clear HQ
  have hbP : Below w1.heap.size w1 (w1.alloc (.cells #[.int .i64 2, .int .i64 3] 3)) := (Below.refl _ _).alloc (Nat.le_refl _) _
  have HBP : Hid (Below w.heap.size w (w1.alloc (.cells #[.int .i64 2, .int .i64 3] 3))) := HB1.out.trans (hbP.mono HB1.out.size)
  have KP : Hid (GSeg 1 (w1.alloc (.cells #[.int .i64 2, .int .i64 3] 3)) (some ⟨w1.heap.size, 0, none⟩) 2 (inX [2, 3])) := fun _ => ⟨w1.heap.size, 0, rfl, by simp, fun i hi => by
    have g := CellsAt.new w1 [.int .i64 2, .int .i64 3] 3 _ rfl
    have : i = 0 ∨ i = 1 := by omega
    rcases this with rfl | rfl
    · intro j v hj
      cases j with
      | zero => exact g 0 v hj
      | succ j => simp [inX] at hj
    · intro j v hj
      cases j with
      | zero => exact g 1 v hj
      | succ j => simp [inX] at hj⟩
  clear hbP HB1
  go_wp2_with (first | (refine wpList_load_row rfl 40 (.tmp 2) rfl w.heap.size rfl 40 (tbA t a) (0, 0) _ HX1.out Tryz.underlying40 rfl (by kernel_rfl) ?_) | fail)
  refine Calls.mono (HI.out HT.out _ HBP.out _ KP.out _) ?_
  rintro e w2 ⟨rfl, hb2⟩
  have HB2 : Hid (Below w.heap.size w w2) := HBP.out.trans (hb2.mono HBP.out.size)
  clear hb2 HBP KP HX1 HI
  go_wp2
  go_ret
  exact ⟨⟨_, rfl, .inr ⟨HT.out, rfl⟩⟩, HB2.out⟩
set_option maxRecDepth 40000 in
set_option maxHeartbeats 4000000 in
theorem spec_slotat (t : Tb) (a : Ad) (c : Int) (w : World) (hm : TM 0 w t a) (hw : TW t a) (hs : TS a) :
    Calls Tryz.prog 27 #[tbV t a, .int .i64 c] w fun e w' => (∃ r : Int, e = .returned (.int .i64 r) ∧ TR t c (slotV t (c % t.maj)) r) ∧ Below w.heap.size w w' := by
  obtain ⟨q, hq⟩ := told (Sd t ∧ IsC c)
  have HB0 : Hid (Below w.heap.size w (w.alloc (.cells (tbA t a) 40))) := (Below.refl _ _).alloc (Nat.le_refl _) _
  have HX0 : Hid (TBx (w.alloc (.cells (tbA t a) 40)) w.heap.size t a) := TBx.new w t a _ rfl
  have HK : Hid (Calls Tryz.prog 73 #[tbV t a, .int .i64 c] (w.alloc (.cells (tbA t a) 40)) fun e w' => e = .returned (.bool q) ∧ Below (w.alloc (.cells (tbA t a) 40)).heap.size (w.alloc (.cells (tbA t a) 40)) w') := spec_tok t a c q _ (hm.below HB0.out) hw hs hq
  have HI : Hid (Sd t ∧ IsC c → ∀ X, Below w.heap.size w X → Calls Tryz.prog 76 #[tbV t a, .int .i64 c] X fun e w' => e = .returned (.int .i64 (slotV t (c % t.maj))) ∧ Below X.heap.size X w') := fun h X hX => spec_slot t a c X (hm.below hX) hw hs (sd_tm h.1) h.2.1 (by have := h.2.2; omega)
  have HQ : Hid (q = true ↔ (Sd t ∧ IsC c)) := hq
  clear hm hw hs hq
  go_enter Tryz.func27, Tryz.ntmps27
  go_wp2_with (first | (refine wpList_load_row rfl 40 (.tmp 2) rfl w.heap.size rfl 40 (tbA t a) (0, 0) _ HX0.out Tryz.underlying40 rfl (by kernel_rfl) ?_) | fail)
  refine Calls.mono HK.out ?_
  rintro e w1 ⟨rfl, hb1⟩
  have HB1 : Hid (Below w.heap.size w w1) := HB0.out.trans (hb1.mono HB0.out.size)
  have HX1 : Hid (TBx w1 w.heap.size t a) := HX0.out.below hb1
  clear hb1 HB0 HX0 HK
  cases q
  · have HT : Hid (¬ (Sd t ∧ IsC c)) := fun h => by have := HQ.out.2 h; cases this
    clear HQ HI HX1
    go_wp2
    go_ret
    exact ⟨⟨_, rfl, .inl ⟨HT.out, rfl⟩⟩, HB1.out⟩
  have HT : Hid (Sd t ∧ IsC c) := HQ.out.1 rfl
  clear HQ
  go_wp2_with (first | (refine wpList_load_row rfl 40 (.tmp 2) rfl w.heap.size rfl 40 (tbA t a) (0, 0) _ HX1.out Tryz.underlying40 rfl (by kernel_rfl) ?_) | fail)
  refine Calls.mono (HI.out HT.out _ HB1.out) ?_
  rintro e w2 ⟨rfl, hb2⟩
  have HB2 : Hid (Below w.heap.size w w2) := HB1.out.trans (hb2.mono HB1.out.size)
  clear hb2 HB1 HX1 HI
  go_wp2
  go_ret
  exact ⟨⟨_, rfl, .inr ⟨HT.out, rfl⟩⟩, HB2.out⟩
set_option maxRecDepth 40000 in
set_option maxHeartbeats 4000000 in
theorem spec_phaseat (t : Tb) (a : Ad) (c : Int) (w : World) (hm : TM 0 w t a) (hw : TW t a) (hs : TS a) :
    Calls Tryz.prog 29 #[tbV t a, .int .i64 c] w fun e w' => (∃ r : Int, e = .returned (.int .i64 r) ∧ TR t c (phaseV t (c % t.maj)) r) ∧ Below w.heap.size w w' := by
  obtain ⟨q, hq⟩ := told (Sd t ∧ IsC c)
  have HB0 : Hid (Below w.heap.size w (w.alloc (.cells (tbA t a) 40))) := (Below.refl _ _).alloc (Nat.le_refl _) _
  have HX0 : Hid (TBx (w.alloc (.cells (tbA t a) 40)) w.heap.size t a) := TBx.new w t a _ rfl
  have HK : Hid (Calls Tryz.prog 73 #[tbV t a, .int .i64 c] (w.alloc (.cells (tbA t a) 40)) fun e w' => e = .returned (.bool q) ∧ Below (w.alloc (.cells (tbA t a) 40)).heap.size (w.alloc (.cells (tbA t a) 40)) w') := spec_tok t a c q _ (hm.below HB0.out) hw hs hq
  have HI : Hid (Sd t ∧ IsC c → ∀ X, Below w.heap.size w X → Calls Tryz.prog 78 #[tbV t a, .int .i64 c] X fun e w' => e = .returned (.int .i64 (phaseV t (c % t.maj))) ∧ Below X.heap.size X w') := fun h X hX => spec_phase t a c X (hm.below hX) hw hs (sd_tm h.1) h.2.1 (by have := h.2.2; omega)
  have HQ : Hid (q = true ↔ (Sd t ∧ IsC c)) := hq
  clear hm hw hs hq
  go_enter Tryz.func29, Tryz.ntmps29
  go_wp2_with (first | (refine wpList_load_row rfl 40 (.tmp 2) rfl w.heap.size rfl 40 (tbA t a) (0, 0) _ HX0.out Tryz.underlying40 rfl (by kernel_rfl) ?_) | fail)
  refine Calls.mono HK.out ?_
  rintro e w1 ⟨rfl, hb1⟩
  have HB1 : Hid (Below w.heap.size w w1) := HB0.out.trans (hb1.mono HB0.out.size)
  have HX1 : Hid (TBx w1 w.heap.size t a) := HX0.out.below hb1
  clear hb1 HB0 HX0 HK
  cases q
  · have HT : Hid (¬ (Sd t ∧ IsC c)) := fun h => by have := HQ.out.2 h; cases this
    clear HQ HI HX1
    go_wp2
    go_ret
    exact ⟨⟨_, rfl, .inl ⟨HT.out, rfl⟩⟩, HB1.out⟩
  have HT : Hid (Sd t ∧ IsC c) := HQ.out.1 rfl
  clear HQ
  go_wp2_with (first | (refine wpList_load_row rfl 40 (.tmp 2) rfl w.heap.size rfl 40 (tbA t a) (0, 0) _ HX1.out Tryz.underlying40 rfl (by kernel_rfl) ?_) | fail)
  refine Calls.mono (HI.out HT.out _ HB1.out) ?_
  rintro e w2 ⟨rfl, hb2⟩
  have HB2 : Hid (Below w.heap.size w w2) := HB1.out.trans (hb2.mono HB1.out.size)
  clear hb2 HB1 HX1 HI
  go_wp2
  go_ret
  exact ⟨⟨_, rfl, .inr ⟨HT.out, rfl⟩⟩, HB2.out⟩
set_option maxRecDepth 40000 in
set_option maxHeartbeats 4000000 in
theorem spec_maybegin (t : Tb) (a : Ad) (c : Int) (w : World) (hm : TM 0 w t a) (hw : TW t a) (hs : TS a) :
    Calls Tryz.prog 31 #[tbV t a, .int .i64 c] w fun e w' => (∃ r : Int, e = .returned (.int .i64 r) ∧ TR t c (begV t (c % t.maj)) r) ∧ Below w.heap.size w w' := by
  obtain ⟨q, hq⟩ := told (Sd t ∧ IsC c)
  have HB0 : Hid (Below w.heap.size w (w.alloc (.cells (tbA t a) 40))) := (Below.refl _ _).alloc (Nat.le_refl _) _
  have HX0 : Hid (TBx (w.alloc (.cells (tbA t a) 40)) w.heap.size t a) := TBx.new w t a _ rfl
  have HK : Hid (Calls Tryz.prog 73 #[tbV t a, .int .i64 c] (w.alloc (.cells (tbA t a) 40)) fun e w' => e = .returned (.bool q) ∧ Below (w.alloc (.cells (tbA t a) 40)).heap.size (w.alloc (.cells (tbA t a) 40)) w') := spec_tok t a c q _ (hm.below HB0.out) hw hs hq
  have HI : Hid (Sd t ∧ IsC c → ∀ X, Below w.heap.size w X → Calls Tryz.prog 80 #[tbV t a, .int .i64 c] X fun e w' => e = .returned (.int .i64 (begV t (c % t.maj))) ∧ Below X.heap.size X w') := fun h X hX => spec_begin t a c X (hm.below hX) hw hs (sd_tm h.1) h.2.1 (by have := h.2.2; omega)
  have HQ : Hid (q = true ↔ (Sd t ∧ IsC c)) := hq
  clear hm hw hs hq
  go_enter Tryz.func31, Tryz.ntmps31
  go_wp2_with (first | (refine wpList_load_row rfl 40 (.tmp 2) rfl w.heap.size rfl 40 (tbA t a) (0, 0) _ HX0.out Tryz.underlying40 rfl (by kernel_rfl) ?_) | fail)
  refine Calls.mono HK.out ?_
  rintro e w1 ⟨rfl, hb1⟩
  have HB1 : Hid (Below w.heap.size w w1) := HB0.out.trans (hb1.mono HB0.out.size)
  have HX1 : Hid (TBx w1 w.heap.size t a) := HX0.out.below hb1
  clear hb1 HB0 HX0 HK
  cases q
  · have HT : Hid (¬ (Sd t ∧ IsC c)) := fun h => by have := HQ.out.2 h; cases this
    clear HQ HI HX1
    go_wp2
    go_ret
    exact ⟨⟨_, rfl, .inl ⟨HT.out, rfl⟩⟩, HB1.out⟩
  have HT : Hid (Sd t ∧ IsC c) := HQ.out.1 rfl
  clear HQ
  go_wp2_with (first | (refine wpList_load_row rfl 40 (.tmp 2) rfl w.heap.size rfl 40 (tbA t a) (0, 0) _ HX1.out Tryz.underlying40 rfl (by kernel_rfl) ?_) | fail)
  refine Calls.mono (HI.out HT.out _ HB1.out) ?_
  rintro e w2 ⟨rfl, hb2⟩
  have HB2 : Hid (Below w.heap.size w w2) := HB1.out.trans (hb2.mono HB1.out.size)
  clear hb2 HB1 HX1 HI
  go_wp2
  go_ret
  exact ⟨⟨_, rfl, .inr ⟨HT.out, rfl⟩⟩, HB2.out⟩
set_option maxRecDepth 40000 in
set_option maxHeartbeats 4000000 in
theorem spec_frameof (t : Tb) (a : Ad) (c : Int) (w : World) (hm : TM 0 w t a) (hw : TW t a) (hs : TS a) :
    Calls Tryz.prog 25 #[tbV t a, .int .i64 c] w fun e w' => (∃ r : Int, e = .returned (.int .i64 r) ∧ TR t c (c / t.maj) r) ∧ Below w.heap.size w w' := by
  obtain ⟨q, hq⟩ := told (Sd t ∧ IsC c)
  have HB0 : Hid (Below w.heap.size w (w.alloc (.cells (tbA t a) 40))) := (Below.refl _ _).alloc (Nat.le_refl _) _
  have HX0 : Hid (TBx (w.alloc (.cells (tbA t a) 40)) w.heap.size t a) := TBx.new w t a _ rfl
  have HK : Hid (Calls Tryz.prog 73 #[tbV t a, .int .i64 c] (w.alloc (.cells (tbA t a) 40)) fun e w' => e = .returned (.bool q) ∧ Below (w.alloc (.cells (tbA t a) 40)).heap.size (w.alloc (.cells (tbA t a) 40)) w') := spec_tok t a c q _ (hm.below HB0.out) hw hs hq
  have HI : Hid (Sd t ∧ IsC c → ∀ X, Below w.heap.size w X → True) := fun h X hX => trivial
  have HQ : Hid (q = true ↔ (Sd t ∧ IsC c)) := hq
  clear hm hw hs hq
  go_enter Tryz.func25, Tryz.ntmps25
  go_wp2_with (first | (refine wpList_load_row rfl 40 (.tmp 2) rfl w.heap.size rfl 40 (tbA t a) (0, 0) _ HX0.out Tryz.underlying40 rfl (by kernel_rfl) ?_) | fail)
  refine Calls.mono HK.out ?_
  rintro e w1 ⟨rfl, hb1⟩
  have HB1 : Hid (Below w.heap.size w w1) := HB0.out.trans (hb1.mono HB0.out.size)
  have HX1 : Hid (TBx w1 w.heap.size t a) := HX0.out.below hb1
  clear hb1 HB0 HX0 HK
  cases q
  · have HT : Hid (¬ (Sd t ∧ IsC c)) := fun h => by have := HQ.out.2 h; cases this
    clear HQ HI HX1
    go_wp2
    go_ret
    exact ⟨⟨_, rfl, .inl ⟨HT.out, rfl⟩⟩, HB1.out⟩
  have HT : Hid (Sd t ∧ IsC c) := HQ.out.1 rfl
  clear HQ
  have k14 : w1.cell? ⟨w.heap.size, 14, none⟩ = some (.int .i64 t.maj) := HX1.out.cell 14 rfl
  have hm0 : ¬ (t.maj = 0) := by have := (sd_tm HT.out.1).maj1; omega
  have hm1 := (sd_tm HT.out.1).maj1
  have hc : 0 ≤ c := HT.out.2.1
  have hc2 : c ≤ 50000 := HT.out.2.2
  have hd1 : 0 ≤ c / t.maj := Int.ediv_nonneg hc (by omega)
  have hd2 : c / t.maj ≤ c := Int.ediv_le_self _ hc
  clear HI HX1
  go_wp2
  go_ret
  exact ⟨⟨_, rfl, .inr ⟨HT.out, rfl⟩⟩, HB1.out⟩
set_option maxRecDepth 40000 in
set_option maxHeartbeats 4000000 in
theorem spec_holderat (t : Tb) (a : Ad) (c : Int) (w : World) (hm : TM 0 w t a) (hw : TW t a) (hs : TS a) :
    Calls Tryz.prog 33 #[tbV t a, .int .i64 c] w fun e w' => (∃ r : Int, e = .returned (.int .i64 r) ∧ TR t c (holdV t (c % t.maj)) r) ∧ Below w.heap.size w w' := by
  obtain ⟨q, hq⟩ := told (Sd t ∧ IsC c)
  have HB0 : Hid (Below w.heap.size w (w.alloc (.cells (tbA t a) 40))) := (Below.refl _ _).alloc (Nat.le_refl _) _
  have HX0 : Hid (TBx (w.alloc (.cells (tbA t a) 40)) w.heap.size t a) := TBx.new w t a _ rfl
  have HK : Hid (Calls Tryz.prog 73 #[tbV t a, .int .i64 c] (w.alloc (.cells (tbA t a) 40)) fun e w' => e = .returned (.bool q) ∧ Below (w.alloc (.cells (tbA t a) 40)).heap.size (w.alloc (.cells (tbA t a) 40)) w') := spec_tok t a c q _ (hm.below HB0.out) hw hs hq
  have HI : Hid (Sd t ∧ IsC c → ∀ X, Below w.heap.size w X → Calls Tryz.prog 78 #[tbV t a, .int .i64 c] X fun e w' => e = .returned (.int .i64 (phaseV t (c % t.maj))) ∧ Below X.heap.size X w') := fun h X hX => spec_phase t a c X (hm.below hX) hw hs (sd_tm h.1) h.2.1 (by have := h.2.2; omega)
  have HQ : Hid (q = true ↔ (Sd t ∧ IsC c)) := hq
  have hL : t.ss.length = a.sn := hw.sl
  have hn : a.sn ≤ 1048576 := hs.s
  have HSL : Hid (∀ X, Below w.heap.size w X → GSeg 3 X a.sa a.sn (slX t.ss)) := fun X hX => (hm.below hX).s.seg
  have HC0 : Hid (Sd t ∧ IsC c → ∀ X, Below w.heap.size w X → Calls Tryz.prog 76 #[tbV t a, .int .i64 c] X fun e w' => e = .returned (.int .i64 (slotV t (c % t.maj))) ∧ Below X.heap.size X w') := fun h X hX => spec_slot t a c X (hm.below hX) hw hs (sd_tm h.1) h.2.1 (by have := h.2.2; omega)
  clear hm hw hs hq
  go_enter Tryz.func33, Tryz.ntmps33
  go_wp2_with (first | (refine wpList_load_row rfl 40 (.tmp 2) rfl w.heap.size rfl 40 (tbA t a) (0, 0) _ HX0.out Tryz.underlying40 rfl (by kernel_rfl) ?_) | fail)
  refine Calls.mono HK.out ?_
  rintro e w1 ⟨rfl, hb1⟩
  have HB1 : Hid (Below w.heap.size w w1) := HB0.out.trans (hb1.mono HB0.out.size)
  have HX1 : Hid (TBx w1 w.heap.size t a) := HX0.out.below hb1
  clear hb1 HB0 HX0 HK
  cases q
  · have HT : Hid (¬ (Sd t ∧ IsC c)) := fun h => by have := HQ.out.2 h; cases this
    clear HQ HI HX1
    go_wp2
    go_ret
    exact ⟨⟨_, rfl, .inl ⟨HT.out, rfl⟩⟩, HB1.out⟩
  have HT : Hid (Sd t ∧ IsC c) := HQ.out.1 rfl
  clear HQ
  go_wp2_with (first | (refine wpList_load_row rfl 40 (.tmp 2) rfl w.heap.size rfl 40 (tbA t a) (0, 0) _ HX1.out Tryz.underlying40 rfl (by kernel_rfl) ?_) | fail)
  refine Calls.mono (HI.out HT.out _ HB1.out) ?_
  rintro e V ⟨rfl, hb2⟩
  have HB2 : Hid (Below w.heap.size w V) := HB1.out.trans (hb2.mono HB1.out.size)
  have HX2 : Hid (TBx V w.heap.size t a) := HX1.out.below hb2
  clear hb2 HB1 HX1 HI
  by_cases hf : phaseV t (c % t.maj) = 2 ∨ phaseV t (c % t.maj) = 3
  rotate_left
  · have HT1 : Hid (-1 = holdV t (c % t.maj)) := (if_neg hf).symm
    have hb1 : (phaseV t (c % t.maj) == 2) = false := by simpa using fun g => hf (.inl g)
    have hb2 : (phaseV t (c % t.maj) == 3) = false := by simpa using fun g => hf (.inr g)
    have hb3 : ¬ (phaseV t (c % t.maj) = 2) := fun g => hf (.inl g)
    have hb4 : ¬ (phaseV t (c % t.maj) = 3) := fun g => hf (.inr g)
    clear hf HC0 HSL HX2
    generalize phaseV t (c % t.maj) = f at hb1 hb2 hb3 hb4 ⊢
    go_wp2
    go_ret
    exact ⟨⟨_, rfl, .inr ⟨HT.out, HT1.out⟩⟩, HB2.out⟩
  obtain ⟨i, hi, hsv, _⟩ := phaseV_slot (t := t) (p := c % t.maj) (by omega)
  have HT1 : Hid ((t.ss.getD i sl0).1 = holdV t (c % t.maj)) := by show _ = _; unfold holdV; rw [if_pos hf, hsv]; rfl
  obtain ⟨r, HT0⟩ : ∃ r, Hid ((t.ss.getD i sl0).1 = r) := ⟨_, rfl⟩
  replace HT1 : Hid (r = holdV t (c % t.maj)) := HT0.out.symm.trans HT1.out
  have HCS : Hid (∀ X, Below w.heap.size w X → Calls Tryz.prog 76 #[tbV t a, .int .i64 c] X fun e w' => e = .returned (.int .i64 (i : Int)) ∧ Below X.heap.size X w') := fun X hX => by have := HC0.out HT.out X hX; rw [hsv] at this; exact this
  have hi2 : i < a.sn := by omega
  have hi3 : (i : Int) < (a.sn : Int) := by omega
  have hi4 : 0 ≤ (i : Int) := by omega
  clear hsv hL HC0
  rcases hf with hf | hf
  all_goals
    rw [hf]
    clear hf
    obtain ⟨b1, o1, hsa, hbl1, p1⟩ := (HSL.out _ HB2.out).at i hi2
    have k18 : V.cell? ⟨w.heap.size, 18, none⟩ = some (.slice (some ⟨b1, o1, none⟩) a.sn a.sc) := by rw [← hsa]; exact HX2.out.cell 18 rfl
    simp only [slX] at p1
    generalize t.ss.getD i sl0 = y at p1 HT0
    obtain ⟨c0, c1, c2⟩ := sl_cells p1
    obtain ⟨x1, x2, x3⟩ := y
    simp only at c0 c1 c2 HT0
    have G18 := fun X => gr_cell (W0 := V) k18 X
    have G0 := fun X => gr_cell (W0 := V) c0 X
    have HCG : Hid (∀ X : Gr V, Calls Tryz.prog 76 #[tbV t a, .int .i64 c] X.w fun e w' => e = .returned (.int .i64 (i : Int)) ∧ Below X.w.heap.size X.w w') := fun X => HCS.out _ (HB2.out.trans (X.h.mono HB2.out.size))
    have HXX : Hid (∀ w', (∃ X : Gr V, w' = X.w) → w'.heap[w.heap.size]? = some (.cells (tbA t a) 40 (0, 0))) := fun w' hX => by
      obtain ⟨X, rfl⟩ := hX
      exact HX2.out.below X.h
    clear p1 hbl1 HSL
    go_wp2
    have hgr := gr_some V
    refine region_alike (by kernel_rfl) (by kernel_rfl) ?_
    repeat (first | (refine wpQuiet_load_row rfl 40 (.tmp 2) rfl w.heap.size rfl 40 (tbA t a) (0, 0) _ HXX.out Tryz.underlying40 rfl (by kernel_rfl) ?_; simp only [Act.put, List.setIfInBounds_toArray, List.set_cons_zero, List.set_cons_succ]) | go_big_quiet_step (first | (go_at_call 76; exact gr_call (HCG.out _))))
    refine wpQuiet_nil ?_
    intro _ hw'
    obtain ⟨X1, rfl⟩ := hw'
    have HBE : Hid (Below w.heap.size w X1.w) := HB2.out.trans (X1.h.mono HB2.out.size)
    generalize X1.w = Wz at HBE ⊢
    clear hgr G18 G0 HCG HXX k18 c0 c1 c2
    go_wp2
    go_ret
    exact ⟨⟨_, rfl, .inr ⟨HT.out, HT0.out.trans HT1.out⟩⟩, HBE.out⟩
end Go.Proofs.YtoalamgongaaeaaGreatDoor
