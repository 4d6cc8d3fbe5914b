
/-
  Frames, slots, phases, holders of cycles: the exported functions of the program and of the specification. Conditions: the lists lie in memory; the program's table of extras holds what the program's text lays.
-/
import Derived.Test.YtmgopppgckgglaaGreatDoorBas
import Derived.Test.YtmgopppgckgglaaGreatDoorTig
namespace Go.Proofs.YtmgopppgckgglaaGreatDoor
open Go.ChangeShapes Go.WideShapes Go.ChangeAt Go.RowKit Go.Deep Go.Joins
set_option linter.unusedVariables false

set_option maxRecDepth 40000 in
set_option maxHeartbeats 4000000 in
theorem impl_maybegin (t : Tb) (a : Ad) (c : Int) (w : World) (hm : TM 0 w t a) (hw : TW t a) (hs : TS a) (he : TabE w) (hcp : a.pn ≤ a.pc) (hcs : a.sn ≤ a.sc) :
    Calls Tryz.prog 26 #[tbV t a, .int .i64 c] w fun e w' => (∃ r : Int, e = .returned (.int .i64 r) ∧ TR t c (begV t (c % t.maj)) r) ∧ Below w.heap.size w w' := by
  obtain ⟨q, hq⟩ := told (Sd t ∧ IsC c)
  have HB0 : Hid (Below w.heap.size w (w.alloc (.cells (tbA t a) 33))) := (Below.refl _ _).alloc (Nat.le_refl _) _
  have HX0 : Hid (TBx (w.alloc (.cells (tbA t a) 33)) w.heap.size t a) := TBx.new w t a _ rfl
  have hbA : Below (w.alloc (.cells (tbA t a) 33)).heap.size (w.alloc (.cells (tbA t a) 33)) ((w.alloc (.cells (tbA t a) 33)).alloc (.cells #[.int .i64 c] 3)) := (Below.refl _ _).alloc (Nat.le_refl _) _
  have HBA : Hid (Below w.heap.size w ((w.alloc (.cells (tbA t a) 33)).alloc (.cells #[.int .i64 c] 3))) := HB0.out.trans (hbA.mono HB0.out.size)
  have HXA : Hid (TBx ((w.alloc (.cells (tbA t a) 33)).alloc (.cells #[.int .i64 c] 3)) w.heap.size t a) := HX0.out.below hbA
  have KA : Hid (GSeg 1 ((w.alloc (.cells (tbA t a) 33)).alloc (.cells #[.int .i64 c] 3)) (some ⟨w.heap.size + 1, 0, none⟩) 1 (inX [c])) := fun _ => ⟨w.heap.size + 1, 0, rfl, by simp, fun i hi => by
    have : i = 0 := by omega
    subst this
    exact CellsAt.new (w.alloc (.cells (tbA t a) 33)) [.int .i64 c] _ _ (by simp)⟩
  have HK : Hid (Calls Tryz.prog 52 #[tbV t a, .slice (some ⟨w.heap.size + 1, 0, none⟩) 1 1] ((w.alloc (.cells (tbA t a) 33)).alloc (.cells #[.int .i64 c] 3)) fun e w' => e = .returned (.bool q) ∧ Below ((w.alloc (.cells (tbA t a) 33)).alloc (.cells #[.int .i64 c] 3)).heap.size ((w.alloc (.cells (tbA t a) 33)).alloc (.cells #[.int .i64 c] 3)) w') :=
    keeps t a [c] 1 1 _ q _ (hm.below HBA.out) hw hs (he.below HBA.out) hcp KA.out (by omega) (hq.trans ⟨fun h => ⟨fun i hi => by
      have : i = 0 := by omega
      subst this; exact h.2, h.1⟩, fun h => ⟨h.2, h.1 0 (by omega)⟩⟩)
  have HI : Hid (Sd t ∧ IsC c → ∀ X, Below w.heap.size w X → ∀ A, GSeg 1 X A 1 (inX [2]) → ∀ cap, Calls Tryz.prog 53 #[tbV t a, .int .i64 c, .slice A 1 cap] X fun e w' => e = .returned (.int .i64 (begV t (c % t.maj))) ∧ Below X.heap.size X w') := fun h X hX => fun A hA cap => by
    obtain ⟨q9, hq9⟩ := told (phaseV t (c % t.maj) = 2)
    refine (part_in t a c A cap 1 [2] q9 X (hm.below hX) hw hs hcs (sd_tm h.1) h.2.1 (by have := h.2.2; omega) hA (by omega) (fun i hi => ?_) (hq9.trans ?_)).mono fun e w' ⟨he', hb⟩ => ⟨he'.trans (ret_int ?_), hb⟩
    · have : i = 0 := by omega
      subst this; decide
    · exact ⟨fun g => ⟨0, by omega, g.symm⟩, fun ⟨i, hi, e⟩ => by have h0 : i = 0 := (by omega); subst h0; exact e.symm⟩
    · unfold begV
      by_cases g : phaseV t (c % t.maj) = 2
      · rw [if_pos g, if_pos (hq9.2 g)]
      · rw [if_neg g, if_neg (fun h9 => g (hq9.1 h9))]
  have HQ : Hid (q = true ↔ (Sd t ∧ IsC c)) := hq
  clear hm hw hs hq he hcp hcs KA hbA HB0
  go_enter Tryz.func26, Tryz.ntmps26
  go_wp2_with (first | (refine wpList_load_row rfl 33 (.tmp 2) rfl w.heap.size rfl 33 (tbA t a) (0, 0) _ HX0.out Tryz.underlying33 rfl (by kernel_rfl) ?_) | fail)
  refine Calls.mono HK.out ?_
  rintro e w1 ⟨rfl, hb1⟩
  have HB1 : Hid (Below w.heap.size w w1) := HBA.out.trans (hb1.mono HBA.out.size)
  have HX1 : Hid (TBx w1 w.heap.size t a) := HXA.out.below hb1
  clear hb1 HBA HXA HK HX0
  cases q
  · have HT : Hid (¬ (Sd t ∧ IsC c)) := fun h => by have := HQ.out.2 h; cases this
    clear HQ HI HX1
    go_wp2
    go_ret
    exact ⟨⟨_, rfl, .inl ⟨HT.out, rfl⟩⟩, HB1.out⟩
  have HT : Hid (Sd t ∧ IsC c) := HQ.out.1 rfl
  clear HQ
  have hbP : Below w1.heap.size w1 (w1.alloc (.cells #[.int .i64 2] 3)) := (Below.refl _ _).alloc (Nat.le_refl _) _
  have HBP : Hid (Below w.heap.size w (w1.alloc (.cells #[.int .i64 2] 3))) := HB1.out.trans (hbP.mono HB1.out.size)
  have KP : Hid (GSeg 1 (w1.alloc (.cells #[.int .i64 2] 3)) (some ⟨w1.heap.size, 0, none⟩) 1 (inX [2])) := fun _ => ⟨w1.heap.size, 0, rfl, by simp, fun i hi => by
    have g := CellsAt.new w1 [.int .i64 2] 3 _ rfl
    have : i = 0 := by omega
    subst this
    exact g⟩
  clear hbP HB1
  go_wp2_with (first | (refine wpList_load_row rfl 33 (.tmp 2) rfl w.heap.size rfl 33 (tbA t a) (0, 0) _ HX1.out Tryz.underlying33 rfl (by kernel_rfl) ?_) | fail)
  refine Calls.mono (HI.out HT.out _ HBP.out _ KP.out _) ?_
  rintro e w2 ⟨rfl, hb2⟩
  have HB2 : Hid (Below w.heap.size w w2) := HBP.out.trans (hb2.mono HBP.out.size)
  clear hb2 HBP KP HX1 HI
  go_wp2
  go_ret
  exact ⟨⟨_, rfl, .inr ⟨HT.out, rfl⟩⟩, HB2.out⟩
end Go.Proofs.YtmgopppgckgglaaGreatDoor
