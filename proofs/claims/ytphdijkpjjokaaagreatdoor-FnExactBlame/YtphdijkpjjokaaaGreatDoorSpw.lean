
/-
  The phase and the partition at a cycle, and the spans of the cycles between two, by the specification. Conditions: the lists lie in memory.
-/
import Derived.Test.YtphdijkpjjokaaaGreatDoorBas
import Derived.Test.YtphdijkpjjokaaaGreatDoorSpi
import Derived.Test.YtphdijkpjjokaaaGreatDoorTif
import Derived.Test.YtphdijkpjjokaaaGreatDoorTia
namespace Go.Proofs.YtphdijkpjjokaaaGreatDoor
open Go.ChangeShapes Go.WideShapes Go.ChangeAt Go.RowKit Go.Deep Go.Joins
set_option linter.unusedVariables false

set_option maxRecDepth 40000 in
set_option maxHeartbeats 4000000 in
theorem spec_who (t : Tb) (a : Ad) (c : Int) (w : World) (hm : TM 0 w t a) (hw : TW t a) (hs : TS a) (ht : Tm t) (hc : 0 ≤ c) (hc2 : c ≤ 1000000) :
    Calls Tryz.prog 27 #[tbV t a, .int .i64 c] w fun e w' => e = .returned (.tuple #[.int .i64 (phaseV t (c % t.maj)), .int .i64 (whoV t (c % t.maj))]) ∧ Below w.heap.size w w' := by
  have hL : t.ss.length = a.sn := hw.sl
  have hn : a.sn ≤ 1048576 := hs.s
  have HSL : Hid (∀ X, Below w.heap.size w X → GSeg 3 X a.sa a.sn (slX t.ss)) := fun X hX => (hm.below hX).s.seg
  have HCP : Hid (∀ X, Below w.heap.size w X → Calls Tryz.prog 57 #[tbV t a, .int .i64 c] X fun e w' => e = .returned (.int .i64 (phaseV t (c % t.maj))) ∧ Below X.heap.size X w') := fun X hX => spec_phase t a c X (hm.below hX) hw hs ht hc hc2
  have HCS : Hid (∀ X, Below w.heap.size w X → Calls Tryz.prog 28 #[tbV t a, .int .i64 c] X fun e w' => e = .returned (.int .i64 (slotV t (c % t.maj))) ∧ Below X.heap.size X w') := fun X hX => spec_slot t a c X (hm.below hX) hw hs ht hc hc2
  generalize c % t.maj = p at HCP HCS ⊢
  have HB0 : Hid (Below w.heap.size w (w.alloc (.cells (tbA t a) 41))) := (Below.refl _ _).alloc (Nat.le_refl _) _
  have HX0 : Hid (TBx (w.alloc (.cells (tbA t a) 41)) w.heap.size t a) := TBx.new w t a _ rfl
  clear hm hw hs ht hc hc2
  rcases slotV_cases t p with ⟨hf, _⟩ | ⟨i, hi, hsv, _⟩
  · have HT0 : Hid (whoV t p = -1) := by show _ = _; unfold whoV; rw [hf, if_pos (by decide)]
    rw [HT0.out, phaseV_free hf]
    rw [hf] at HCS
    clear HT0 HSL HCP hf
    go_enter Tryz.func27, Tryz.ntmps27
    go_wp2_with (first | (refine wpList_load_row rfl 41 (.tmp 2) rfl w.heap.size rfl 41 (tbA t a) (0, 0) _ HX0.out Tryz.underlying41 rfl (by kernel_rfl) ?_) | fail)
    refine Calls.mono (HCS.out _ HB0.out) ?_
    rintro e w1 ⟨rfl, hb1⟩
    have HB1 : Hid (Below w.heap.size w w1) := HB0.out.trans (hb1.mono HB0.out.size)
    clear hb1 HB0 HX0 HCS
    go_wp2
    exact bodyPost_ret (v := .tuple #[.int .i64 0, .int .i64 (-1)]) (by simp [results, Tryz.results27, go_sem]) rfl ⟨rfl, HB1.out⟩
  have HT1 : Hid (whoV t p = (t.ss.getD i sl0).1) := by show _ = _; unfold whoV; rw [hsv, if_neg (by omega)]; rfl
  rw [HT1.out]
  obtain ⟨r, HT0⟩ : ∃ r, Hid ((t.ss.getD i sl0).1 = r) := ⟨_, rfl⟩
  rw [HT0.out]
  rw [hsv] at HCS
  generalize phaseV t p = ph at HCP ⊢
  have hi2 : i < a.sn := by omega
  have hi3 : (i : Int) < (a.sn : Int) := by omega
  have hi4 : 0 ≤ (i : Int) := by omega
  have hi5 : ¬ ((i : Int) < 0) := by omega
  clear HT1 hsv hL
  go_enter Tryz.func27, Tryz.ntmps27
  go_wp2_with (first | (refine wpList_load_row rfl 41 (.tmp 2) rfl w.heap.size rfl 41 (tbA t a) (0, 0) _ HX0.out Tryz.underlying41 rfl (by kernel_rfl) ?_) | fail)
  refine Calls.mono (HCS.out _ HB0.out) ?_
  rintro e V ⟨rfl, hb1⟩
  have HB2 : Hid (Below w.heap.size w V) := HB0.out.trans (hb1.mono HB0.out.size)
  have HX2 : Hid (TBx V w.heap.size t a) := HX0.out.below hb1
  clear hb1 HB0 HX0 HCS
  obtain ⟨b1, o1, hsa, hbl1, p1⟩ := (HSL.out _ HB2.out).at i hi2
  have k18 : V.cell? ⟨w.heap.size, 18, none⟩ = some (.slice (some ⟨b1, o1, none⟩) a.sn a.sc) := by rw [← hsa]; exact HX2.out.cell 18 rfl
  simp only [slX] at p1
  generalize t.ss.getD i sl0 = y at p1 HT0
  obtain ⟨c0, c1, c2⟩ := sl_cells p1
  obtain ⟨x1, x2, x3⟩ := y
  simp only at c0 c1 c2 HT0
  have G18 := fun X => gr_cell (W0 := V) k18 X
  have G0 := fun X => gr_cell (W0 := V) c0 X
  have HCG : Hid (∀ X : Gr V, Calls Tryz.prog 57 #[tbV t a, .int .i64 c] X.w fun e w' => e = .returned (.int .i64 ph) ∧ Below X.w.heap.size X.w w') := fun X => HCP.out _ (HB2.out.trans (X.h.mono HB2.out.size))
  have HXX : Hid (∀ w', (∃ X : Gr V, w' = X.w) → w'.heap[w.heap.size]? = some (.cells (tbA t a) 41 (0, 0))) := fun w' hX => by
    obtain ⟨X, rfl⟩ := hX
    exact HX2.out.below X.h
  clear p1 hbl1 HSL
  go_wp2
  have hgr := gr_some V
  refine region_alike (by kernel_rfl) (by kernel_rfl) ?_
  repeat (first | (refine wpQuiet_load_row rfl 41 (.tmp 2) rfl w.heap.size rfl 41 (tbA t a) (0, 0) _ HXX.out Tryz.underlying41 rfl (by kernel_rfl) ?_; simp only [Act.put, List.setIfInBounds_toArray, List.set_cons_zero, List.set_cons_succ]) | go_big_quiet_step (first | (go_at_call 57; exact gr_call (HCG.out _))))
  refine wpQuiet_nil ?_
  intro _ hw'
  obtain ⟨X1, rfl⟩ := hw'
  have HB3 : Hid (Below w.heap.size w X1.w) := HB2.out.trans (X1.h.mono HB2.out.size)
  have HTT : Hid (x1 = r) := HT0.out
  go_wp2
  exact bodyPost_ret (v := .tuple #[.int .i64 ph, .int .i64 x1]) (by simp [results, Tryz.results27, go_sem]) rfl ⟨by rw [HTT.out], HB3.out⟩
end Go.Proofs.YtphdijkpjjokaaaGreatDoor
