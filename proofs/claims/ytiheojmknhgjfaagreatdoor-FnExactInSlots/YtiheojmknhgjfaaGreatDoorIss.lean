
/-
  Whether events lie in the slots of a partition: the specification's answer. Conditions: the lists lie in memory.
-/
import Derived.Test.YtiheojmknhgjfaaGreatDoorBas
import Derived.Test.YtiheojmknhgjfaaGreatDoorIsp
import Derived.Test.YtiheojmknhgjfaaGreatDoorTig
namespace Go.Proofs.YtiheojmknhgjfaaGreatDoor
open Go.ChangeShapes Go.WideShapes Go.ChangeAt Go.RowKit Go.Deep Go.Joins
set_option linter.unusedVariables false

set_option maxRecDepth 40000 in
set_option maxHeartbeats 16000000 in
theorem spec_insl (t : Tb) (a : Ad) (p : Int) (A : Option Addr) (cap n : Nat) (xs : List evT) (q : Bool) (w : World) (hm : TM 0 w t a) (hw : TW t a) (hs : TS a) (hev : GSeg 7 w A n (evX xs)) (hn : n ≤ 1048576) (hq : q = true ↔ (Sd t ∧ InSl t p xs n)) :
    Calls Tryz.prog 14 #[tbV t a, .int .i64 p, .slice A n cap] w fun e w' => e = .returned (.bool q) ∧ Below w.heap.size w w' := by
  have HB0 : Hid (Below w.heap.size w (w.alloc (.cells (tbA t a) 42))) := (Below.refl _ _).alloc (Nat.le_refl _) _
  have HX0 : Hid (TBx (w.alloc (.cells (tbA t a) 42)) w.heap.size t a) := TBx.new w t a _ rfl
  have HQ : Hid (q = true ↔ (Sd t ∧ InSl t p xs n)) := hq
  have HL : Hid (t.ps.length = a.pn) := hw.pl
  have hpn : a.pn ≤ 1048576 := hs.p
  obtain ⟨q1, hq1⟩ := told (Sd t)
  have HQ1 : Hid (q1 = true ↔ Sd t) := hq1
  have HSP : Hid (Calls Tryz.prog 23 #[tbV t a] (w.alloc (.cells (tbA t a) 42)) fun e w' => e = .returned (.bool q1) ∧ Below (w.alloc (.cells (tbA t a) 42)).heap.size (w.alloc (.cells (tbA t a) 42)) w') := spec_sound t a q1 _ (hm.below HB0.out) hw hs hq1
  obtain ⟨v, HV⟩ : ∃ v, Hid (wsV t = v) := ⟨_, rfl⟩
  have HWS : Hid (∀ X, Calls Tryz.prog 47 #[cst t.c1 t.c2 t.c3 t.c4 t.c5 t.c6 t.c7] X fun r w' => r = .returned (.int .i64 v) ∧ Below X.heap.size X w') := fun X => by rw [← HV.out]; exact spec_worstS t.c1 t.c2 t.c3 t.c4 t.c5 t.c6 t.c7 X
  have HBG : Hid (∀ c, Sd t → 0 ≤ c → c ≤ 50000 → ∀ X, Below w.heap.size w X → Calls Tryz.prog 48 #[tbV t a, .int .i64 c] X fun e w' => e = .returned (.int .i64 (begV t (c % t.maj))) ∧ Below X.heap.size X w') := fun c h1 h2 h3 X hX => spec_begin t a c X (hm.below hX) hw hs (sd_tm h1) h2 (by omega)
  have HSL : Hid (∀ c, Sd t → 0 ≤ c → c ≤ 1000000 → ∀ X, Below w.heap.size w X → Calls Tryz.prog 49 #[tbV t a, .int .i64 c] X fun e w' => e = .returned (.int .i64 (slotV t (c % t.maj))) ∧ Below X.heap.size X w') := fun c h1 h2 h3 X hX => spec_slot t a c X (hm.below hX) hw hs (sd_tm h1) h2 h3
  have HEV : Hid (∀ X, Below w.heap.size w X → GSeg 7 X A n (evX xs)) := fun X hX => hev.below hX
  have hw1 : IntKind.i64.wrap ((a.pn : Int) - 1) = (a.pn : Int) - 1 := by rw [IntKind.wrap_i64]; omega
  clear hm hw hs hev hq hq1
  go_enter Tryz.func14, Tryz.ntmps14
  go_wp2_with (first | (refine wpList_load_row rfl 42 (.tmp 3) rfl w.heap.size rfl 42 (tbA t a) (0, 0) _ HX0.out Tryz.underlying42 rfl (by kernel_rfl) ?_) | fail)
  refine Calls.mono HSP.out ?_
  rintro e w1 ⟨rfl, hb1⟩
  have HB1 : Hid (Below w.heap.size w w1) := HB0.out.trans (hb1.mono HB0.out.size)
  have HX1 : Hid (TBx w1 w.heap.size t a) := HX0.out.below hb1
  clear hb1 HB0 HX0 HSP
  cases q1
  · have HT : Hid (q = false) := not_true HQ.out (fun h => by have := HQ1.out.2 h.1; cases this)
    go_wp2
    go_ret
    exact ⟨ret_bool HT.out.symm, HB1.out⟩
  have HSD : Hid (Sd t) := HQ1.out.1 (by first | rfl | trivial)
  have k15 : w1.cell? ⟨w.heap.size, 15, none⟩ = some (.slice a.pa a.pn a.pc) := HX1.out.cell 15 rfl
  clear HQ1
  go_wp2_with fail
  refine Calls.mono (in_any p 0 ((a.pn : Int) - 1) _) ?_
  rintro e w2 ⟨rfl, hw2⟩
  subst hw2
  clear k15
  by_cases hp : 0 ≤ p ∧ p < (a.pn : Int)
  rotate_left
  · have HT : Hid (q = false) := not_true HQ.out (fun h => hp ⟨h.2.2.1.1, by rw [← HL.out]; exact h.2.2.1.2⟩)
    rw [inr_no (x := p) (lo := 0) (hi := (a.pn : Int) - 1) (fun h => hp ⟨h.1, by omega⟩)]
    go_wp2
    go_ret
    exact ⟨ret_bool HT.out.symm, HB1.out⟩
  rw [inr_yes (x := p) (lo := 0) (hi := (a.pn : Int) - 1) ⟨hp.1, by omega⟩]
  have hp0 : 0 ≤ p := hp.1
  by_cases hN : n ≤ 50000
  rotate_left
  · have HT : Hid (q = false) := not_true HQ.out (fun h => hN h.2.1)
    have hN' : (50000 : Int) < (n : Int) := by omega
    go_wp2
    go_ret
    exact ⟨ret_bool HT.out.symm, HB1.out⟩
  have hN' : ¬ ((50000 : Int) < (n : Int)) := by omega
  have HQ3 : Hid (q = true ↔ ∀ i, i < n → evIn t p (freeE xs i) (xs.getD i ev0)) := HQ.out.trans ⟨fun h => h.2.2.2, fun h => ⟨HSD.out, hN, ⟨hp.1, by rw [HL.out]; exact hp.2⟩, h⟩⟩
  clear HQ hp HL
  rename World => w3
  have HB3 : Hid (Below w.heap.size w w3) := HB1.out
  have HX3 : Hid (TBx w3 w.heap.size t a) := HX1.out
  clear HB1 HX1
  go_wp2
  go_loopw [7, 8] (fun f i wr => ∃ (m : Nat) (F : Int), m ≤ n ∧ 0 ≤ F ∧ F ≤ 55000 ∧ i = .int .i64 m ∧ f = .int .i64 F ∧ Hid (F = freeE xs m ∧ Below w3.heap.size w3 wr ∧ ∀ i, i < m → evIn t p (freeE xs i) (xs.getD i ev0))) (fun _ i _ => n - (intOf i).toNat)
  case atStart => exact ⟨0, 0, by omega, by omega, by omega, rfl, rfl, rfl, Below.refl _ _, fun i hi => absurd hi (by omega)⟩
  case round =>
    obtain ⟨m, F, hm, hF0, hF1, rfl, rfl, HR⟩ := hrel
    by_cases hmn : m < n
    rotate_left
    · obtain rfl : m = n := by omega
      have HT : Hid (q = true) := HQ3.out.2 HR.out.2.2
      have HBE : Hid (Below w.heap.size w wr) := HB3.out.trans (HR.out.2.1.mono HB3.out.size)
      go_wp2
      go_ret
      exact ⟨ret_bool HT.out.symm, HBE.out⟩
    have hmn' : (m : Int) < (n : Int) := by omega
    have HBR : Hid (Below w.heap.size w wr) := HB3.out.trans (HR.out.2.1.mono HB3.out.size)
    obtain ⟨b1, o1, rfl, hbl1, p1⟩ := (HEV.out _ HBR.out).at m hmn
    obtain ⟨x, HX⟩ : ∃ x, Hid (xs.getD m ev0 = x) := ⟨_, rfl⟩
    simp only [evX] at p1
    rw [HX.out] at p1
    obtain ⟨c0, c1, c2, c3, c4, c5, c6⟩ := ev_cells p1
    have HIN : Hid (q = true → evIn t p F x) := fun h => by have := HQ3.out.1 h m hmn; rw [HX.out, ← HR.out.1] at this; exact this
    have HNX : Hid (evIn t p F x → x.1 + x.2.1 = freeE xs (m + 1) ∧ (0 ≤ x.1 + x.2.1 ∧ x.1 + x.2.1 ≤ 55000) ∧ ∀ i, i < m + 1 → evIn t p (freeE xs i) (xs.getD i ev0)) := fun h => by
      have h3 := insl_next (m := m) HR.out.2.2 (by rw [HX.out, ← HR.out.1]; exact h)
      have h4 := free_rng HSD.out (m + 1) h3
      have h5 : x.1 + x.2.1 = freeE xs (m + 1) := by simp only [freeE]; rw [HX.out]
      exact ⟨h5, by rw [h5]; exact h4, h3⟩
    have HWI : Hid (F ≤ x.1 → x.1 ≤ 50000 → 1 ≤ x.2.1 → x.2.1 ≤ v → begV t (x.1 % t.maj) = p → evIn t p F x) := fun h1 h2 h3 h4 h5 => ⟨⟨h1, h2⟩, ⟨h3, by rw [HV.out]; exact h4⟩, h5⟩
    have HIA : Hid (evIn t p F x → (F ≤ x.1 ∧ x.1 ≤ 50000) ∧ (1 ≤ x.2.1 ∧ x.2.1 ≤ v) ∧ begV t (x.1 % t.maj) = p) := fun h => by rw [← HV.out]; exact h
    have HSM : Hid (x.2.1 ≤ v → begV t (x.1 % t.maj) = p → ∀ d, x.1 ≤ d → d < x.1 + x.2.1 → slotV t (d % t.maj) = slotV t (x.1 % t.maj)) := fun h1 h2 d h3 h4 => slot_same HSD.out hp0 h2 (by rw [HV.out]; exact h1) h3 h4
    have HXR : Hid (TBx wr w.heap.size t a) := HX3.out.below HR.out.2.1
    have HRW : Hid (Below w3.heap.size w3 wr) := HR.out.2.1
    clear HR p1 HX
    obtain ⟨x1, x2, x3, x4, x5, x6, x7⟩ := x
    simp only at c0 c1 c2 c3 c4 c5 c6 HIN HNX HWI HIA HSM
    have hbA : Below wr.heap.size wr (wr.alloc (.cells #[.int .i64 x1, .int .i64 x2, .int .u32 x3, .int .i64 x4, .int .i64 x5, .int .i64 x6, .int .u32 x7] 89)) := (Below.refl _ _).alloc (Nat.le_refl _) _
    have HBA : Hid (Below w.heap.size w (wr.alloc (.cells #[.int .i64 x1, .int .i64 x2, .int .u32 x3, .int .i64 x4, .int .i64 x5, .int .i64 x6, .int .u32 x7] 89))) := HBR.out.trans (hbA.mono HBR.out.size)
    have HXV : Hid (TBx (wr.alloc (.cells #[.int .i64 x1, .int .i64 x2, .int .u32 x3, .int .i64 x4, .int .i64 x5, .int .i64 x6, .int .u32 x7] 89)) w.heap.size t a) := HXR.out.below hbA
    have HBW : Hid (Below w3.heap.size w3 (wr.alloc (.cells #[.int .i64 x1, .int .i64 x2, .int .u32 x3, .int .i64 x4, .int .i64 x5, .int .i64 x6, .int .u32 x7] 89))) := HRW.out.trans (hbA.mono HRW.out.size)
    have KE : Hid (CellsAt (wr.alloc (.cells #[.int .i64 x1, .int .i64 x2, .int .u32 x3, .int .i64 x4, .int .i64 x5, .int .i64 x6, .int .u32 x7] 89)) wr.heap.size 0 [.int .i64 x1, .int .i64 x2, .int .u32 x3, .int .i64 x4, .int .i64 x5, .int .i64 x6, .int .u32 x7]) := CellsAt.new wr [.int .i64 x1, .int .i64 x2, .int .u32 x3, .int .i64 x4, .int .i64 x5, .int .i64 x6, .int .u32 x7] _ _ rfl
    clear hbA HBR HXR HRW
    go_wp2
    clear c0 c1 c2 c3 c4 c5 c6
    revert HBA HXV KE HBW
    generalize wr.alloc (.cells #[.int .i64 x1, .int .i64 x2, .int .u32 x3, .int .i64 x4, .int .i64 x5, .int .i64 x6, .int .u32 x7] 89) = V
    generalize wr.heap.size = N
    intro HBA HXV HBW KE
    obtain ⟨B, HBB⟩ : ∃ B, Hid (begV t (x1 % t.maj) = B) := ⟨_, rfl⟩
    have e0 : V.cell? ⟨N, 0, none⟩ = some (.int .i64 x1) := KE.out 0 _ rfl
    have e1 : V.cell? ⟨N, 1, none⟩ = some (.int .i64 x2) := KE.out 1 _ rfl
    have E0 := fun X => gr_cell (W0 := V) e0 X
    have E1 := fun X => gr_cell (W0 := V) e1 X
    have k5 : V.cell? ⟨w.heap.size, 5, none⟩ = some (.int .i64 t.c1) := HXV.out.cell 5 rfl
    have G5 := fun X => gr_cell (W0 := V) k5 X
    have k6 : V.cell? ⟨w.heap.size, 6, none⟩ = some (.int .i64 t.c2) := HXV.out.cell 6 rfl
    have G6 := fun X => gr_cell (W0 := V) k6 X
    have k7 : V.cell? ⟨w.heap.size, 7, none⟩ = some (.int .i64 t.c3) := HXV.out.cell 7 rfl
    have G7 := fun X => gr_cell (W0 := V) k7 X
    have k8 : V.cell? ⟨w.heap.size, 8, none⟩ = some (.int .i64 t.c4) := HXV.out.cell 8 rfl
    have G8 := fun X => gr_cell (W0 := V) k8 X
    have k9 : V.cell? ⟨w.heap.size, 9, none⟩ = some (.int .i64 t.c5) := HXV.out.cell 9 rfl
    have G9 := fun X => gr_cell (W0 := V) k9 X
    have k10 : V.cell? ⟨w.heap.size, 10, none⟩ = some (.int .i64 t.c6) := HXV.out.cell 10 rfl
    have G10 := fun X => gr_cell (W0 := V) k10 X
    have k11 : V.cell? ⟨w.heap.size, 11, none⟩ = some (.int .i64 t.c7) := HXV.out.cell 11 rfl
    have G11 := fun X => gr_cell (W0 := V) k11 X
    have HI1 : Hid (∀ X : Gr V, Calls Tryz.prog 24 #[.int .i64 x1, .int .i64 F, .int .i64 50000] X.w fun e w' => e = .returned (.bool (inr x1 F 50000)) ∧ Below X.w.heap.size X.w w') := fun X => (in_any x1 F 50000 X.w).mono fun e w' ⟨h1, h2⟩ => ⟨h1, by rw [h2]; exact Below.refl _ _⟩
    have HI2 : Hid (∀ X : Gr V, Calls Tryz.prog 24 #[.int .i64 x2, .int .i64 1, .int .i64 v] X.w fun e w' => e = .returned (.bool (inr x2 1 v)) ∧ Below X.w.heap.size X.w w') := fun X => (in_any x2 1 v X.w).mono fun e w' ⟨h1, h2⟩ => ⟨h1, by rw [h2]; exact Below.refl _ _⟩
    have HWG : Hid (∀ X : Gr V, Calls Tryz.prog 47 #[cst t.c1 t.c2 t.c3 t.c4 t.c5 t.c6 t.c7] X.w fun r w' => r = .returned (.int .i64 v) ∧ Below X.w.heap.size X.w w') := fun X => HWS.out X.w
    have HXX : Hid (∀ w', (∃ X : Gr V, w' = X.w) → w'.heap[w.heap.size]? = some (.cells (tbA t a) 42 (0, 0))) := fun w' hX => by
      obtain ⟨X, rfl⟩ := hX
      exact HXV.out.below X.h
    have HBGG : Hid (0 ≤ x1 → x1 ≤ 50000 → ∀ X : Gr V, Calls Tryz.prog 48 #[tbV t a, .int .i64 x1] X.w fun e w' => e = .returned (.int .i64 B) ∧ Below X.w.heap.size X.w w') := fun h1 h2 X => by rw [← HBB.out]; exact HBG.out x1 HSD.out h1 h2 _ (HBA.out.trans (X.h.mono HBA.out.size))
    by_cases hi : F ≤ x1 ∧ x1 ≤ 50000
    rotate_left
    · have HT : Hid (q = false) := Bool.eq_false_iff.2 (fun h => hi (HIA.out (HIN.out h)).1)
      rw [inr_no hi] at HI1
      go_wp2
      have hgr := gr_some V
      refine region_alike (by kernel_rfl) (by kernel_rfl) ?_
      repeat (go_big_quiet_step (first | (go_at_call_of 24 (Value.int IntKind.i64 x1); exact gr_call (HI1.out _)) | (go_at_call_of 24 (Value.int IntKind.i64 x2); exact gr_call (HI2.out _)) | (go_at_call 47; exact gr_call (HWG.out _)) | (go_at_call 48; exact gr_call (HBGG.out _))))
      refine wpQuiet_nil ?_
      intro _ hw'
      obtain ⟨X1, rfl⟩ := hw'
      have HBE : Hid (Below w.heap.size w X1.w) := HBA.out.trans (X1.h.mono HBA.out.size)
      generalize X1.w = W2 at HBE ⊢
      clear hgr
      go_wp2
      go_ret
      exact ⟨ret_bool HT.out.symm, HBE.out⟩
    rw [inr_yes hi] at HI1
    obtain ⟨hi0, hi1⟩ := hi
    by_cases hc : 1 ≤ x2 ∧ x2 ≤ v
    rotate_left
    · have HT : Hid (q = false) := Bool.eq_false_iff.2 (fun h => hc (HIA.out (HIN.out h)).2.1)
      rw [inr_no hc] at HI2
      go_wp2
      have hgr := gr_some V
      refine region_alike (by kernel_rfl) (by kernel_rfl) ?_
      repeat (go_big_quiet_step (first | (go_at_call_of 24 (Value.int IntKind.i64 x1); exact gr_call (HI1.out _)) | (go_at_call_of 24 (Value.int IntKind.i64 x2); exact gr_call (HI2.out _)) | (go_at_call 47; exact gr_call (HWG.out _)) | (go_at_call 48; exact gr_call (HBGG.out _))))
      refine wpQuiet_nil ?_
      intro _ hw'
      obtain ⟨X1, rfl⟩ := hw'
      have HBE : Hid (Below w.heap.size w X1.w) := HBA.out.trans (X1.h.mono HBA.out.size)
      generalize X1.w = W2 at HBE ⊢
      clear hgr
      go_wp2
      go_ret
      exact ⟨ret_bool HT.out.symm, HBE.out⟩
    rw [inr_yes hc] at HI2
    obtain ⟨hc0, hc1⟩ := hc
    replace HBGG : Hid _ := HBGG.out (by omega) hi1
    by_cases hB : B = p
    rotate_left
    · have HT : Hid (q = false) := Bool.eq_false_iff.2 (fun h => hB (HBB.out.symm.trans (HIA.out (HIN.out h)).2.2))
      have hne : (B != p) = true := by simpa using hB
      go_wp2
      have hgr := gr_some V
      refine region_alike (by kernel_rfl) (by kernel_rfl) ?_
      repeat (first | (refine wpQuiet_load_row rfl 42 (.tmp 3) rfl w.heap.size rfl 42 (tbA t a) (0, 0) _ HXX.out Tryz.underlying42 rfl (by kernel_rfl) ?_; simp only [Act.put, List.setIfInBounds_toArray, List.set_cons_zero, List.set_cons_succ]) | go_big_quiet_step (first | (go_at_call_of 24 (Value.int IntKind.i64 x1); exact gr_call (HI1.out _)) | (go_at_call_of 24 (Value.int IntKind.i64 x2); exact gr_call (HI2.out _)) | (go_at_call 47; exact gr_call (HWG.out _)) | (go_at_call 48; exact gr_call (HBGG.out _))))
      refine wpQuiet_nil ?_
      intro _ hw'
      obtain ⟨X1, rfl⟩ := hw'
      have HBE : Hid (Below w.heap.size w X1.w) := HBA.out.trans (X1.h.mono HBA.out.size)
      generalize X1.w = W2 at HBE ⊢
      clear hgr
      go_wp2
      go_ret
      exact ⟨ret_bool HT.out.symm, HBE.out⟩
    have hne : (B != p) = false := by simp [hB]
    have HBP : Hid (begV t (x1 % t.maj) = p) := HBB.out.trans hB
    have HEI : Hid (evIn t p F (x1, x2, x3, x4, x5, x6, x7)) := HWI.out hi0 hi1 hc0 hc1 HBP.out
    obtain ⟨h61, ⟨h62, h63⟩, h64⟩ := HNX.out HEI.out
    have H61 : Hid (x1 + x2 = freeE xs (m + 1) ∧ ∀ i, i < m + 1 → evIn t p (freeE xs i) (xs.getD i ev0)) := ⟨h61, h64⟩
    have hwr : IntKind.i64.wrap (x1 + x2) = x1 + x2 := by rw [IntKind.wrap_i64]; omega
    obtain ⟨S, HS⟩ : ∃ S, Hid (slotV t (x1 % t.maj) = S) := ⟨_, rfl⟩
    have HCS : Hid (∀ d, x1 ≤ d → d < x1 + x2 → ∀ X, Below w.heap.size w X → Calls Tryz.prog 49 #[tbV t a, .int .i64 d] X fun e w' => e = .returned (.int .i64 S) ∧ Below X.heap.size X w') := fun d h1 h2 X hX => by
      have h3 := HSL.out d HSD.out (by omega) (by omega) X hX
      rw [HSM.out hc1 HBP.out d h1 h2, HS.out] at h3
      exact h3
    clear HEI HNX HIN HWI HIA HBB HBP h61 h64 HSM HS
    go_wp2
    have hgr := gr_some V
    refine region_alike (by kernel_rfl) (by kernel_rfl) ?_
    repeat (first | (refine wpQuiet_load_row rfl 42 (.tmp 3) rfl w.heap.size rfl 42 (tbA t a) (0, 0) _ HXX.out Tryz.underlying42 rfl (by kernel_rfl) ?_; simp only [Act.put, List.setIfInBounds_toArray, List.set_cons_zero, List.set_cons_succ]) | go_big_quiet_step (first | (go_at_call_of 24 (Value.int IntKind.i64 x1); exact gr_call (HI1.out _)) | (go_at_call_of 24 (Value.int IntKind.i64 x2); exact gr_call (HI2.out _)) | (go_at_call 47; exact gr_call (HWG.out _)) | (go_at_call 48; exact gr_call (HBGG.out _))))
    refine wpQuiet_nil ?_
    intro _ hw'
    obtain ⟨X1, rfl⟩ := hw'
    have HBE : Hid (Below w.heap.size w X1.w) := HBA.out.trans (X1.h.mono HBA.out.size)
    have HBE3 : Hid (Below w3.heap.size w3 X1.w) := HBW.out.trans (X1.h.mono HBW.out.size)
    have KE2 : Hid (CellsAt X1.w N 0 [.int .i64 x1, .int .i64 x2, .int .u32 x3, .int .i64 x4, .int .i64 x5, .int .i64 x6, .int .u32 x7]) := KE.out.below X1.h
    have HX2 : Hid (TBx X1.w w.heap.size t a) := HXV.out.below X1.h
    revert HBE HBE3 KE2 HX2
    generalize X1.w = W2
    intro HBE HBE3 KE2 HX2
    clear hgr HBA HXV HBW KE HI1 HI2 HWG HXX HBGG E0 E1 e0 e1 k5 G5 k6 G6 k7 G7 k8 G8 k9 G9 k10 G10 k11 G11
    have e0 : W2.cell? ⟨N, 0, none⟩ = some (.int .i64 x1) := KE2.out 0 _ rfl
    have e1 : W2.cell? ⟨N, 1, none⟩ = some (.int .i64 x2) := KE2.out 1 _ rfl
    go_wp2
    clear e0 e1
    go_loopw [10] (fun c wr' => ∃ d : Int, x1 ≤ d ∧ d ≤ x1 + x2 ∧ c = .int .i64 d ∧ Hid (Below W2.heap.size W2 wr')) (fun c _ => (x1 + x2 - intOf c).toNat)
    case atStart => exact ⟨x1, by omega, by omega, rfl, Below.refl _ _⟩
    case round =>
      obtain ⟨d, hd0, hd1, rfl, HW⟩ := hrel
      rename World => wq
      have KQ : Hid (CellsAt wq N 0 [.int .i64 x1, .int .i64 x2, .int .u32 x3, .int .i64 x4, .int .i64 x5, .int .i64 x6, .int .u32 x7]) := KE2.out.below HW.out
      have e0 : wq.cell? ⟨N, 0, none⟩ = some (.int .i64 x1) := KQ.out 0 _ rfl
      have e1 : wq.cell? ⟨N, 1, none⟩ = some (.int .i64 x2) := KQ.out 1 _ rfl
      have HBQ : Hid (Below w.heap.size w wq) := HBE.out.trans (HW.out.mono HBE.out.size)
      by_cases hdx : d < x1 + x2
      rotate_left
      · have HWQ : Hid (Below w3.heap.size w3 wq) := HBE3.out.trans (HW.out.mono HBE3.out.size)
        clear HCS
        go_wp2
        go_roundw
        case rel => exact ⟨m + 1, x1 + x2, by omega, h62, h63, by go_num, by go_num, H61.out.1, HWQ.out, H61.out.2⟩
        case measure => simp [intOf]; omega
      have HXX : Hid (∀ w', (∃ X : Gr wq, w' = X.w) → w'.heap[w.heap.size]? = some (.cells (tbA t a) 42 (0, 0))) := fun w' hX => by
        obtain ⟨X, rfl⟩ := hX
        exact (HX2.out.below HW.out).below X.h
      have HD1 : Hid (∀ X : Gr wq, Calls Tryz.prog 49 #[tbV t a, .int .i64 d] X.w fun e w' => e = .returned (.int .i64 S) ∧ Below X.w.heap.size X.w w') := fun X => HCS.out d hd0 hdx _ (HBQ.out.trans (X.h.mono HBQ.out.size))
      have HD2 : Hid (∀ X : Gr wq, Calls Tryz.prog 49 #[tbV t a, .int .i64 x1] X.w fun e w' => e = .returned (.int .i64 S) ∧ Below X.w.heap.size X.w w') := fun X => HCS.out x1 (by omega) (by omega) _ (HBQ.out.trans (X.h.mono HBQ.out.size))
      have hss : (S != S) = false := by simp
      go_wp2
      have E0 := fun X => gr_cell (W0 := wq) e0 X
      clear e0 e1
      have hgr := gr_some wq
      refine region_alike (by kernel_rfl) (by kernel_rfl) ?_
      repeat (first | (refine wpQuiet_load_row rfl 42 (.tmp 3) rfl w.heap.size rfl 42 (tbA t a) (0, 0) _ HXX.out Tryz.underlying42 rfl (by kernel_rfl) ?_; simp only [Act.put, List.setIfInBounds_toArray, List.set_cons_zero, List.set_cons_succ]) | go_big_quiet_step (first | (go_at_call_of 49 (Value.int IntKind.i64 d); exact gr_call (HD1.out _)) | (go_at_call_of 49 (Value.int IntKind.i64 x1); exact gr_call (HD2.out _))))
      refine wpQuiet_nil ?_
      intro _ hw'
      obtain ⟨X2, rfl⟩ := hw'
      have HW3 : Hid (Below W2.heap.size W2 X2.w) := HW.out.trans (X2.h.mono HW.out.size)
      generalize X2.w = W4 at HW3 ⊢
      clear hgr HD1 HD2 HXX E0 KQ HBQ HW HCS
      have hwd : IntKind.i64.wrap (d + 1) = d + 1 := by rw [IntKind.wrap_i64]; omega
      go_wp2
      go_roundw
      case rel => exact ⟨d + 1, by omega, by omega, by go_num, HW3.out⟩
      case measure => simp [intOf]; omega
end Go.Proofs.YtiheojmknhgjfaaGreatDoor
