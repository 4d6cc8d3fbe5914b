
/-
  Whether events lie in the slots of a partition: the program's answer. Conditions: the lists lie in memory; the program's table of extras holds what the program's text lays.
-/
import Derived.Test.YtiheojmknhgjfaaGreatDoorBas
import Derived.Test.YtiheojmknhgjfaaGreatDoorIsp
import Derived.Test.YtiheojmknhgjfaaGreatDoorTig
import Derived.Test.YtiheojmknhgjfaaGreatDoorClo6
namespace Go.Proofs.YtiheojmknhgjfaaGreatDoor
open Go.ChangeShapes Go.WideShapes Go.ChangeAt Go.RowKit Go.Deep Go.Joins
set_option linter.unusedVariables false

set_option maxRecDepth 40000 in
set_option maxHeartbeats 4000000 in
theorem ends_in (t : Tb) (a : Ad) (x : evT) (p : Int) (w : World) (hm : TM 0 w t a) (hw : TW t a) (hs : TS a) (hcs : a.sn ≤ a.sc) (hsd : Sd t) (hp : 0 ≤ p) (hx1 : 0 ≤ x.1) (hx2 : x.1 ≤ 50000) (hc : 1 ≤ x.2.1) (hk : x.2.1 ≤ wsV t) (hb : begV t (x.1 % t.maj) = p) :
    Calls Tryz.prog 53 #[tbV t a, evV x] w fun e w' => e = .returned (.bool true) ∧ Below w.heap.size w w' := by
  obtain ⟨i, hi, hsv, hh, hle⟩ := in_slot hsd hp hb hk
  have ht := sd_tm hsd
  have hL : t.ss.length = a.sn := hw.sl
  have hn : a.sn ≤ 1048576 := hs.s
  have hws := sd_ws hsd
  have hgr2 := ht.grd2
  have hen := ht.en i hi
  have hst := ht.st i hi
  have hmj := ht.maj2
  have HCS : Hid (∀ X, Below w.heap.size w X → Calls Tryz.prog 90 #[tbV t a, .int .i64 x.1] X fun e w' => e = .returned (.int .i64 (i : Int)) ∧ Below X.heap.size X w') := fun X hX => by rw [← hsv]; exact slot_at t a x.1 X (hm.below hX) hw hs hcs ht hx1 (by omega)
  obtain ⟨q, HP⟩ : ∃ q, Hid (x.1 % t.maj = q) := ⟨_, rfl⟩
  have HCP : Hid (∀ X, Calls Tryz.prog 91 #[tbV t a, .int .i64 x.1] X fun e w' => e = .returned (.int .i64 q) ∧ Below X.heap.size X w') := fun X => place_of t a x.1 q X ht.maj1 hx1 (by omega) HP.out
  rw [HP.out] at hle hh
  have hq0 := hh.1
  have HSL : Hid (∀ X, Below w.heap.size w X → GSeg 3 X a.sa a.sn (slX t.ss)) := fun X hX => (hm.below hX).s.seg
  obtain ⟨x1, x2, x3, x4, x5, x6, x7⟩ := x
  simp only [evV] at *
  have HB0 : Hid (Below w.heap.size w ((w.alloc (.cells (tbA t a) 42)).alloc (.cells #[.int .i64 x1, .int .i64 x2, .int .u32 x3, .int .i64 x4, .int .i64 x5, .int .i64 x6, .int .u32 x7] 89))) := ((Below.refl _ _).alloc (Nat.le_refl _) _).alloc (by simp) _
  have HX0 : Hid (TBx ((w.alloc (.cells (tbA t a) 42)).alloc (.cells #[.int .i64 x1, .int .i64 x2, .int .u32 x3, .int .i64 x4, .int .i64 x5, .int .i64 x6, .int .u32 x7] 89)) w.heap.size t a) := (TBx.new w t a _ rfl).below ((Below.refl _ _).alloc (Nat.le_refl _) _)
  have KE : Hid (CellsAt ((w.alloc (.cells (tbA t a) 42)).alloc (.cells #[.int .i64 x1, .int .i64 x2, .int .u32 x3, .int .i64 x4, .int .i64 x5, .int .i64 x6, .int .u32 x7] 89)) (w.heap.size + 1) 0 [.int .i64 x1, .int .i64 x2, .int .u32 x3, .int .i64 x4, .int .i64 x5, .int .i64 x6, .int .u32 x7]) := CellsAt.new _ [.int .i64 x1, .int .i64 x2, .int .u32 x3, .int .i64 x4, .int .i64 x5, .int .i64 x6, .int .u32 x7] _ _ (by simp)
  have hi2 : i < a.sn := by omega
  have hi3 : (i : Int) < (a.sn : Int) := by omega
  have hi4 : 0 ≤ (i : Int) := by omega
  have h2n : 0 ≤ x2 := by omega
  have h2m : x2 ≤ 5000 := by omega
  clear hm hw hs hcs hsd hp hx1 hx2 hc hk hb hsv hh ht hL HP hws hgr2
  go_enter Tryz.func53, Tryz.ntmps53
  go_wp2
  revert HB0 HX0 KE
  generalize (w.alloc (.cells (tbA t a) 42)).alloc (.cells #[.int .i64 x1, .int .i64 x2, .int .u32 x3, .int .i64 x4, .int .i64 x5, .int .i64 x6, .int .u32 x7] 89) = V
  intro HB0 HX0 KE
  obtain ⟨b1, o1, hsa, hbl1, p1⟩ := (HSL.out _ HB0.out).at i hi2
  have k18 : V.cell? ⟨w.heap.size, 18, none⟩ = some (.slice (some ⟨b1, o1, none⟩) a.sn a.sc) := by rw [← hsa]; exact HX0.out.cell 18 rfl
  have e0 : V.cell? ⟨w.heap.size + 1, 0, none⟩ = some (.int .i64 x1) := KE.out 0 _ rfl
  have e1 : V.cell? ⟨w.heap.size + 1, 1, none⟩ = some (.int .i64 x2) := KE.out 1 _ rfl
  simp only [slX] at p1
  generalize t.ss.getD i sl0 = y at p1 hle hen hst hq0
  obtain ⟨c0, c1, c2⟩ := sl_cells p1
  obtain ⟨y1, y2, y3⟩ := y
  simp only at c0 c1 c2 hle hen hst hq0
  have HE : Hid (∀ X : Gr V, Calls Tryz.prog 92 #[.agg #[.int .i64 y1, .int .i64 y2, .int .i64 y3]] X.w fun e w' => e = .returned (.int .i64 (y2 + y3)) ∧ Below X.w.heap.size X.w w') := fun X => slot_end y1 y2 y3 X.w (by rw [IntKind.wrap_i64]; omega)
  have hwr : IntKind.i64.wrap (q + x2) = q + x2 := by rw [IntKind.wrap_i64]; omega
  have hdc : decide (q + x2 ≤ y2 + y3) = true := decide_eq_true hle
  have G18 := fun X => gr_cell (W0 := V) k18 X
  have G0 := fun X => gr_cell (W0 := V) c0 X
  have G1 := fun X => gr_cell (W0 := V) c1 X
  have G2 := fun X => gr_cell (W0 := V) c2 X
  have K0 := fun X => gr_cell (W0 := V) e0 X
  have K1 := fun X => gr_cell (W0 := V) e1 X
  have HCG : Hid (∀ X : Gr V, Calls Tryz.prog 90 #[tbV t a, .int .i64 x1] X.w fun e w' => e = .returned (.int .i64 (i : Int)) ∧ Below X.w.heap.size X.w w') := fun X => HCS.out _ (HB0.out.trans (X.h.mono HB0.out.size))
  have HPG : Hid (∀ X : Gr V, Calls Tryz.prog 91 #[tbV t a, .int .i64 x1] X.w fun e w' => e = .returned (.int .i64 q) ∧ Below X.w.heap.size X.w w') := fun X => HCP.out _
  have HXX : Hid (∀ w', (∃ X : Gr V, w' = X.w) → w'.heap[w.heap.size]? = some (.cells (tbA t a) 42 (0, 0))) := fun w' hX => by
    obtain ⟨X, rfl⟩ := hX
    exact HX0.out.below X.h
  clear p1 hbl1 HSL hen hst hq0 k18 c0 c1 c2 e0 e1 KE HCS HCP
  have hgr := gr_some V
  refine region_alike (by kernel_rfl) (by kernel_rfl) ?_
  repeat (first | (refine wpQuiet_load_row rfl 42 (.tmp 2) rfl w.heap.size rfl 42 (tbA t a) (0, 0) _ HXX.out Tryz.underlying42 rfl (by kernel_rfl) ?_; simp only [Act.put, List.setIfInBounds_toArray, List.set_cons_zero, List.set_cons_succ]) | go_big_quiet_step (first | (go_at_call 90; exact gr_call (HCG.out _)) | (go_at_call 91; exact gr_call (HPG.out _)) | (go_at_call 92; exact gr_call (HE.out _))))
  refine wpQuiet_nil ?_
  intro _ hw'
  obtain ⟨X1, rfl⟩ := hw'
  have HBE : Hid (Below w.heap.size w X1.w) := HB0.out.trans (X1.h.mono HB0.out.size)
  generalize X1.w = W2 at HBE ⊢
  clear hgr G18 G0 G1 G2 K0 K1 HCG HPG HXX HE
  go_wp2
  go_ret
  exact ⟨by first | rfl | (simp only [hdc]; rfl), HBE.out⟩
set_option maxRecDepth 40000 in
set_option maxHeartbeats 8000000 in
theorem impl_insl (t : Tb) (a : Ad) (p : Int) (A : Option Addr) (cap n : Nat) (xs : List evT) (q : Bool) (w : World) (hm : TM 0 w t a) (hw : TW t a) (hs : TS a) (he : TabE w) (hcp : a.pn ≤ a.pc) (hcs : a.sn ≤ a.sc) (hev : GSeg 7 w A n (evX xs)) (hn : n ≤ 1048576) (hq : q = true ↔ (Sd t ∧ InSl t p xs n)) :
    Calls Tryz.prog 16 #[tbV t a, .int .i64 p, .slice A n cap] w fun e w' => e = .returned (.bool q) ∧ Below w.heap.size w w' := by
  have HB0 : Hid (Below w.heap.size w (w.alloc (.cells (tbA t a) 42))) := (Below.refl _ _).alloc (Nat.le_refl _) _
  have HX0 : Hid (TBx (w.alloc (.cells (tbA t a) 42)) w.heap.size t a) := TBx.new w t a _ rfl
  have HQ : Hid (q = true ↔ (Sd t ∧ InSl t p xs n)) := hq
  have HL : Hid (t.ps.length = a.pn) := hw.pl
  obtain ⟨q1, hq1⟩ := told (Sd t)
  obtain ⟨q2, hq2⟩ := told (0 ≤ p ∧ p < (a.pn : Int))
  have HQ1 : Hid (q1 = true ↔ Sd t) := hq1
  have HQ2 : Hid (q2 = true ↔ (0 ≤ p ∧ p < (a.pn : Int))) := hq2
  have HSP : Hid (Calls Tryz.prog 34 #[tbV t a] (w.alloc (.cells (tbA t a) 42)) fun e w' => e = .returned (.bool q1) ∧ Below (w.alloc (.cells (tbA t a) 42)).heap.size (w.alloc (.cells (tbA t a) 42)) w') := impl_sound t a q1 _ (hm.below HB0.out) hw hs (he.below HB0.out) hcp hq1
  have HHP : Hid (∀ X, Calls Tryz.prog 35 #[tbV t a, .int .i64 p] X fun e w' => e = .returned (.bool q2) ∧ Below X.heap.size X w') := fun X => has_part t a p q2 X hw.pb hq2
  obtain ⟨v, HV⟩ : ∃ v, Hid (wsV t = v) := ⟨_, rfl⟩
  have HWS : Hid (∀ X, Below w.heap.size w X → Calls Tryz.prog 51 #[cst t.c1 t.c2 t.c3 t.c4 t.c5 t.c6 t.c7] X fun r w' => r = .returned (.int .i64 v) ∧ Below X.heap.size X w') := fun X hX => by rw [← HV.out]; exact impl_worstS t.c1 t.c2 t.c3 t.c4 t.c5 t.c6 t.c7 X (he.below hX)
  have HEN : Hid (∀ (x : evT) X, Below w.heap.size w X → Sd t → 0 ≤ p → 0 ≤ x.1 → x.1 ≤ 50000 → 1 ≤ x.2.1 → x.2.1 ≤ wsV t → begV t (x.1 % t.maj) = p → Calls Tryz.prog 53 #[tbV t a, evV x] X fun e w' => e = .returned (.bool true) ∧ Below X.heap.size X w') := fun x X hX h1 h2 h3 h4 h5 h6 h7 => ends_in t a x p X (hm.below hX) hw hs hcs h1 h2 h3 h4 h5 h6 h7
  have HPI : Hid (∀ c, Sd t → IsC c → ∀ X, Below w.heap.size w X → ∀ A, GSeg 1 X A 1 (inX [2]) → ∀ cap, Calls Tryz.prog 52 #[tbV t a, .int .i64 c, .slice A 1 cap] X fun e w' => e = .returned (.int .i64 (begV t (c % t.maj))) ∧ Below X.heap.size X w') := fun c h1 h2 X hX A hA cap => by
    obtain ⟨q9, hq9⟩ := told (phaseV t (c % t.maj) = 2)
    refine (part_in t a c A cap 1 [2] q9 X (hm.below hX) hw hs hcs (sd_tm h1) h2.1 (by have := h2.2; omega) hA (by omega) (fun i hi => ?_) (hq9.trans ?_)).mono fun e w' ⟨he', hb⟩ => ⟨he'.trans (ret_int ?_), hb⟩
    · have : i = 0 := by omega
      subst this; decide
    · exact ⟨fun g => ⟨0, by omega, g.symm⟩, fun ⟨i, hi, e⟩ => by have h0 : i = 0 := (by omega); subst h0; exact e.symm⟩
    · unfold begV
      by_cases g : phaseV t (c % t.maj) = 2
      · rw [if_pos g, if_pos (hq9.2 g)]
      · rw [if_neg g, if_neg (fun h9 => g (hq9.1 h9))]
  have HEV : Hid (∀ X, Below w.heap.size w X → GSeg 7 X A n (evX xs)) := fun X hX => hev.below hX
  clear hm hw hs he hcp hcs hev hq hq1 hq2
  by_cases hN : n ≤ 50000
  rotate_left
  · have HT : Hid (q = false) := not_true HQ.out (fun h => hN h.2.1)
    have hN' : (50000 : Int) < (n : Int) := by omega
    go_enter Tryz.func16, Tryz.ntmps16
    go_wp2
    go_ret
    exact ⟨ret_bool HT.out.symm, HB0.out⟩
  have hN' : ¬ ((50000 : Int) < (n : Int)) := by omega
  go_enter Tryz.func16, Tryz.ntmps16
  go_wp2_with (first | (refine wpList_load_rowG rfl 42 (.tmp 3) rfl w.heap.size rfl 42 (tbA t a) (0, 0) _ HX0.out Tryz.underlying42 rfl (by kernel_rfl) ?_) | fail)
  refine Calls.mono HSP.out ?_
  rintro e w1 ⟨rfl, hb1⟩
  have HB1 : Hid (Below w.heap.size w w1) := HB0.out.trans (hb1.mono HB0.out.size)
  have HX1 : Hid (TBx w1 w.heap.size t a) := HX0.out.below hb1
  clear hb1 HB0 HX0 HSP
  cases q1
  · have HT : Hid (q = false) := not_true HQ.out (fun h => by have := HQ1.out.2 h.1; cases this)
    go_wp2
    go_ret
    exact ⟨ret_bool HT.out.symm, HB1.out⟩
  have HSD : Hid (Sd t) := HQ1.out.1 (by first | rfl | trivial)
  clear HQ1
  go_wp2_with (first | (refine wpList_load_rowG rfl 42 (.tmp 3) rfl w.heap.size rfl 42 (tbA t a) (0, 0) _ HX1.out Tryz.underlying42 rfl (by kernel_rfl) ?_) | fail)
  refine Calls.mono (HHP.out _) ?_
  rintro e w2 ⟨rfl, hb2⟩
  have HB2 : Hid (Below w.heap.size w w2) := HB1.out.trans (hb2.mono HB1.out.size)
  have HX2 : Hid (TBx w2 w.heap.size t a) := HX1.out.below hb2
  clear hb2 HB1 HX1 HHP
  cases q2
  · have HT : Hid (q = false) := not_true HQ.out (fun h => by have := HQ2.out.2 ⟨h.2.2.1.1, by rw [← HL.out]; exact h.2.2.1.2⟩; cases this)
    go_wp2
    go_ret
    exact ⟨ret_bool HT.out.symm, HB2.out⟩
  have hp := HQ2.out.1 (by first | rfl | trivial)
  have hp0 : 0 ≤ p := hp.1
  have HQ3 : Hid (q = true ↔ ∀ i, i < n → evIn t p (freeE xs i) (xs.getD i ev0)) := HQ.out.trans ⟨fun h => h.2.2.2, fun h => ⟨HSD.out, hN, ⟨hp.1, by rw [HL.out]; exact hp.2⟩, h⟩⟩
  clear HQ HQ2 hp HL
  have k5 : w2.cell? ⟨w.heap.size, 5, none⟩ = some (.int .i64 t.c1) := HX2.out.cell 5 rfl
  have k6 : w2.cell? ⟨w.heap.size, 6, none⟩ = some (.int .i64 t.c2) := HX2.out.cell 6 rfl
  have k7 : w2.cell? ⟨w.heap.size, 7, none⟩ = some (.int .i64 t.c3) := HX2.out.cell 7 rfl
  have k8 : w2.cell? ⟨w.heap.size, 8, none⟩ = some (.int .i64 t.c4) := HX2.out.cell 8 rfl
  have k9 : w2.cell? ⟨w.heap.size, 9, none⟩ = some (.int .i64 t.c5) := HX2.out.cell 9 rfl
  have k10 : w2.cell? ⟨w.heap.size, 10, none⟩ = some (.int .i64 t.c6) := HX2.out.cell 10 rfl
  have k11 : w2.cell? ⟨w.heap.size, 11, none⟩ = some (.int .i64 t.c7) := HX2.out.cell 11 rfl
  go_wp2_with fail
  refine Calls.mono (HWS.out _ HB2.out) ?_
  rintro e w3 ⟨rfl, hb3⟩
  have HB3 : Hid (Below w.heap.size w w3) := HB2.out.trans (hb3.mono HB2.out.size)
  have HX3 : Hid (TBx w3 w.heap.size t a) := HX2.out.below hb3
  clear hb3 HB2 HX2 HWS k5 k6 k7 k8 k9 k10 k11
  go_wp2
  go_loopw [8, 30] (fun f i wr => ∃ (m : Nat) (F : Int), m ≤ n ∧ 0 ≤ F ∧ F ≤ 55000 ∧ i = .int .i64 m ∧ f = .int .i64 F ∧ Hid (F = freeE xs m ∧ Below w3.heap.size w3 wr ∧ ∀ i, i < m → evIn t p (freeE xs i) (xs.getD i ev0))) (fun _ i _ => n - (intOf i).toNat)
  case atStart => exact ⟨0, 0, by omega, by omega, by omega, rfl, rfl, rfl, Below.refl _ _, fun i hi => absurd hi (by omega)⟩
  case round =>
    obtain ⟨m, F, hm, hF0, hF1, rfl, rfl, HR⟩ := hrel
    by_cases hmn : m < n
    rotate_left
    · obtain rfl : m = n := by omega
      have HT : Hid (q = true) := HQ3.out.2 HR.out.2.2
      have HBE : Hid (Below w.heap.size w wr) := HB3.out.trans (HR.out.2.1.mono HB3.out.size)
      go_wp2
      go_ret
      exact ⟨ret_bool HT.out.symm, HBE.out⟩
    have hmn' : (m : Int) < (n : Int) := by omega
    have HBR : Hid (Below w.heap.size w wr) := HB3.out.trans (HR.out.2.1.mono HB3.out.size)
    obtain ⟨b1, o1, rfl, hbl1, p1⟩ := (HEV.out _ HBR.out).at m hmn
    obtain ⟨x, HX⟩ : ∃ x, Hid (xs.getD m ev0 = x) := ⟨_, rfl⟩
    simp only [evX] at p1
    rw [HX.out] at p1
    obtain ⟨c0, c1, c2, c3, c4, c5, c6⟩ := ev_cells p1
    have HIN : Hid (q = true → evIn t p F x) := fun h => by have := HQ3.out.1 h m hmn; rw [HX.out, ← HR.out.1] at this; exact this
    have HNX : Hid (evIn t p F x → x.1 + x.2.1 = freeE xs (m + 1) ∧ (0 ≤ x.1 + x.2.1 ∧ x.1 + x.2.1 ≤ 55000) ∧ ∀ i, i < m + 1 → evIn t p (freeE xs i) (xs.getD i ev0)) := fun h => by
      have h3 := insl_next (m := m) HR.out.2.2 (by rw [HX.out, ← HR.out.1]; exact h)
      have h4 := free_rng HSD.out (m + 1) h3
      have h5 : x.1 + x.2.1 = freeE xs (m + 1) := by simp only [freeE]; rw [HX.out]
      exact ⟨h5, by rw [h5]; exact h4, h3⟩
    have HEX : Hid (∀ X, Below w.heap.size w X → 0 ≤ x.1 → x.1 ≤ 50000 → 1 ≤ x.2.1 → x.2.1 ≤ v → begV t (x.1 % t.maj) = p → Calls Tryz.prog 53 #[tbV t a, evV x] X fun e w' => e = .returned (.bool true) ∧ Below X.heap.size X w') := fun X hX h1 h2 h3 h4 h5 => HEN.out x X hX HSD.out hp0 h1 h2 h3 (by rw [HV.out]; exact h4) h5
    have HCY : Hid (∀ X, Calls Tryz.prog 33 #[.int .i64 x.1] X fun e w' => e = .returned (.bool (inr x.1 0 50000)) ∧ w' = X) := fun X => is_cyc x.1 X
    have HPX : Hid (IsC x.1 → ∀ X, Below w.heap.size w X → ∀ A, GSeg 1 X A 1 (inX [2]) → ∀ cap, Calls Tryz.prog 52 #[tbV t a, .int .i64 x.1, .slice A 1 cap] X fun e w' => e = .returned (.int .i64 (begV t (x.1 % t.maj))) ∧ Below X.heap.size X w') := fun h => HPI.out x.1 HSD.out h
    have HGE : Hid (∀ X, Calls Tryz.prog 54 #[evV x] X fun e w' => e = .returned (.int .i64 (wrap64 (x.1 + x.2.1))) ∧ Below X.heap.size X w') := fun X => impl_evend x X
    have HWV : Hid (∀ h : evIn t p F x, x.2.1 ≤ v) := fun h => by rw [← HV.out]; exact h.2.1.2
    have HWI : Hid (0 ≤ x.1 → F ≤ x.1 → x.1 ≤ 50000 → 1 ≤ x.2.1 → x.2.1 ≤ v → begV t (x.1 % t.maj) = p → evIn t p F x) := fun h0 h1 h2 h3 h4 h5 => ⟨⟨h1, h2⟩, ⟨h3, by rw [HV.out]; exact h4⟩, h5⟩
    have HIA : Hid (evIn t p F x → 0 ≤ x.1 ∧ F ≤ x.1 ∧ x.1 ≤ 50000 ∧ 1 ≤ x.2.1 ∧ begV t (x.1 % t.maj) = p) := fun h => ⟨by have := h.1.1; omega, h.1.1, h.1.2, h.2.1.1, h.2.2⟩
    have HXR : Hid (TBx wr w.heap.size t a) := HX3.out.below HR.out.2.1
    have HRW : Hid (Below w3.heap.size w3 wr) := HR.out.2.1
    clear HR p1 HX
    obtain ⟨x1, x2, x3, x4, x5, x6, x7⟩ := x
    simp only [evV] at c0 c1 c2 c3 c4 c5 c6 HIN HNX HEX HCY HPX HGE HWV HWI HIA
    obtain ⟨V, hVV⟩ : ∃ V, wr.alloc (.cells #[.int .i64 x1, .int .i64 x2, .int .u32 x3, .int .i64 x4, .int .i64 x5, .int .i64 x6, .int .u32 x7] 89) = V := ⟨_, rfl⟩
    have hbA : Below wr.heap.size wr (wr.alloc (.cells #[.int .i64 x1, .int .i64 x2, .int .u32 x3, .int .i64 x4, .int .i64 x5, .int .i64 x6, .int .u32 x7] 89)) := (Below.refl _ _).alloc (Nat.le_refl _) _
    have HBA : Hid (Below w.heap.size w (wr.alloc (.cells #[.int .i64 x1, .int .i64 x2, .int .u32 x3, .int .i64 x4, .int .i64 x5, .int .i64 x6, .int .u32 x7] 89))) := HBR.out.trans (hbA.mono HBR.out.size)
    have HXV : Hid (TBx (wr.alloc (.cells #[.int .i64 x1, .int .i64 x2, .int .u32 x3, .int .i64 x4, .int .i64 x5, .int .i64 x6, .int .u32 x7] 89)) w.heap.size t a) := HXR.out.below hbA
    have HBW : Hid (Below w3.heap.size w3 (wr.alloc (.cells #[.int .i64 x1, .int .i64 x2, .int .u32 x3, .int .i64 x4, .int .i64 x5, .int .i64 x6, .int .u32 x7] 89))) := HRW.out.trans (hbA.mono HRW.out.size)
    have KE : Hid (CellsAt (wr.alloc (.cells #[.int .i64 x1, .int .i64 x2, .int .u32 x3, .int .i64 x4, .int .i64 x5, .int .i64 x6, .int .u32 x7] 89)) wr.heap.size 0 [.int .i64 x1, .int .i64 x2, .int .u32 x3, .int .i64 x4, .int .i64 x5, .int .i64 x6, .int .u32 x7]) := CellsAt.new wr [.int .i64 x1, .int .i64 x2, .int .u32 x3, .int .i64 x4, .int .i64 x5, .int .i64 x6, .int .u32 x7] _ _ rfl
    clear hbA HBR HXR HRW hVV
    go_wp2_with fail
    refine Calls.mono (HCY.out _) ?_
    rintro e w4 ⟨rfl, hw4⟩
    rw [hw4]
    clear hw4 HCY c0 c1 c2 c3 c4 c5 c6
    revert HBA HXV KE HBW
    generalize wr.alloc (.cells #[.int .i64 x1, .int .i64 x2, .int .u32 x3, .int .i64 x4, .int .i64 x5, .int .i64 x6, .int .u32 x7] 89) = V
    generalize wr.heap.size = N
    intro HBA HXV HBW KE
    have e0 : V.cell? ⟨N, 0, none⟩ = some (.int .i64 x1) := KE.out 0 _ rfl
    have e1 : V.cell? ⟨N, 1, none⟩ = some (.int .i64 x2) := KE.out 1 _ rfl
    by_cases hi : 0 ≤ x1 ∧ x1 ≤ 50000
    rotate_left
    · have HT : Hid (q = false) := Bool.eq_false_iff.2 (fun h => hi ⟨(HIA.out (HIN.out h)).1, (HIA.out (HIN.out h)).2.2.1⟩)
      rw [inr_no hi]
      go_wp2
      go_ret
      exact ⟨ret_bool HT.out.symm, HBA.out⟩
    rw [inr_yes hi]
    obtain ⟨hi0, hi1⟩ := hi
    by_cases hf : x1 < F
    · have HT : Hid (q = false) := Bool.eq_false_iff.2 (fun h => by have := (HIA.out (HIN.out h)).2.1; omega)
      go_wp2
      go_ret
      exact ⟨ret_bool HT.out.symm, HBA.out⟩
    by_cases hc1 : x2 < 1
    · have HT : Hid (q = false) := Bool.eq_false_iff.2 (fun h => by have := (HIA.out (HIN.out h)).2.2.2.1; omega)
      go_wp2
      go_ret
      exact ⟨ret_bool HT.out.symm, HBA.out⟩
    by_cases hc2 : v < x2
    · have HT : Hid (q = false) := Bool.eq_false_iff.2 (fun h => by have := HWV.out (HIN.out h); omega)
      go_wp2
      go_ret
      exact ⟨ret_bool HT.out.symm, HBA.out⟩
    have hbP : Below V.heap.size V (V.alloc (.cells #[.int .i64 2] 3)) := (Below.refl _ _).alloc (Nat.le_refl _) _
    have HBP : Hid (Below w.heap.size w (V.alloc (.cells #[.int .i64 2] 3))) := HBA.out.trans (hbP.mono HBA.out.size)
    have HXP : Hid (TBx (V.alloc (.cells #[.int .i64 2] 3)) w.heap.size t a) := HXV.out.below hbP
    have HWP : Hid (Below w3.heap.size w3 (V.alloc (.cells #[.int .i64 2] 3))) := HBW.out.trans (hbP.mono HBW.out.size)
    have KEP : Hid (CellsAt (V.alloc (.cells #[.int .i64 2] 3)) N 0 [.int .i64 x1, .int .i64 x2, .int .u32 x3, .int .i64 x4, .int .i64 x5, .int .i64 x6, .int .u32 x7]) := KE.out.below hbP
    have KP : Hid (GSeg 1 (V.alloc (.cells #[.int .i64 2] 3)) (some ⟨V.heap.size, 0, none⟩) 1 (inX [2])) := fun _ => ⟨V.heap.size, 0, rfl, by simp, fun i hi => by
      have g := CellsAt.new V [.int .i64 2] 3 _ rfl
      have : i = 0 := by omega
      subst this
      exact g⟩
    clear hbP HBA HBW KE
    go_wp2_with (first | (refine wpList_load_row rfl 42 (.tmp 3) rfl w.heap.size rfl 42 (tbA t a) (0, 0) _ HXV.out Tryz.underlying42 rfl (by kernel_rfl) ?_) | fail)
    refine Calls.mono (HPX.out ⟨hi0, hi1⟩ _ HBP.out _ KP.out _) ?_
    rintro e w5 ⟨rfl, hb5⟩
    have HB5 : Hid (Below w.heap.size w w5) := HBP.out.trans (hb5.mono HBP.out.size)
    have HW5 : Hid (Below w3.heap.size w3 w5) := HWP.out.trans (hb5.mono HWP.out.size)
    have HX5 : Hid (TBx w5 w.heap.size t a) := HXP.out.below hb5
    have KE5 : Hid (CellsAt w5 N 0 [.int .i64 x1, .int .i64 x2, .int .u32 x3, .int .i64 x4, .int .i64 x5, .int .i64 x6, .int .u32 x7]) := KEP.out.below hb5
    clear hb5 HBP HWP HXP KEP KP HXV e0 e1
    obtain ⟨B, HBB⟩ : ∃ B, Hid (begV t (x1 % t.maj) = B) := ⟨_, rfl⟩
    rw [HBB.out]
    by_cases hB : B = p
    rotate_left
    · have HT : Hid (q = false) := Bool.eq_false_iff.2 (fun h => hB (HBB.out.symm.trans (HIA.out (HIN.out h)).2.2.2.2))
      have hne : (B != p) = true := by simpa using hB
      go_wp2
      go_ret
      exact ⟨ret_bool HT.out.symm, HB5.out⟩
    have hne : (B != p) = false := by simp [hB]
    have HBG : Hid (begV t (x1 % t.maj) = p) := HBB.out.trans hB
    have HEI : Hid (evIn t p F (x1, x2, x3, x4, x5, x6, x7)) := HWI.out hi0 (by omega) hi1 (by omega) (by omega) HBG.out
    obtain ⟨h61, ⟨h62, h63⟩, h64⟩ := HNX.out HEI.out
    have H61 : Hid (x1 + x2 = freeE xs (m + 1) ∧ ∀ i, i < m + 1 → evIn t p (freeE xs i) (xs.getD i ev0)) := ⟨h61, h64⟩
    have hw64 : wrap64 (x1 + x2) = x1 + x2 := by first | (have hwr : IntKind.i64.wrap (x1 + x2) = x1 + x2 := by rw [IntKind.wrap_i64]; omega; exact hwr) | (unfold wrap64; omega)
    rw [hw64] at HGE
    have HEX2 : Hid (∀ X, Below w.heap.size w X → Calls Tryz.prog 53 #[tbV t a, .agg #[.int .i64 x1, .int .i64 x2, .int .u32 x3, .int .i64 x4, .int .i64 x5, .int .i64 x6, .int .u32 x7]] X fun e w' => e = .returned (.bool true) ∧ Below X.heap.size X w') := fun X hX => HEX.out X hX hi0 hi1 (by omega) (by omega) HBG.out
    clear HEI HNX HIN HWI HIA HWV HPX HBB HBG h61 h64 hw64 HEX
    have e0 : w5.cell? ⟨N, 0, none⟩ = some (.int .i64 x1) := KE5.out 0 _ rfl
    have e1 : w5.cell? ⟨N, 1, none⟩ = some (.int .i64 x2) := KE5.out 1 _ rfl
    have e2 : w5.cell? ⟨N, 2, none⟩ = some (.int .u32 x3) := KE5.out 2 _ rfl
    have e3 : w5.cell? ⟨N, 3, none⟩ = some (.int .i64 x4) := KE5.out 3 _ rfl
    have e4 : w5.cell? ⟨N, 4, none⟩ = some (.int .i64 x5) := KE5.out 4 _ rfl
    have e5 : w5.cell? ⟨N, 5, none⟩ = some (.int .i64 x6) := KE5.out 5 _ rfl
    have e6 : w5.cell? ⟨N, 6, none⟩ = some (.int .u32 x7) := KE5.out 6 _ rfl
    go_wp2_with (first | (refine wpList_load_rowG rfl 42 (.tmp 3) rfl w.heap.size rfl 42 (tbA t a) (0, 0) _ HX5.out Tryz.underlying42 rfl (by kernel_rfl) ?_) | fail)
    refine Calls.mono (HEX2.out _ HB5.out) ?_
    rintro e w6 ⟨rfl, hb6⟩
    have HB6 : Hid (Below w.heap.size w w6) := HB5.out.trans (hb6.mono HB5.out.size)
    have HW6 : Hid (Below w3.heap.size w3 w6) := HW5.out.trans (hb6.mono HW5.out.size)
    have KE6 : Hid (CellsAt w6 N 0 [.int .i64 x1, .int .i64 x2, .int .u32 x3, .int .i64 x4, .int .i64 x5, .int .i64 x6, .int .u32 x7]) := KE5.out.below hb6
    clear hb6 HB5 HW5 HX5 KE5 HEX2 e0 e1 e2 e3 e4 e5 e6
    have e0 : w6.cell? ⟨N, 0, none⟩ = some (.int .i64 x1) := KE6.out 0 _ rfl
    have e1 : w6.cell? ⟨N, 1, none⟩ = some (.int .i64 x2) := KE6.out 1 _ rfl
    have e2 : w6.cell? ⟨N, 2, none⟩ = some (.int .u32 x3) := KE6.out 2 _ rfl
    have e3 : w6.cell? ⟨N, 3, none⟩ = some (.int .i64 x4) := KE6.out 3 _ rfl
    have e4 : w6.cell? ⟨N, 4, none⟩ = some (.int .i64 x5) := KE6.out 4 _ rfl
    have e5 : w6.cell? ⟨N, 5, none⟩ = some (.int .i64 x6) := KE6.out 5 _ rfl
    have e6 : w6.cell? ⟨N, 6, none⟩ = some (.int .u32 x7) := KE6.out 6 _ rfl
    go_wp2_with fail
    refine Calls.mono (HGE.out _) ?_
    rintro e w7 ⟨rfl, hb7⟩
    have HW7 : Hid (Below w3.heap.size w3 w7) := HW6.out.trans (hb7.mono HW6.out.size)
    clear hb7 HB6 HW6 KE6 HGE e0 e1 e2 e3 e4 e5 e6
    go_wp2
    go_roundw
    case rel => exact ⟨m + 1, x1 + x2, by omega, h62, h63, by go_num, rfl, H61.out.1, HW7.out, H61.out.2⟩
    case measure => simp [intOf]; omega
end Go.Proofs.YtiheojmknhgjfaaGreatDoor
