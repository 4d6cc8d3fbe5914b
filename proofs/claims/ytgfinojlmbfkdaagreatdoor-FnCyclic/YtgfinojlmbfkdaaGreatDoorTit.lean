
/-
  At how many cycles a partition may begin a step: both sides, and the law, walked. Conditions: the lists lie in memory; the program's table of extras holds what the program's text lays.
-/
import Derived.Test.YtgfinojlmbfkdaaGreatDoorBas
import Derived.Test.YtgfinojlmbfkdaaGreatDoorLsw
import Derived.Test.YtgfinojlmbfkdaaGreatDoorTih
import Derived.Test.YtgfinojlmbfkdaaGreatDoorTis
namespace Go.Proofs.YtgfinojlmbfkdaaGreatDoor
open Go.ChangeShapes Go.WideShapes Go.ChangeAt Go.RowKit Go.Deep Go.Joins
set_option linter.unusedVariables false

set_option maxRecDepth 40000 in
set_option maxHeartbeats 4000000 in
theorem run_ahead (t : Tb) (a : Ad) (x p : Int) (w : World) (hm : TM 0 w t a) (hw : TW t a) (hs : TS a) (ht : Tm t) (hp0 : 0 ≤ p) (hp : p ≤ 5000) :
    Calls Tryz.prog 122 #[tbV t a, .int .i64 x, .int .i64 p] w fun e w' => e = .returned (.int .i64 (runV t x p)) ∧ Below w.heap.size w w' := by
  have hL : t.ss.length = a.sn := hw.sl
  have hn : a.sn ≤ 1048576 := hs.s
  have HSL : Hid (∀ X, Below w.heap.size w X → GSeg 3 X a.sa a.sn (slX t.ss)) := fun X hX => (hm.below hX).s.seg
  have HTM : Hid (Tm t) := ht
  have hp1 : 1 ≤ t.pad ∧ t.pad ≤ 5000 := ⟨ht.pad1, ht.pad2⟩
  have hg1 : 1 ≤ t.grd ∧ t.grd ≤ 5000 := ⟨ht.grd1, ht.grd2⟩
  have hmj := ht.maj2
  have hn16 := ht.n2
  have HV : Hid (runV t x p = runN t x p a.sn) := by show _ = _; rw [← hL]; rfl
  rw [HV.out]
  have HB0 : Hid (Below w.heap.size w (w.alloc (.cells (tbA t a) 46))) := (Below.refl _ _).alloc (Nat.le_refl _) _
  have HX0 : Hid (TBx (w.alloc (.cells (tbA t a) 46)) w.heap.size t a) := TBx.new w t a _ rfl
  have k18 : (w.alloc (.cells (tbA t a) 46)).cell? ⟨w.heap.size, 18, none⟩ = some (.slice a.sa a.sn a.sc) := HX0.out.cell 18 rfl
  clear hm hw hs ht HV
  go_enter Tryz.func122, Tryz.ntmps122
  go_wp2
  clear k18
  have HX1 : Hid (∀ X, Below (w.alloc (.cells (tbA t a) 46)).heap.size (w.alloc (.cells (tbA t a) 46)) X → TBx X w.heap.size t a) := fun X hX => HX0.out.below hX
  revert HB0 HX1
  clear HX0
  generalize w.alloc (.cells (tbA t a) 46) = V0
  intro HB0 HX1
  go_loopw [7, 15] (fun v i wr => ∃ (m : Nat) (f : Int), m ≤ a.sn ∧ 0 ≤ f ∧ f ≤ 5000 * (m : Int) ∧ i = .int .i64 m ∧ v = .int .i64 f ∧ Hid (f = runN t x p m ∧ Below V0.heap.size V0 wr)) (fun _ i _ => a.sn - (intOf i).toNat)
  case atStart => exact ⟨0, 0, by omega, by omega, by omega, rfl, rfl, rfl, Below.refl _ _⟩
  case round =>
    obtain ⟨m, f, hm, hf0, hf1, rfl, rfl, HR⟩ := hrel
    have HBR : Hid (Below w.heap.size w wr) := HB0.out.trans (HR.out.2.mono HB0.out.size)
    by_cases hmn : m < a.sn
    rotate_left
    · obtain rfl : m = a.sn := by omega
      have HT : Hid (f = runN t x p a.sn) := HR.out.1
      clear HR HX1
      go_wp2
      go_ret
      exact ⟨ret_int HT.out, HBR.out⟩
    have hmn' : (m : Int) < (a.sn : Int) := by omega
    obtain ⟨b1, o1, hsa, hbl1, p1⟩ := (HSL.out _ HBR.out).at m hmn
    rw [hsa]
    have hx1 := HTM.out.st m (by omega)
    have hx2 := HTM.out.ln m (by omega)
    have hx3 := HTM.out.en m (by omega)
    have HFN : Hid (runN t x p (m + 1) = f + (if (t.ss.getD m sl0).1 = x then max (min p ((t.ss.getD m sl0).2.1 + (t.ss.getD m sl0).2.2 - t.grd) - ((t.ss.getD m sl0).2.1 + t.pad)) 0 else 0)) := by show runN t x p m + _ = _; rw [HR.out.1]
    have HRO : Hid (∀ X, Calls Tryz.prog 126 #[tbV t a, slV (t.ss.getD m sl0)] X fun e w' => e = .returned (.tuple #[.int .i64 ((t.ss.getD m sl0).2.1 + t.pad), .int .i64 ((t.ss.getD m sl0).2.1 + (t.ss.getD m sl0).2.2 - t.grd)]) ∧ Below X.heap.size X w') := fun X => run_of t a _ _ _ X hp1 hg1 ⟨hx1, by omega, by omega⟩
    simp only [slX] at p1
    generalize t.ss.getD m sl0 = y at p1 hx1 hx2 hx3 HFN HRO
    obtain ⟨c0, c1, c2⟩ := sl_cells p1
    obtain ⟨x1, x2, x3⟩ := y
    simp only [slV] at c0 c1 c2 hx1 hx2 hx3 HFN HRO
    obtain ⟨u, HU⟩ : ∃ u, Hid (x2 + t.pad = u) := ⟨_, rfl⟩
    obtain ⟨v, HVV⟩ : ∃ v, Hid (x2 + x3 - t.grd = v) := ⟨_, rfl⟩
    rw [HU.out, HVV.out] at HRO HFN
    have hu1 : 0 ≤ u ∧ u ≤ 10000 := by have := HU.out; omega
    have hv1 : -5000 ≤ v ∧ v ≤ 5000 := by have := HVV.out; omega
    have hbA : Below wr.heap.size wr (wr.alloc (.cells #[.int .i64 x1, .int .i64 x2, .int .i64 x3] 72)) := (Below.refl _ _).alloc (Nat.le_refl _) _
    have HRB : Hid (Below V0.heap.size V0 (wr.alloc (.cells #[.int .i64 x1, .int .i64 x2, .int .i64 x3] 72))) := HR.out.2.trans (hbA.mono HR.out.2.size)
    have HXR : Hid (TBx (wr.alloc (.cells #[.int .i64 x1, .int .i64 x2, .int .i64 x3] 72)) w.heap.size t a) := HX1.out _ HRB.out
    have KS : Hid (CellsAt (wr.alloc (.cells #[.int .i64 x1, .int .i64 x2, .int .i64 x3] 72)) wr.heap.size 0 [.int .i64 x1, .int .i64 x2, .int .i64 x3]) := CellsAt.new wr [.int .i64 x1, .int .i64 x2, .int .i64 x3] _ _ rfl
    clear p1 hbl1 HR hbA HX1 HSL HU HVV
    go_wp2_with (first | (refine wpList_load_row rfl 46 (.tmp 3) rfl w.heap.size rfl 46 (tbA t a) (0, 0) _ HXR.out Tryz.underlying46 rfl (by kernel_rfl) ?_) | fail)
    refine Calls.mono (HRO.out _) ?_
    rintro e w2 ⟨rfl, hb2⟩
    have HB2 : Hid (Below V0.heap.size V0 w2) := HRB.out.trans (hb2.mono HRB.out.size)
    have d0 : w2.cell? ⟨wr.heap.size, 0, none⟩ = some (.int .i64 x1) := kept_cell hb2 (cell0 KS.out 0 rfl)
    clear hb2 HRB HXR KS HRO c0 c1 c2
    by_cases hx : x1 = x
    · subst hx
      have HE : Hid (runN t x1 p (m + 1) = f + max (min p v - u) 0) := by show _ = _; rw [HFN.out, if_pos rfl]
      have hg2b : 0 ≤ max (min p v - u) 0 ∧ max (min p v - u) 0 ≤ 5000 := by omega
      clear HFN
      go_wp2
      go_roundw
      case rel => exact ⟨m + 1, f + max (min p v - u) 0, by omega, by omega, by omega, by go_num, rfl, HE.out.symm, HB2.out⟩
      case measure => simp [intOf]; omega
    · have HE : Hid (f = runN t x p (m + 1)) := by show _ = _; rw [HFN.out, if_neg hx]; omega
      have hb : (x1 == x) = false := by simpa using hx
      clear HFN
      go_wp2
      go_roundw
      case rel => exact ⟨m + 1, f, by omega, hf0, by omega, by go_num, rfl, HE.out, HB2.out⟩
      case measure => simp [intOf]; omega
set_option maxRecDepth 40000 in
set_option maxHeartbeats 4000000 in
theorem cycles_ahead (t : Tb) (a : Ad) (x c : Int) (w : World) (hm : TM 0 w t a) (hw : TW t a) (hs : TS a) (ht : Tm t) (hc : 0 ≤ c) (hc2 : c ≤ 50000) :
    Calls Tryz.prog 82 #[tbV t a, .int .i64 x, .int .i64 c] w fun e w' => e = .returned (.int .i64 (aheadV t x c)) ∧ Below w.heap.size w w' := by
  have hpp : 0 ≤ c % t.maj ∧ c % t.maj < t.maj := mod_lt ht.maj1
  have hm1 := ht.maj1
  have hm2 := ht.maj2
  have hq1 : 0 ≤ c / t.maj := Int.ediv_nonneg hc (by omega)
  have hq2 : c / t.maj ≤ c := Int.ediv_le_self _ hc
  have hr1 := runV_bound ht (x := x) (p := t.maj) (by omega)
  have hr2 := runV_bound ht (x := x) (p := c % t.maj) (by omega)
  have HC1 : Hid (∀ X, Calls Tryz.prog 86 #[tbV t a, .int .i64 c] X fun e w' => e = .returned (.int .i64 (c / t.maj)) ∧ Below X.heap.size X w') := fun X => frame_of t a c _ X ht.maj1 hc (by omega) rfl
  have HC2 : Hid (∀ X, Calls Tryz.prog 123 #[tbV t a, .int .i64 c] X fun e w' => e = .returned (.int .i64 (c % t.maj)) ∧ Below X.heap.size X w') := fun X => place_of t a c _ X ht.maj1 hc (by omega) rfl
  have HC3 : Hid (∀ X, Below w.heap.size w X → Calls Tryz.prog 122 #[tbV t a, .int .i64 x, .int .i64 t.maj] X fun e w' => e = .returned (.int .i64 (runV t x t.maj)) ∧ Below X.heap.size X w') := fun X hX => run_ahead t a x t.maj X (hm.below hX) hw hs ht (by omega) hm2
  have HC4 : Hid (∀ X, Below w.heap.size w X → Calls Tryz.prog 122 #[tbV t a, .int .i64 x, .int .i64 (c % t.maj)] X fun e w' => e = .returned (.int .i64 (runV t x (c % t.maj))) ∧ Below X.heap.size X w') := fun X hX => run_ahead t a x _ X (hm.below hX) hw hs ht hpp.1 (by omega)
  obtain ⟨z, HZ⟩ : ∃ z, Hid (aheadV t x c = z) := ⟨_, rfl⟩
  rw [HZ.out]
  have HZ2 : Hid (c / t.maj * runV t x t.maj + runV t x (c % t.maj) = z) := HZ.out
  obtain ⟨p, HP⟩ : ∃ p, Hid (c % t.maj = p) := ⟨_, rfl⟩
  rw [HP.out] at HC2 HC4 HZ2 hr2
  obtain ⟨q, HQ⟩ : ∃ q, Hid (c / t.maj = q) := ⟨_, rfl⟩
  rw [HQ.out] at HC1 HZ2 hq1 hq2
  obtain ⟨r1, HR1⟩ : ∃ r, Hid (runV t x t.maj = r) := ⟨_, rfl⟩
  rw [HR1.out] at HC3 HZ2 hr1
  obtain ⟨r2, HR2⟩ : ∃ r, Hid (runV t x p = r) := ⟨_, rfl⟩
  rw [HR2.out] at HC4 HZ2 hr2
  have hpr : 0 ≤ q * r1 ∧ q * r1 ≤ 4000000000 := by
    refine ⟨Int.mul_nonneg hq1 hr1.1, ?_⟩
    have : q * r1 ≤ 50000 * 80000 := Int.mul_le_mul (by omega) hr1.2 hr1.1 (by omega)
    omega
  have hw1 : IntKind.i64.wrap (q * r1) = q * r1 := by rw [IntKind.wrap_i64]; omega
  have hw3 : IntKind.i64.wrap (q * r1 + r2) = q * r1 + r2 := by rw [IntKind.wrap_i64]; omega
  clear hpr hr1 hr2 hq1 hq2 hm1 hm2 hpp hc hc2
  have HB0 : Hid (Below w.heap.size w (w.alloc (.cells (tbA t a) 46))) := (Below.refl _ _).alloc (Nat.le_refl _) _
  have HX0 : Hid (TBx (w.alloc (.cells (tbA t a) 46)) w.heap.size t a) := TBx.new w t a _ rfl
  have k14 : (w.alloc (.cells (tbA t a) 46)).cell? ⟨w.heap.size, 14, none⟩ = some (.int .i64 t.maj) := HX0.out.cell 14 rfl
  clear hm hw hs ht HZ HP HQ HR1 HR2
  go_enter Tryz.func82, Tryz.ntmps82
  go_wp2
  revert HB0 HX0 k14
  generalize w.alloc (.cells (tbA t a) 46) = V
  intro HB0 HX0 k14
  have G14 := fun X => gr_cell (W0 := V) k14 X
  have HXX : Hid (∀ w', (∃ X : Gr V, w' = X.w) → w'.heap[w.heap.size]? = some (.cells (tbA t a) 46 (0, 0))) := fun w' hX => by
    obtain ⟨X, rfl⟩ := hX
    exact HX0.out.below X.h
  have HD3 : Hid (∀ X : Gr V, Calls Tryz.prog 122 #[tbV t a, .int .i64 x, .int .i64 t.maj] X.w fun e w' => e = .returned (.int .i64 r1) ∧ Below X.w.heap.size X.w w') := fun X => HC3.out _ (HB0.out.trans (X.h.mono HB0.out.size))
  have HD4 : Hid (∀ X : Gr V, Calls Tryz.prog 122 #[tbV t a, .int .i64 x, .int .i64 p] X.w fun e w' => e = .returned (.int .i64 r2) ∧ Below X.w.heap.size X.w w') := fun X => HC4.out _ (HB0.out.trans (X.h.mono HB0.out.size))
  have hgr := gr_some V
  refine region_alike (by kernel_rfl) (by kernel_rfl) ?_
  repeat (first | (refine wpQuiet_load_row rfl 46 (.tmp 3) rfl w.heap.size rfl 46 (tbA t a) (0, 0) _ HXX.out Tryz.underlying46 rfl (by kernel_rfl) ?_; simp only [Act.put, List.setIfInBounds_toArray, List.set_cons_zero, List.set_cons_succ]) | go_big_quiet_step (first | (go_at_call 86; exact gr_call (HC1.out _)) | (go_at_call 123; exact gr_call (HC2.out _)) | (go_at_call_of 122 (Value.int IntKind.i64 p); exact gr_call (HD4.out _)) | (go_at_call_of 122 (Value.int IntKind.i64 t.maj); exact gr_call (HD3.out _))))
  refine wpQuiet_nil ?_
  intro _ hw'
  obtain ⟨X1, rfl⟩ := hw'
  have HB2 : Hid (Below w.heap.size w X1.w) := HB0.out.trans (X1.h.mono HB0.out.size)
  generalize X1.w = W2 at HB2 ⊢
  clear G14 hgr HXX HD3 HD4 HC1 HC2 HC3 HC4 k14 HX0 HB0
  try rw [hw1]
  try rw [hw3]
  go_wp2
  go_ret
  exact ⟨ret_int HZ2.out, HB2.out⟩
set_option maxRecDepth 40000 in
set_option maxHeartbeats 4000000 in
theorem impl_cyclesof (t : Tb) (a : Ad) (x y z : Int) (w : World) (hm : TM 0 w t a) (hw : TW t a) (hs : TS a) (he : TabE w) (hcp : a.pn ≤ a.pc) (hcs : a.sn ≤ a.sc) :
    Calls Tryz.prog 29 #[tbV t a, .int .i64 x, .int .i64 y, .int .i64 z] w fun e w' => (∃ r : Int, e = .returned (.int .i64 r) ∧ CR t x y z r) ∧ Below w.heap.size w w' := by
  obtain ⟨q, hq⟩ := told ((Sd t ∧ IsC y) ∧ IsC z)
  have HB0 : Hid (Below w.heap.size w (w.alloc (.cells (tbA t a) 46))) := (Below.refl _ _).alloc (Nat.le_refl _) _
  have HX0 : Hid (TBx (w.alloc (.cells (tbA t a) 46)) w.heap.size t a) := TBx.new w t a _ rfl
  have hbA : Below (w.alloc (.cells (tbA t a) 46)).heap.size (w.alloc (.cells (tbA t a) 46)) ((w.alloc (.cells (tbA t a) 46)).alloc (.cells #[.int .i64 y, .int .i64 z] 3)) := (Below.refl _ _).alloc (Nat.le_refl _) _
  have HBA : Hid (Below w.heap.size w ((w.alloc (.cells (tbA t a) 46)).alloc (.cells #[.int .i64 y, .int .i64 z] 3))) := HB0.out.trans (hbA.mono HB0.out.size)
  have HXA : Hid (TBx ((w.alloc (.cells (tbA t a) 46)).alloc (.cells #[.int .i64 y, .int .i64 z] 3)) w.heap.size t a) := HX0.out.below hbA
  have KA : Hid (GSeg 1 ((w.alloc (.cells (tbA t a) 46)).alloc (.cells #[.int .i64 y, .int .i64 z] 3)) (some ⟨w.heap.size + 1, 0, none⟩) 2 (inX [y, z])) := fun _ => ⟨w.heap.size + 1, 0, rfl, by simp, fun i hi => by
    have g := CellsAt.new (w.alloc (.cells (tbA t a) 46)) [.int .i64 y, .int .i64 z] 3 (w.heap.size + 1) (by simp)
    have : i = 0 ∨ i = 1 := by omega
    rcases this with rfl | rfl
    · intro j v hj
      cases j with
      | zero => exact g 0 v hj
      | succ j => simp [inX] at hj
    · intro j v hj
      cases j with
      | zero => exact g 1 v hj
      | succ j => simp [inX] at hj⟩
  have HK : Hid (Calls Tryz.prog 81 #[tbV t a, .slice (some ⟨w.heap.size + 1, 0, none⟩) 2 2] ((w.alloc (.cells (tbA t a) 46)).alloc (.cells #[.int .i64 y, .int .i64 z] 3)) fun e w' => e = .returned (.bool q) ∧ Below ((w.alloc (.cells (tbA t a) 46)).alloc (.cells #[.int .i64 y, .int .i64 z] 3)).heap.size ((w.alloc (.cells (tbA t a) 46)).alloc (.cells #[.int .i64 y, .int .i64 z] 3)) w') :=
    keeps t a [y, z] 2 2 _ q _ (hm.below HBA.out) hw hs (he.below HBA.out) hcp KA.out (by omega) (hq.trans ⟨fun h => ⟨fun i hi => by
      have : i = 0 ∨ i = 1 := by omega
      rcases this with rfl | rfl
      · exact h.1.2
      · exact h.2, h.1.1⟩, fun h => ⟨⟨h.2, h.1 0 (by omega)⟩, h.1 1 (by omega)⟩⟩)
  have HCA : Hid (Sd t → ∀ c, IsC c → ∀ X, Below w.heap.size w X → Calls Tryz.prog 82 #[tbV t a, .int .i64 x, .int .i64 c] X fun e w' => e = .returned (.int .i64 (aheadV t x c)) ∧ Below X.heap.size X w') := fun h c hc X hX => cycles_ahead t a x c X (hm.below hX) hw hs (sd_tm h) hc.1 hc.2
  have HQ : Hid (q = true ↔ ((Sd t ∧ IsC y) ∧ IsC z)) := hq
  clear hm hw hs hq he hcp hcs KA hbA
  by_cases hyz : z < y
  · have HT : Hid (CR t x y z 0) := .inl ⟨fun h => by have := h.2.2.1; omega, rfl⟩
    clear HK HCA HQ HXA HBA HX0
    go_enter Tryz.func29, Tryz.ntmps29
    go_wp2
    go_ret
    exact ⟨⟨_, rfl, HT.out⟩, HB0.out⟩
  go_enter Tryz.func29, Tryz.ntmps29
  go_wp2_with (first | (refine wpList_load_rowG rfl 46 (.tmp 4) rfl w.heap.size rfl 46 (tbA t a) (0, 0) _ HX0.out Tryz.underlying46 rfl (by kernel_rfl) ?_) | fail)
  refine Calls.mono HK.out ?_
  rintro e V ⟨rfl, hb1⟩
  have HB1 : Hid (Below w.heap.size w V) := HBA.out.trans (hb1.mono HBA.out.size)
  have HX1 : Hid (TBx V w.heap.size t a) := HXA.out.below hb1
  clear hb1 HBA HXA HK HX0 HB0
  cases q
  · have HT : Hid (CR t x y z 0) := .inl ⟨fun h => (by have := HQ.out.2 ⟨h.1, h.2.1⟩; cases this), rfl⟩
    clear HQ HCA HX1
    go_wp2
    go_ret
    exact ⟨⟨_, rfl, HT.out⟩, HB1.out⟩
  have HT : Hid ((Sd t ∧ IsC y) ∧ IsC z) := HQ.out.1 rfl
  have HTM : Tm t := sd_tm HT.out.1.1
  have HCY : Hid (∀ X : Gr V, Calls Tryz.prog 82 #[tbV t a, .int .i64 x, .int .i64 y] X.w fun e w' => e = .returned (.int .i64 (aheadV t x y)) ∧ Below X.w.heap.size X.w w') := fun X => HCA.out HT.out.1.1 y HT.out.1.2 _ (HB1.out.trans (X.h.mono HB1.out.size))
  have HCZ : Hid (∀ X : Gr V, Calls Tryz.prog 82 #[tbV t a, .int .i64 x, .int .i64 z] X.w fun e w' => e = .returned (.int .i64 (aheadV t x z)) ∧ Below X.w.heap.size X.w w') := fun X => HCA.out HT.out.1.1 z HT.out.2 _ (HB1.out.trans (X.h.mono HB1.out.size))
  have hy := HT.out.1.2
  have hz := HT.out.2
  unfold IsC at hy hz
  have HRR : Hid (CR t x y z (aheadV t x z - aheadV t x y) ∧ (0 ≤ aheadV t x z ∧ aheadV t x z ≤ 50000) ∧ (0 ≤ aheadV t x y ∧ aheadV t x y ≤ 50000)) := by
    by_cases hx : 0 ≤ x ∧ x < (t.ps.length : Int)
    · have e1 := ahead_num HTM hx.1 z.toNat
      have e2 := ahead_num HTM hx.1 y.toNat
      rw [Int.toNat_of_nonneg hz.1] at e1
      rw [Int.toNat_of_nonneg hy.1] at e2
      have b1 := numB_bound t x z.toNat
      have b2 := numB_bound t x y.toNat
      refine ⟨.inr ⟨⟨HT.out.1, HT.out.2, by omega, hx.1, hx.2⟩, by rw [e1, e2]⟩, by rw [e1]; omega, by rw [e2]; omega⟩
    · have hno : ∀ i, i < t.ss.length → (t.ss.getD i sl0).1 ≠ x := fun i hi e => hx (e ▸ HTM.pt i hi)
      have e1 : aheadV t x z = 0 := by unfold aheadV; rw [run_no hno, run_no hno]; simp
      have e2 : aheadV t x y = 0 := by unfold aheadV; rw [run_no hno, run_no hno]; simp
      rw [e1, e2]
      exact ⟨.inl ⟨fun h => hx h.2.2.2, by omega⟩, by omega, by omega⟩
  obtain ⟨u, HU⟩ : ∃ u, Hid (aheadV t x z = u) := ⟨_, rfl⟩
  obtain ⟨v, HV⟩ : ∃ v, Hid (aheadV t x y = v) := ⟨_, rfl⟩
  rw [HU.out] at HCZ HRR
  rw [HV.out] at HCY HRR
  have hu := HRR.out.2.1
  have hv := HRR.out.2.2
  have hw1 : IntKind.i64.wrap (u - v) = u - v := by rw [IntKind.wrap_i64]; omega
  clear HU HV HCA HQ HTM hy hz
  have HXX : Hid (∀ w', (∃ X : Gr V, w' = X.w) → w'.heap[w.heap.size]? = some (.cells (tbA t a) 46 (0, 0))) := fun w' hX => by
    obtain ⟨X, rfl⟩ := hX
    exact HX1.out.below X.h
  by_cases hne : y = z
  · subst hne
    go_wp2
    have hgr := gr_some V
    refine region_alike (by kernel_rfl) (by kernel_rfl) ?_
    repeat (first | (refine wpQuiet_load_row rfl 46 (.tmp 4) rfl w.heap.size rfl 46 (tbA t a) (0, 0) _ HXX.out Tryz.underlying46 rfl (by kernel_rfl) ?_; simp only [Act.put, List.setIfInBounds_toArray, List.set_cons_zero, List.set_cons_succ]) | go_big_quiet_step (first | (go_at_call 82; exact gr_call (HCZ.out _))))
    refine wpQuiet_nil ?_
    intro _ hw'
    obtain ⟨X1, rfl⟩ := hw'
    have HB2 : Hid (Below w.heap.size w X1.w) := HB1.out.trans (X1.h.mono HB1.out.size)
    generalize X1.w = Wz at HB2 ⊢
    have HZ : Hid (CR t x y y 0) := by
      by_cases hx : 0 ≤ x ∧ x < (t.ps.length : Int)
      · exact .inr ⟨⟨HT.out.1, HT.out.2, Int.le_refl _, hx.1, hx.2⟩, by omega⟩
      · exact .inl ⟨fun h => hx h.2.2.2, rfl⟩
    clear hgr HXX HCY HCZ
    go_wp2
    go_ret
    exact ⟨⟨_, rfl, by first | exact HZ.out | (rw [Int.sub_self]; exact HZ.out)⟩, HB2.out⟩
  · go_wp2
    have hgr := gr_some V
    refine region_alike (by kernel_rfl) (by kernel_rfl) ?_
    repeat (first | (refine wpQuiet_load_row rfl 46 (.tmp 4) rfl w.heap.size rfl 46 (tbA t a) (0, 0) _ HXX.out Tryz.underlying46 rfl (by kernel_rfl) ?_; simp only [Act.put, List.setIfInBounds_toArray, List.set_cons_zero, List.set_cons_succ]) | go_big_quiet_step (first | (go_at_call_of 82 (Value.int IntKind.i64 y); exact gr_call (HCY.out _)) | (go_at_call_of 82 (Value.int IntKind.i64 z); exact gr_call (HCZ.out _))))
    refine wpQuiet_nil ?_
    intro _ hw'
    obtain ⟨X1, rfl⟩ := hw'
    have HB2 : Hid (Below w.heap.size w X1.w) := HB1.out.trans (X1.h.mono HB1.out.size)
    generalize X1.w = Wz at HB2 ⊢
    clear hgr HXX HCY HCZ
    try rw [hw1]
    go_wp2
    go_ret
    exact ⟨⟨_, rfl, HRR.out.1⟩, HB2.out⟩
end Go.Proofs.YtgfinojlmbfkdaaGreatDoor
