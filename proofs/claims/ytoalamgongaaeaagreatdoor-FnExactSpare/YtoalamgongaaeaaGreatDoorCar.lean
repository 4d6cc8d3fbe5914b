
/-
  What the channels can carry and what a pad has to spare: both sides, and the laws, walked. Conditions: the lists lie in memory; the program's table of extras holds what the program's text lays.
-/
import Derived.Test.YtoalamgongaaeaaGreatDoorBas
import Derived.Test.YtoalamgongaaeaaGreatDoorLsw
import Derived.Test.YtoalamgongaaeaaGreatDoorWpd
namespace Go.Proofs.YtoalamgongaaeaaGreatDoor
open Go.ChangeShapes Go.WideShapes Go.ChangeAt Go.RowKit Go.Deep Go.Joins
set_option linter.unusedVariables false

/-- What soundness says of channels. -/
theorem sd_chans {t : Tb} (h : Sd t) : t.cs.length ≤ 8 ∧ allCh t.cs t.cs.length ∧ padOk t.c1 t.c2 t.c3 t.c4 t.c5 t.c6 t.c7 t.s1 t.s2 t.s3 t.cs t.cs.length := by
  have h18 := h 18 (by omega)
  have h19 := h 19 (by omega)
  have h1 := h 1 (by omega)
  have h3 := h 3 (by omega)
  simp only [R] at h18 h19 h1 h3
  have ha : allCh t.cs t.cs.length := fun i hi => (h19 i hi).1
  exact ⟨h18, ha, h3, h1, h18, ha⟩
def CR (t : Tb) (r : Int) : Prop := (¬ Sd t ∧ r = -1) ∨ (Sd t ∧ r = mostN t.cs t.cs.length)
theorem CR.unique {t : Tb} {r s : Int} (h : CR t r) (g : CR t s) : r = s := by
  rcases h with ⟨h, rfl⟩ | ⟨h, h1⟩ <;> rcases g with ⟨g, rfl⟩ | ⟨g, g1⟩
  · rfl
  · exact absurd g h
  · exact absurd h g
  · rw [h1, g1]
def PR (t : Tb) (r : Int) : Prop := (¬ Sd t ∧ r = -1) ∨ (Sd t ∧ r = t.pad - padV t)
theorem PR.unique {t : Tb} {r s : Int} (h : PR t r) (g : PR t s) : r = s := by
  rcases h with ⟨h, rfl⟩ | ⟨h, h1⟩ <;> rcases g with ⟨g, rfl⟩ | ⟨g, g1⟩
  · rfl
  · exact absurd g h
  · exact absurd h g
  · rw [h1, g1]
set_option maxRecDepth 40000 in
set_option maxHeartbeats 8000000 in
theorem impl_car0 (t : Tb) (pa da ca sa : Option Addr) (pn pc dn dc cn cc n sc : Nat) (Y : Nat → Rw) (w : World) (hm : TM 0 w t ⟨pa, pn, pc, da, dn, dc, ca, cn, cc, sa, n, sc, Y⟩) (hw : TW t ⟨pa, pn, pc, da, dn, dc, ca, cn, cc, sa, n, sc, Y⟩) (hs : TS ⟨pa, pn, pc, da, dn, dc, ca, cn, cc, sa, n, sc, Y⟩) (he : TabE w) (hcp : pn ≤ pc) :
    Calls Tryz.prog 21 #[.agg #[.int .i64 t.mem, .int .i64 t.s1, .int .i64 t.s2, .int .i64 t.s3, .int .i64 t.tlb, .int .i64 t.c1, .int .i64 t.c2, .int .i64 t.c3, .int .i64 t.c4, .int .i64 t.c5, .int .i64 t.c6, .int .i64 t.c7, .int .i64 t.pad, .int .i64 t.grd, .int .i64 t.maj, .slice pa pn pc, .slice da dn dc, .slice ca cn cc, .slice sa n sc]] w fun e w' => (∃ r : Int, e = .returned (.int .i64 r) ∧ CR t r) ∧ Below w.heap.size w w' := by
  obtain ⟨q, hq⟩ := told (Sd t)
  have HB0 : Hid (Below w.heap.size w (w.alloc (.cells #[.int .i64 t.mem, .int .i64 t.s1, .int .i64 t.s2, .int .i64 t.s3, .int .i64 t.tlb, .int .i64 t.c1, .int .i64 t.c2, .int .i64 t.c3, .int .i64 t.c4, .int .i64 t.c5, .int .i64 t.c6, .int .i64 t.c7, .int .i64 t.pad, .int .i64 t.grd, .int .i64 t.maj, .slice pa pn pc, .slice da dn dc, .slice ca cn cc, .slice sa n sc] 40))) := (Below.refl _ _).alloc (Nat.le_refl _) _
  have HX0 : Hid (TBx (w.alloc (.cells #[.int .i64 t.mem, .int .i64 t.s1, .int .i64 t.s2, .int .i64 t.s3, .int .i64 t.tlb, .int .i64 t.c1, .int .i64 t.c2, .int .i64 t.c3, .int .i64 t.c4, .int .i64 t.c5, .int .i64 t.c6, .int .i64 t.c7, .int .i64 t.pad, .int .i64 t.grd, .int .i64 t.maj, .slice pa pn pc, .slice da dn dc, .slice ca cn cc, .slice sa n sc] 40)) w.heap.size t ⟨pa, pn, pc, da, dn, dc, ca, cn, cc, sa, n, sc, Y⟩) := TBx.new w t ⟨pa, pn, pc, da, dn, dc, ca, cn, cc, sa, n, sc, Y⟩ _ rfl
  have HSP : Hid (Calls Tryz.prog 46 #[.agg #[.int .i64 t.mem, .int .i64 t.s1, .int .i64 t.s2, .int .i64 t.s3, .int .i64 t.tlb, .int .i64 t.c1, .int .i64 t.c2, .int .i64 t.c3, .int .i64 t.c4, .int .i64 t.c5, .int .i64 t.c6, .int .i64 t.c7, .int .i64 t.pad, .int .i64 t.grd, .int .i64 t.maj, .slice pa pn pc, .slice da dn dc, .slice ca cn cc, .slice sa n sc]] (w.alloc (.cells #[.int .i64 t.mem, .int .i64 t.s1, .int .i64 t.s2, .int .i64 t.s3, .int .i64 t.tlb, .int .i64 t.c1, .int .i64 t.c2, .int .i64 t.c3, .int .i64 t.c4, .int .i64 t.c5, .int .i64 t.c6, .int .i64 t.c7, .int .i64 t.pad, .int .i64 t.grd, .int .i64 t.maj, .slice pa pn pc, .slice da dn dc, .slice ca cn cc, .slice sa n sc] 40)) fun e w' => e = .returned (.bool q) ∧ Below (w.alloc (.cells #[.int .i64 t.mem, .int .i64 t.s1, .int .i64 t.s2, .int .i64 t.s3, .int .i64 t.tlb, .int .i64 t.c1, .int .i64 t.c2, .int .i64 t.c3, .int .i64 t.c4, .int .i64 t.c5, .int .i64 t.c6, .int .i64 t.c7, .int .i64 t.pad, .int .i64 t.grd, .int .i64 t.maj, .slice pa pn pc, .slice da dn dc, .slice ca cn cc, .slice sa n sc] 40)).heap.size (w.alloc (.cells #[.int .i64 t.mem, .int .i64 t.s1, .int .i64 t.s2, .int .i64 t.s3, .int .i64 t.tlb, .int .i64 t.c1, .int .i64 t.c2, .int .i64 t.c3, .int .i64 t.c4, .int .i64 t.c5, .int .i64 t.c6, .int .i64 t.c7, .int .i64 t.pad, .int .i64 t.grd, .int .i64 t.maj, .slice pa pn pc, .slice da dn dc, .slice ca cn cc, .slice sa n sc] 40)) w') := impl_sound t ⟨pa, pn, pc, da, dn, dc, ca, cn, cc, sa, n, sc, Y⟩ q _ (hm.below HB0.out) hw hs (he.below HB0.out) hcp hq
  have HS : Hid (GSeg 4 w ca cn (chX t.cs)) := hm.c.seg
  have HL : Hid (t.cs.length = cn) := hw.cl
  have HQ : Hid (q = true ↔ Sd t) := hq
  clear hm hw hs hq he hcp
  go_enter Tryz.func21, Tryz.ntmps21
  go_wp2_with (first | (refine wpList_load_row rfl 40 (.tmp 1) rfl w.heap.size rfl 40 #[.int .i64 t.mem, .int .i64 t.s1, .int .i64 t.s2, .int .i64 t.s3, .int .i64 t.tlb, .int .i64 t.c1, .int .i64 t.c2, .int .i64 t.c3, .int .i64 t.c4, .int .i64 t.c5, .int .i64 t.c6, .int .i64 t.c7, .int .i64 t.pad, .int .i64 t.grd, .int .i64 t.maj, .slice pa pn pc, .slice da dn dc, .slice ca cn cc, .slice sa n sc] (0, 0) _ HX0.out Tryz.underlying40 rfl (by kernel_rfl) ?_) | fail)
  refine Calls.mono HSP.out ?_
  rintro e w1 ⟨rfl, hb1⟩
  have HB1 : Hid (Below w.heap.size w w1) := HB0.out.trans (hb1.mono HB0.out.size)
  have HX1 : Hid (TBx w1 w.heap.size t ⟨pa, pn, pc, da, dn, dc, ca, cn, cc, sa, n, sc, Y⟩) := HX0.out.below hb1
  clear hb1 HB0 HX0 HSP
  cases q
  · have HT : Hid (¬ Sd t) := fun h => by have := HQ.out.2 h; cases this
    go_wp2
    go_ret
    exact ⟨⟨_, rfl, .inl ⟨HT.out, rfl⟩⟩, HB1.out⟩
  have HT : Hid (Sd t) := HQ.out.1 rfl
  clear HQ
  have HCA : Hid (cn ≤ 8 ∧ allCh t.cs cn) := by
    have := sd_chans HT.out
    rw [HL.out] at this
    exact ⟨this.1, this.2.1⟩
  have HRE : Hid (CR t (mostN t.cs cn)) := .inr ⟨HT.out, by rw [HL.out]⟩
  have k17 : w1.cell? ⟨w.heap.size, 17, none⟩ = some (.slice ca cn cc) := HX1.out.cell 17 rfl
  go_wp2_with fail
  refine Calls.mono (impl_carried ca cc cn t.cs _ (HS.out.below HB1.out) HCA.out.1 HCA.out.2) ?_
  rintro e w2 ⟨rfl, hb2⟩
  have HB2 : Hid (Below w.heap.size w w2) := HB1.out.trans (hb2.mono HB1.out.size)
  clear hb2 k17
  go_wp2
  go_ret
  exact ⟨⟨_, rfl, HRE.out⟩, HB2.out⟩
theorem impl_car (t : Tb) (a : Ad) (w : World) (hm : TM 0 w t a) (hw : TW t a) (hs : TS a) (he : TabE w) (hcp : a.pn ≤ a.pc) :
    Calls Tryz.prog 21 #[tbV t a] w fun e w' => (∃ r : Int, e = .returned (.int .i64 r) ∧ CR t r) ∧ Below w.heap.size w w' :=
  impl_car0 t a.pa a.da a.ca a.sa a.pn a.pc a.dn a.dc a.cn a.cc a.sn a.sc a.Y w hm hw hs he hcp
set_option maxRecDepth 40000 in
set_option maxHeartbeats 8000000 in
theorem spec_car0 (t : Tb) (pa da ca sa : Option Addr) (pn pc dn dc cn cc n sc : Nat) (Y : Nat → Rw) (w : World) (hm : TM 0 w t ⟨pa, pn, pc, da, dn, dc, ca, cn, cc, sa, n, sc, Y⟩) (hw : TW t ⟨pa, pn, pc, da, dn, dc, ca, cn, cc, sa, n, sc, Y⟩) (hs : TS ⟨pa, pn, pc, da, dn, dc, ca, cn, cc, sa, n, sc, Y⟩) :
    Calls Tryz.prog 19 #[.agg #[.int .i64 t.mem, .int .i64 t.s1, .int .i64 t.s2, .int .i64 t.s3, .int .i64 t.tlb, .int .i64 t.c1, .int .i64 t.c2, .int .i64 t.c3, .int .i64 t.c4, .int .i64 t.c5, .int .i64 t.c6, .int .i64 t.c7, .int .i64 t.pad, .int .i64 t.grd, .int .i64 t.maj, .slice pa pn pc, .slice da dn dc, .slice ca cn cc, .slice sa n sc]] w fun e w' => (∃ r : Int, e = .returned (.int .i64 r) ∧ CR t r) ∧ Below w.heap.size w w' := by
  obtain ⟨q, hq⟩ := told (Sd t)
  have HB0 : Hid (Below w.heap.size w (w.alloc (.cells #[.int .i64 t.mem, .int .i64 t.s1, .int .i64 t.s2, .int .i64 t.s3, .int .i64 t.tlb, .int .i64 t.c1, .int .i64 t.c2, .int .i64 t.c3, .int .i64 t.c4, .int .i64 t.c5, .int .i64 t.c6, .int .i64 t.c7, .int .i64 t.pad, .int .i64 t.grd, .int .i64 t.maj, .slice pa pn pc, .slice da dn dc, .slice ca cn cc, .slice sa n sc] 40))) := (Below.refl _ _).alloc (Nat.le_refl _) _
  have HX0 : Hid (TBx (w.alloc (.cells #[.int .i64 t.mem, .int .i64 t.s1, .int .i64 t.s2, .int .i64 t.s3, .int .i64 t.tlb, .int .i64 t.c1, .int .i64 t.c2, .int .i64 t.c3, .int .i64 t.c4, .int .i64 t.c5, .int .i64 t.c6, .int .i64 t.c7, .int .i64 t.pad, .int .i64 t.grd, .int .i64 t.maj, .slice pa pn pc, .slice da dn dc, .slice ca cn cc, .slice sa n sc] 40)) w.heap.size t ⟨pa, pn, pc, da, dn, dc, ca, cn, cc, sa, n, sc, Y⟩) := TBx.new w t ⟨pa, pn, pc, da, dn, dc, ca, cn, cc, sa, n, sc, Y⟩ _ rfl
  have HSP : Hid (Calls Tryz.prog 45 #[.agg #[.int .i64 t.mem, .int .i64 t.s1, .int .i64 t.s2, .int .i64 t.s3, .int .i64 t.tlb, .int .i64 t.c1, .int .i64 t.c2, .int .i64 t.c3, .int .i64 t.c4, .int .i64 t.c5, .int .i64 t.c6, .int .i64 t.c7, .int .i64 t.pad, .int .i64 t.grd, .int .i64 t.maj, .slice pa pn pc, .slice da dn dc, .slice ca cn cc, .slice sa n sc]] (w.alloc (.cells #[.int .i64 t.mem, .int .i64 t.s1, .int .i64 t.s2, .int .i64 t.s3, .int .i64 t.tlb, .int .i64 t.c1, .int .i64 t.c2, .int .i64 t.c3, .int .i64 t.c4, .int .i64 t.c5, .int .i64 t.c6, .int .i64 t.c7, .int .i64 t.pad, .int .i64 t.grd, .int .i64 t.maj, .slice pa pn pc, .slice da dn dc, .slice ca cn cc, .slice sa n sc] 40)) fun e w' => e = .returned (.bool q) ∧ Below (w.alloc (.cells #[.int .i64 t.mem, .int .i64 t.s1, .int .i64 t.s2, .int .i64 t.s3, .int .i64 t.tlb, .int .i64 t.c1, .int .i64 t.c2, .int .i64 t.c3, .int .i64 t.c4, .int .i64 t.c5, .int .i64 t.c6, .int .i64 t.c7, .int .i64 t.pad, .int .i64 t.grd, .int .i64 t.maj, .slice pa pn pc, .slice da dn dc, .slice ca cn cc, .slice sa n sc] 40)).heap.size (w.alloc (.cells #[.int .i64 t.mem, .int .i64 t.s1, .int .i64 t.s2, .int .i64 t.s3, .int .i64 t.tlb, .int .i64 t.c1, .int .i64 t.c2, .int .i64 t.c3, .int .i64 t.c4, .int .i64 t.c5, .int .i64 t.c6, .int .i64 t.c7, .int .i64 t.pad, .int .i64 t.grd, .int .i64 t.maj, .slice pa pn pc, .slice da dn dc, .slice ca cn cc, .slice sa n sc] 40)) w') := spec_sound t ⟨pa, pn, pc, da, dn, dc, ca, cn, cc, sa, n, sc, Y⟩ q _ (hm.below HB0.out) hw hs hq
  have HS : Hid (GSeg 4 w ca cn (chX t.cs)) := hm.c.seg
  have HL : Hid (t.cs.length = cn) := hw.cl
  have HQ : Hid (q = true ↔ Sd t) := hq
  clear hm hw hs hq
  go_enter Tryz.func19, Tryz.ntmps19
  go_wp2_with (first | (refine wpList_load_row rfl 40 (.tmp 1) rfl w.heap.size rfl 40 #[.int .i64 t.mem, .int .i64 t.s1, .int .i64 t.s2, .int .i64 t.s3, .int .i64 t.tlb, .int .i64 t.c1, .int .i64 t.c2, .int .i64 t.c3, .int .i64 t.c4, .int .i64 t.c5, .int .i64 t.c6, .int .i64 t.c7, .int .i64 t.pad, .int .i64 t.grd, .int .i64 t.maj, .slice pa pn pc, .slice da dn dc, .slice ca cn cc, .slice sa n sc] (0, 0) _ HX0.out Tryz.underlying40 rfl (by kernel_rfl) ?_) | fail)
  refine Calls.mono HSP.out ?_
  rintro e w1 ⟨rfl, hb1⟩
  have HB1 : Hid (Below w.heap.size w w1) := HB0.out.trans (hb1.mono HB0.out.size)
  have HX1 : Hid (TBx w1 w.heap.size t ⟨pa, pn, pc, da, dn, dc, ca, cn, cc, sa, n, sc, Y⟩) := HX0.out.below hb1
  clear hb1 HB0 HX0 HSP
  cases q
  · have HT : Hid (¬ Sd t) := fun h => by have := HQ.out.2 h; cases this
    go_wp2
    go_ret
    exact ⟨⟨_, rfl, .inl ⟨HT.out, rfl⟩⟩, HB1.out⟩
  have HT : Hid (Sd t) := HQ.out.1 rfl
  clear HQ
  have HCA : Hid (cn ≤ 8 ∧ allCh t.cs cn) := by
    have := sd_chans HT.out
    rw [HL.out] at this
    exact ⟨this.1, this.2.1⟩
  have HRE : Hid (CR t (mostN t.cs cn)) := .inr ⟨HT.out, by rw [HL.out]⟩
  have hcn := HCA.out.1
  go_wp2
  go_loopw [3, 4] (fun v i wr => ∃ (j : Nat) (M : Int), j ≤ cn ∧ 0 ≤ M ∧ M ≤ 64 ∧ i = .int .i64 j ∧ v = .int .i64 M ∧ Hid (M = mostN t.cs j ∧ Below w1.heap.size w1 wr)) (fun _ i _ => cn - (intOf i).toNat)
  case atStart => exact ⟨0, 0, by omega, by omega, by omega, rfl, rfl, rfl, Below.refl _ _⟩
  case round =>
    obtain ⟨j, M, hj, hM0, hM1, rfl, rfl, HR⟩ := hrel
    have HBR : Hid (Below w.heap.size w wr) := HB1.out.trans (HR.out.2.mono HB1.out.size)
    have k17 : wr.cell? ⟨w.heap.size, 17, none⟩ = some (.slice ca cn cc) := (HX1.out.below HR.out.2).cell 17 rfl
    by_cases hjn : j < cn
    rotate_left
    · obtain rfl : j = cn := by omega
      have HF : Hid (CR t M) := by rw [show M = mostN t.cs j from HR.out.1]; exact HRE.out
      go_wp2
      go_ret
      exact ⟨⟨_, rfl, HF.out⟩, HBR.out⟩
    have hjn' : (j : Int) < (cn : Int) := by omega
    obtain ⟨b1, o1, rfl, hbl1, p1⟩ := HS.out.at j hjn
    replace p1 := p1.of (w' := wr) (fun i => HBR.out.cell (p := ⟨b1, i, none⟩) hbl1)
    have HMS : Hid (∀ v, mostF (t.cs.getD j ch0).1 (t.cs.getD j ch0).2.2.2 = v → M + v = mostN t.cs (j + 1)) := fun v hv => by
      have := HR.out.1
      unfold mostN
      omega
    have hr := most_rng HCA.out.2 (j + 1) (by omega)
    have hM2 : ∀ v, mostF (t.cs.getD j ch0).1 (t.cs.getD j ch0).2.2.2 = v → 0 ≤ M + v ∧ M + v ≤ 64 := fun v hv => by
      have h1 := HMS.out v hv
      omega
    have hk := chOk_k (HCA.out.2 j hjn)
    have HRB : Hid (Below w1.heap.size w1 wr) := HR.out.2
    simp only [chX] at p1
    generalize t.cs.getD j ch0 = x at p1 HMS hM2 hk
    obtain ⟨c0, c1, c2, c3⟩ := ch_cells p1
    obtain ⟨x1, x2, x3, x4⟩ := x
    simp only at c0 c1 c2 c3 HMS hM2 hk
    clear p1 hbl1 hr HR
    rcases hk with ⟨rfl, rfl⟩ | ⟨rfl, hd1, hd2⟩
    · have HMv : Hid (M + 1 = mostN t.cs (j + 1)) := HMS.out 1 (by unfold mostF; simp)
      obtain ⟨hv3, hv4⟩ := hM2 1 (by unfold mostF; simp)
      have hwr : IntKind.i64.wrap (M + 1) = M + 1 := by rw [IntKind.wrap_i64]; omega
      clear HMS hM2
      go_wp2
      go_roundw
      case rel => exact ⟨j + 1, M + 1, by omega, hv3, hv4, by go_num, by go_num, HMv.out, HRB.out⟩
      case measure => simp [intOf]; omega
    · have HMv : Hid (M + x4 = mostN t.cs (j + 1)) := HMS.out x4 (by unfold mostF; simp)
      obtain ⟨hv3, hv4⟩ := hM2 x4 (by unfold mostF; simp)
      have hwr : IntKind.i64.wrap (M + x4) = M + x4 := by rw [IntKind.wrap_i64]; omega
      clear HMS hM2
      go_wp2
      go_roundw
      case rel => exact ⟨j + 1, M + x4, by omega, hv3, hv4, by go_num, by go_num, HMv.out, HRB.out⟩
      case measure => simp [intOf]; omega
theorem spec_car (t : Tb) (a : Ad) (w : World) (hm : TM 0 w t a) (hw : TW t a) (hs : TS a) :
    Calls Tryz.prog 19 #[tbV t a] w fun e w' => (∃ r : Int, e = .returned (.int .i64 r) ∧ CR t r) ∧ Below w.heap.size w w' :=
  spec_car0 t a.pa a.da a.ca a.sa a.pn a.pc a.dn a.dc a.cn a.cc a.sn a.sc a.Y w hm hw hs
set_option maxRecDepth 40000 in
set_option maxHeartbeats 8000000 in
theorem impl_spare0 (t : Tb) (pa da ca sa : Option Addr) (pn pc dn dc cn cc n sc : Nat) (Y : Nat → Rw) (w : World) (hm : TM 0 w t ⟨pa, pn, pc, da, dn, dc, ca, cn, cc, sa, n, sc, Y⟩) (hw : TW t ⟨pa, pn, pc, da, dn, dc, ca, cn, cc, sa, n, sc, Y⟩) (hs : TS ⟨pa, pn, pc, da, dn, dc, ca, cn, cc, sa, n, sc, Y⟩) (he : TabE w) (hcp : pn ≤ pc) :
    Calls Tryz.prog 24 #[.agg #[.int .i64 t.mem, .int .i64 t.s1, .int .i64 t.s2, .int .i64 t.s3, .int .i64 t.tlb, .int .i64 t.c1, .int .i64 t.c2, .int .i64 t.c3, .int .i64 t.c4, .int .i64 t.c5, .int .i64 t.c6, .int .i64 t.c7, .int .i64 t.pad, .int .i64 t.grd, .int .i64 t.maj, .slice pa pn pc, .slice da dn dc, .slice ca cn cc, .slice sa n sc]] w fun e w' => (∃ r : Int, e = .returned (.int .i64 r) ∧ PR t r) ∧ Below w.heap.size w w' := by
  obtain ⟨q, hq⟩ := told (Sd t)
  have HB0 : Hid (Below w.heap.size w (w.alloc (.cells #[.int .i64 t.mem, .int .i64 t.s1, .int .i64 t.s2, .int .i64 t.s3, .int .i64 t.tlb, .int .i64 t.c1, .int .i64 t.c2, .int .i64 t.c3, .int .i64 t.c4, .int .i64 t.c5, .int .i64 t.c6, .int .i64 t.c7, .int .i64 t.pad, .int .i64 t.grd, .int .i64 t.maj, .slice pa pn pc, .slice da dn dc, .slice ca cn cc, .slice sa n sc] 40))) := (Below.refl _ _).alloc (Nat.le_refl _) _
  have HX0 : Hid (TBx (w.alloc (.cells #[.int .i64 t.mem, .int .i64 t.s1, .int .i64 t.s2, .int .i64 t.s3, .int .i64 t.tlb, .int .i64 t.c1, .int .i64 t.c2, .int .i64 t.c3, .int .i64 t.c4, .int .i64 t.c5, .int .i64 t.c6, .int .i64 t.c7, .int .i64 t.pad, .int .i64 t.grd, .int .i64 t.maj, .slice pa pn pc, .slice da dn dc, .slice ca cn cc, .slice sa n sc] 40)) w.heap.size t ⟨pa, pn, pc, da, dn, dc, ca, cn, cc, sa, n, sc, Y⟩) := TBx.new w t ⟨pa, pn, pc, da, dn, dc, ca, cn, cc, sa, n, sc, Y⟩ _ rfl
  have HSP : Hid (Calls Tryz.prog 46 #[.agg #[.int .i64 t.mem, .int .i64 t.s1, .int .i64 t.s2, .int .i64 t.s3, .int .i64 t.tlb, .int .i64 t.c1, .int .i64 t.c2, .int .i64 t.c3, .int .i64 t.c4, .int .i64 t.c5, .int .i64 t.c6, .int .i64 t.c7, .int .i64 t.pad, .int .i64 t.grd, .int .i64 t.maj, .slice pa pn pc, .slice da dn dc, .slice ca cn cc, .slice sa n sc]] (w.alloc (.cells #[.int .i64 t.mem, .int .i64 t.s1, .int .i64 t.s2, .int .i64 t.s3, .int .i64 t.tlb, .int .i64 t.c1, .int .i64 t.c2, .int .i64 t.c3, .int .i64 t.c4, .int .i64 t.c5, .int .i64 t.c6, .int .i64 t.c7, .int .i64 t.pad, .int .i64 t.grd, .int .i64 t.maj, .slice pa pn pc, .slice da dn dc, .slice ca cn cc, .slice sa n sc] 40)) fun e w' => e = .returned (.bool q) ∧ Below (w.alloc (.cells #[.int .i64 t.mem, .int .i64 t.s1, .int .i64 t.s2, .int .i64 t.s3, .int .i64 t.tlb, .int .i64 t.c1, .int .i64 t.c2, .int .i64 t.c3, .int .i64 t.c4, .int .i64 t.c5, .int .i64 t.c6, .int .i64 t.c7, .int .i64 t.pad, .int .i64 t.grd, .int .i64 t.maj, .slice pa pn pc, .slice da dn dc, .slice ca cn cc, .slice sa n sc] 40)).heap.size (w.alloc (.cells #[.int .i64 t.mem, .int .i64 t.s1, .int .i64 t.s2, .int .i64 t.s3, .int .i64 t.tlb, .int .i64 t.c1, .int .i64 t.c2, .int .i64 t.c3, .int .i64 t.c4, .int .i64 t.c5, .int .i64 t.c6, .int .i64 t.c7, .int .i64 t.pad, .int .i64 t.grd, .int .i64 t.maj, .slice pa pn pc, .slice da dn dc, .slice ca cn cc, .slice sa n sc] 40)) w') := impl_sound t ⟨pa, pn, pc, da, dn, dc, ca, cn, cc, sa, n, sc, Y⟩ q _ (hm.below HB0.out) hw hs (he.below HB0.out) hcp hq
  have HS : Hid (GSeg 4 w ca cn (chX t.cs)) := hm.c.seg
  have HL : Hid (t.cs.length = cn) := hw.cl
  have HQ : Hid (q = true ↔ Sd t) := hq
  clear hm hw hs hq he hcp
  go_enter Tryz.func24, Tryz.ntmps24
  go_wp2_with (first | (refine wpList_load_row rfl 40 (.tmp 1) rfl w.heap.size rfl 40 #[.int .i64 t.mem, .int .i64 t.s1, .int .i64 t.s2, .int .i64 t.s3, .int .i64 t.tlb, .int .i64 t.c1, .int .i64 t.c2, .int .i64 t.c3, .int .i64 t.c4, .int .i64 t.c5, .int .i64 t.c6, .int .i64 t.c7, .int .i64 t.pad, .int .i64 t.grd, .int .i64 t.maj, .slice pa pn pc, .slice da dn dc, .slice ca cn cc, .slice sa n sc] (0, 0) _ HX0.out Tryz.underlying40 rfl (by kernel_rfl) ?_) | fail)
  refine Calls.mono HSP.out ?_
  rintro e w1 ⟨rfl, hb1⟩
  have HB1 : Hid (Below w.heap.size w w1) := HB0.out.trans (hb1.mono HB0.out.size)
  have HX1 : Hid (TBx w1 w.heap.size t ⟨pa, pn, pc, da, dn, dc, ca, cn, cc, sa, n, sc, Y⟩) := HX0.out.below hb1
  clear hb1 HB0 HX0 HSP
  cases q
  · have HT : Hid (¬ Sd t) := fun h => by have := HQ.out.2 h; cases this
    go_wp2
    go_ret
    exact ⟨⟨_, rfl, .inl ⟨HT.out, rfl⟩⟩, HB1.out⟩
  have HT : Hid (Sd t) := HQ.out.1 rfl
  clear HQ
  have hpd : 1 ≤ t.pad ∧ t.pad ≤ 5000 := HT.out 4 (by omega)
  have hpv : padV t ≤ t.pad := HT.out 20 (by omega)
  have HPO := sd_chans HT.out
  obtain ⟨p, HP⟩ : ∃ p, Hid (padV t = p) := ⟨_, rfl⟩
  have hp0 : 0 ≤ p := by
    rw [← HP.out]
    obtain ⟨hc1, hc2, hc3, hc4, hc5, hc6, hc7⟩ := costsOk_parts HPO.2.2.1
    have hsm := sets_mul HPO.2.2.2.1
    have hmr := most_rng HPO.2.1 t.cs.length (Nat.le_refl _)
    have h1 : 0 ≤ t.c1 * (16 + mostN t.cs t.cs.length) := Int.mul_nonneg (by omega) (by omega)
    have h2 : 0 ≤ t.c7 * (t.s1 * t.s2) := Int.mul_nonneg (by omega) (by omega)
    unfold padV
    omega
  rw [HP.out] at hpv
  have HRE : Hid (PR t (t.pad - p)) := .inr ⟨HT.out, by rw [HP.out]⟩
  have HCP : Hid (∀ X, GSeg 4 X ca cn (chX t.cs) → Calls Tryz.prog 72 #[cst t.c1 t.c2 t.c3 t.c4 t.c5 t.c6 t.c7, shp t.s1 t.s2 t.s3, .slice ca cn cc] X fun x w' => x = .returned (.int .i64 p) ∧ Below X.heap.size X w') := fun X hX =>
    (impl_pad t.c1 t.c2 t.c3 t.c4 t.c5 t.c6 t.c7 t.s1 t.s2 t.s3 ca cc cn t.cs X hX (by have := HPO.1; rw [HL.out] at this; omega)).mono fun e w' ⟨⟨v, h1, h2, h3⟩, h4⟩ => ⟨by rw [h1, h2 (by have := HPO.2.2; rw [HL.out] at this; exact this), ← HP.out]; unfold padV; rw [HL.out], h4⟩
  obtain ⟨hd1, hd2⟩ := hpd
  have hw1 : IntKind.i64.wrap (t.pad - p) = t.pad - p := by rw [IntKind.wrap_i64]; omega
  have HSG : Hid (∀ X, Below w1.heap.size w1 X → GSeg 4 X ca cn (chX t.cs)) := fun X hX => HS.out.below (HB1.out.trans (hX.mono HB1.out.size))
  have HCG : Hid (∀ Y : Gr w1, Calls Tryz.prog 72 #[cst t.c1 t.c2 t.c3 t.c4 t.c5 t.c6 t.c7, shp t.s1 t.s2 t.s3, .slice ca cn cc] Y.w fun x w' => x = .returned (.int .i64 p) ∧ Below Y.w.heap.size Y.w w') := fun Y => HCP.out _ (HSG.out _ Y.h)
  have k1 : w1.cell? ⟨w.heap.size, 1, none⟩ = some (.int .i64 t.s1) := HX1.out.cell 1 rfl
  have k2 : w1.cell? ⟨w.heap.size, 2, none⟩ = some (.int .i64 t.s2) := HX1.out.cell 2 rfl
  have k3 : w1.cell? ⟨w.heap.size, 3, none⟩ = some (.int .i64 t.s3) := HX1.out.cell 3 rfl
  have k5 : w1.cell? ⟨w.heap.size, 5, none⟩ = some (.int .i64 t.c1) := HX1.out.cell 5 rfl
  have k6 : w1.cell? ⟨w.heap.size, 6, none⟩ = some (.int .i64 t.c2) := HX1.out.cell 6 rfl
  have k7 : w1.cell? ⟨w.heap.size, 7, none⟩ = some (.int .i64 t.c3) := HX1.out.cell 7 rfl
  have k8 : w1.cell? ⟨w.heap.size, 8, none⟩ = some (.int .i64 t.c4) := HX1.out.cell 8 rfl
  have k9 : w1.cell? ⟨w.heap.size, 9, none⟩ = some (.int .i64 t.c5) := HX1.out.cell 9 rfl
  have k10 : w1.cell? ⟨w.heap.size, 10, none⟩ = some (.int .i64 t.c6) := HX1.out.cell 10 rfl
  have k11 : w1.cell? ⟨w.heap.size, 11, none⟩ = some (.int .i64 t.c7) := HX1.out.cell 11 rfl
  have k12 : w1.cell? ⟨w.heap.size, 12, none⟩ = some (.int .i64 t.pad) := HX1.out.cell 12 rfl
  have k17 : w1.cell? ⟨w.heap.size, 17, none⟩ = some (.slice ca cn cc) := HX1.out.cell 17 rfl
  replace k1 := fun X => gr_cell k1 X
  replace k2 := fun X => gr_cell k2 X
  replace k3 := fun X => gr_cell k3 X
  replace k5 := fun X => gr_cell k5 X
  replace k6 := fun X => gr_cell k6 X
  replace k7 := fun X => gr_cell k7 X
  replace k8 := fun X => gr_cell k8 X
  replace k9 := fun X => gr_cell k9 X
  replace k10 := fun X => gr_cell k10 X
  replace k11 := fun X => gr_cell k11 X
  replace k12 := fun X => gr_cell k12 X
  replace k17 := fun X => gr_cell k17 X
  clear hp0 hpv HPO HX1
  go_wp2
  have hgr := gr_some w1
  refine region_alike (by kernel_rfl) (by kernel_rfl) ?_
  repeat (go_big_quiet_step (first | (go_at_call 72; exact gr_call (HCG.out _))))
  refine wpQuiet_nil ?_
  intro _ hw'
  obtain ⟨X1, rfl⟩ := hw'
  have hb2 := X1.h
  generalize X1.w = W1 at hb2 ⊢
  have HB2 : Hid (Below w.heap.size w W1) := HB1.out.trans (hb2.mono HB1.out.size)
  clear hb2 k1 k2 k3 k5 k6 k7 k8 k9 k10 k11 k12 k17
  go_wp2
  go_ret
  exact ⟨⟨_, rfl, HRE.out⟩, HB2.out⟩
theorem impl_spare (t : Tb) (a : Ad) (w : World) (hm : TM 0 w t a) (hw : TW t a) (hs : TS a) (he : TabE w) (hcp : a.pn ≤ a.pc) :
    Calls Tryz.prog 24 #[tbV t a] w fun e w' => (∃ r : Int, e = .returned (.int .i64 r) ∧ PR t r) ∧ Below w.heap.size w w' :=
  impl_spare0 t a.pa a.da a.ca a.sa a.pn a.pc a.dn a.dc a.cn a.cc a.sn a.sc a.Y w hm hw hs he hcp
set_option maxRecDepth 40000 in
set_option maxHeartbeats 8000000 in
theorem spec_spare0 (t : Tb) (pa da ca sa : Option Addr) (pn pc dn dc cn cc n sc : Nat) (Y : Nat → Rw) (w : World) (hm : TM 0 w t ⟨pa, pn, pc, da, dn, dc, ca, cn, cc, sa, n, sc, Y⟩) (hw : TW t ⟨pa, pn, pc, da, dn, dc, ca, cn, cc, sa, n, sc, Y⟩) (hs : TS ⟨pa, pn, pc, da, dn, dc, ca, cn, cc, sa, n, sc, Y⟩) :
    Calls Tryz.prog 23 #[.agg #[.int .i64 t.mem, .int .i64 t.s1, .int .i64 t.s2, .int .i64 t.s3, .int .i64 t.tlb, .int .i64 t.c1, .int .i64 t.c2, .int .i64 t.c3, .int .i64 t.c4, .int .i64 t.c5, .int .i64 t.c6, .int .i64 t.c7, .int .i64 t.pad, .int .i64 t.grd, .int .i64 t.maj, .slice pa pn pc, .slice da dn dc, .slice ca cn cc, .slice sa n sc]] w fun e w' => (∃ r : Int, e = .returned (.int .i64 r) ∧ PR t r) ∧ Below w.heap.size w w' := by
  obtain ⟨q, hq⟩ := told (Sd t)
  have HB0 : Hid (Below w.heap.size w (w.alloc (.cells #[.int .i64 t.mem, .int .i64 t.s1, .int .i64 t.s2, .int .i64 t.s3, .int .i64 t.tlb, .int .i64 t.c1, .int .i64 t.c2, .int .i64 t.c3, .int .i64 t.c4, .int .i64 t.c5, .int .i64 t.c6, .int .i64 t.c7, .int .i64 t.pad, .int .i64 t.grd, .int .i64 t.maj, .slice pa pn pc, .slice da dn dc, .slice ca cn cc, .slice sa n sc] 40))) := (Below.refl _ _).alloc (Nat.le_refl _) _
  have HX0 : Hid (TBx (w.alloc (.cells #[.int .i64 t.mem, .int .i64 t.s1, .int .i64 t.s2, .int .i64 t.s3, .int .i64 t.tlb, .int .i64 t.c1, .int .i64 t.c2, .int .i64 t.c3, .int .i64 t.c4, .int .i64 t.c5, .int .i64 t.c6, .int .i64 t.c7, .int .i64 t.pad, .int .i64 t.grd, .int .i64 t.maj, .slice pa pn pc, .slice da dn dc, .slice ca cn cc, .slice sa n sc] 40)) w.heap.size t ⟨pa, pn, pc, da, dn, dc, ca, cn, cc, sa, n, sc, Y⟩) := TBx.new w t ⟨pa, pn, pc, da, dn, dc, ca, cn, cc, sa, n, sc, Y⟩ _ rfl
  have HSP : Hid (Calls Tryz.prog 45 #[.agg #[.int .i64 t.mem, .int .i64 t.s1, .int .i64 t.s2, .int .i64 t.s3, .int .i64 t.tlb, .int .i64 t.c1, .int .i64 t.c2, .int .i64 t.c3, .int .i64 t.c4, .int .i64 t.c5, .int .i64 t.c6, .int .i64 t.c7, .int .i64 t.pad, .int .i64 t.grd, .int .i64 t.maj, .slice pa pn pc, .slice da dn dc, .slice ca cn cc, .slice sa n sc]] (w.alloc (.cells #[.int .i64 t.mem, .int .i64 t.s1, .int .i64 t.s2, .int .i64 t.s3, .int .i64 t.tlb, .int .i64 t.c1, .int .i64 t.c2, .int .i64 t.c3, .int .i64 t.c4, .int .i64 t.c5, .int .i64 t.c6, .int .i64 t.c7, .int .i64 t.pad, .int .i64 t.grd, .int .i64 t.maj, .slice pa pn pc, .slice da dn dc, .slice ca cn cc, .slice sa n sc] 40)) fun e w' => e = .returned (.bool q) ∧ Below (w.alloc (.cells #[.int .i64 t.mem, .int .i64 t.s1, .int .i64 t.s2, .int .i64 t.s3, .int .i64 t.tlb, .int .i64 t.c1, .int .i64 t.c2, .int .i64 t.c3, .int .i64 t.c4, .int .i64 t.c5, .int .i64 t.c6, .int .i64 t.c7, .int .i64 t.pad, .int .i64 t.grd, .int .i64 t.maj, .slice pa pn pc, .slice da dn dc, .slice ca cn cc, .slice sa n sc] 40)).heap.size (w.alloc (.cells #[.int .i64 t.mem, .int .i64 t.s1, .int .i64 t.s2, .int .i64 t.s3, .int .i64 t.tlb, .int .i64 t.c1, .int .i64 t.c2, .int .i64 t.c3, .int .i64 t.c4, .int .i64 t.c5, .int .i64 t.c6, .int .i64 t.c7, .int .i64 t.pad, .int .i64 t.grd, .int .i64 t.maj, .slice pa pn pc, .slice da dn dc, .slice ca cn cc, .slice sa n sc] 40)) w') := spec_sound t ⟨pa, pn, pc, da, dn, dc, ca, cn, cc, sa, n, sc, Y⟩ q _ (hm.below HB0.out) hw hs hq
  have HS : Hid (GSeg 4 w ca cn (chX t.cs)) := hm.c.seg
  have HL : Hid (t.cs.length = cn) := hw.cl
  have HQ : Hid (q = true ↔ Sd t) := hq
  clear hm hw hs hq
  go_enter Tryz.func23, Tryz.ntmps23
  go_wp2_with (first | (refine wpList_load_row rfl 40 (.tmp 1) rfl w.heap.size rfl 40 #[.int .i64 t.mem, .int .i64 t.s1, .int .i64 t.s2, .int .i64 t.s3, .int .i64 t.tlb, .int .i64 t.c1, .int .i64 t.c2, .int .i64 t.c3, .int .i64 t.c4, .int .i64 t.c5, .int .i64 t.c6, .int .i64 t.c7, .int .i64 t.pad, .int .i64 t.grd, .int .i64 t.maj, .slice pa pn pc, .slice da dn dc, .slice ca cn cc, .slice sa n sc] (0, 0) _ HX0.out Tryz.underlying40 rfl (by kernel_rfl) ?_) | fail)
  refine Calls.mono HSP.out ?_
  rintro e w1 ⟨rfl, hb1⟩
  have HB1 : Hid (Below w.heap.size w w1) := HB0.out.trans (hb1.mono HB0.out.size)
  have HX1 : Hid (TBx w1 w.heap.size t ⟨pa, pn, pc, da, dn, dc, ca, cn, cc, sa, n, sc, Y⟩) := HX0.out.below hb1
  clear hb1 HB0 HX0 HSP
  cases q
  · have HT : Hid (¬ Sd t) := fun h => by have := HQ.out.2 h; cases this
    go_wp2
    go_ret
    exact ⟨⟨_, rfl, .inl ⟨HT.out, rfl⟩⟩, HB1.out⟩
  have HT : Hid (Sd t) := HQ.out.1 rfl
  clear HQ
  have hpd : 1 ≤ t.pad ∧ t.pad ≤ 5000 := HT.out 4 (by omega)
  have hpv : padV t ≤ t.pad := HT.out 20 (by omega)
  have HPO := sd_chans HT.out
  obtain ⟨p, HP⟩ : ∃ p, Hid (padV t = p) := ⟨_, rfl⟩
  have hp0 : 0 ≤ p := by
    rw [← HP.out]
    obtain ⟨hc1, hc2, hc3, hc4, hc5, hc6, hc7⟩ := costsOk_parts HPO.2.2.1
    have hsm := sets_mul HPO.2.2.2.1
    have hmr := most_rng HPO.2.1 t.cs.length (Nat.le_refl _)
    have h1 : 0 ≤ t.c1 * (16 + mostN t.cs t.cs.length) := Int.mul_nonneg (by omega) (by omega)
    have h2 : 0 ≤ t.c7 * (t.s1 * t.s2) := Int.mul_nonneg (by omega) (by omega)
    unfold padV
    omega
  rw [HP.out] at hpv
  have HRE : Hid (PR t (t.pad - p)) := .inr ⟨HT.out, by rw [HP.out]⟩
  have HCP : Hid (∀ X, GSeg 4 X ca cn (chX t.cs) → Calls Tryz.prog 71 #[cst t.c1 t.c2 t.c3 t.c4 t.c5 t.c6 t.c7, shp t.s1 t.s2 t.s3, .slice ca cn cc] X fun x w' => x = .returned (.int .i64 p) ∧ Below X.heap.size X w') := fun X hX =>
    (spec_pad t.c1 t.c2 t.c3 t.c4 t.c5 t.c6 t.c7 t.s1 t.s2 t.s3 ca cc cn t.cs X hX (by have := HPO.1; rw [HL.out] at this; omega)).mono fun e w' ⟨⟨v, h1, h2, h3⟩, h4⟩ => ⟨by rw [h1, h2 (by have := HPO.2.2; rw [HL.out] at this; exact this), ← HP.out]; unfold padV; rw [HL.out], h4⟩
  obtain ⟨hd1, hd2⟩ := hpd
  have hw1 : IntKind.i64.wrap (t.pad - p) = t.pad - p := by rw [IntKind.wrap_i64]; omega
  have HSG : Hid (∀ X, Below w1.heap.size w1 X → GSeg 4 X ca cn (chX t.cs)) := fun X hX => HS.out.below (HB1.out.trans (hX.mono HB1.out.size))
  have HCG : Hid (∀ Y : Gr w1, Calls Tryz.prog 71 #[cst t.c1 t.c2 t.c3 t.c4 t.c5 t.c6 t.c7, shp t.s1 t.s2 t.s3, .slice ca cn cc] Y.w fun x w' => x = .returned (.int .i64 p) ∧ Below Y.w.heap.size Y.w w') := fun Y => HCP.out _ (HSG.out _ Y.h)
  have k1 : w1.cell? ⟨w.heap.size, 1, none⟩ = some (.int .i64 t.s1) := HX1.out.cell 1 rfl
  have k2 : w1.cell? ⟨w.heap.size, 2, none⟩ = some (.int .i64 t.s2) := HX1.out.cell 2 rfl
  have k3 : w1.cell? ⟨w.heap.size, 3, none⟩ = some (.int .i64 t.s3) := HX1.out.cell 3 rfl
  have k5 : w1.cell? ⟨w.heap.size, 5, none⟩ = some (.int .i64 t.c1) := HX1.out.cell 5 rfl
  have k6 : w1.cell? ⟨w.heap.size, 6, none⟩ = some (.int .i64 t.c2) := HX1.out.cell 6 rfl
  have k7 : w1.cell? ⟨w.heap.size, 7, none⟩ = some (.int .i64 t.c3) := HX1.out.cell 7 rfl
  have k8 : w1.cell? ⟨w.heap.size, 8, none⟩ = some (.int .i64 t.c4) := HX1.out.cell 8 rfl
  have k9 : w1.cell? ⟨w.heap.size, 9, none⟩ = some (.int .i64 t.c5) := HX1.out.cell 9 rfl
  have k10 : w1.cell? ⟨w.heap.size, 10, none⟩ = some (.int .i64 t.c6) := HX1.out.cell 10 rfl
  have k11 : w1.cell? ⟨w.heap.size, 11, none⟩ = some (.int .i64 t.c7) := HX1.out.cell 11 rfl
  have k12 : w1.cell? ⟨w.heap.size, 12, none⟩ = some (.int .i64 t.pad) := HX1.out.cell 12 rfl
  have k17 : w1.cell? ⟨w.heap.size, 17, none⟩ = some (.slice ca cn cc) := HX1.out.cell 17 rfl
  replace k1 := fun X => gr_cell k1 X
  replace k2 := fun X => gr_cell k2 X
  replace k3 := fun X => gr_cell k3 X
  replace k5 := fun X => gr_cell k5 X
  replace k6 := fun X => gr_cell k6 X
  replace k7 := fun X => gr_cell k7 X
  replace k8 := fun X => gr_cell k8 X
  replace k9 := fun X => gr_cell k9 X
  replace k10 := fun X => gr_cell k10 X
  replace k11 := fun X => gr_cell k11 X
  replace k12 := fun X => gr_cell k12 X
  replace k17 := fun X => gr_cell k17 X
  clear hp0 hpv HPO HX1
  go_wp2
  have hgr := gr_some w1
  refine region_alike (by kernel_rfl) (by kernel_rfl) ?_
  repeat (go_big_quiet_step (first | (go_at_call 71; exact gr_call (HCG.out _))))
  refine wpQuiet_nil ?_
  intro _ hw'
  obtain ⟨X1, rfl⟩ := hw'
  have hb2 := X1.h
  generalize X1.w = W1 at hb2 ⊢
  have HB2 : Hid (Below w.heap.size w W1) := HB1.out.trans (hb2.mono HB1.out.size)
  clear hb2 k1 k2 k3 k5 k6 k7 k8 k9 k10 k11 k12 k17
  go_wp2
  go_ret
  exact ⟨⟨_, rfl, HRE.out⟩, HB2.out⟩
theorem spec_spare (t : Tb) (a : Ad) (w : World) (hm : TM 0 w t a) (hw : TW t a) (hs : TS a) :
    Calls Tryz.prog 23 #[tbV t a] w fun e w' => (∃ r : Int, e = .returned (.int .i64 r) ∧ PR t r) ∧ Below w.heap.size w w' :=
  spec_spare0 t a.pa a.da a.ca a.sa a.pn a.pc a.dn a.dc a.cn a.cc a.sn a.sc a.Y w hm hw hs
set_option maxRecDepth 40000 in
set_option maxHeartbeats 8000000 in
theorem walk_carries (t : Tb) (a : Ad) (w : World) (hm : TM 0 w t a) (hw : TW t a) (he : TabE w) : Calls Tryz.prog 3 #[tbV t a] w fun e w' => e = .returned (.bool true) ∧ Below w.heap.size w w' := by
  have HU : Hid (∀ X, Below w.heap.size w X → TM 0 X t a ∧ TabE X) := fun X hX => ⟨hm.below hX, he.below hX⟩
  have HW : Hid (TW t a) := hw
  have HB0 : Hid (Below w.heap.size w (w.alloc (.cells (tbA t a) 31))) := (Below.refl _ _).alloc (Nat.le_refl _) _
  have HX0 : Hid ((w.alloc (.cells (tbA t a) 31)).heap[w.heap.size]? = some (.cells (tbA t a) 31 (0, 0))) := new_row w _ _ _ rfl
  clear hm hw he
  go_enter Tryz.func3, Tryz.ntmps3
  go_wp2_with (first | (refine wpList_load_row rfl 31 (.tmp 1) rfl w.heap.size rfl 31 (tbA t a) (0, 0) _ HX0.out Tryz.underlying31 rfl (by kernel_rfl) ?_) | fail)
  refine Calls.mono (sz_tab t a _ (HU.out _ HB0.out).1 HW.out) ?_
  rintro e w1 ⟨⟨r, rfl, hr⟩, hb1⟩
  have HB1 : Hid (Below w.heap.size w w1) := HB0.out.trans (hb1.mono HB0.out.size)
  have HX1 : Hid (w1.heap[w.heap.size]? = some (.cells (tbA t a) 31 (0, 0))) := row_below HX0.out hb1
  clear hb1 HB0 HX0
  rcases hr with rfl | ⟨h0, hs⟩
  · go_wp2
    go_ret
    exact ⟨rfl, HB1.out⟩
  have HS : Hid (TS a) := hs
  clear hs
  have hr0 : ¬ (r < 0) := by omega
  go_wp2_with (first | (refine wpList_load_row rfl 31 (.tmp 1) rfl w.heap.size rfl 31 (tbA t a) (0, 0) _ HX1.out Tryz.underlying31 rfl (by kernel_rfl) ?_) | fail)
  refine Calls.mono (copy_tab t a _ (HU.out _ HB1.out).1 HW.out HS.out) ?_
  rintro e w2 ⟨a2, rfl, hb2, hc2⟩
  have HB2 : Hid (Below w.heap.size w w2) := HB1.out.trans (hb2.mono HB1.out.size)
  have HX2 : Hid (w2.heap[w.heap.size]? = some (.cells (tbA t a) 31 (0, 0))) := row_below HX1.out hb2
  have HC2 : Hid (Cpy w2 t a a2) := hc2
  clear hb2 hc2 HB1 HX1
  go_wp2_with fail
  refine Calls.mono (spec_car t a2 _ HC2.out.m HC2.out.w HC2.out.s) ?_
  rintro e w3 ⟨⟨R1, rfl, hR1⟩, hb3⟩
  have HB3 : Hid (Below w.heap.size w w3) := HB2.out.trans (hb3.mono HB2.out.size)
  have HX3 : Hid (w3.heap[w.heap.size]? = some (.cells (tbA t a) 31 (0, 0))) := row_below HX2.out hb3
  have HR1 : Hid (CR t R1) := hR1
  clear hb3 HB2 HX2 HC2 hR1
  go_wp2_with (first | (refine wpList_load_row rfl 31 (.tmp 1) rfl w.heap.size rfl 31 (tbA t a) (0, 0) _ HX3.out Tryz.underlying31 rfl (by kernel_rfl) ?_) | fail)
  refine Calls.mono (copy_tab t a _ (HU.out _ HB3.out).1 HW.out HS.out) ?_
  rintro e w4 ⟨a4, rfl, hb4, hc4⟩
  have HB4 : Hid (Below w.heap.size w w4) := HB3.out.trans (hb4.mono HB3.out.size)
  have HX4 : Hid (w4.heap[w.heap.size]? = some (.cells (tbA t a) 31 (0, 0))) := row_below HX3.out hb4
  have HC4 : Hid (Cpy w4 t a a4) := hc4
  clear hb4 hc4 HB3 HX3
  have HN : Hid ((w4.alloc (.cells #[.int .i64 0, .int .i64 0, .int .i64 0, .int .i64 0, .int .i64 0, .int .i64 0, .int .i64 0, .int .i64 0, .int .i64 0, .int .i64 0, .int .i64 0, .int .i64 0, .int .i64 0, .int .i64 0, .int .i64 0, .slice none 0 0, .slice none 0 0, .slice none 0 0, .slice none 0 0] 40)).heap[w4.heap.size]? = some (.cells #[.int .i64 0, .int .i64 0, .int .i64 0, .int .i64 0, .int .i64 0, .int .i64 0, .int .i64 0, .int .i64 0, .int .i64 0, .int .i64 0, .int .i64 0, .int .i64 0, .int .i64 0, .int .i64 0, .int .i64 0, .slice none 0 0, .slice none 0 0, .slice none 0 0, .slice none 0 0] 40 (0, 0))) := new_row w4 _ _ _ rfl
  have hbV : Below w4.heap.size w4 ((w4.alloc (.cells #[.int .i64 0, .int .i64 0, .int .i64 0, .int .i64 0, .int .i64 0, .int .i64 0, .int .i64 0, .int .i64 0, .int .i64 0, .int .i64 0, .int .i64 0, .int .i64 0, .int .i64 0, .int .i64 0, .int .i64 0, .slice none 0 0, .slice none 0 0, .slice none 0 0, .slice none 0 0] 40)).setRow w4.heap.size (tbA t a4)) := below_setRow ((Below.refl _ _).alloc (Nat.le_refl _) _) (Nat.le_refl _) _
  have HXB : Hid (((w4.alloc (.cells #[.int .i64 0, .int .i64 0, .int .i64 0, .int .i64 0, .int .i64 0, .int .i64 0, .int .i64 0, .int .i64 0, .int .i64 0, .int .i64 0, .int .i64 0, .int .i64 0, .int .i64 0, .int .i64 0, .int .i64 0, .slice none 0 0, .slice none 0 0, .slice none 0 0, .slice none 0 0] 40)).setRow w4.heap.size (tbA t a4)).heap[w4.heap.size]? = some (.cells (tbA t a4) 40 (0, 0))) := setRow_heap _ _ _ _ _ _ HN.out
  have HBV : Hid (Below w.heap.size w ((w4.alloc (.cells #[.int .i64 0, .int .i64 0, .int .i64 0, .int .i64 0, .int .i64 0, .int .i64 0, .int .i64 0, .int .i64 0, .int .i64 0, .int .i64 0, .int .i64 0, .int .i64 0, .int .i64 0, .int .i64 0, .int .i64 0, .slice none 0 0, .slice none 0 0, .slice none 0 0, .slice none 0 0] 40)).setRow w4.heap.size (tbA t a4))) := HB4.out.trans (hbV.mono HB4.out.size)
  have HXV : Hid (((w4.alloc (.cells #[.int .i64 0, .int .i64 0, .int .i64 0, .int .i64 0, .int .i64 0, .int .i64 0, .int .i64 0, .int .i64 0, .int .i64 0, .int .i64 0, .int .i64 0, .int .i64 0, .int .i64 0, .int .i64 0, .int .i64 0, .slice none 0 0, .slice none 0 0, .slice none 0 0, .slice none 0 0] 40)).setRow w4.heap.size (tbA t a4)).heap[w.heap.size]? = some (.cells (tbA t a) 31 (0, 0))) := row_below HX4.out hbV
  have HCV : Hid (Cpy ((w4.alloc (.cells #[.int .i64 0, .int .i64 0, .int .i64 0, .int .i64 0, .int .i64 0, .int .i64 0, .int .i64 0, .int .i64 0, .int .i64 0, .int .i64 0, .int .i64 0, .int .i64 0, .int .i64 0, .int .i64 0, .int .i64 0, .slice none 0 0, .slice none 0 0, .slice none 0 0, .slice none 0 0] 40)).setRow w4.heap.size (tbA t a4)) t a a4) := HC4.out.below hbV
  clear hbV HB4 HX4 HC4
  go_wp2_with (first | (refine wpList_store_row rfl 40 (.tmp 5) (.tmp 16) rfl w4.heap.size (tbA t a4) rfl rfl 40 #[.int .i64 0, .int .i64 0, .int .i64 0, .int .i64 0, .int .i64 0, .int .i64 0, .int .i64 0, .int .i64 0, .int .i64 0, .int .i64 0, .int .i64 0, .int .i64 0, .int .i64 0, .int .i64 0, .int .i64 0, .slice none 0 0, .slice none 0 0, .slice none 0 0, .slice none 0 0] HN.out (by kernel_rfl) rfl (by simp [Value.oneCell']) ?_) | (refine wpList_load_row rfl 40 (.tmp 5) rfl w4.heap.size rfl 40 (tbA t a4) (0, 0) _ HXB.out Tryz.underlying40 rfl (by kernel_rfl) ?_) | fail)
  clear HN
  revert HXB HBV HXV HCV
  generalize (w4.alloc (.cells #[.int .i64 0, .int .i64 0, .int .i64 0, .int .i64 0, .int .i64 0, .int .i64 0, .int .i64 0, .int .i64 0, .int .i64 0, .int .i64 0, .int .i64 0, .int .i64 0, .int .i64 0, .int .i64 0, .int .i64 0, .slice none 0 0, .slice none 0 0, .slice none 0 0, .slice none 0 0] 40)).setRow w4.heap.size (tbA t a4) = V
  intro HXB HBV HXV HCV
  obtain ⟨N, hN⟩ : ∃ N, w4.heap.size = N := ⟨_, rfl⟩
  rw [hN] at HXB
  rw [hN]
  clear hN
  refine Calls.mono (impl_car t a4 _ HCV.out.m HCV.out.w HCV.out.s (HU.out _ HBV.out).2 HCV.out.c) ?_
  rintro e w5 ⟨⟨R2, rfl, hR2⟩, hb5⟩
  obtain rfl : R1 = R2 := CR.unique HR1.out hR2
  have HB5 : Hid (Below w.heap.size w w5) := HBV.out.trans (hb5.mono HBV.out.size)
  have HX5 : Hid (∀ X, Below w5.heap.size w5 X → X.heap[w.heap.size]? = some (.cells (tbA t a) 31 (0, 0))) := fun X hX => row_below (row_below HXV.out hb5) hX
  have HY5 : Hid (∀ X, Below w5.heap.size w5 X → X.heap[N]? = some (.cells (tbA t a4) 40 (0, 0))) := fun X hX => row_below (row_below HXB.out hb5) hX
  have HC5 : Hid (∀ X, Below w5.heap.size w5 X → Cpy X t a a4) := fun X hX => (HCV.out.below hb5).below hX
  clear hb5 HBV HXV HXB HCV HR1 hR2
  go_wp2
  refine wp_region_inv (by kernel_rfl) (by kernel_rfl) (fun A ℓ a' w' => ∃ (x22 x23 x24 x25 x26 : Value), a' = (((((A.put (some 22) x22).put (some 23) x23).put (some 24) x24).put (some 25) x25).put (some 26) x26) ∧ TI t a a4 w5 w' (ℓ 0) (ℓ 1) (ℓ 2) (ℓ 3) (ℓ 4) x22 x23 x24 x25 x26) ?_ ?_ ?_ ?_
  · exact ⟨undef, undef, undef, undef, undef, (by simp only [Act.put, List.setIfInBounds_toArray, List.set_cons_zero, List.set_cons_succ]), ⟨(Below.refl _ _).drew, (fun g => by cases g), (fun g => by cases g), (fun g => by cases g), (fun g => by cases g), (fun g => by cases g)⟩⟩
  · intro ℓ a' w' hI hall
    obtain ⟨x22, x23, x24, x25, x26, rfl, hr⟩ := hI
    have hall' : ∀ i, i < 5 → ℓ i = true := hall
    obtain rfl := hr.f4 (hall' 4 (by omega))
    have HE : Hid (Below w.heap.size w w') := HB5.out.trans (hr.gb.mono HB5.out.size)
    clear hr hall hall'
    simp only [Act.put, List.setIfInBounds_toArray, List.set_cons_zero, List.set_cons_succ]
    go_wp2
    go_ret
    exact ⟨rfl, HE.out⟩
  · intro ℓ a' w' i o hI ho hi hL hdep K hK
    obtain ⟨x22, x23, x24, x25, x26, rfl, hr⟩ := hI
    have hi7 : i < 5 := hi
    have hcs : i = 0 ∨ i = 1 ∨ i = 2 ∨ i = 3 ∨ i = 4 := by omega
    clear hi hi7
    rcases hcs with rfl | rfl | rfl | rfl | rfl
    · replace ho : some ({ dst := some 22, op := .load 40 (.tmp 5), type := 40, pos := "exact.go:6003", after := #[], guard := none } : Oper) = some o := ho
      obtain rfl := Option.some.inj ho
      clear hdep ho
      rw [if_pos (by rfl)]
      try simp only [Act.put, List.setIfInBounds_toArray, List.set_cons_zero, List.set_cons_succ]
      refine wp_load_row (P := Tryz.prog) 40 (.tmp 5) rfl N rfl 40 (tbA t a4) (0, 0) _ (HY5.out _ hr.gb) Tryz.underlying40 rfl (by kernel_rfl) ?_
      exact hK.out _ _ (fun j => if j = 0 then true else ℓ j) ⟨tbV t a4, x23, x24, x25, x26, (by simp only [Act.put, List.setIfInBounds_toArray, List.set_cons_zero, List.set_cons_succ]), ⟨hr.gb, (fun _ => rfl), hr.f1, hr.f2, hr.f3, hr.f4⟩⟩ (if_pos rfl) (fun j hj => if_neg hj)
    · replace ho : some ({ dst := some 23, op := .load 31 (.tmp 1), type := 31, pos := "exact.go:6003", after := #[], guard := none } : Oper) = some o := ho
      obtain rfl := Option.some.inj ho
      clear hdep ho
      rw [if_pos (by rfl)]
      try simp only [Act.put, List.setIfInBounds_toArray, List.set_cons_zero, List.set_cons_succ]
      refine wp_load_row (P := Tryz.prog) 31 (.tmp 1) rfl w.heap.size rfl 31 (tbA t a) (0, 0) _ (HX5.out _ hr.gb) Tryz.underlying31 rfl (by kernel_rfl) ?_
      exact hK.out _ _ (fun j => if j = 1 then true else ℓ j) ⟨x22, tbV t a, x24, x25, x26, (by simp only [Act.put, List.setIfInBounds_toArray, List.set_cons_zero, List.set_cons_succ]), ⟨hr.gb, hr.f0, (fun _ => rfl), hr.f2, hr.f3, hr.f4⟩⟩ (if_pos rfl) (fun j hj => if_neg hj)
    · obtain rfl := Option.some.inj ho
      have g : ℓ 1 = true := hdep { on := 1, ground := Ground.data } (by simp) rfl
      clear hdep ho
      obtain rfl := hr.f1 g
      rw [if_pos (by rfl)]
      try simp only [Act.put, List.setIfInBounds_toArray, List.set_cons_zero, List.set_cons_succ]
      go_simp
      refine Calls.mono (copy_tab t a _ (HU.out _ (HB5.out.trans (hr.gb.mono HB5.out.size))).1 HW.out HS.out) ?_
      rintro e w9 ⟨a9, rfl, hb9, hc9⟩
      have hr9 := hr.below hb9
      exact hK.out _ _ (fun j => if j = 2 then true else ℓ j) ⟨x22, tbV t a, tbV t a9, x25, x26, (by simp only [Act.put, List.setIfInBounds_toArray, List.set_cons_zero, List.set_cons_succ]), ⟨hr9.gb, hr9.f0, hr9.f1, (fun _ => ⟨a9, rfl, hc9⟩), hr9.f3, hr9.f4⟩⟩ (if_pos rfl) (fun j hj => if_neg hj)
    · obtain rfl := Option.some.inj ho
      have g0 : ℓ 0 = true := hdep { on := 0, ground := Ground.data } (by simp) rfl
      have g2 : ℓ 2 = true := hdep { on := 2, ground := Ground.data } (by simp) rfl
      clear hdep ho
      obtain rfl := hr.f0 g0
      obtain ⟨a9, rfl, hc9⟩ := hr.f2 g2
      have hc4 := HC5.out _ hr.gb
      rw [if_pos (by rfl)]
      try simp only [Act.put, List.setIfInBounds_toArray, List.set_cons_zero, List.set_cons_succ]
      go_simp
      refine Calls.mono (eq_tab t a4 a9 _ hc4.m hc9.m hc4.s (hc9.p1.trans hc4.p1.symm) (hc9.p2.trans hc4.p2.symm) (hc9.p3.trans hc4.p3.symm) (hc9.p4.trans hc4.p4.symm)) ?_
      rintro e w9 ⟨rfl, hb9⟩
      have hr9 := hr.below hb9
      exact hK.out _ _ (fun j => if j = 3 then true else ℓ j) ⟨tbV t a4, x23, tbV t a9, .bool true, x26, (by simp only [Act.put, List.setIfInBounds_toArray, List.set_cons_zero, List.set_cons_succ]), ⟨hr9.gb, hr9.f0, hr9.f1, hr9.f2, (fun _ => rfl), hr9.f4⟩⟩ (if_pos rfl) (fun j hj => if_neg hj)
    · obtain rfl := Option.some.inj ho
      have g : ℓ 3 = true := hdep { on := 3, ground := Ground.data } (by simp) rfl
      clear hdep ho
      obtain rfl := hr.f3 g
      rw [if_pos (by rfl)]
      try simp only [Act.put, List.setIfInBounds_toArray, List.set_cons_zero, List.set_cons_succ]
      go_simp
      exact hK.out _ _ (fun j => if j = 4 then true else ℓ j) ⟨x22, x23, x24, .bool true, .bool false, (by simp only [Act.put, List.setIfInBounds_toArray, List.set_cons_zero, List.set_cons_succ]), ⟨hr.gb, hr.f0, hr.f1, hr.f2, hr.f3, (fun _ => rfl)⟩⟩ (if_pos rfl) (fun j hj => if_neg hj)
  · rintro a' w' ℓ ℓ' hℓ hI
    rw [← show ℓ = ℓ' from funext hℓ]
    exact hI
set_option maxRecDepth 40000 in
set_option maxHeartbeats 8000000 in
theorem walk_spare (t : Tb) (a : Ad) (w : World) (hm : TM 0 w t a) (hw : TW t a) (he : TabE w) : Calls Tryz.prog 4 #[tbV t a] w fun e w' => e = .returned (.bool true) ∧ Below w.heap.size w w' := by
  have HU : Hid (∀ X, Below w.heap.size w X → TM 0 X t a ∧ TabE X) := fun X hX => ⟨hm.below hX, he.below hX⟩
  have HW : Hid (TW t a) := hw
  have HB0 : Hid (Below w.heap.size w (w.alloc (.cells (tbA t a) 31))) := (Below.refl _ _).alloc (Nat.le_refl _) _
  have HX0 : Hid ((w.alloc (.cells (tbA t a) 31)).heap[w.heap.size]? = some (.cells (tbA t a) 31 (0, 0))) := new_row w _ _ _ rfl
  clear hm hw he
  go_enter Tryz.func4, Tryz.ntmps4
  go_wp2_with (first | (refine wpList_load_row rfl 31 (.tmp 1) rfl w.heap.size rfl 31 (tbA t a) (0, 0) _ HX0.out Tryz.underlying31 rfl (by kernel_rfl) ?_) | fail)
  refine Calls.mono (sz_tab t a _ (HU.out _ HB0.out).1 HW.out) ?_
  rintro e w1 ⟨⟨r, rfl, hr⟩, hb1⟩
  have HB1 : Hid (Below w.heap.size w w1) := HB0.out.trans (hb1.mono HB0.out.size)
  have HX1 : Hid (w1.heap[w.heap.size]? = some (.cells (tbA t a) 31 (0, 0))) := row_below HX0.out hb1
  clear hb1 HB0 HX0
  rcases hr with rfl | ⟨h0, hs⟩
  · go_wp2
    go_ret
    exact ⟨rfl, HB1.out⟩
  have HS : Hid (TS a) := hs
  clear hs
  have hr0 : ¬ (r < 0) := by omega
  go_wp2_with (first | (refine wpList_load_row rfl 31 (.tmp 1) rfl w.heap.size rfl 31 (tbA t a) (0, 0) _ HX1.out Tryz.underlying31 rfl (by kernel_rfl) ?_) | fail)
  refine Calls.mono (copy_tab t a _ (HU.out _ HB1.out).1 HW.out HS.out) ?_
  rintro e w2 ⟨a2, rfl, hb2, hc2⟩
  have HB2 : Hid (Below w.heap.size w w2) := HB1.out.trans (hb2.mono HB1.out.size)
  have HX2 : Hid (w2.heap[w.heap.size]? = some (.cells (tbA t a) 31 (0, 0))) := row_below HX1.out hb2
  have HC2 : Hid (Cpy w2 t a a2) := hc2
  clear hb2 hc2 HB1 HX1
  go_wp2_with fail
  refine Calls.mono (spec_spare t a2 _ HC2.out.m HC2.out.w HC2.out.s) ?_
  rintro e w3 ⟨⟨R1, rfl, hR1⟩, hb3⟩
  have HB3 : Hid (Below w.heap.size w w3) := HB2.out.trans (hb3.mono HB2.out.size)
  have HX3 : Hid (w3.heap[w.heap.size]? = some (.cells (tbA t a) 31 (0, 0))) := row_below HX2.out hb3
  have HR1 : Hid (PR t R1) := hR1
  clear hb3 HB2 HX2 HC2 hR1
  go_wp2_with (first | (refine wpList_load_row rfl 31 (.tmp 1) rfl w.heap.size rfl 31 (tbA t a) (0, 0) _ HX3.out Tryz.underlying31 rfl (by kernel_rfl) ?_) | fail)
  refine Calls.mono (copy_tab t a _ (HU.out _ HB3.out).1 HW.out HS.out) ?_
  rintro e w4 ⟨a4, rfl, hb4, hc4⟩
  have HB4 : Hid (Below w.heap.size w w4) := HB3.out.trans (hb4.mono HB3.out.size)
  have HX4 : Hid (w4.heap[w.heap.size]? = some (.cells (tbA t a) 31 (0, 0))) := row_below HX3.out hb4
  have HC4 : Hid (Cpy w4 t a a4) := hc4
  clear hb4 hc4 HB3 HX3
  have HN : Hid ((w4.alloc (.cells #[.int .i64 0, .int .i64 0, .int .i64 0, .int .i64 0, .int .i64 0, .int .i64 0, .int .i64 0, .int .i64 0, .int .i64 0, .int .i64 0, .int .i64 0, .int .i64 0, .int .i64 0, .int .i64 0, .int .i64 0, .slice none 0 0, .slice none 0 0, .slice none 0 0, .slice none 0 0] 40)).heap[w4.heap.size]? = some (.cells #[.int .i64 0, .int .i64 0, .int .i64 0, .int .i64 0, .int .i64 0, .int .i64 0, .int .i64 0, .int .i64 0, .int .i64 0, .int .i64 0, .int .i64 0, .int .i64 0, .int .i64 0, .int .i64 0, .int .i64 0, .slice none 0 0, .slice none 0 0, .slice none 0 0, .slice none 0 0] 40 (0, 0))) := new_row w4 _ _ _ rfl
  have hbV : Below w4.heap.size w4 ((w4.alloc (.cells #[.int .i64 0, .int .i64 0, .int .i64 0, .int .i64 0, .int .i64 0, .int .i64 0, .int .i64 0, .int .i64 0, .int .i64 0, .int .i64 0, .int .i64 0, .int .i64 0, .int .i64 0, .int .i64 0, .int .i64 0, .slice none 0 0, .slice none 0 0, .slice none 0 0, .slice none 0 0] 40)).setRow w4.heap.size (tbA t a4)) := below_setRow ((Below.refl _ _).alloc (Nat.le_refl _) _) (Nat.le_refl _) _
  have HXB : Hid (((w4.alloc (.cells #[.int .i64 0, .int .i64 0, .int .i64 0, .int .i64 0, .int .i64 0, .int .i64 0, .int .i64 0, .int .i64 0, .int .i64 0, .int .i64 0, .int .i64 0, .int .i64 0, .int .i64 0, .int .i64 0, .int .i64 0, .slice none 0 0, .slice none 0 0, .slice none 0 0, .slice none 0 0] 40)).setRow w4.heap.size (tbA t a4)).heap[w4.heap.size]? = some (.cells (tbA t a4) 40 (0, 0))) := setRow_heap _ _ _ _ _ _ HN.out
  have HBV : Hid (Below w.heap.size w ((w4.alloc (.cells #[.int .i64 0, .int .i64 0, .int .i64 0, .int .i64 0, .int .i64 0, .int .i64 0, .int .i64 0, .int .i64 0, .int .i64 0, .int .i64 0, .int .i64 0, .int .i64 0, .int .i64 0, .int .i64 0, .int .i64 0, .slice none 0 0, .slice none 0 0, .slice none 0 0, .slice none 0 0] 40)).setRow w4.heap.size (tbA t a4))) := HB4.out.trans (hbV.mono HB4.out.size)
  have HXV : Hid (((w4.alloc (.cells #[.int .i64 0, .int .i64 0, .int .i64 0, .int .i64 0, .int .i64 0, .int .i64 0, .int .i64 0, .int .i64 0, .int .i64 0, .int .i64 0, .int .i64 0, .int .i64 0, .int .i64 0, .int .i64 0, .int .i64 0, .slice none 0 0, .slice none 0 0, .slice none 0 0, .slice none 0 0] 40)).setRow w4.heap.size (tbA t a4)).heap[w.heap.size]? = some (.cells (tbA t a) 31 (0, 0))) := row_below HX4.out hbV
  have HCV : Hid (Cpy ((w4.alloc (.cells #[.int .i64 0, .int .i64 0, .int .i64 0, .int .i64 0, .int .i64 0, .int .i64 0, .int .i64 0, .int .i64 0, .int .i64 0, .int .i64 0, .int .i64 0, .int .i64 0, .int .i64 0, .int .i64 0, .int .i64 0, .slice none 0 0, .slice none 0 0, .slice none 0 0, .slice none 0 0] 40)).setRow w4.heap.size (tbA t a4)) t a a4) := HC4.out.below hbV
  clear hbV HB4 HX4 HC4
  go_wp2_with (first | (refine wpList_store_row rfl 40 (.tmp 5) (.tmp 16) rfl w4.heap.size (tbA t a4) rfl rfl 40 #[.int .i64 0, .int .i64 0, .int .i64 0, .int .i64 0, .int .i64 0, .int .i64 0, .int .i64 0, .int .i64 0, .int .i64 0, .int .i64 0, .int .i64 0, .int .i64 0, .int .i64 0, .int .i64 0, .int .i64 0, .slice none 0 0, .slice none 0 0, .slice none 0 0, .slice none 0 0] HN.out (by kernel_rfl) rfl (by simp [Value.oneCell']) ?_) | (refine wpList_load_row rfl 40 (.tmp 5) rfl w4.heap.size rfl 40 (tbA t a4) (0, 0) _ HXB.out Tryz.underlying40 rfl (by kernel_rfl) ?_) | fail)
  clear HN
  revert HXB HBV HXV HCV
  generalize (w4.alloc (.cells #[.int .i64 0, .int .i64 0, .int .i64 0, .int .i64 0, .int .i64 0, .int .i64 0, .int .i64 0, .int .i64 0, .int .i64 0, .int .i64 0, .int .i64 0, .int .i64 0, .int .i64 0, .int .i64 0, .int .i64 0, .slice none 0 0, .slice none 0 0, .slice none 0 0, .slice none 0 0] 40)).setRow w4.heap.size (tbA t a4) = V
  intro HXB HBV HXV HCV
  obtain ⟨N, hN⟩ : ∃ N, w4.heap.size = N := ⟨_, rfl⟩
  rw [hN] at HXB
  rw [hN]
  clear hN
  refine Calls.mono (impl_spare t a4 _ HCV.out.m HCV.out.w HCV.out.s (HU.out _ HBV.out).2 HCV.out.c) ?_
  rintro e w5 ⟨⟨R2, rfl, hR2⟩, hb5⟩
  obtain rfl : R1 = R2 := PR.unique HR1.out hR2
  have HB5 : Hid (Below w.heap.size w w5) := HBV.out.trans (hb5.mono HBV.out.size)
  have HX5 : Hid (∀ X, Below w5.heap.size w5 X → X.heap[w.heap.size]? = some (.cells (tbA t a) 31 (0, 0))) := fun X hX => row_below (row_below HXV.out hb5) hX
  have HY5 : Hid (∀ X, Below w5.heap.size w5 X → X.heap[N]? = some (.cells (tbA t a4) 40 (0, 0))) := fun X hX => row_below (row_below HXB.out hb5) hX
  have HC5 : Hid (∀ X, Below w5.heap.size w5 X → Cpy X t a a4) := fun X hX => (HCV.out.below hb5).below hX
  clear hb5 HBV HXV HXB HCV HR1 hR2
  go_wp2
  refine wp_region_inv (by kernel_rfl) (by kernel_rfl) (fun A ℓ a' w' => ∃ (x22 x23 x24 x25 x26 : Value), a' = (((((A.put (some 22) x22).put (some 23) x23).put (some 24) x24).put (some 25) x25).put (some 26) x26) ∧ TI t a a4 w5 w' (ℓ 0) (ℓ 1) (ℓ 2) (ℓ 3) (ℓ 4) x22 x23 x24 x25 x26) ?_ ?_ ?_ ?_
  · exact ⟨undef, undef, undef, undef, undef, (by simp only [Act.put, List.setIfInBounds_toArray, List.set_cons_zero, List.set_cons_succ]), ⟨(Below.refl _ _).drew, (fun g => by cases g), (fun g => by cases g), (fun g => by cases g), (fun g => by cases g), (fun g => by cases g)⟩⟩
  · intro ℓ a' w' hI hall
    obtain ⟨x22, x23, x24, x25, x26, rfl, hr⟩ := hI
    have hall' : ∀ i, i < 5 → ℓ i = true := hall
    obtain rfl := hr.f4 (hall' 4 (by omega))
    have HE : Hid (Below w.heap.size w w') := HB5.out.trans (hr.gb.mono HB5.out.size)
    clear hr hall hall'
    simp only [Act.put, List.setIfInBounds_toArray, List.set_cons_zero, List.set_cons_succ]
    go_wp2
    go_ret
    exact ⟨rfl, HE.out⟩
  · intro ℓ a' w' i o hI ho hi hL hdep K hK
    obtain ⟨x22, x23, x24, x25, x26, rfl, hr⟩ := hI
    have hi7 : i < 5 := hi
    have hcs : i = 0 ∨ i = 1 ∨ i = 2 ∨ i = 3 ∨ i = 4 := by omega
    clear hi hi7
    rcases hcs with rfl | rfl | rfl | rfl | rfl
    · replace ho : some ({ dst := some 22, op := .load 40 (.tmp 5), type := 40, pos := "exact.go:6022", after := #[], guard := none } : Oper) = some o := ho
      obtain rfl := Option.some.inj ho
      clear hdep ho
      rw [if_pos (by rfl)]
      try simp only [Act.put, List.setIfInBounds_toArray, List.set_cons_zero, List.set_cons_succ]
      refine wp_load_row (P := Tryz.prog) 40 (.tmp 5) rfl N rfl 40 (tbA t a4) (0, 0) _ (HY5.out _ hr.gb) Tryz.underlying40 rfl (by kernel_rfl) ?_
      exact hK.out _ _ (fun j => if j = 0 then true else ℓ j) ⟨tbV t a4, x23, x24, x25, x26, (by simp only [Act.put, List.setIfInBounds_toArray, List.set_cons_zero, List.set_cons_succ]), ⟨hr.gb, (fun _ => rfl), hr.f1, hr.f2, hr.f3, hr.f4⟩⟩ (if_pos rfl) (fun j hj => if_neg hj)
    · replace ho : some ({ dst := some 23, op := .load 31 (.tmp 1), type := 31, pos := "exact.go:6022", after := #[], guard := none } : Oper) = some o := ho
      obtain rfl := Option.some.inj ho
      clear hdep ho
      rw [if_pos (by rfl)]
      try simp only [Act.put, List.setIfInBounds_toArray, List.set_cons_zero, List.set_cons_succ]
      refine wp_load_row (P := Tryz.prog) 31 (.tmp 1) rfl w.heap.size rfl 31 (tbA t a) (0, 0) _ (HX5.out _ hr.gb) Tryz.underlying31 rfl (by kernel_rfl) ?_
      exact hK.out _ _ (fun j => if j = 1 then true else ℓ j) ⟨x22, tbV t a, x24, x25, x26, (by simp only [Act.put, List.setIfInBounds_toArray, List.set_cons_zero, List.set_cons_succ]), ⟨hr.gb, hr.f0, (fun _ => rfl), hr.f2, hr.f3, hr.f4⟩⟩ (if_pos rfl) (fun j hj => if_neg hj)
    · obtain rfl := Option.some.inj ho
      have g : ℓ 1 = true := hdep { on := 1, ground := Ground.data } (by simp) rfl
      clear hdep ho
      obtain rfl := hr.f1 g
      rw [if_pos (by rfl)]
      try simp only [Act.put, List.setIfInBounds_toArray, List.set_cons_zero, List.set_cons_succ]
      go_simp
      refine Calls.mono (copy_tab t a _ (HU.out _ (HB5.out.trans (hr.gb.mono HB5.out.size))).1 HW.out HS.out) ?_
      rintro e w9 ⟨a9, rfl, hb9, hc9⟩
      have hr9 := hr.below hb9
      exact hK.out _ _ (fun j => if j = 2 then true else ℓ j) ⟨x22, tbV t a, tbV t a9, x25, x26, (by simp only [Act.put, List.setIfInBounds_toArray, List.set_cons_zero, List.set_cons_succ]), ⟨hr9.gb, hr9.f0, hr9.f1, (fun _ => ⟨a9, rfl, hc9⟩), hr9.f3, hr9.f4⟩⟩ (if_pos rfl) (fun j hj => if_neg hj)
    · obtain rfl := Option.some.inj ho
      have g0 : ℓ 0 = true := hdep { on := 0, ground := Ground.data } (by simp) rfl
      have g2 : ℓ 2 = true := hdep { on := 2, ground := Ground.data } (by simp) rfl
      clear hdep ho
      obtain rfl := hr.f0 g0
      obtain ⟨a9, rfl, hc9⟩ := hr.f2 g2
      have hc4 := HC5.out _ hr.gb
      rw [if_pos (by rfl)]
      try simp only [Act.put, List.setIfInBounds_toArray, List.set_cons_zero, List.set_cons_succ]
      go_simp
      refine Calls.mono (eq_tab t a4 a9 _ hc4.m hc9.m hc4.s (hc9.p1.trans hc4.p1.symm) (hc9.p2.trans hc4.p2.symm) (hc9.p3.trans hc4.p3.symm) (hc9.p4.trans hc4.p4.symm)) ?_
      rintro e w9 ⟨rfl, hb9⟩
      have hr9 := hr.below hb9
      exact hK.out _ _ (fun j => if j = 3 then true else ℓ j) ⟨tbV t a4, x23, tbV t a9, .bool true, x26, (by simp only [Act.put, List.setIfInBounds_toArray, List.set_cons_zero, List.set_cons_succ]), ⟨hr9.gb, hr9.f0, hr9.f1, hr9.f2, (fun _ => rfl), hr9.f4⟩⟩ (if_pos rfl) (fun j hj => if_neg hj)
    · obtain rfl := Option.some.inj ho
      have g : ℓ 3 = true := hdep { on := 3, ground := Ground.data } (by simp) rfl
      clear hdep ho
      obtain rfl := hr.f3 g
      rw [if_pos (by rfl)]
      try simp only [Act.put, List.setIfInBounds_toArray, List.set_cons_zero, List.set_cons_succ]
      go_simp
      exact hK.out _ _ (fun j => if j = 4 then true else ℓ j) ⟨x22, x23, x24, .bool true, .bool false, (by simp only [Act.put, List.setIfInBounds_toArray, List.set_cons_zero, List.set_cons_succ]), ⟨hr.gb, hr.f0, hr.f1, hr.f2, hr.f3, (fun _ => rfl)⟩⟩ (if_pos rfl) (fun j hj => if_neg hj)
  · rintro a' w' ℓ ℓ' hℓ hI
    rw [← show ℓ = ℓ' from funext hℓ]
    exact hI
end Go.Proofs.YtoalamgongaaeaaGreatDoor
