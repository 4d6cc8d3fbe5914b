
/-
  What the channels can carry and what a pad has to spare: both sides, and the laws, walked. Conditions: the lists lie in memory; the program's table of extras holds what the program's text lays.
-/
import Derived.Test.YtnifidijheeebaaGreatDoorBas
import Derived.Test.YtnifidijheeebaaGreatDoorLsw
import Derived.Test.YtnifidijheeebaaGreatDoorWpd
namespace Go.Proofs.YtnifidijheeebaaGreatDoor
open Go.ChangeShapes Go.WideShapes Go.ChangeAt Go.RowKit Go.Deep Go.Joins
set_option linter.unusedVariables false

/-- What soundness says of channels. -/
theorem sd_chans {t : Tb} (h : Sd t) : t.cs.length ≤ 8 ∧ allCh t.cs t.cs.length ∧ padOk t.c1 t.c2 t.c3 t.c4 t.c5 t.c6 t.c7 t.s1 t.s2 t.s3 t.cs t.cs.length := by
  have h18 := h 18 (by omega)
  have h19 := h 19 (by omega)
  have h1 := h 1 (by omega)
  have h3 := h 3 (by omega)
  simp only [R] at h18 h19 h1 h3
  have ha : allCh t.cs t.cs.length := fun i hi => (h19 i hi).1
  exact ⟨h18, ha, h3, h1, h18, ha⟩
def CR (t : Tb) (r : Int) : Prop := (¬ Sd t ∧ r = -1) ∨ (Sd t ∧ r = mostN t.cs t.cs.length)
theorem CR.unique {t : Tb} {r s : Int} (h : CR t r) (g : CR t s) : r = s := by
  rcases h with ⟨h, rfl⟩ | ⟨h, h1⟩ <;> rcases g with ⟨g, rfl⟩ | ⟨g, g1⟩
  · rfl
  · exact absurd g h
  · exact absurd h g
  · rw [h1, g1]
def PR (t : Tb) (r : Int) : Prop := (¬ Sd t ∧ r = -1) ∨ (Sd t ∧ r = t.pad - padV t)
theorem PR.unique {t : Tb} {r s : Int} (h : PR t r) (g : PR t s) : r = s := by
  rcases h with ⟨h, rfl⟩ | ⟨h, h1⟩ <;> rcases g with ⟨g, rfl⟩ | ⟨g, g1⟩
  · rfl
  · exact absurd g h
  · exact absurd h g
  · rw [h1, g1]
set_option maxRecDepth 40000 in
set_option maxHeartbeats 8000000 in
theorem impl_car0 (t : Tb) (pa da ca sa : Option Addr) (pn pc dn dc cn cc n sc : Nat) (Y : Nat → Rw) (w : World) (hm : TM 0 w t ⟨pa, pn, pc, da, dn, dc, ca, cn, cc, sa, n, sc, Y⟩) (hw : TW t ⟨pa, pn, pc, da, dn, dc, ca, cn, cc, sa, n, sc, Y⟩) (hs : TS ⟨pa, pn, pc, da, dn, dc, ca, cn, cc, sa, n, sc, Y⟩) (he : TabE w) (hcp : pn ≤ pc) :
    Calls Tryz.prog 24 #[.agg #[.int .i64 t.mem, .int .i64 t.s1, .int .i64 t.s2, .int .i64 t.s3, .int .i64 t.tlb, .int .i64 t.c1, .int .i64 t.c2, .int .i64 t.c3, .int .i64 t.c4, .int .i64 t.c5, .int .i64 t.c6, .int .i64 t.c7, .int .i64 t.pad, .int .i64 t.grd, .int .i64 t.maj, .slice pa pn pc, .slice da dn dc, .slice ca cn cc, .slice sa n sc]] w fun e w' => (∃ r : Int, e = .returned (.int .i64 r) ∧ CR t r) ∧ Below w.heap.size w w' := by
  obtain ⟨q, hq⟩ := told (Sd t)
  have HB0 : Hid (Below w.heap.size w (w.alloc (.cells #[.int .i64 t.mem, .int .i64 t.s1, .int .i64 t.s2, .int .i64 t.s3, .int .i64 t.tlb, .int .i64 t.c1, .int .i64 t.c2, .int .i64 t.c3, .int .i64 t.c4, .int .i64 t.c5, .int .i64 t.c6, .int .i64 t.c7, .int .i64 t.pad, .int .i64 t.grd, .int .i64 t.maj, .slice pa pn pc, .slice da dn dc, .slice ca cn cc, .slice sa n sc] 46))) := (Below.refl _ _).alloc (Nat.le_refl _) _
  have HX0 : Hid (TBx (w.alloc (.cells #[.int .i64 t.mem, .int .i64 t.s1, .int .i64 t.s2, .int .i64 t.s3, .int .i64 t.tlb, .int .i64 t.c1, .int .i64 t.c2, .int .i64 t.c3, .int .i64 t.c4, .int .i64 t.c5, .int .i64 t.c6, .int .i64 t.c7, .int .i64 t.pad, .int .i64 t.grd, .int .i64 t.maj, .slice pa pn pc, .slice da dn dc, .slice ca cn cc, .slice sa n sc] 46)) w.heap.size t ⟨pa, pn, pc, da, dn, dc, ca, cn, cc, sa, n, sc, Y⟩) := TBx.new w t ⟨pa, pn, pc, da, dn, dc, ca, cn, cc, sa, n, sc, Y⟩ _ rfl
  have HSP : Hid (Calls Tryz.prog 50 #[.agg #[.int .i64 t.mem, .int .i64 t.s1, .int .i64 t.s2, .int .i64 t.s3, .int .i64 t.tlb, .int .i64 t.c1, .int .i64 t.c2, .int .i64 t.c3, .int .i64 t.c4, .int .i64 t.c5, .int .i64 t.c6, .int .i64 t.c7, .int .i64 t.pad, .int .i64 t.grd, .int .i64 t.maj, .slice pa pn pc, .slice da dn dc, .slice ca cn cc, .slice sa n sc]] (w.alloc (.cells #[.int .i64 t.mem, .int .i64 t.s1, .int .i64 t.s2, .int .i64 t.s3, .int .i64 t.tlb, .int .i64 t.c1, .int .i64 t.c2, .int .i64 t.c3, .int .i64 t.c4, .int .i64 t.c5, .int .i64 t.c6, .int .i64 t.c7, .int .i64 t.pad, .int .i64 t.grd, .int .i64 t.maj, .slice pa pn pc, .slice da dn dc, .slice ca cn cc, .slice sa n sc] 46)) fun e w' => e = .returned (.bool q) ∧ Below (w.alloc (.cells #[.int .i64 t.mem, .int .i64 t.s1, .int .i64 t.s2, .int .i64 t.s3, .int .i64 t.tlb, .int .i64 t.c1, .int .i64 t.c2, .int .i64 t.c3, .int .i64 t.c4, .int .i64 t.c5, .int .i64 t.c6, .int .i64 t.c7, .int .i64 t.pad, .int .i64 t.grd, .int .i64 t.maj, .slice pa pn pc, .slice da dn dc, .slice ca cn cc, .slice sa n sc] 46)).heap.size (w.alloc (.cells #[.int .i64 t.mem, .int .i64 t.s1, .int .i64 t.s2, .int .i64 t.s3, .int .i64 t.tlb, .int .i64 t.c1, .int .i64 t.c2, .int .i64 t.c3, .int .i64 t.c4, .int .i64 t.c5, .int .i64 t.c6, .int .i64 t.c7, .int .i64 t.pad, .int .i64 t.grd, .int .i64 t.maj, .slice pa pn pc, .slice da dn dc, .slice ca cn cc, .slice sa n sc] 46)) w') := impl_sound t ⟨pa, pn, pc, da, dn, dc, ca, cn, cc, sa, n, sc, Y⟩ q _ (hm.below HB0.out) hw hs (he.below HB0.out) hcp hq
  have HS : Hid (GSeg 4 w ca cn (chX t.cs)) := hm.c.seg
  have HL : Hid (t.cs.length = cn) := hw.cl
  have HQ : Hid (q = true ↔ Sd t) := hq
  clear hm hw hs hq he hcp
  go_enter Tryz.func24, Tryz.ntmps24
  go_wp2_with (first | (refine wpList_load_row rfl 46 (.tmp 1) rfl w.heap.size rfl 46 #[.int .i64 t.mem, .int .i64 t.s1, .int .i64 t.s2, .int .i64 t.s3, .int .i64 t.tlb, .int .i64 t.c1, .int .i64 t.c2, .int .i64 t.c3, .int .i64 t.c4, .int .i64 t.c5, .int .i64 t.c6, .int .i64 t.c7, .int .i64 t.pad, .int .i64 t.grd, .int .i64 t.maj, .slice pa pn pc, .slice da dn dc, .slice ca cn cc, .slice sa n sc] (0, 0) _ HX0.out Tryz.underlying46 rfl (by kernel_rfl) ?_) | fail)
  refine Calls.mono HSP.out ?_
  rintro e w1 ⟨rfl, hb1⟩
  have HB1 : Hid (Below w.heap.size w w1) := HB0.out.trans (hb1.mono HB0.out.size)
  have HX1 : Hid (TBx w1 w.heap.size t ⟨pa, pn, pc, da, dn, dc, ca, cn, cc, sa, n, sc, Y⟩) := HX0.out.below hb1
  clear hb1 HB0 HX0 HSP
  cases q
  · have HT : Hid (¬ Sd t) := fun h => by have := HQ.out.2 h; cases this
    go_wp2
    go_ret
    exact ⟨⟨_, rfl, .inl ⟨HT.out, rfl⟩⟩, HB1.out⟩
  have HT : Hid (Sd t) := HQ.out.1 rfl
  clear HQ
  have HCA : Hid (cn ≤ 8 ∧ allCh t.cs cn) := by
    have := sd_chans HT.out
    rw [HL.out] at this
    exact ⟨this.1, this.2.1⟩
  have HRE : Hid (CR t (mostN t.cs cn)) := .inr ⟨HT.out, by rw [HL.out]⟩
  have k17 : w1.cell? ⟨w.heap.size, 17, none⟩ = some (.slice ca cn cc) := HX1.out.cell 17 rfl
  go_wp2_with fail
  refine Calls.mono (impl_carried ca cc cn t.cs _ (HS.out.below HB1.out) HCA.out.1 HCA.out.2) ?_
  rintro e w2 ⟨rfl, hb2⟩
  have HB2 : Hid (Below w.heap.size w w2) := HB1.out.trans (hb2.mono HB1.out.size)
  clear hb2 k17
  go_wp2
  go_ret
  exact ⟨⟨_, rfl, HRE.out⟩, HB2.out⟩
theorem impl_car (t : Tb) (a : Ad) (w : World) (hm : TM 0 w t a) (hw : TW t a) (hs : TS a) (he : TabE w) (hcp : a.pn ≤ a.pc) :
    Calls Tryz.prog 24 #[tbV t a] w fun e w' => (∃ r : Int, e = .returned (.int .i64 r) ∧ CR t r) ∧ Below w.heap.size w w' :=
  impl_car0 t a.pa a.da a.ca a.sa a.pn a.pc a.dn a.dc a.cn a.cc a.sn a.sc a.Y w hm hw hs he hcp
set_option maxRecDepth 40000 in
set_option maxHeartbeats 8000000 in
theorem spec_car0 (t : Tb) (pa da ca sa : Option Addr) (pn pc dn dc cn cc n sc : Nat) (Y : Nat → Rw) (w : World) (hm : TM 0 w t ⟨pa, pn, pc, da, dn, dc, ca, cn, cc, sa, n, sc, Y⟩) (hw : TW t ⟨pa, pn, pc, da, dn, dc, ca, cn, cc, sa, n, sc, Y⟩) (hs : TS ⟨pa, pn, pc, da, dn, dc, ca, cn, cc, sa, n, sc, Y⟩) :
    Calls Tryz.prog 20 #[.agg #[.int .i64 t.mem, .int .i64 t.s1, .int .i64 t.s2, .int .i64 t.s3, .int .i64 t.tlb, .int .i64 t.c1, .int .i64 t.c2, .int .i64 t.c3, .int .i64 t.c4, .int .i64 t.c5, .int .i64 t.c6, .int .i64 t.c7, .int .i64 t.pad, .int .i64 t.grd, .int .i64 t.maj, .slice pa pn pc, .slice da dn dc, .slice ca cn cc, .slice sa n sc]] w fun e w' => (∃ r : Int, e = .returned (.int .i64 r) ∧ CR t r) ∧ Below w.heap.size w w' := by
  obtain ⟨q, hq⟩ := told (Sd t)
  have HB0 : Hid (Below w.heap.size w (w.alloc (.cells #[.int .i64 t.mem, .int .i64 t.s1, .int .i64 t.s2, .int .i64 t.s3, .int .i64 t.tlb, .int .i64 t.c1, .int .i64 t.c2, .int .i64 t.c3, .int .i64 t.c4, .int .i64 t.c5, .int .i64 t.c6, .int .i64 t.c7, .int .i64 t.pad, .int .i64 t.grd, .int .i64 t.maj, .slice pa pn pc, .slice da dn dc, .slice ca cn cc, .slice sa n sc] 46))) := (Below.refl _ _).alloc (Nat.le_refl _) _
  have HX0 : Hid (TBx (w.alloc (.cells #[.int .i64 t.mem, .int .i64 t.s1, .int .i64 t.s2, .int .i64 t.s3, .int .i64 t.tlb, .int .i64 t.c1, .int .i64 t.c2, .int .i64 t.c3, .int .i64 t.c4, .int .i64 t.c5, .int .i64 t.c6, .int .i64 t.c7, .int .i64 t.pad, .int .i64 t.grd, .int .i64 t.maj, .slice pa pn pc, .slice da dn dc, .slice ca cn cc, .slice sa n sc] 46)) w.heap.size t ⟨pa, pn, pc, da, dn, dc, ca, cn, cc, sa, n, sc, Y⟩) := TBx.new w t ⟨pa, pn, pc, da, dn, dc, ca, cn, cc, sa, n, sc, Y⟩ _ rfl
  have HSP : Hid (Calls Tryz.prog 18 #[.agg #[.int .i64 t.mem, .int .i64 t.s1, .int .i64 t.s2, .int .i64 t.s3, .int .i64 t.tlb, .int .i64 t.c1, .int .i64 t.c2, .int .i64 t.c3, .int .i64 t.c4, .int .i64 t.c5, .int .i64 t.c6, .int .i64 t.c7, .int .i64 t.pad, .int .i64 t.grd, .int .i64 t.maj, .slice pa pn pc, .slice da dn dc, .slice ca cn cc, .slice sa n sc]] (w.alloc (.cells #[.int .i64 t.mem, .int .i64 t.s1, .int .i64 t.s2, .int .i64 t.s3, .int .i64 t.tlb, .int .i64 t.c1, .int .i64 t.c2, .int .i64 t.c3, .int .i64 t.c4, .int .i64 t.c5, .int .i64 t.c6, .int .i64 t.c7, .int .i64 t.pad, .int .i64 t.grd, .int .i64 t.maj, .slice pa pn pc, .slice da dn dc, .slice ca cn cc, .slice sa n sc] 46)) fun e w' => e = .returned (.bool q) ∧ Below (w.alloc (.cells #[.int .i64 t.mem, .int .i64 t.s1, .int .i64 t.s2, .int .i64 t.s3, .int .i64 t.tlb, .int .i64 t.c1, .int .i64 t.c2, .int .i64 t.c3, .int .i64 t.c4, .int .i64 t.c5, .int .i64 t.c6, .int .i64 t.c7, .int .i64 t.pad, .int .i64 t.grd, .int .i64 t.maj, .slice pa pn pc, .slice da dn dc, .slice ca cn cc, .slice sa n sc] 46)).heap.size (w.alloc (.cells #[.int .i64 t.mem, .int .i64 t.s1, .int .i64 t.s2, .int .i64 t.s3, .int .i64 t.tlb, .int .i64 t.c1, .int .i64 t.c2, .int .i64 t.c3, .int .i64 t.c4, .int .i64 t.c5, .int .i64 t.c6, .int .i64 t.c7, .int .i64 t.pad, .int .i64 t.grd, .int .i64 t.maj, .slice pa pn pc, .slice da dn dc, .slice ca cn cc, .slice sa n sc] 46)) w') := spec_sound t ⟨pa, pn, pc, da, dn, dc, ca, cn, cc, sa, n, sc, Y⟩ q _ (hm.below HB0.out) hw hs hq
  have HS : Hid (GSeg 4 w ca cn (chX t.cs)) := hm.c.seg
  have HL : Hid (t.cs.length = cn) := hw.cl
  have HQ : Hid (q = true ↔ Sd t) := hq
  clear hm hw hs hq
  go_enter Tryz.func20, Tryz.ntmps20
  go_wp2_with (first | (refine wpList_load_row rfl 46 (.tmp 1) rfl w.heap.size rfl 46 #[.int .i64 t.mem, .int .i64 t.s1, .int .i64 t.s2, .int .i64 t.s3, .int .i64 t.tlb, .int .i64 t.c1, .int .i64 t.c2, .int .i64 t.c3, .int .i64 t.c4, .int .i64 t.c5, .int .i64 t.c6, .int .i64 t.c7, .int .i64 t.pad, .int .i64 t.grd, .int .i64 t.maj, .slice pa pn pc, .slice da dn dc, .slice ca cn cc, .slice sa n sc] (0, 0) _ HX0.out Tryz.underlying46 rfl (by kernel_rfl) ?_) | fail)
  refine Calls.mono HSP.out ?_
  rintro e w1 ⟨rfl, hb1⟩
  have HB1 : Hid (Below w.heap.size w w1) := HB0.out.trans (hb1.mono HB0.out.size)
  have HX1 : Hid (TBx w1 w.heap.size t ⟨pa, pn, pc, da, dn, dc, ca, cn, cc, sa, n, sc, Y⟩) := HX0.out.below hb1
  clear hb1 HB0 HX0 HSP
  cases q
  · have HT : Hid (¬ Sd t) := fun h => by have := HQ.out.2 h; cases this
    go_wp2
    go_ret
    exact ⟨⟨_, rfl, .inl ⟨HT.out, rfl⟩⟩, HB1.out⟩
  have HT : Hid (Sd t) := HQ.out.1 rfl
  clear HQ
  have HCA : Hid (cn ≤ 8 ∧ allCh t.cs cn) := by
    have := sd_chans HT.out
    rw [HL.out] at this
    exact ⟨this.1, this.2.1⟩
  have HRE : Hid (CR t (mostN t.cs cn)) := .inr ⟨HT.out, by rw [HL.out]⟩
  have hcn := HCA.out.1
  go_wp2
  go_loopw [3, 4] (fun v i wr => ∃ (j : Nat) (M : Int), j ≤ cn ∧ 0 ≤ M ∧ M ≤ 64 ∧ i = .int .i64 j ∧ v = .int .i64 M ∧ Hid (M = mostN t.cs j ∧ Below w1.heap.size w1 wr)) (fun _ i _ => cn - (intOf i).toNat)
  case atStart => exact ⟨0, 0, by omega, by omega, by omega, rfl, rfl, rfl, Below.refl _ _⟩
  case round =>
    obtain ⟨j, M, hj, hM0, hM1, rfl, rfl, HR⟩ := hrel
    have HBR : Hid (Below w.heap.size w wr) := HB1.out.trans (HR.out.2.mono HB1.out.size)
    have k17 : wr.cell? ⟨w.heap.size, 17, none⟩ = some (.slice ca cn cc) := (HX1.out.below HR.out.2).cell 17 rfl
    by_cases hjn : j < cn
    rotate_left
    · obtain rfl : j = cn := by omega
      have HF : Hid (CR t M) := by rw [show M = mostN t.cs j from HR.out.1]; exact HRE.out
      go_wp2
      go_ret
      exact ⟨⟨_, rfl, HF.out⟩, HBR.out⟩
    have hjn' : (j : Int) < (cn : Int) := by omega
    obtain ⟨b1, o1, rfl, hbl1, p1⟩ := HS.out.at j hjn
    replace p1 := p1.of (w' := wr) (fun i => HBR.out.cell (p := ⟨b1, i, none⟩) hbl1)
    have HMS : Hid (∀ v, mostF (t.cs.getD j ch0).1 (t.cs.getD j ch0).2.2.2 = v → M + v = mostN t.cs (j + 1)) := fun v hv => by
      have := HR.out.1
      unfold mostN
      omega
    have hr := most_rng HCA.out.2 (j + 1) (by omega)
    have hM2 : ∀ v, mostF (t.cs.getD j ch0).1 (t.cs.getD j ch0).2.2.2 = v → 0 ≤ M + v ∧ M + v ≤ 64 := fun v hv => by
      have h1 := HMS.out v hv
      omega
    have hk := chOk_k (HCA.out.2 j hjn)
    have HRB : Hid (Below w1.heap.size w1 wr) := HR.out.2
    simp only [chX] at p1
    generalize t.cs.getD j ch0 = x at p1 HMS hM2 hk
    obtain ⟨c0, c1, c2, c3⟩ := ch_cells p1
    obtain ⟨x1, x2, x3, x4⟩ := x
    simp only at c0 c1 c2 c3 HMS hM2 hk
    clear p1 hbl1 hr HR
    rcases hk with ⟨rfl, rfl⟩ | ⟨rfl, hd1, hd2⟩
    · have HMv : Hid (M + 1 = mostN t.cs (j + 1)) := HMS.out 1 (by unfold mostF; simp)
      obtain ⟨hv3, hv4⟩ := hM2 1 (by unfold mostF; simp)
      have hwr : IntKind.i64.wrap (M + 1) = M + 1 := by rw [IntKind.wrap_i64]; omega
      clear HMS hM2
      go_wp2
      go_roundw
      case rel => exact ⟨j + 1, M + 1, by omega, hv3, hv4, by go_num, by go_num, HMv.out, HRB.out⟩
      case measure => simp [intOf]; omega
    · have HMv : Hid (M + x4 = mostN t.cs (j + 1)) := HMS.out x4 (by unfold mostF; simp)
      obtain ⟨hv3, hv4⟩ := hM2 x4 (by unfold mostF; simp)
      have hwr : IntKind.i64.wrap (M + x4) = M + x4 := by rw [IntKind.wrap_i64]; omega
      clear HMS hM2
      go_wp2
      go_roundw
      case rel => exact ⟨j + 1, M + x4, by omega, hv3, hv4, by go_num, by go_num, HMv.out, HRB.out⟩
      case measure => simp [intOf]; omega
theorem spec_car (t : Tb) (a : Ad) (w : World) (hm : TM 0 w t a) (hw : TW t a) (hs : TS a) :
    Calls Tryz.prog 20 #[tbV t a] w fun e w' => (∃ r : Int, e = .returned (.int .i64 r) ∧ CR t r) ∧ Below w.heap.size w w' :=
  spec_car0 t a.pa a.da a.ca a.sa a.pn a.pc a.dn a.dc a.cn a.cc a.sn a.sc a.Y w hm hw hs
set_option maxRecDepth 40000 in
set_option maxHeartbeats 8000000 in
theorem impl_spare0 (t : Tb) (pa da ca sa : Option Addr) (pn pc dn dc cn cc n sc : Nat) (Y : Nat → Rw) (w : World) (hm : TM 0 w t ⟨pa, pn, pc, da, dn, dc, ca, cn, cc, sa, n, sc, Y⟩) (hw : TW t ⟨pa, pn, pc, da, dn, dc, ca, cn, cc, sa, n, sc, Y⟩) (hs : TS ⟨pa, pn, pc, da, dn, dc, ca, cn, cc, sa, n, sc, Y⟩) (he : TabE w) (hcp : pn ≤ pc) :
    Calls Tryz.prog 23 #[.agg #[.int .i64 t.mem, .int .i64 t.s1, .int .i64 t.s2, .int .i64 t.s3, .int .i64 t.tlb, .int .i64 t.c1, .int .i64 t.c2, .int .i64 t.c3, .int .i64 t.c4, .int .i64 t.c5, .int .i64 t.c6, .int .i64 t.c7, .int .i64 t.pad, .int .i64 t.grd, .int .i64 t.maj, .slice pa pn pc, .slice da dn dc, .slice ca cn cc, .slice sa n sc]] w fun e w' => (∃ r : Int, e = .returned (.int .i64 r) ∧ PR t r) ∧ Below w.heap.size w w' := by
  obtain ⟨q, hq⟩ := told (Sd t)
  have HB0 : Hid (Below w.heap.size w (w.alloc (.cells #[.int .i64 t.mem, .int .i64 t.s1, .int .i64 t.s2, .int .i64 t.s3, .int .i64 t.tlb, .int .i64 t.c1, .int .i64 t.c2, .int .i64 t.c3, .int .i64 t.c4, .int .i64 t.c5, .int .i64 t.c6, .int .i64 t.c7, .int .i64 t.pad, .int .i64 t.grd, .int .i64 t.maj, .slice pa pn pc, .slice da dn dc, .slice ca cn cc, .slice sa n sc] 46))) := (Below.refl _ _).alloc (Nat.le_refl _) _
  have HX0 : Hid (TBx (w.alloc (.cells #[.int .i64 t.mem, .int .i64 t.s1, .int .i64 t.s2, .int .i64 t.s3, .int .i64 t.tlb, .int .i64 t.c1, .int .i64 t.c2, .int .i64 t.c3, .int .i64 t.c4, .int .i64 t.c5, .int .i64 t.c6, .int .i64 t.c7, .int .i64 t.pad, .int .i64 t.grd, .int .i64 t.maj, .slice pa pn pc, .slice da dn dc, .slice ca cn cc, .slice sa n sc] 46)) w.heap.size t ⟨pa, pn, pc, da, dn, dc, ca, cn, cc, sa, n, sc, Y⟩) := TBx.new w t ⟨pa, pn, pc, da, dn, dc, ca, cn, cc, sa, n, sc, Y⟩ _ rfl
  have HSP : Hid (Calls Tryz.prog 50 #[.agg #[.int .i64 t.mem, .int .i64 t.s1, .int .i64 t.s2, .int .i64 t.s3, .int .i64 t.tlb, .int .i64 t.c1, .int .i64 t.c2, .int .i64 t.c3, .int .i64 t.c4, .int .i64 t.c5, .int .i64 t.c6, .int .i64 t.c7, .int .i64 t.pad, .int .i64 t.grd, .int .i64 t.maj, .slice pa pn pc, .slice da dn dc, .slice ca cn cc, .slice sa n sc]] (w.alloc (.cells #[.int .i64 t.mem, .int .i64 t.s1, .int .i64 t.s2, .int .i64 t.s3, .int .i64 t.tlb, .int .i64 t.c1, .int .i64 t.c2, .int .i64 t.c3, .int .i64 t.c4, .int .i64 t.c5, .int .i64 t.c6, .int .i64 t.c7, .int .i64 t.pad, .int .i64 t.grd, .int .i64 t.maj, .slice pa pn pc, .slice da dn dc, .slice ca cn cc, .slice sa n sc] 46)) fun e w' => e = .returned (.bool q) ∧ Below (w.alloc (.cells #[.int .i64 t.mem, .int .i64 t.s1, .int .i64 t.s2, .int .i64 t.s3, .int .i64 t.tlb, .int .i64 t.c1, .int .i64 t.c2, .int .i64 t.c3, .int .i64 t.c4, .int .i64 t.c5, .int .i64 t.c6, .int .i64 t.c7, .int .i64 t.pad, .int .i64 t.grd, .int .i64 t.maj, .slice pa pn pc, .slice da dn dc, .slice ca cn cc, .slice sa n sc] 46)).heap.size (w.alloc (.cells #[.int .i64 t.mem, .int .i64 t.s1, .int .i64 t.s2, .int .i64 t.s3, .int .i64 t.tlb, .int .i64 t.c1, .int .i64 t.c2, .int .i64 t.c3, .int .i64 t.c4, .int .i64 t.c5, .int .i64 t.c6, .int .i64 t.c7, .int .i64 t.pad, .int .i64 t.grd, .int .i64 t.maj, .slice pa pn pc, .slice da dn dc, .slice ca cn cc, .slice sa n sc] 46)) w') := impl_sound t ⟨pa, pn, pc, da, dn, dc, ca, cn, cc, sa, n, sc, Y⟩ q _ (hm.below HB0.out) hw hs (he.below HB0.out) hcp hq
  have HS : Hid (GSeg 4 w ca cn (chX t.cs)) := hm.c.seg
  have HL : Hid (t.cs.length = cn) := hw.cl
  have HQ : Hid (q = true ↔ Sd t) := hq
  clear hm hw hs hq he hcp
  go_enter Tryz.func23, Tryz.ntmps23
  go_wp2_with (first | (refine wpList_load_row rfl 46 (.tmp 1) rfl w.heap.size rfl 46 #[.int .i64 t.mem, .int .i64 t.s1, .int .i64 t.s2, .int .i64 t.s3, .int .i64 t.tlb, .int .i64 t.c1, .int .i64 t.c2, .int .i64 t.c3, .int .i64 t.c4, .int .i64 t.c5, .int .i64 t.c6, .int .i64 t.c7, .int .i64 t.pad, .int .i64 t.grd, .int .i64 t.maj, .slice pa pn pc, .slice da dn dc, .slice ca cn cc, .slice sa n sc] (0, 0) _ HX0.out Tryz.underlying46 rfl (by kernel_rfl) ?_) | fail)
  refine Calls.mono HSP.out ?_
  rintro e w1 ⟨rfl, hb1⟩
  have HB1 : Hid (Below w.heap.size w w1) := HB0.out.trans (hb1.mono HB0.out.size)
  have HX1 : Hid (TBx w1 w.heap.size t ⟨pa, pn, pc, da, dn, dc, ca, cn, cc, sa, n, sc, Y⟩) := HX0.out.below hb1
  clear hb1 HB0 HX0 HSP
  cases q
  · have HT : Hid (¬ Sd t) := fun h => by have := HQ.out.2 h; cases this
    go_wp2
    go_ret
    exact ⟨⟨_, rfl, .inl ⟨HT.out, rfl⟩⟩, HB1.out⟩
  have HT : Hid (Sd t) := HQ.out.1 rfl
  clear HQ
  have hpd : 1 ≤ t.pad ∧ t.pad ≤ 5000 := HT.out 4 (by omega)
  have hpv : padV t ≤ t.pad := HT.out 20 (by omega)
  have HPO := sd_chans HT.out
  obtain ⟨p, HP⟩ : ∃ p, Hid (padV t = p) := ⟨_, rfl⟩
  have hp0 : 0 ≤ p := by
    rw [← HP.out]
    obtain ⟨hc1, hc2, hc3, hc4, hc5, hc6, hc7⟩ := costsOk_parts HPO.2.2.1
    have hsm := sets_mul HPO.2.2.2.1
    have hmr := most_rng HPO.2.1 t.cs.length (Nat.le_refl _)
    have h1 : 0 ≤ t.c1 * (16 + mostN t.cs t.cs.length) := Int.mul_nonneg (by omega) (by omega)
    have h2 : 0 ≤ t.c7 * (t.s1 * t.s2) := Int.mul_nonneg (by omega) (by omega)
    unfold padV
    omega
  rw [HP.out] at hpv
  have HRE : Hid (PR t (t.pad - p)) := .inr ⟨HT.out, by rw [HP.out]⟩
  have HCP : Hid (∀ X, GSeg 4 X ca cn (chX t.cs) → Calls Tryz.prog 77 #[cst t.c1 t.c2 t.c3 t.c4 t.c5 t.c6 t.c7, shp t.s1 t.s2 t.s3, .slice ca cn cc] X fun x w' => x = .returned (.int .i64 p) ∧ Below X.heap.size X w') := fun X hX =>
    (impl_pad t.c1 t.c2 t.c3 t.c4 t.c5 t.c6 t.c7 t.s1 t.s2 t.s3 ca cc cn t.cs X hX (by have := HPO.1; rw [HL.out] at this; omega)).mono fun e w' ⟨⟨v, h1, h2, h3⟩, h4⟩ => ⟨by rw [h1, h2 (by have := HPO.2.2; rw [HL.out] at this; exact this), ← HP.out]; unfold padV; rw [HL.out], h4⟩
  obtain ⟨hd1, hd2⟩ := hpd
  have hw1 : IntKind.i64.wrap (t.pad - p) = t.pad - p := by rw [IntKind.wrap_i64]; omega
  have HSG : Hid (∀ X, Below w1.heap.size w1 X → GSeg 4 X ca cn (chX t.cs)) := fun X hX => HS.out.below (HB1.out.trans (hX.mono HB1.out.size))
  have HCG : Hid (∀ Y : Gr w1, Calls Tryz.prog 77 #[cst t.c1 t.c2 t.c3 t.c4 t.c5 t.c6 t.c7, shp t.s1 t.s2 t.s3, .slice ca cn cc] Y.w fun x w' => x = .returned (.int .i64 p) ∧ Below Y.w.heap.size Y.w w') := fun Y => HCP.out _ (HSG.out _ Y.h)
  have k1 : w1.cell? ⟨w.heap.size, 1, none⟩ = some (.int .i64 t.s1) := HX1.out.cell 1 rfl
  have k2 : w1.cell? ⟨w.heap.size, 2, none⟩ = some (.int .i64 t.s2) := HX1.out.cell 2 rfl
  have k3 : w1.cell? ⟨w.heap.size, 3, none⟩ = some (.int .i64 t.s3) := HX1.out.cell 3 rfl
  have k5 : w1.cell? ⟨w.heap.size, 5, none⟩ = some (.int .i64 t.c1) := HX1.out.cell 5 rfl
  have k6 : w1.cell? ⟨w.heap.size, 6, none⟩ = some (.int .i64 t.c2) := HX1.out.cell 6 rfl
  have k7 : w1.cell? ⟨w.heap.size, 7, none⟩ = some (.int .i64 t.c3) := HX1.out.cell 7 rfl
  have k8 : w1.cell? ⟨w.heap.size, 8, none⟩ = some (.int .i64 t.c4) := HX1.out.cell 8 rfl
  have k9 : w1.cell? ⟨w.heap.size, 9, none⟩ = some (.int .i64 t.c5) := HX1.out.cell 9 rfl
  have k10 : w1.cell? ⟨w.heap.size, 10, none⟩ = some (.int .i64 t.c6) := HX1.out.cell 10 rfl
  have k11 : w1.cell? ⟨w.heap.size, 11, none⟩ = some (.int .i64 t.c7) := HX1.out.cell 11 rfl
  have k12 : w1.cell? ⟨w.heap.size, 12, none⟩ = some (.int .i64 t.pad) := HX1.out.cell 12 rfl
  have k17 : w1.cell? ⟨w.heap.size, 17, none⟩ = some (.slice ca cn cc) := HX1.out.cell 17 rfl
  replace k1 := fun X => gr_cell k1 X
  replace k2 := fun X => gr_cell k2 X
  replace k3 := fun X => gr_cell k3 X
  replace k5 := fun X => gr_cell k5 X
  replace k6 := fun X => gr_cell k6 X
  replace k7 := fun X => gr_cell k7 X
  replace k8 := fun X => gr_cell k8 X
  replace k9 := fun X => gr_cell k9 X
  replace k10 := fun X => gr_cell k10 X
  replace k11 := fun X => gr_cell k11 X
  replace k12 := fun X => gr_cell k12 X
  replace k17 := fun X => gr_cell k17 X
  clear hp0 hpv HPO HX1
  go_wp2
  have hgr := gr_some w1
  refine region_alike (by kernel_rfl) (by kernel_rfl) ?_
  repeat (go_big_quiet_step (first | (go_at_call 77; exact gr_call (HCG.out _))))
  refine wpQuiet_nil ?_
  intro _ hw'
  obtain ⟨X1, rfl⟩ := hw'
  have hb2 := X1.h
  generalize X1.w = W1 at hb2 ⊢
  have HB2 : Hid (Below w.heap.size w W1) := HB1.out.trans (hb2.mono HB1.out.size)
  clear hb2 k1 k2 k3 k5 k6 k7 k8 k9 k10 k11 k12 k17
  go_wp2
  go_ret
  exact ⟨⟨_, rfl, HRE.out⟩, HB2.out⟩
theorem impl_spare (t : Tb) (a : Ad) (w : World) (hm : TM 0 w t a) (hw : TW t a) (hs : TS a) (he : TabE w) (hcp : a.pn ≤ a.pc) :
    Calls Tryz.prog 23 #[tbV t a] w fun e w' => (∃ r : Int, e = .returned (.int .i64 r) ∧ PR t r) ∧ Below w.heap.size w w' :=
  impl_spare0 t a.pa a.da a.ca a.sa a.pn a.pc a.dn a.dc a.cn a.cc a.sn a.sc a.Y w hm hw hs he hcp
end Go.Proofs.YtnifidijheeebaaGreatDoor
