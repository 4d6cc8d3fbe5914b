
/-
  The program's PartOk: whether a state of a partition is right for its tables. Conditions: the lists lie in memory; the program's table of extras holds what the program's text lays.
-/
import Derived.Test.YtknipnenipdgiaaGreatDoorBas
import Derived.Test.YtknipnenipdgiaaGreatDoorPks
namespace Go.Proofs.YtknipnenipdgiaaGreatDoor
open Go.ChangeShapes Go.WideShapes Go.ChangeAt Go.RowKit Go.Deep Go.Joins
set_option linter.unusedVariables false

set_option maxRecDepth 40000 in
set_option maxHeartbeats 16000000 in
theorem impl_partok (t : Tb) (a : Ad) (p : Int) (y : Ps) (d : Pd) (q : Bool) (w : World) (hm : TM 0 w t a) (hw : TW t a) (hs : TS a) (hps : PSeg w y d) (hl : PLen y d) (hf : PFit y d) (he : TabE w) (hcp : a.pn ≤ a.pc) (htc : y.tn ≤ y.tc) (hq : q = true ↔ POk t p y d) :
    Calls Tryz.prog 13 #[tbV t a, .int .i64 p, psV y] w fun e w' => e = .returned (.bool q) ∧ Below w.heap.size w w' := by
  have HB0 : Hid (Below w.heap.size w ((w.alloc (.cells (tbA t a) 60)).alloc (.cells (psA y) 73))) := ((Below.refl _ _).alloc (Nat.le_refl _) _).alloc (by simp) _
  have HX0 : Hid (TBx ((w.alloc (.cells (tbA t a) 60)).alloc (.cells (psA y) 73)) w.heap.size t a) := (TBx.new w t a _ rfl).below ((Below.refl _ _).alloc (Nat.le_refl _) _)
  have HK0 : Hid (PBx ((w.alloc (.cells (tbA t a) 60)).alloc (.cells (psA y) 73)) (w.heap.size + 1) 73 y) := PBx.new _ _ y _ (by simp)
  obtain ⟨q1, hq1⟩ := told (Sd t ∧ ImFit t p y.bn d.Fb)
  obtain ⟨q2, hq2⟩ := told (GOk (wsOf t p) d.R y.mn d.D)
  have HQ : Hid (q = true ↔ POk t p y d) := hq
  have HQ1 : Hid (q1 = true ↔ (Sd t ∧ ImFit t p y.bn d.Fb)) := hq1
  have HQ2 : Hid (q2 = true ↔ GOk (wsOf t p) d.R y.mn d.D) := hq2
  have HL : Hid (t.ps.length = a.pn) := hw.pl
  have hpn : a.pn ≤ 1048576 := hs.p
  have HP : Hid (∀ X, Below w.heap.size w X → PSegL 0 X a.pa a.pn t.ps a.Y) := fun X hX => (hm.below hX).p
  have HIM : Hid (∀ X, Below w.heap.size w X → Calls Tryz.prog 62 #[tbV t a, .int .i64 p, .slice y.ba y.bn y.bc] X fun e w' => e = .returned (.bool q1) ∧ Below X.heap.size X w') := fun X hX => impl_image t a p y.ba y.bc y.bn d.Fb q1 X (hm.below hX) hw hs (hps.below hX).b hf.zbn (fun i hi => Nat.le_trans (btot_row d.Fb hi) hf.zF) (he.below hX) hcp hq1
  have HGU : Hid (∀ X, Below w.heap.size w X → ∀ i, i < a.pn → (i : Int) = p → Sd t → Calls Tryz.prog 63 #[.slice (a.Y i).wa (a.Y i).wn (a.Y i).wc, .agg #[.slice y.ra y.rl y.rc, .int .u32 y.pc, .slice y.ma y.mn y.mc]] X fun e w' => e = .returned (.bool q2) ∧ Below X.heap.size X w') := fun X hX i hi hip hsd => by
    subst hip
    have hg := ((hm.below hX).p.2 i hi)
    exact impl_gok (a.Y i).wa y.ra y.ma (a.Y i).wc (a.Y i).wn y.rl y.rc y.mn y.mc y.pc (t.ps.getD i pt0).ws d.R d.D q2 X hg.aseg hg.ln (by have := (hs.w i hi).1; omega) hg.cp ⟨(hps.below hX).r, (hps.below hX).g⟩ hl.zr (sd_wsok hsd (by rw [hw.pl]; exact hi)) hq2
  obtain ⟨q3, HQ3⟩ : ∃ z, Hid (Hq.hltOk y.hf y.hr y.hl = z) := ⟨_, rfl⟩
  have HHE : Hid (∀ X, Calls Tryz.prog 64 #[.agg #[.int .i64 y.hf, .int .i64 y.hr, .int .i64 y.hl, .bool y.hh]] X fun e w' => e = .returned (.bool q3) ∧ Below X.heap.size X w') := fun X => by rw [← HQ3.out]; exact Hq.impl_hok y.hf y.hr y.hl y.hh X
  obtain ⟨q4, hq4⟩ := told (NearP t y.cs y.cy y.cl y.ts y.kn d.E d.Z)
  obtain ⟨q5, hq5⟩ := told (EndsP t p y d)
  obtain ⟨q6, hq6⟩ := told (DevP t p y d)
  have HQ4 : Hid (q4 = true ↔ NearP t y.cs y.cy y.cl y.ts y.kn d.E d.Z) := hq4
  have HQ5 : Hid (q5 = true ↔ EndsP t p y d) := hq5
  have HQ6 : Hid (q6 = true ↔ DevP t p y d) := hq6
  have HNE : Hid (∀ X, Below w.heap.size w X → Calls Tryz.prog 65 #[tbV t a, .agg #[.int .i64 y.cs, .int .i64 y.cy, .int .i64 y.cl, .slice y.ka y.kn y.kc], .agg #[.int .i64 y.ts, .slice y.ta y.tn y.tc]] X fun e w' => e = .returned (.bool q4) ∧ Below X.heap.size X w') := fun X hX => near_ok t a y.cs y.cy y.cl y.ka y.kn y.kc y.ts y.ta y.tn y.tc d.E d.Z q4 X (hps.below hX).c hf.zkn hf.zE (hps.below hX).t hl.zz hf.ztn htc hq4
  have HEN : Hid (∀ X, Below w.heap.size w X → Sd t → Calls Tryz.prog 66 #[tbV t a, .int .i64 p, psV y] X fun e w' => e = .returned (.bool q5) ∧ Below X.heap.size X w') := fun X hX hsd => ends_ok t a p y d q5 X (hm.below hX) hw hs hsd (hps.below hX) hf hq5
  have HDE : Hid (∀ X, Below w.heap.size w X → Calls Tryz.prog 67 #[tbV t a, .int .i64 p, .slice y.da y.dn y.dc] X fun e w' => e = .returned (.bool q6) ∧ Below X.heap.size X w') := fun X hX => devices_ok t a p y.da y.dn y.dc d.U d.V q6 X (hm.below hX) hw hs (hps.below hX).d (by have := hf.zU; omega) hq6
  clear hm hw hs hps hl hf hq hq1 hq2 hq4 hq5 hq6 he hcp htc
  have k23 : ((w.alloc (.cells (tbA t a) 60)).alloc (.cells (psA y) 73)).cell? ⟨w.heap.size + 1, 23, none⟩ = some (.slice y.ba y.bn y.bc) := HK0.out.cell 23 rfl
  go_enter Tryz.func13, Tryz.ntmps13
  go_wp2_with (first | (refine wpList_load_row rfl 60 (.tmp 3) rfl w.heap.size rfl 60 (tbA t a) (0, 0) _ HX0.out Tryz.underlying60 rfl (by kernel_rfl) ?_) | fail)
  revert HB0 HX0 HK0
  clear k23
  generalize ((w.alloc (.cells (tbA t a) 60)).alloc (.cells (psA y) 73)) = V
  intro HB0 HX0 HK0
  refine Calls.mono (HIM.out _ HB0.out) ?_
  rintro e w1 ⟨rfl, hb⟩
  have HB1 : Hid (Below w.heap.size w w1) := HB0.out.trans (hb.mono HB0.out.size)
  have HX1 : Hid (TBx w1 w.heap.size t a) := HX0.out.below hb
  have HK1 : Hid (PBx w1 (w.heap.size + 1) 73 y) := HK0.out.below hb
  clear hb HB0 HX0 HK0 HIM
  cases q1
  · have HT : Hid (q = false) := not_true HQ.out (fun g => by have := HQ1.out.2 g.1; cases this)
    go_wp2
    go_ret
    exact ⟨ret_bool HT.out.symm, HB1.out⟩
  have HI1 : Hid (Sd t ∧ ImFit t p y.bn d.Fb) := HQ1.out.1 (by first | rfl | trivial)
  have hp : 0 ≤ p ∧ p < (a.pn : Int) := ⟨HI1.out.2.1, by rw [← HL.out]; exact HI1.out.2.2.1⟩
  obtain ⟨P, rfl⟩ : ∃ P : Nat, p = (P : Int) := ⟨p.toNat, by omega⟩
  have hP : P < a.pn := by omega
  have hP' : (P : Int) < (a.pn : Int) := by omega
  have hP0 : (0 : Int) ≤ (P : Int) := by omega
  clear HQ1 hp
  have HBG : Hid (∀ X : Gr w1, Below w.heap.size w X.w) := fun X => HB1.out.trans (X.h.mono HB1.out.size)
  obtain ⟨b1, o1, hsa, hbl1, p1⟩ := (HP.out _ HB1.out).1.seg.at P hP
  have g15 := fun X => gr_cell (W0 := w1) (HX1.out.cell 15 (v := .slice a.pa a.pn a.pc) rfl) X
  rw [hsa] at g15
  have c4 : w1.cell? ⟨b1, o1 + P * 5 + 4, none⟩ = some (.slice (a.Y P).wa (a.Y P).wn (a.Y P).wc) := (rw_cells p1).2.2.2.2
  have gc4 := fun X => gr_cell (W0 := w1) c4 X
  have HGK : Hid (∀ X : Gr w1, Calls Tryz.prog 63 #[.slice (a.Y P).wa (a.Y P).wn (a.Y P).wc, .agg #[.slice y.ra y.rl y.rc, .int .u32 y.pc, .slice y.ma y.mn y.mc]] X.w fun e w' => e = .returned (.bool q2) ∧ Below X.w.heap.size X.w w') := fun X => HGU.out X.w (HBG.out X) P hP rfl HI1.out.1
  clear HGU p1 hbl1 hsa c4
  generalize (a.Y P).wa = ya at gc4 HGK
  generalize (a.Y P).wn = yn at gc4 HGK
  generalize (a.Y P).wc = yc at gc4 HGK
  have g0 := fun X => gr_cell (W0 := w1) (HK1.out.cell 0 (v := .slice y.ra y.rl y.rc) rfl) X
  have g1 := fun X => gr_cell (W0 := w1) (HK1.out.cell 1 (v := .int .u32 y.pc) rfl) X
  have g2 := fun X => gr_cell (W0 := w1) (HK1.out.cell 2 (v := .slice y.ma y.mn y.mc) rfl) X
  go_wp2
  cases q2
  · have HT : Hid (q = false) := not_true HQ.out (fun g => by have := HQ2.out.2 g.2.1; cases this)
    clear HQ HQ2 HQ4 HQ5 HQ6 HNE HEN HDE
    have hgr := gr_some w1
    refine region_alike (by kernel_rfl) (by kernel_rfl) ?_
    repeat (go_big_quiet_step (first | (go_at_call 63; exact gr_call (HGK.out _)) | (go_at_call 64; exact gr_call (HHE.out _))))
    refine wpQuiet_nil ?_
    intro _ hw'
    obtain ⟨X1, rfl⟩ := hw'
    have HB2 : Hid (Below w.heap.size w X1.w) := HB1.out.trans (X1.h.mono HB1.out.size)
    have HX2 : Hid (TBx X1.w w.heap.size t a) := HX1.out.below X1.h
    have HK2 : Hid (PBx X1.w (w.heap.size + 1) 73 y) := HK1.out.below X1.h
    generalize X1.w = w2 at HB2 HX2 HK2 ⊢
    clear hgr HBG g15 gc4 g0 g1 g2 HGK
    go_wp2
    go_ret
    exact ⟨ret_bool HT.out.symm, HB2.out⟩
  have HG1 : Hid (GOk (wsOf t (P : Int)) d.R y.mn d.D) := HQ2.out.1 (by first | rfl | trivial)
  have g11 := fun X => gr_cell (W0 := w1) (HK1.out.cell 11 (v := .int .i64 y.hf) rfl) X
  have g12 := fun X => gr_cell (W0 := w1) (HK1.out.cell 12 (v := .int .i64 y.hr) rfl) X
  have g13 := fun X => gr_cell (W0 := w1) (HK1.out.cell 13 (v := .int .i64 y.hl) rfl) X
  have g14 := fun X => gr_cell (W0 := w1) (HK1.out.cell 14 (v := .bool y.hh) rfl) X
  clear HQ2
  cases q3
  · have HT : Hid (q = false) := not_true HQ.out (fun g => by have := g.2.2.1; rw [HQ3.out] at this; cases this)
    clear HQ HQ4 HQ5 HQ6 HNE HEN HDE
    have hgr := gr_some w1
    refine region_alike (by kernel_rfl) (by kernel_rfl) ?_
    repeat (go_big_quiet_step (first | (go_at_call 63; exact gr_call (HGK.out _)) | (go_at_call 64; exact gr_call (HHE.out _))))
    refine wpQuiet_nil ?_
    intro _ hw'
    obtain ⟨X1, rfl⟩ := hw'
    have HB2 : Hid (Below w.heap.size w X1.w) := HB1.out.trans (X1.h.mono HB1.out.size)
    have HX2 : Hid (TBx X1.w w.heap.size t a) := HX1.out.below X1.h
    have HK2 : Hid (PBx X1.w (w.heap.size + 1) 73 y) := HK1.out.below X1.h
    generalize X1.w = w2 at HB2 HX2 HK2 ⊢
    clear hgr HBG g15 gc4 g0 g1 g2 HGK g11 g12 g13 g14
    go_wp2
    go_ret
    exact ⟨ret_bool HT.out.symm, HB2.out⟩
  have g21 := fun X => gr_cell (W0 := w1) (HK1.out.cell 21 (v := .int .i64 y.nx) rfl) X
  by_cases n1 : 0 ≤ y.nx
  rotate_left
  · have HT : Hid (q = false) := not_true HQ.out (fun g => n1 g.2.2.2.2.1.1)
    have hd1 : decide ((0 : Int) ≤ y.nx) = false := decide_eq_false n1
    have hd1' : decide (y.nx ≥ (0 : Int)) = false := decide_eq_false n1
    clear HQ HQ4 HQ5 HQ6 HNE HEN HDE
    have hgr := gr_some w1
    refine region_alike (by kernel_rfl) (by kernel_rfl) ?_
    repeat (go_big_quiet_step (first | (go_at_call 63; exact gr_call (HGK.out _)) | (go_at_call 64; exact gr_call (HHE.out _))))
    refine wpQuiet_nil ?_
    intro _ hw'
    obtain ⟨X1, rfl⟩ := hw'
    have HB2 : Hid (Below w.heap.size w X1.w) := HB1.out.trans (X1.h.mono HB1.out.size)
    have HX2 : Hid (TBx X1.w w.heap.size t a) := HX1.out.below X1.h
    have HK2 : Hid (PBx X1.w (w.heap.size + 1) 73 y) := HK1.out.below X1.h
    generalize X1.w = w2 at HB2 HX2 HK2 ⊢
    clear hgr HBG g15 gc4 g0 g1 g2 HGK g11 g12 g13 g14 g21
    go_wp2
    go_ret
    exact ⟨ret_bool HT.out.symm, HB2.out⟩
  have hd1 : decide ((0 : Int) ≤ y.nx) = true := decide_eq_true n1
  have hd1' : decide (y.nx ≥ (0 : Int)) = true := decide_eq_true n1
  by_cases n2 : y.nx ≤ 100000
  rotate_left
  · have HT : Hid (q = false) := not_true HQ.out (fun g => n2 g.2.2.2.2.1.2)
    have hd2 : decide (y.nx ≤ (100000 : Int)) = false := decide_eq_false n2
    clear HQ HQ4 HQ5 HQ6 HNE HEN HDE
    have hgr := gr_some w1
    refine region_alike (by kernel_rfl) (by kernel_rfl) ?_
    repeat (go_big_quiet_step (first | (go_at_call 63; exact gr_call (HGK.out _)) | (go_at_call 64; exact gr_call (HHE.out _))))
    refine wpQuiet_nil ?_
    intro _ hw'
    obtain ⟨X1, rfl⟩ := hw'
    have HB2 : Hid (Below w.heap.size w X1.w) := HB1.out.trans (X1.h.mono HB1.out.size)
    have HX2 : Hid (TBx X1.w w.heap.size t a) := HX1.out.below X1.h
    have HK2 : Hid (PBx X1.w (w.heap.size + 1) 73 y) := HK1.out.below X1.h
    generalize X1.w = w2 at HB2 HX2 HK2 ⊢
    clear hgr HBG g15 gc4 g0 g1 g2 HGK g11 g12 g13 g14 g21
    go_wp2
    go_ret
    exact ⟨ret_bool HT.out.symm, HB2.out⟩
  have hd2 : decide (y.nx ≤ (100000 : Int)) = true := decide_eq_true n2
  have hgr := gr_some w1
  refine region_alike (by kernel_rfl) (by kernel_rfl) ?_
  repeat (go_big_quiet_step (first | (go_at_call 63; exact gr_call (HGK.out _)) | (go_at_call 64; exact gr_call (HHE.out _))))
  refine wpQuiet_nil ?_
  intro _ hw'
  obtain ⟨X1, rfl⟩ := hw'
  have HB2 : Hid (Below w.heap.size w X1.w) := HB1.out.trans (X1.h.mono HB1.out.size)
  have HX2 : Hid (TBx X1.w w.heap.size t a) := HX1.out.below X1.h
  have HK2 : Hid (PBx X1.w (w.heap.size + 1) 73 y) := HK1.out.below X1.h
  generalize X1.w = w2 at HB2 HX2 HK2 ⊢
  clear hgr HBG g15 gc4 g0 g1 g2 g11 g12 g13 g14 g21
  have HT : Hid (q = (q4 && (q5 && q6))) := (bool_is HQ.out (by rw [Bool.and_eq_true, Bool.and_eq_true, HQ4.out, HQ5.out, HQ6.out]; exact ⟨fun g => ⟨HI1.out, HG1.out, HQ3.out, g.1, ⟨n1, n2⟩, g.2⟩, fun g => ⟨g.2.2.2.1, g.2.2.2.2.2⟩⟩)).symm
  clear HGK HHE HP HQ HQ4 HQ5 HQ6 n1 n2 hd1 hd1' hd2
  have k15 : w2.cell? ⟨w.heap.size + 1, 15, none⟩ = some (.int .i64 y.cs) := HK2.out.cell 15 rfl
  have k16 : w2.cell? ⟨w.heap.size + 1, 16, none⟩ = some (.int .i64 y.cy) := HK2.out.cell 16 rfl
  have k17 : w2.cell? ⟨w.heap.size + 1, 17, none⟩ = some (.int .i64 y.cl) := HK2.out.cell 17 rfl
  have k18 : w2.cell? ⟨w.heap.size + 1, 18, none⟩ = some (.slice y.ka y.kn y.kc) := HK2.out.cell 18 rfl
  have k19 : w2.cell? ⟨w.heap.size + 1, 19, none⟩ = some (.int .i64 y.ts) := HK2.out.cell 19 rfl
  have k20 : w2.cell? ⟨w.heap.size + 1, 20, none⟩ = some (.slice y.ta y.tn y.tc) := HK2.out.cell 20 rfl
  go_wp2_with (first | (refine wpList_load_rowG rfl 60 (.tmp 3) rfl w.heap.size rfl 60 (tbA t a) (0, 0) _ HX2.out Tryz.underlying60 rfl (by kernel_rfl) ?_) | fail)
  refine Calls.mono (HNE.out _ HB2.out) ?_
  rintro e w3 ⟨rfl, hb⟩
  have HB3 : Hid (Below w.heap.size w w3) := HB2.out.trans (hb.mono HB2.out.size)
  have HX3 : Hid (TBx w3 w.heap.size t a) := HX2.out.below hb
  have HK3 : Hid (PBx w3 (w.heap.size + 1) 73 y) := HK2.out.below hb
  clear hb HB2 HX2 HK2 HNE k15 k16 k17 k18 k19 k20
  cases q4
  · go_wp2
    go_ret
    exact ⟨ret_bool HT.out.symm, HB3.out⟩
  go_wp2_with (first | (refine wpList_load_rowG rfl 60 (.tmp 3) rfl w.heap.size rfl 60 (tbA t a) (0, 0) _ HX3.out Tryz.underlying60 rfl (by kernel_rfl) ?_) | (refine wpList_load_rowG rfl 73 (.tmp 5) rfl (w.heap.size + 1) rfl 73 (psA y) (0, 0) _ HK3.out Tryz.underlying73 rfl (by kernel_rfl) ?_) | fail)
  refine Calls.mono (HEN.out _ HB3.out HI1.out.1) ?_
  rintro e w4 ⟨rfl, hb⟩
  have HB4 : Hid (Below w.heap.size w w4) := HB3.out.trans (hb.mono HB3.out.size)
  have HX4 : Hid (TBx w4 w.heap.size t a) := HX3.out.below hb
  have HK4 : Hid (PBx w4 (w.heap.size + 1) 73 y) := HK3.out.below hb
  clear hb HB3 HX3 HK3 HEN
  cases q5
  · go_wp2
    go_ret
    exact ⟨ret_bool HT.out.symm, HB4.out⟩
  have k26 : w4.cell? ⟨w.heap.size + 1, 26, none⟩ = some (.slice y.da y.dn y.dc) := HK4.out.cell 26 rfl
  go_wp2_with (first | (refine wpList_load_rowG rfl 60 (.tmp 3) rfl w.heap.size rfl 60 (tbA t a) (0, 0) _ HX4.out Tryz.underlying60 rfl (by kernel_rfl) ?_) | fail)
  refine Calls.mono (HDE.out _ HB4.out) ?_
  rintro e w5 ⟨rfl, hb⟩
  have HB5 : Hid (Below w.heap.size w w5) := HB4.out.trans (hb.mono HB4.out.size)
  clear hb HB4 HX4 HK4 HDE
  go_wp2
  go_ret
  exact ⟨ret_bool (by rw [HT.out, Bool.true_and, Bool.true_and]), HB5.out⟩
end Go.Proofs.YtknipnenipdgiaaGreatDoor
