
/-
  PartOk of both sides: whether a state of a partition is right for its tables. Conditions: the lists lie in memory; the program's table of extras holds what the program's text lays.
-/
import Derived.Test.YtknipnenipdgiaaGreatDoorBas
import Derived.Test.YtknipnenipdgiaaGreatDoorNre
import Derived.Test.YtknipnenipdgiaaGreatDoorDke
import Derived.Test.YtknipnenipdgiaaGreatDoorGue
import Derived.Test.YtknipnenipdgiaaGreatDoorImg
import Derived.Test.YtknipnenipdgiaaGreatDoorLsw
namespace Go.Proofs.YtknipnenipdgiaaGreatDoor
open Go.ChangeShapes Go.WideShapes Go.ChangeAt Go.RowKit Go.Deep Go.Joins
set_option linter.unusedVariables false

def wsOf (t : Tb) (p : Int) : List Wn := (t.ps.getD p.toNat pt0).ws
def POk (t : Tb) (p : Int) (y : Ps) (d : Pd) : Prop := (Sd t ∧ ImFit t p y.bn d.Fb) ∧ GOk (wsOf t p) d.R y.mn d.D ∧ Hq.hltOk y.hf y.hr y.hl = true ∧ NearP t y.cs y.cy y.cl y.ts y.kn d.E d.Z ∧ (0 ≤ y.nx ∧ y.nx ≤ 100000) ∧ EndsP t p y d ∧ DevP t p y d
set_option maxRecDepth 40000 in
set_option maxHeartbeats 16000000 in
theorem spec_partok (t : Tb) (a : Ad) (p : Int) (y : Ps) (d : Pd) (q : Bool) (w : World) (hm : TM 0 w t a) (hw : TW t a) (hs : TS a) (hps : PSeg w y d) (hl : PLen y d) (hf : PFit y d) (hq : q = true ↔ POk t p y d) :
    Calls Tryz.prog 10 #[tbV t a, .int .i64 p, psV y] w fun e w' => e = .returned (.bool q) ∧ Below w.heap.size w w' := by
  have HB0 : Hid (Below w.heap.size w ((w.alloc (.cells (tbA t a) 60)).alloc (.cells (psA y) 73))) := ((Below.refl _ _).alloc (Nat.le_refl _) _).alloc (by simp) _
  have HX0 : Hid (TBx ((w.alloc (.cells (tbA t a) 60)).alloc (.cells (psA y) 73)) w.heap.size t a) := (TBx.new w t a _ rfl).below ((Below.refl _ _).alloc (Nat.le_refl _) _)
  have HK0 : Hid (PBx ((w.alloc (.cells (tbA t a) 60)).alloc (.cells (psA y) 73)) (w.heap.size + 1) 73 y) := PBx.new _ _ y _ (by simp)
  obtain ⟨q1, hq1⟩ := told (Sd t ∧ ImFit t p y.bn d.Fb)
  obtain ⟨q2, hq2⟩ := told (GOk (wsOf t p) d.R y.mn d.D)
  have HQ : Hid (q = true ↔ POk t p y d) := hq
  have HQ1 : Hid (q1 = true ↔ (Sd t ∧ ImFit t p y.bn d.Fb)) := hq1
  have HQ2 : Hid (q2 = true ↔ GOk (wsOf t p) d.R y.mn d.D) := hq2
  have HL : Hid (t.ps.length = a.pn) := hw.pl
  have hpn : a.pn ≤ 1048576 := hs.p
  have HP : Hid (∀ X, Below w.heap.size w X → PSegL 0 X a.pa a.pn t.ps a.Y) := fun X hX => (hm.below hX).p
  have HIM : Hid (∀ X, Below w.heap.size w X → Calls Tryz.prog 41 #[tbV t a, .int .i64 p, .slice y.ba y.bn y.bc] X fun e w' => e = .returned (.bool q1) ∧ Below X.heap.size X w') := fun X hX => spec_image t a p y.ba y.bc y.bn d.Fb q1 X (hm.below hX) hw hs (hps.below hX).b hf.zbn (fun i hi => Nat.le_trans (btot_row d.Fb hi) hf.zF)  hq1
  have HGU : Hid (∀ X, Below w.heap.size w X → ∀ i, i < a.pn → (i : Int) = p → Sd t → Calls Tryz.prog 42 #[.slice (a.Y i).wa (a.Y i).wn (a.Y i).wc, .agg #[.slice y.ra y.rl y.rc, .int .u32 y.pc, .slice y.ma y.mn y.mc]] X fun e w' => e = .returned (.bool q2) ∧ Below X.heap.size X w') := fun X hX i hi hip hsd => by
    subst hip
    have hg := ((hm.below hX).p.2 i hi)
    exact spec_gok (a.Y i).wa y.ra y.ma (a.Y i).wc (a.Y i).wn y.rl y.rc y.mn y.mc y.pc (t.ps.getD i pt0).ws d.R d.D q2 X hg.aseg hg.ln (by have := (hs.w i hi).1; omega) hg.cp ⟨(hps.below hX).r, (hps.below hX).g⟩ hl.zr (sd_wsok hsd (by rw [hw.pl]; exact hi)) hq2
  obtain ⟨q3, HQ3⟩ : ∃ z, Hid (Hq.hltOk y.hf y.hr y.hl = z) := ⟨_, rfl⟩
  have HHE : Hid (∀ X, Calls Tryz.prog 43 #[.agg #[.int .i64 y.hf, .int .i64 y.hr, .int .i64 y.hl, .bool y.hh]] X fun e w' => e = .returned (.bool q3) ∧ Below X.heap.size X w') := fun X => by rw [← HQ3.out]; exact Hq.spec_hok y.hf y.hr y.hl y.hh X
  obtain ⟨q4, hq4⟩ := told (Cw.CacheOkP y.cs y.cy y.cl y.kn d.E)
  obtain ⟨q5, hq5⟩ := told (Tq.TlbOkP y.ts d.Z)
  obtain ⟨q6, hq6⟩ := told (EndsP t p y d ∧ DevP t p y d)
  have HQ4 : Hid (q4 = true ↔ Cw.CacheOkP y.cs y.cy y.cl y.kn d.E) := hq4
  have HQ5 : Hid (q5 = true ↔ Tq.TlbOkP y.ts d.Z) := hq5
  have HQ6 : Hid (q6 = true ↔ (EndsP t p y d ∧ DevP t p y d)) := hq6
  have HCK : Hid (∀ X, Below w.heap.size w X → Calls Tryz.prog 44 #[.agg #[.int .i64 y.cs, .int .i64 y.cy, .int .i64 y.cl, .slice y.ka y.kn y.kc]] X fun e w' => e = .returned (.bool q4) ∧ Below X.heap.size X w') := fun X hX => Cw.spec_cachek y.cs y.cy y.cl y.ka y.kc y.kn d.E X (hps.below hX).c hf.zkn hf.zE q4 hq4
  have HTK : Hid (∀ X, Below w.heap.size w X → Calls Tryz.prog 45 #[.agg #[.int .i64 y.ts, .slice y.ta y.tn y.tc]] X fun e w' => e = .returned (.bool q5) ∧ Below X.heap.size X w') := fun X hX => Tq.spec_tok y.ts y.ta y.tc y.tn d.Z X (hps.below hX).t hl.zz hf.ztn q5 hq5
  have HEN : Hid (∀ X, Below w.heap.size w X → Sd t → Calls Tryz.prog 47 #[tbV t a, .int .i64 p, psV y] X fun e w' => e = .returned (.bool q6) ∧ Below X.heap.size X w') := fun X hX hsd => spec_ends t a p y d q6 X (hm.below hX) hw hs hsd (hps.below hX) hf hq6
  clear hm hw hs hps hl hf hq hq1 hq2 hq4 hq5 hq6
  go_enter Tryz.func10, Tryz.ntmps10
  go_wp2
  revert HB0 HX0 HK0
  generalize ((w.alloc (.cells (tbA t a) 60)).alloc (.cells (psA y) 73)) = V
  intro HB0 HX0 HK0
  have HXX : Hid (∀ w', (∃ X : Gr V, w' = X.w) → w'.heap[w.heap.size]? = some (.cells (tbA t a) 60 (0, 0))) := fun w' hX => by
    obtain ⟨X, rfl⟩ := hX
    exact HX0.out.below X.h
  have HBG : Hid (∀ X : Gr V, Below w.heap.size w X.w) := fun X => HB0.out.trans (X.h.mono HB0.out.size)
  have g23 := fun X => gr_cell (W0 := V) (HK0.out.cell 23 (v := .slice y.ba y.bn y.bc) rfl) X
  cases q1
  · have HT : Hid (q = false) := not_true HQ.out (fun g => by have := HQ1.out.2 g.1; cases this)
    clear HQ HQ1 HQ2 HQ4 HQ5 HQ6 HCK HTK HEN HGU
    have hgr := gr_some V
    refine region_alike (by kernel_rfl) (by kernel_rfl) ?_
    (refine wpQuiet_load_row rfl 60 (.tmp 3) rfl w.heap.size rfl 60 (tbA t a) (0, 0) _ HXX.out Tryz.underlying60 rfl (by kernel_rfl) ?_; simp only [Act.put, List.setIfInBounds_toArray, List.set_cons_zero, List.set_cons_succ])
    repeat (go_big_quiet_step (first | (go_at_call 41; exact gr_call (HIM.out _ (HBG.out _))) | (go_at_call 42; exact gr_call (HGK.out _)) | (go_at_call 43; exact gr_call (HHE.out _))))
    refine wpQuiet_nil ?_
    intro _ hw'
    obtain ⟨X1, rfl⟩ := hw'
    have HB1 : Hid (Below w.heap.size w X1.w) := HB0.out.trans (X1.h.mono HB0.out.size)
    have HX1 : Hid (TBx X1.w w.heap.size t a) := HX0.out.below X1.h
    have HK1 : Hid (PBx X1.w (w.heap.size + 1) 73 y) := HK0.out.below X1.h
    generalize X1.w = w1 at HB1 HX1 HK1 ⊢
    clear hgr HXX HBG g23
    go_wp2
    go_ret
    exact ⟨ret_bool HT.out.symm, HB1.out⟩
  have HI1 : Hid (Sd t ∧ ImFit t p y.bn d.Fb) := HQ1.out.1 (by first | rfl | trivial)
  have hp : 0 ≤ p ∧ p < (a.pn : Int) := ⟨HI1.out.2.1, by rw [← HL.out]; exact HI1.out.2.2.1⟩
  obtain ⟨P, rfl⟩ : ∃ P : Nat, p = (P : Int) := ⟨p.toNat, by omega⟩
  have hP : P < a.pn := by omega
  have hP' : (P : Int) < (a.pn : Int) := by omega
  have hP0 : (0 : Int) ≤ (P : Int) := by omega
  clear HQ1 hp
  obtain ⟨b1, o1, hsa, hbl1, p1⟩ := (HP.out _ HB0.out).1.seg.at P hP
  have g15 := fun X => gr_cell (W0 := V) (HX0.out.cell 15 (v := .slice a.pa a.pn a.pc) rfl) X
  rw [hsa] at g15
  have c4 : V.cell? ⟨b1, o1 + P * 5 + 4, none⟩ = some (.slice (a.Y P).wa (a.Y P).wn (a.Y P).wc) := (rw_cells p1).2.2.2.2
  have gc4 := fun X => gr_cell (W0 := V) c4 X
  have HGK : Hid (∀ X : Gr V, Calls Tryz.prog 42 #[.slice (a.Y P).wa (a.Y P).wn (a.Y P).wc, .agg #[.slice y.ra y.rl y.rc, .int .u32 y.pc, .slice y.ma y.mn y.mc]] X.w fun e w' => e = .returned (.bool q2) ∧ Below X.w.heap.size X.w w') := fun X => HGU.out X.w (HBG.out X) P hP rfl HI1.out.1
  clear HGU p1 hbl1 hsa c4
  generalize (a.Y P).wa = ya at gc4 HGK
  generalize (a.Y P).wn = yn at gc4 HGK
  generalize (a.Y P).wc = yc at gc4 HGK
  have g0 := fun X => gr_cell (W0 := V) (HK0.out.cell 0 (v := .slice y.ra y.rl y.rc) rfl) X
  have g1 := fun X => gr_cell (W0 := V) (HK0.out.cell 1 (v := .int .u32 y.pc) rfl) X
  have g2 := fun X => gr_cell (W0 := V) (HK0.out.cell 2 (v := .slice y.ma y.mn y.mc) rfl) X
  cases q2
  · have HT : Hid (q = false) := not_true HQ.out (fun g => by have := HQ2.out.2 g.2.1; cases this)
    clear HQ HQ2 HQ4 HQ5 HQ6 HCK HTK HEN
    have hgr := gr_some V
    refine region_alike (by kernel_rfl) (by kernel_rfl) ?_
    (refine wpQuiet_load_row rfl 60 (.tmp 3) rfl w.heap.size rfl 60 (tbA t a) (0, 0) _ HXX.out Tryz.underlying60 rfl (by kernel_rfl) ?_; simp only [Act.put, List.setIfInBounds_toArray, List.set_cons_zero, List.set_cons_succ])
    repeat (go_big_quiet_step (first | (go_at_call 41; exact gr_call (HIM.out _ (HBG.out _))) | (go_at_call 42; exact gr_call (HGK.out _)) | (go_at_call 43; exact gr_call (HHE.out _))))
    refine wpQuiet_nil ?_
    intro _ hw'
    obtain ⟨X1, rfl⟩ := hw'
    have HB1 : Hid (Below w.heap.size w X1.w) := HB0.out.trans (X1.h.mono HB0.out.size)
    have HX1 : Hid (TBx X1.w w.heap.size t a) := HX0.out.below X1.h
    have HK1 : Hid (PBx X1.w (w.heap.size + 1) 73 y) := HK0.out.below X1.h
    generalize X1.w = w1 at HB1 HX1 HK1 ⊢
    clear hgr HXX HBG g23 g15 gc4 g0 g1 g2 HGK
    go_wp2
    go_ret
    exact ⟨ret_bool HT.out.symm, HB1.out⟩
  have HG1 : Hid (GOk (wsOf t (P : Int)) d.R y.mn d.D) := HQ2.out.1 (by first | rfl | trivial)
  have g11 := fun X => gr_cell (W0 := V) (HK0.out.cell 11 (v := .int .i64 y.hf) rfl) X
  have g12 := fun X => gr_cell (W0 := V) (HK0.out.cell 12 (v := .int .i64 y.hr) rfl) X
  have g13 := fun X => gr_cell (W0 := V) (HK0.out.cell 13 (v := .int .i64 y.hl) rfl) X
  have g14 := fun X => gr_cell (W0 := V) (HK0.out.cell 14 (v := .bool y.hh) rfl) X
  clear HQ2
  cases q3
  · have HT : Hid (q = false) := not_true HQ.out (fun g => by have := g.2.2.1; rw [HQ3.out] at this; cases this)
    clear HQ HQ4 HQ5 HQ6 HCK HTK HEN
    have hgr := gr_some V
    refine region_alike (by kernel_rfl) (by kernel_rfl) ?_
    (refine wpQuiet_load_row rfl 60 (.tmp 3) rfl w.heap.size rfl 60 (tbA t a) (0, 0) _ HXX.out Tryz.underlying60 rfl (by kernel_rfl) ?_; simp only [Act.put, List.setIfInBounds_toArray, List.set_cons_zero, List.set_cons_succ])
    repeat (go_big_quiet_step (first | (go_at_call 41; exact gr_call (HIM.out _ (HBG.out _))) | (go_at_call 42; exact gr_call (HGK.out _)) | (go_at_call 43; exact gr_call (HHE.out _))))
    refine wpQuiet_nil ?_
    intro _ hw'
    obtain ⟨X1, rfl⟩ := hw'
    have HB1 : Hid (Below w.heap.size w X1.w) := HB0.out.trans (X1.h.mono HB0.out.size)
    have HX1 : Hid (TBx X1.w w.heap.size t a) := HX0.out.below X1.h
    have HK1 : Hid (PBx X1.w (w.heap.size + 1) 73 y) := HK0.out.below X1.h
    generalize X1.w = w1 at HB1 HX1 HK1 ⊢
    clear hgr HXX HBG g23 g15 gc4 g0 g1 g2 HGK g11 g12 g13 g14
    go_wp2
    go_ret
    exact ⟨ret_bool HT.out.symm, HB1.out⟩
  have hgr := gr_some V
  refine region_alike (by kernel_rfl) (by kernel_rfl) ?_
  (refine wpQuiet_load_row rfl 60 (.tmp 3) rfl w.heap.size rfl 60 (tbA t a) (0, 0) _ HXX.out Tryz.underlying60 rfl (by kernel_rfl) ?_; simp only [Act.put, List.setIfInBounds_toArray, List.set_cons_zero, List.set_cons_succ])
  repeat (go_big_quiet_step (first | (go_at_call 41; exact gr_call (HIM.out _ (HBG.out _))) | (go_at_call 42; exact gr_call (HGK.out _)) | (go_at_call 43; exact gr_call (HHE.out _))))
  refine wpQuiet_nil ?_
  intro _ hw'
  obtain ⟨X1, rfl⟩ := hw'
  have HB1 : Hid (Below w.heap.size w X1.w) := HB0.out.trans (X1.h.mono HB0.out.size)
  have HX1 : Hid (TBx X1.w w.heap.size t a) := HX0.out.below X1.h
  have HK1 : Hid (PBx X1.w (w.heap.size + 1) 73 y) := HK0.out.below X1.h
  generalize X1.w = w1 at HB1 HX1 HK1 ⊢
  clear hgr HXX HBG g23 g15 gc4 g0 g1 g2 g11 g12 g13 g14
  clear HIM HGK HHE HP
  have k15 : w1.cell? ⟨w.heap.size + 1, 15, none⟩ = some (.int .i64 y.cs) := HK1.out.cell 15 rfl
  have k16 : w1.cell? ⟨w.heap.size + 1, 16, none⟩ = some (.int .i64 y.cy) := HK1.out.cell 16 rfl
  have k17 : w1.cell? ⟨w.heap.size + 1, 17, none⟩ = some (.int .i64 y.cl) := HK1.out.cell 17 rfl
  have k18 : w1.cell? ⟨w.heap.size + 1, 18, none⟩ = some (.slice y.ka y.kn y.kc) := HK1.out.cell 18 rfl
  go_wp2_with fail
  refine Calls.mono (HCK.out _ HB1.out) ?_
  rintro e w2 ⟨rfl, hb⟩
  have HB2 : Hid (Below w.heap.size w w2) := HB1.out.trans (hb.mono HB1.out.size)
  have HX2 : Hid (TBx w2 w.heap.size t a) := HX1.out.below hb
  have HK2 : Hid (PBx w2 (w.heap.size + 1) 73 y) := HK1.out.below hb
  clear hb HB1 HX1 HK1 HCK k15 k16 k17 k18
  cases q4
  · have HT : Hid (q = false) := not_true HQ.out (fun g => by have := HQ4.out.2 g.2.2.2.1.1; cases this)
    go_wp2
    go_ret
    exact ⟨ret_bool HT.out.symm, HB2.out⟩
  have HC : Hid (Cw.CacheOkP y.cs y.cy y.cl y.kn d.E) := HQ4.out.1 (by first | rfl | trivial)
  clear HQ4
  have k15 : w2.cell? ⟨w.heap.size + 1, 15, none⟩ = some (.int .i64 y.cs) := HK2.out.cell 15 rfl
  have k16 : w2.cell? ⟨w.heap.size + 1, 16, none⟩ = some (.int .i64 y.cy) := HK2.out.cell 16 rfl
  have k17 : w2.cell? ⟨w.heap.size + 1, 17, none⟩ = some (.int .i64 y.cl) := HK2.out.cell 17 rfl
  have k19 : w2.cell? ⟨w.heap.size + 1, 19, none⟩ = some (.int .i64 y.ts) := HK2.out.cell 19 rfl
  have k20 : w2.cell? ⟨w.heap.size + 1, 20, none⟩ = some (.slice y.ta y.tn y.tc) := HK2.out.cell 20 rfl
  have t1 : w2.cell? ⟨w.heap.size, 1, none⟩ = some (.int .i64 t.s1) := HX2.out.cell 1 rfl
  have t2 : w2.cell? ⟨w.heap.size, 2, none⟩ = some (.int .i64 t.s2) := HX2.out.cell 2 rfl
  have t3 : w2.cell? ⟨w.heap.size, 3, none⟩ = some (.int .i64 t.s3) := HX2.out.cell 3 rfl
  by_cases n0 : y.cs = t.s1
  rotate_left
  · have HT : Hid (q = false) := not_true HQ.out (fun g => n0 g.2.2.2.1.2.1.1)
    have E0 : (y.cs == t.s1) = false := eqb_no n0
    go_wp2
    go_ret
    exact ⟨ret_bool HT.out.symm, HB2.out⟩
  have E0 : (y.cs == t.s1) = true := eqb_yes n0
  by_cases n1 : y.cy = t.s2
  rotate_left
  · have HT : Hid (q = false) := not_true HQ.out (fun g => n1 g.2.2.2.1.2.1.2.1)
    have E1 : (y.cy == t.s2) = false := eqb_no n1
    go_wp2
    go_ret
    exact ⟨ret_bool HT.out.symm, HB2.out⟩
  have E1 : (y.cy == t.s2) = true := eqb_yes n1
  by_cases n2 : y.cl = t.s3
  rotate_left
  · have HT : Hid (q = false) := not_true HQ.out (fun g => n2 g.2.2.2.1.2.1.2.2)
    have E2 : (y.cl == t.s3) = false := eqb_no n2
    go_wp2
    go_ret
    exact ⟨ret_bool HT.out.symm, HB2.out⟩
  have E2 : (y.cl == t.s3) = true := eqb_yes n2
  have HE : Hid (y.cs = t.s1 ∧ y.cy = t.s2 ∧ y.cl = t.s3) := ⟨n0, n1, n2⟩
  clear n0 n1 n2
  go_wp2_with fail
  refine Calls.mono (HTK.out _ HB2.out) ?_
  rintro e w3 ⟨rfl, hb⟩
  have HB3 : Hid (Below w.heap.size w w3) := HB2.out.trans (hb.mono HB2.out.size)
  have HX3 : Hid (TBx w3 w.heap.size t a) := HX2.out.below hb
  have HK3 : Hid (PBx w3 (w.heap.size + 1) 73 y) := HK2.out.below hb
  clear hb HB2 HX2 HK2 HTK k15 k16 k17 k19 k20 t1 t2 t3 E0 E1 E2
  cases q5
  · have HT : Hid (q = false) := not_true HQ.out (fun g => by have := HQ5.out.2 g.2.2.2.1.2.2.1; cases this)
    go_wp2
    go_ret
    exact ⟨ret_bool HT.out.symm, HB3.out⟩
  have HZ : Hid (Tq.TlbOkP y.ts d.Z) := HQ5.out.1 (by first | rfl | trivial)
  clear HQ5
  have k19 : w3.cell? ⟨w.heap.size + 1, 19, none⟩ = some (.int .i64 y.ts) := HK3.out.cell 19 rfl
  have k21 : w3.cell? ⟨w.heap.size + 1, 21, none⟩ = some (.int .i64 y.nx) := HK3.out.cell 21 rfl
  have t4 : w3.cell? ⟨w.heap.size, 4, none⟩ = some (.int .i64 t.tlb) := HX3.out.cell 4 rfl
  by_cases n3 : y.ts = t.tlb
  rotate_left
  · have HT : Hid (q = false) := not_true HQ.out (fun g => n3 g.2.2.2.1.2.2.2)
    have E3 : (y.ts != t.tlb) = true := neb_yes n3
    go_wp2
    go_ret
    exact ⟨ret_bool HT.out.symm, HB3.out⟩
  have E3 : (y.ts != t.tlb) = false := neb_no n3
  have HNR : Hid (NearP t y.cs y.cy y.cl y.ts y.kn d.E d.Z) := ⟨HC.out, HE.out, HZ.out, n3⟩
  clear n3 HC HE HZ
  go_wp2_with fail
  refine Calls.mono (in_any y.nx 0 100000 _) ?_
  rintro e w4 ⟨rfl, hw4⟩
  subst hw4
  clear k19 k21 t4 E3
  by_cases hn : 0 ≤ y.nx ∧ y.nx ≤ 100000
  rotate_left
  · have HT : Hid (q = false) := not_true HQ.out (fun g => hn g.2.2.2.2.1)
    rw [inr_no hn]
    go_wp2
    go_ret
    exact ⟨ret_bool HT.out.symm, HB3.out⟩
  rw [inr_yes hn]
  have HT : Hid (q6 = q) := bool_is HQ.out (HQ6.out.trans ⟨fun g => ⟨HI1.out, HG1.out, HQ3.out, HNR.out, hn, g⟩, fun g => g.2.2.2.2.2⟩)
  clear HQ HQ6 hn
  go_wp2_with (first | (refine wpList_load_rowG rfl 60 (.tmp 3) rfl w.heap.size rfl 60 (tbA t a) (0, 0) _ HX3.out Tryz.underlying60 rfl (by kernel_rfl) ?_) | (refine wpList_load_rowG rfl 73 (.tmp 5) rfl (w.heap.size + 1) rfl 73 (psA y) (0, 0) _ HK3.out Tryz.underlying73 rfl (by kernel_rfl) ?_) | fail)
  refine Calls.mono (HEN.out _ HB3.out HI1.out.1) ?_
  rintro e w5 ⟨rfl, hb⟩
  have HB5 : Hid (Below w.heap.size w w5) := HB3.out.trans (hb.mono HB3.out.size)
  clear hb HB3 HX3 HK3 HEN
  go_wp2
  go_ret
  exact ⟨ret_bool HT.out, HB5.out⟩
end Go.Proofs.YtknipnenipdgiaaGreatDoor
