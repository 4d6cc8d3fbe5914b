
/-
  The specification's CoreStep: the zero step with its fault where the guest is not right, else what the step on a copy says. Conditions: registers, rows and bytes are at most 1048576 together.
-/
import Derived.Test.YtjlhkjiccibgdaaGreatDoorCs0
namespace Go.Proofs.YtjlhkjiccibgdaaGreatDoor
open Go.ChangeShapes Go.WideShapes Go.ChangeAt Go.RowKit Go.Deep
set_option linter.unusedVariables false

theorem b8 {m : Nat} {w0 w : World} {R : Nat} (h : Below m w0 w) (hR : m ≤ R) (a0 a1 a2 a3 a4 a5 a6 a7 : Value) :
    Below m w0 ((((((((w.setCell ⟨R, 0, none⟩ a0).setCell ⟨R, 1, none⟩ a1).setCell ⟨R, 2, none⟩ a2).setCell ⟨R, 3, none⟩ a3).setCell ⟨R, 4, none⟩ a4).setCell ⟨R, 5, none⟩ a5).setCell ⟨R, 6, none⟩ a6).setCell ⟨R, 7, none⟩ a7) := by
  have g0 := Below.setCell h (p := ⟨R, 0, none⟩) hR a0
  have g1 := Below.setCell g0 (p := ⟨R, 1, none⟩) hR a1
  have g2 := Below.setCell g1 (p := ⟨R, 2, none⟩) hR a2
  have g3 := Below.setCell g2 (p := ⟨R, 3, none⟩) hR a3
  have g4 := Below.setCell g3 (p := ⟨R, 4, none⟩) hR a4
  have g5 := Below.setCell g4 (p := ⟨R, 5, none⟩) hR a5
  have g6 := Below.setCell g5 (p := ⟨R, 6, none⟩) hR a6
  exact Below.setCell g6 (p := ⟨R, 7, none⟩) hR a7
theorem t8 (w : World) (R : Nat) (a0 a1 a2 a3 a4 a5 a6 a7 : Value) :
    Betw R (R + 1) w ((((((((w.setCell ⟨R, 0, none⟩ a0).setCell ⟨R, 1, none⟩ a1).setCell ⟨R, 2, none⟩ a2).setCell ⟨R, 3, none⟩ a3).setCell ⟨R, 4, none⟩ a4).setCell ⟨R, 5, none⟩ a5).setCell ⟨R, 6, none⟩ a6).setCell ⟨R, 7, none⟩ a7) := by
  have g0 := (Betw.refl R (R + 1) w).setCell (p := ⟨R, 0, none⟩) (Nat.le_refl _) (Nat.lt_succ_self _) a0
  have g1 := g0.setCell (p := ⟨R, 1, none⟩) (Nat.le_refl _) (Nat.lt_succ_self _) a1
  have g2 := g1.setCell (p := ⟨R, 2, none⟩) (Nat.le_refl _) (Nat.lt_succ_self _) a2
  have g3 := g2.setCell (p := ⟨R, 3, none⟩) (Nat.le_refl _) (Nat.lt_succ_self _) a3
  have g4 := g3.setCell (p := ⟨R, 4, none⟩) (Nat.le_refl _) (Nat.lt_succ_self _) a4
  have g5 := g4.setCell (p := ⟨R, 5, none⟩) (Nat.le_refl _) (Nat.lt_succ_self _) a5
  have g6 := g5.setCell (p := ⟨R, 6, none⟩) (Nat.le_refl _) (Nat.lt_succ_self _) a6
  exact g6.setCell (p := ⟨R, 7, none⟩) (Nat.le_refl _) (Nat.lt_succ_self _) a7
set_option maxHeartbeats 4000000 in
theorem spec_core_no (a ra ma : Option Addr) (cap wn rl rc n mc : Nat) (pc cy : Int) (xs : List Wn) (rs : List Int) (D : Nat → List Int) (w : World) (hs : ASeg w a xs) (hf : Fit xs) (hl : xs.length = wn) (hn : wn ≤ 9223372036854775807) (hc : wn ≤ cap) (hg : GSeg w ra ma rs n D) (hrl : rs.length = rl) (hno : ¬ GOk xs rs n D) :
    Calls Tryz.prog 6 #[.slice a wn cap, gst ra rl rc pc ma n mc, .int .i64 cy] w fun e w' => e = .returned (stp none 0 0 0 none 0 0 9 (-1) (-1) false false) ∧ Below w.heap.size w w' := by
  have hbw : Below w.heap.size w ((w.alloc (.cells #[.slice ra rl rc, .int .u32 pc, .slice ma n mc] 30)).alloc (.cells (srow none 0 0 0 none 0 0 0 0 0 false false) 32)) := ((Below.refl _ w).alloc (Nat.le_refl _) _).alloc (by simp) _
  have B1 := Bk.new (w.alloc (.cells #[.slice ra rl rc, .int .u32 pc, .slice ma n mc] 30)) (srow none 0 0 0 none 0 0 0 0 0 false false) 32 (w.heap.size + 1) (by simp)
  have HGK : Hid _ := spec_gok a ra ma cap wn rl rc n mc pc xs rs D false _ (hs.below hbw) hf hl hn hc (hg.below hbw) hrl ⟨fun h => (by cases h), fun h => absurd h hno⟩
  have HB : Hid (Below w.heap.size w _) := hbw
  have HB1 : Hid (Bk _ (w.heap.size + 1) (srow none 0 0 0 none 0 0 0 0 0 false false)) := B1
  clear hs hf hl hg hrl hno hbw B1
  go_enter Tryz.func6, Tryz.ntmps6
  go_wp2_with fail
  refine Calls.mono HGK.out ?_
  rintro u w1 ⟨rfl, hb1⟩
  have HBW : Hid (Below w.heap.size w w1) := HB.out.trans (hb1.mono HB.out.size)
  have K1 : Hid (Bk w1 (w.heap.size + 1) (srow none 0 0 0 none 0 0 0 0 0 false false)) := HB1.out.below hb1
  clear hb1 HB HB1 HGK
  have r0 := K1.out.cell 0 _ rfl
  have r1 := K1.out.cell 1 _ rfl
  have r2 := K1.out.cell 2 _ rfl
  have r3 := K1.out.cell 3 _ rfl
  have r4 := K1.out.cell 4 _ rfl
  have r5 := K1.out.cell 5 _ rfl
  have r6 := K1.out.cell 6 _ rfl
  have r7 := K1.out.cell 7 _ rfl
  have rf := K1.out.free
  go_wp2
  have k8 := bk8 K1.out (.slice none 0 0) (.int .u32 0) (.slice none 0 0) (.int .i64 9) (.int .i64 (-1)) (.int .i64 (-1)) (.bool false) (.bool false)
  have h8 : Below w.heap.size w ((((((((w1.setCell ⟨w.heap.size + 1, 0, none⟩ (.slice none 0 0)).setCell ⟨w.heap.size + 1, 1, none⟩ (.int .u32 0)).setCell ⟨w.heap.size + 1, 2, none⟩ (.slice none 0 0)).setCell ⟨w.heap.size + 1, 3, none⟩ (.int .i64 9)).setCell ⟨w.heap.size + 1, 4, none⟩ (.int .i64 (-1))).setCell ⟨w.heap.size + 1, 5, none⟩ (.int .i64 (-1))).setCell ⟨w.heap.size + 1, 6, none⟩ (.bool false)).setCell ⟨w.heap.size + 1, 7, none⟩ (.bool false)) := b8 HBW.out (Nat.le_succ _) _ _ _ _ _ _ _ _
  clear r0 r1 r2 r3 r4 r5 r6 r7 rf K1 HBW
  revert h8 k8
  generalize ((((((((w1.setCell ⟨w.heap.size + 1, 0, none⟩ (.slice none 0 0)).setCell ⟨w.heap.size + 1, 1, none⟩ (.int .u32 0)).setCell ⟨w.heap.size + 1, 2, none⟩ (.slice none 0 0)).setCell ⟨w.heap.size + 1, 3, none⟩ (.int .i64 9)).setCell ⟨w.heap.size + 1, 4, none⟩ (.int .i64 (-1))).setCell ⟨w.heap.size + 1, 5, none⟩ (.int .i64 (-1))).setCell ⟨w.heap.size + 1, 6, none⟩ (.bool false)).setCell ⟨w.heap.size + 1, 7, none⟩ (.bool false)) = Wf
  intro k8 h8
  have q0 := k8.cell 0 _ rfl
  have q1 := k8.cell 1 _ rfl
  have q2 := k8.cell 2 _ rfl
  have q3 := k8.cell 3 _ rfl
  have q4 := k8.cell 4 _ rfl
  have q5 := k8.cell 5 _ rfl
  have q6 := k8.cell 6 _ rfl
  have q7 := k8.cell 7 _ rfl
  exact bodyPost_ret (v := stp none 0 0 0 none 0 0 9 (-1) (-1) false false) (by simp [results, Tryz.results6, go_sem, q0, q1, q2, q3, q4, q5, q6, q7]) rfl ⟨rfl, h8⟩
set_option maxHeartbeats 4000000 in
theorem spec_core (a ra ma : Option Addr) (cap rc n mc : Nat) (pc pc' cy fa op to : Int) (wr ca : Bool) (xs : List Wn) (rs rs' : List Int) (D D' : Nat → List Int) (w : World) (hs : ASeg w a xs) (hf : Fit xs) (hc : n ≤ cap) (hg : GSeg w ra ma rs n D) (hn1 : n ≤ 1048576) (ht : btot D n ≤ 1048576) (hgo : GOk xs rs n D)
    (hst : ∀ (X : World) lo hi ra' ma' rc' mc', Below w.heap.size w X → w.heap.size ≤ lo → lo ≤ hi → hi ≤ X.heap.size → Sep X lo hi ra' ma' rs n D →
      Calls Tryz.prog 20 #[.slice a n cap, gst ra' 16 rc' pc ma' n mc', .int .i64 cy] X fun e w' => e = .returned (stp ra' 16 rc' pc' ma' n mc' fa op to wr ca) ∧ Betw lo hi X w' ∧ Sep w' lo hi ra' ma' rs' n D') :
    Calls Tryz.prog 6 #[.slice a n cap, gst ra 16 rc pc ma n mc, .int .i64 cy] w fun e w' => ∃ ra' ma' rc' mc', e = .returned (stp ra' 16 rc' pc' ma' n mc' fa op to wr ca) ∧ Below w.heap.size w w' ∧ Sep w' w.heap.size w'.heap.size ra' ma' rs' n D' := by
  have hl : xs.length = n := hgo.2.2.2.1.symm
  have h4 := hgo.1.1
  have hbw : Below w.heap.size w ((w.alloc (.cells #[.slice ra 16 rc, .int .u32 pc, .slice ma n mc] 30)).alloc (.cells (srow none 0 0 0 none 0 0 0 0 0 false false) 32)) := ((Below.refl _ w).alloc (Nat.le_refl _) _).alloc (by simp) _
  have B0 := (Bk.new w #[.slice ra 16 rc, .int .u32 pc, .slice ma n mc] 30 w.heap.size rfl).alloc (.cells (srow none 0 0 0 none 0 0 0 0 0 false false) 32)
  have B1 := Bk.new (w.alloc (.cells #[.slice ra 16 rc, .int .u32 pc, .slice ma n mc] 30)) (srow none 0 0 0 none 0 0 0 0 0 false false) 32 (w.heap.size + 1) (by simp)
  have HGK : Hid _ := spec_gok a ra ma cap n 16 rc n mc pc xs rs D true _ (hs.below hbw) hf hl (by omega) hc (hg.below hbw) hgo.2.1 ⟨fun _ => hgo, fun _ => rfl⟩
  have HCP : Hid (∀ X, Below w.heap.size w X → Calls Tryz.prog 21 #[gst ra 16 rc pc ma n mc] X fun e w' => ∃ ra' ma' rc' mc', e = .returned (gst ra' 16 rc' pc ma' n mc') ∧ Below X.heap.size X w' ∧ Sep w' X.heap.size w'.heap.size ra' ma' rs n D) := fun X hX => spec_copy pc ra ma 16 rc n mc rs D X (hg.below hX) hgo.2.1 (by omega) hn1 ht
  have HST : Hid (∀ (X : World) lo hi ra' ma' rc' mc', Below w.heap.size w X → w.heap.size ≤ lo → lo ≤ hi → hi ≤ X.heap.size → Sep X lo hi ra' ma' rs n D →
      Calls Tryz.prog 20 #[.slice a n cap, gst ra' 16 rc' pc ma' n mc', .int .i64 cy] X fun e w' => e = .returned (stp ra' 16 rc' pc' ma' n mc' fa op to wr ca) ∧ Betw lo hi X w' ∧ Sep w' lo hi ra' ma' rs' n D') := hst
  have HB : Hid (Below w.heap.size w _) := hbw
  have HK : Hid (Bk _ w.heap.size #[.slice ra 16 rc, .int .u32 pc, .slice ma n mc] ∧ Bk _ (w.heap.size + 1) (srow none 0 0 0 none 0 0 0 0 0 false false)) := ⟨B0, B1⟩
  clear hs hf hl hg hgo hbw B0 B1 hst ht h4
  go_enter Tryz.func6, Tryz.ntmps6
  go_wp2_with fail
  refine Calls.mono HGK.out ?_
  rintro u w1 ⟨rfl, hb1⟩
  have HBW : Hid (Below w.heap.size w w1) := HB.out.trans (hb1.mono HB.out.size)
  have K1 : Hid (Bk w1 w.heap.size #[.slice ra 16 rc, .int .u32 pc, .slice ma n mc] ∧ Bk w1 (w.heap.size + 1) (srow none 0 0 0 none 0 0 0 0 0 false false)) := ⟨HK.out.1.below hb1, HK.out.2.below hb1⟩
  clear hb1 HB HK HGK
  have g0 := K1.out.1.cell 0 _ rfl
  have g1 := K1.out.1.cell 1 _ rfl
  have g2 := K1.out.1.cell 2 _ rfl
  go_wp2_with fail
  refine Calls.mono (HCP.out _ HBW.out) ?_
  rintro u w2 ⟨ra2, ma2, rc2, mc2, rfl, hb2, ho2⟩
  have z1 : w.heap.size + 1 < w1.heap.size := K1.out.2.lt
  have z2 : w1.heap.size ≤ w2.heap.size := hb2.size
  have HB2 : Hid (Below w.heap.size w w2) := HBW.out.trans (hb2.mono HBW.out.size)
  have K2 : Hid (Bk w2 (w.heap.size + 1) (srow none 0 0 0 none 0 0 0 0 0 false false)) := K1.out.2.below hb2
  have HO2 : Hid (Sep w2 w1.heap.size w2.heap.size ra2 ma2 rs n D) := ho2
  clear g0 g1 g2 hb2 ho2 HBW K1 HCP
  go_wp2_with fail
  refine Calls.mono (HST.out _ _ _ ra2 ma2 rc2 mc2 HB2.out (by omega) z2 (Nat.le_refl _) HO2.out) ?_
  rintro u w3 ⟨rfl, hbt, ho3⟩
  have z3 : w2.heap.size ≤ w3.heap.size := hbt.size
  have HB3 : Hid (Below w.heap.size w w3) := HB2.out.trans (hbt.below (by omega) HB2.out.size)
  have K3 : Hid (Bk w3 (w.heap.size + 1) (srow none 0 0 0 none 0 0 0 0 0 false false)) := K2.out.betw hbt (.inl (by omega))
  have HO3 : Hid (Sep w3 w1.heap.size w2.heap.size ra2 ma2 rs' n D') := ho3
  clear hbt ho3 HB2 K2 HO2 HST
  have r0 := K3.out.cell 0 _ rfl
  have r1 := K3.out.cell 1 _ rfl
  have r2 := K3.out.cell 2 _ rfl
  have r3 := K3.out.cell 3 _ rfl
  have r4 := K3.out.cell 4 _ rfl
  have r5 := K3.out.cell 5 _ rfl
  have r6 := K3.out.cell 6 _ rfl
  have r7 := K3.out.cell 7 _ rfl
  have rf := K3.out.free
  go_wp2
  have k8 := bk8 K3.out (.slice ra2 16 rc2) (.int .u32 pc') (.slice ma2 n mc2) (.int .i64 fa) (.int .i64 op) (.int .i64 to) (.bool wr) (.bool ca)
  have h8 := b8 HB3.out (R := w.heap.size + 1) (Nat.le_succ _) (.slice ra2 16 rc2) (.int .u32 pc') (.slice ma2 n mc2) (.int .i64 fa) (.int .i64 op) (.int .i64 to) (.bool wr) (.bool ca)
  have hbt8 := t8 w3 (w.heap.size + 1) (.slice ra2 16 rc2) (.int .u32 pc') (.slice ma2 n mc2) (.int .i64 fa) (.int .i64 op) (.int .i64 to) (.bool wr) (.bool ca)
  clear r0 r1 r2 r3 r4 r5 r6 r7 rf K3 HB3
  revert k8 h8 hbt8
  generalize ((((((((w3.setCell ⟨w.heap.size + 1, 0, none⟩ (.slice ra2 16 rc2)).setCell ⟨w.heap.size + 1, 1, none⟩ (.int .u32 pc')).setCell ⟨w.heap.size + 1, 2, none⟩ (.slice ma2 n mc2)).setCell ⟨w.heap.size + 1, 3, none⟩ (.int .i64 fa)).setCell ⟨w.heap.size + 1, 4, none⟩ (.int .i64 op)).setCell ⟨w.heap.size + 1, 5, none⟩ (.int .i64 to)).setCell ⟨w.heap.size + 1, 6, none⟩ (.bool wr)).setCell ⟨w.heap.size + 1, 7, none⟩ (.bool ca)) = Wf
  intro k8 h8 hbt8
  have q0 := k8.cell 0 _ rfl
  have q1 := k8.cell 1 _ rfl
  have q2 := k8.cell 2 _ rfl
  have q3 := k8.cell 3 _ rfl
  have q4 := k8.cell 4 _ rfl
  have q5 := k8.cell 5 _ rfl
  have q6 := k8.cell 6 _ rfl
  have q7 := k8.cell 7 _ rfl
  have zf : w3.heap.size ≤ Wf.heap.size := hbt8.size
  exact bodyPost_ret (v := stp ra2 16 rc2 pc' ma2 n mc2 fa op to wr ca) (by simp [results, Tryz.results6, go_sem, q0, q1, q2, q3, q4, q5, q6, q7]) rfl ⟨ra2, ma2, rc2, mc2, rfl, h8, Sep.wide (Sep.betw HO3.out hbt8 (.inr (by omega))) (by omega) (by omega)⟩
end Go.Proofs.YtjlhkjiccibgdaaGreatDoor
