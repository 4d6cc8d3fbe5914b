
/-
  The specification's HealthRun: the health and the acts that the plain functions say, in memory of its own. Conditions: the list reads as integers and has at most 1048576.
-/
import Derived.Test.YtnjjjcmomjcmfaaRows
import Derived.Test.YtnjjjcmomjcmfaaHrn
import Derived.Deep.AppendLies
import Derived.OwnWalk
namespace Go.Proofs.Ytnjjjcmomjcmfaa
open Go.ChangeShapes Go.WideShapes Go.ChangeAt Go.RowKit Go.Deep
set_option linter.unusedVariables false

abbrev hw0 (w : World) (k m : Int) : World := (((w.alloc (.cells (prow k m) 25)).alloc (.cells (hrow 0 0 0 false) 31)).alloc (.cells (hrow 0 0 0 false) 31)).alloc (.cells #[] 3)
theorem hw0_rh (w : World) (k m : Int) : RH w (hw0 w k m) k m (0, 0, 0, false) (.slice (some ⟨w.heap.size + 3, 0, none⟩) 0 0) [] :=
  ⟨((((Below.refl _ w).alloc (Nat.le_refl _) _).alloc (by simp) _).alloc (by simp; omega) _).alloc (by simp; omega) _, (((Bk.new w _ _ _ rfl).alloc _).alloc _).alloc _, ((Bk.new _ _ _ _ (by simp)).alloc _).alloc _, (Bk.new _ _ _ _ (by simp)).alloc _, OwnL.new _ _ (by simp), by simp⟩
set_option maxRecDepth 20000 in
set_option maxHeartbeats 4000000 in
theorem spec_run (k m : Int) (a : Option Addr) (cap n : Nat) (zs : List Int) (w : World) (hs : Seg .i64 w a zs) (hl : zs.length = n) (hn : n ≤ 1048576) (s : St) (ys : List Int) (hy : RunP k m n → s = stI k m zs n ∧ ys = acts k m zs n) (hno : ¬ RunP k m n → s = (0, 0, 0, false) ∧ ys = []) :
    Calls Try.prog 20 #[pol k m, .slice a n cap] w (HPost w s ys) := by
  have HS : Hid (Seg .i64 w a zs) := hs
  have HL : Hid (zs.length = n) := hl
  have HY : Hid (RunP k m n → s = stI k m zs n ∧ ys = acts k m zs n) := hy
  have HNO : Hid (¬ RunP k m n → s = (0, 0, 0, false) ∧ ys = []) := hno
  have HR0 : Hid (RH w (hw0 w k m) k m (0, 0, 0, false) (.slice (some ⟨w.heap.size + 3, 0, none⟩) 0 0) []) := hw0_rh w k m
  obtain ⟨q, HQ⟩ : ∃ q, Hid (polOk k m = q) := ⟨_, rfl⟩
  have HP : Hid (∀ X, Calls Try.prog 9 #[pol k m] X fun e w' => e = .returned (.bool q) ∧ Below X.heap.size X w') := fun X => by rw [← HQ.out]; exact spec_pok k m X
  clear hs hl hy hno
  go_enter Try.func20, Try.ntmps20
  go_wp2_with fail
  refine (HP.out _).mono ?_
  rintro u w1 ⟨rfl, hb1⟩
  have HR1 : Hid (RH w w1 k m (0, 0, 0, false) (.slice (some ⟨w.heap.size + 3, 0, none⟩) 0 0) []) := HR0.out.below hb1
  clear HR0 hb1 HP
  have hend : q = false ∨ ¬ n ≤ 1000 → s = (0, 0, 0, false) ∧ ys = [] := fun h => HNO.out (fun g => by
    rcases h with h | h
    · have := g.1; rw [HQ.out, h] at this; cases this
    · exact h g.2)
  have HEND : Hid (q = false ∨ ¬ n ≤ 1000 → s = (0, 0, 0, false) ∧ ys = []) := hend
  clear hend HNO
  cases q
  · have hc0 := HR1.out.hh.cell 0 _ rfl
    have hc1 := HR1.out.hh.cell 1 _ rfl
    have hc2 := HR1.out.hh.cell 2 _ rfl
    have hc3 := HR1.out.hh.cell 3 _ rfl
    have rc0 := HR1.out.rz.cell 0 _ rfl
    have rc1 := HR1.out.rz.cell 1 _ rfl
    have rc2 := HR1.out.rz.cell 2 _ rfl
    have rc3 := HR1.out.rz.cell 3 _ rfl
    have rf := HR1.out.rz.free
    go_wp2
    have k4 := bk4 HR1.out.rz (.int .i64 0) (.int .i64 0) (.int .i64 0) (.bool false)
    have x4 := b4 HR1.out.bel (R := w.heap.size + 1) (by omega) (.int .i64 0) (.int .i64 0) (.int .i64 0) (.bool false)
    have o4 := ownsRow_betw HR1.out.own (t4 w1 (w.heap.size + 1) (.int .i64 0) (.int .i64 0) (.int .i64 0) (.bool false)) (by omega)
    have HE : Hid (s = (0, 0, 0, false) ∧ ys = []) := HEND.out (.inl (by first | rfl | trivial))
    clear hc0 hc1 hc2 hc3 rc0 rc1 rc2 rc3 rf
    revert k4 x4 o4
    generalize ((((w1.setCell ⟨w.heap.size + 1, 0, none⟩ (.int .i64 0)).setCell ⟨w.heap.size + 1, 1, none⟩ (.int .i64 0)).setCell ⟨w.heap.size + 1, 2, none⟩ (.int .i64 0)).setCell ⟨w.heap.size + 1, 3, none⟩ (.bool false)) = Wf
    intro k4 x4 o4
    have q0 := k4.cell 0 _ rfl
    have q1 := k4.cell 1 _ rfl
    have q2 := k4.cell 2 _ rfl
    have q3 := k4.cell 3 _ rfl
    obtain ⟨a9, c9, e9, o9⟩ := OwnL.oi o4
    refine bodyPost_ret (v := .tuple #[hlt 0 0 0 false, .slice (some ⟨w.heap.size + 3, 0, none⟩) 0 0]) (by simp [results, Try.results20, go_sem, q0, q1, q2, q3]) rfl ?_
    rw [HE.out.1, HE.out.2]
    exact ⟨a9, c9, by rw [e9], x4, o9.wide (by omega) (Nat.le_refl _)⟩
  by_cases hn2 : n ≤ 1000
  rotate_left
  · have hgt : (1000 : Int) < (n : Int) := by omega
    have hc0 := HR1.out.hh.cell 0 _ rfl
    have hc1 := HR1.out.hh.cell 1 _ rfl
    have hc2 := HR1.out.hh.cell 2 _ rfl
    have hc3 := HR1.out.hh.cell 3 _ rfl
    have rc0 := HR1.out.rz.cell 0 _ rfl
    have rc1 := HR1.out.rz.cell 1 _ rfl
    have rc2 := HR1.out.rz.cell 2 _ rfl
    have rc3 := HR1.out.rz.cell 3 _ rfl
    have rf := HR1.out.rz.free
    go_wp2
    have k4 := bk4 HR1.out.rz (.int .i64 0) (.int .i64 0) (.int .i64 0) (.bool false)
    have x4 := b4 HR1.out.bel (R := w.heap.size + 1) (by omega) (.int .i64 0) (.int .i64 0) (.int .i64 0) (.bool false)
    have o4 := ownsRow_betw HR1.out.own (t4 w1 (w.heap.size + 1) (.int .i64 0) (.int .i64 0) (.int .i64 0) (.bool false)) (by omega)
    have HE : Hid (s = (0, 0, 0, false) ∧ ys = []) := HEND.out (.inr hn2)
    clear hc0 hc1 hc2 hc3 rc0 rc1 rc2 rc3 rf
    revert k4 x4 o4
    generalize ((((w1.setCell ⟨w.heap.size + 1, 0, none⟩ (.int .i64 0)).setCell ⟨w.heap.size + 1, 1, none⟩ (.int .i64 0)).setCell ⟨w.heap.size + 1, 2, none⟩ (.int .i64 0)).setCell ⟨w.heap.size + 1, 3, none⟩ (.bool false)) = Wf
    intro k4 x4 o4
    have q0 := k4.cell 0 _ rfl
    have q1 := k4.cell 1 _ rfl
    have q2 := k4.cell 2 _ rfl
    have q3 := k4.cell 3 _ rfl
    obtain ⟨a9, c9, e9, o9⟩ := OwnL.oi o4
    refine bodyPost_ret (v := .tuple #[hlt 0 0 0 false, .slice (some ⟨w.heap.size + 3, 0, none⟩) 0 0]) (by simp [results, Try.results20, go_sem, q0, q1, q2, q3]) rfl ?_
    rw [HE.out.1, HE.out.2]
    exact ⟨a9, c9, by rw [e9], x4, o9.wide (by omega) (Nat.le_refl _)⟩
  have hngt : ¬ ((1000 : Int) < (n : Int)) := by omega
  have HF : Hid (s = stI k m zs n ∧ ys = acts k m zs n) := HY.out ⟨HQ.out, hn2⟩
  clear HY HEND
  go_wp2
  obtain ⟨i3, hi1, hi2, hi3, hi4⟩ := info3'
  have HIN : Hid (Try.prog.info? 3 = some i3 ∧ i3.zero = some (.int .i64 0) ∧ i3.size = 1 ∧ i3.bytes = 8) := ⟨hi1, hi2, hi3, hi4⟩
  clear hi1 hi2 hi3 hi4
  go_loopw [7, 8] (fun v i wr => ∃ j : Nat, j ≤ n ∧ i = .int .i64 j ∧ Hid (RH w wr k m (stI k m zs j) v (acts k m zs j))) (fun _ i _ => n - (intOf i).toNat)
  case atStart => exact ⟨0, by omega, rfl, HR1.out⟩
  case round =>
    obtain ⟨j, hj, rfl, HR⟩ := hrel
    clear HR1
    by_cases hjn : j < n
    rotate_left
    · obtain rfl : j = n := by omega
      generalize stI k m zs j = st at HR HF
      obtain ⟨f1, r1, l1, b1⟩ := st
      have hc0 := HR.out.hh.cell 0 _ rfl
      have hc1 := HR.out.hh.cell 1 _ rfl
      have hc2 := HR.out.hh.cell 2 _ rfl
      have hc3 := HR.out.hh.cell 3 _ rfl
      have rc0 := HR.out.rz.cell 0 _ rfl
      have rc1 := HR.out.rz.cell 1 _ rfl
      have rc2 := HR.out.rz.cell 2 _ rfl
      have rc3 := HR.out.rz.cell 3 _ rfl
      have rf := HR.out.rz.free
      go_wp2
      have k4 := bk4 HR.out.rz (.int .i64 f1) (.int .i64 r1) (.int .i64 l1) (.bool b1)
      have x4 := b4 HR.out.bel (R := w.heap.size + 1) (by omega) (.int .i64 f1) (.int .i64 r1) (.int .i64 l1) (.bool b1)
      have o4 := ownsRow_betw HR.out.own (t4 wr (w.heap.size + 1) (.int .i64 f1) (.int .i64 r1) (.int .i64 l1) (.bool b1)) (by omega)
      have HE : Hid (s = (f1, r1, l1, b1) ∧ ys = acts k m zs j) := HF.out
      clear hc0 hc1 hc2 hc3 rc0 rc1 rc2 rc3 rf
      revert k4 x4 o4
      generalize ((((wr.setCell ⟨w.heap.size + 1, 0, none⟩ (.int .i64 f1)).setCell ⟨w.heap.size + 1, 1, none⟩ (.int .i64 r1)).setCell ⟨w.heap.size + 1, 2, none⟩ (.int .i64 l1)).setCell ⟨w.heap.size + 1, 3, none⟩ (.bool b1)) = Wf
      intro k4 x4 o4
      have q0 := k4.cell 0 _ rfl
      have q1 := k4.cell 1 _ rfl
      have q2 := k4.cell 2 _ rfl
      have q3 := k4.cell 3 _ rfl
      obtain ⟨a9, c9, e9, o9⟩ := OwnL.oi o4
      refine bodyPost_ret (v := .tuple #[hlt f1 r1 l1 b1, u7]) (by simp [results, Try.results20, go_sem, q0, q1, q2, q3]) rfl ?_
      rw [HE.out.1, HE.out.2]
      exact ⟨a9, c9, by rw [e9], x4, o9.wide (by omega) (Nat.le_refl _)⟩
    have hjn' : (j : Int) < (n : Int) := by omega
    obtain ⟨b1, o1, rfl, hbl1, e1⟩ := Seg.at (w := w) HS.out j (by rw [HL.out]; exact hjn)
    replace e1 := kept_cell' HR.out.bel hbl1 e1
    have HST : Hid (stI k m zs (j + 1) = (onS k m (stI k m zs j) (zs.getD j 0)).1) := rfl
    have HAC : Hid (acts k m zs (j + 1) = acts k m zs j ++ [acI k m zs j]) := acts_succ k m zs j
    have HAE : Hid (acI k m zs j = (onS k m (stI k m zs j) (zs.getD j 0)).2) := rfl
    have HAL : Hid ((acts k m zs j).length = j) := acts_len k m zs j
    have HV := onV_onS k m (stI k m zs j) (zs.getD j 0)
    rw [← HST.out, ← HAE.out] at HV
    generalize acI k m zs j = x9 at HAC HV HAE
    generalize hst2 : stI k m zs (j + 1) = st2 at HV HST
    generalize acts k m zs j = hs at HR HAC HAL
    have HAC2 : Hid (acts k m zs (j + 1) = hs ++ [x9]) := HAC.out
    clear HST HAE HAC
    generalize stI k m zs j = st at HR HV
    generalize zs.getD j 0 = z at e1 HV
    obtain ⟨f0, r0, l0, b0⟩ := st
    obtain ⟨f2, r2, l2, b2⟩ := st2
    have HST2 : Hid (stI k m zs (j + 1) = (f2, r2, l2, b2)) := hst2
    have HC : Hid (∀ X, Calls Try.prog 18 #[pol k m, hlt f0 r0 l0 b0, .int .i64 z] X fun y w' => y = .returned (.tuple #[hlt f2 r2 l2 b2, .int .i64 x9]) ∧ Below X.heap.size X w') := fun X => spec_onf k m f0 r0 l0 z b0 _ X HV
    clear HV hst2
    have hbw : b1 < wr.heap.size := Nat.lt_of_lt_of_le hbl1 HR.out.bel.size
    have hzw := HR.out.hh.lt
    clear hbl1
    have C0 : Hid (wr.cell? ⟨w.heap.size, 0, none⟩ = some (.int .i64 k)) := HR.out.pk.cell 0 _ rfl
    have c0 := C0.out
    have C1 : Hid (wr.cell? ⟨w.heap.size, 1, none⟩ = some (.int .i64 m)) := HR.out.pk.cell 1 _ rfl
    have c1 := C1.out
    have D0 : Hid (wr.cell? ⟨w.heap.size + 2, 0, none⟩ = some (.int .i64 f0)) := HR.out.hh.cell 0 _ rfl
    have d0 := D0.out
    have D1 : Hid (wr.cell? ⟨w.heap.size + 2, 1, none⟩ = some (.int .i64 r0)) := HR.out.hh.cell 1 _ rfl
    have d1 := D1.out
    have D2 : Hid (wr.cell? ⟨w.heap.size + 2, 2, none⟩ = some (.int .i64 l0)) := HR.out.hh.cell 2 _ rfl
    have d2 := D2.out
    have D3 : Hid (wr.cell? ⟨w.heap.size + 2, 3, none⟩ = some (.bool b0)) := HR.out.hh.cell 3 _ rfl
    have d3 := D3.out
    have E1 : Hid (wr.cell? ⟨b1, o1 + j, none⟩ = some (.int .i64 z)) := e1
    have hb : Below wr.heap.size wr wr := Below.refl _ _
    go_wp2
    go_region_held_law (fun w' => w'.cell? ⟨w.heap.size, 0, none⟩ = some (.int .i64 k) ∧ w'.cell? ⟨w.heap.size, 1, none⟩ = some (.int .i64 m) ∧ w'.cell? ⟨w.heap.size + 2, 0, none⟩ = some (.int .i64 f0) ∧ w'.cell? ⟨w.heap.size + 2, 1, none⟩ = some (.int .i64 r0) ∧ w'.cell? ⟨w.heap.size + 2, 2, none⟩ = some (.int .i64 l0) ∧ w'.cell? ⟨w.heap.size + 2, 3, none⟩ = some (.bool b0) ∧ w'.cell? ⟨b1, o1 + j, none⟩ = some (.int .i64 z)) (first | with_reducible exact ⟨c0, c1, d0, d1, d2, d3, e1⟩ | with_reducible exact ⟨dr_c c0, dr_c c1, dr_c d0, dr_c d1, dr_c d2, dr_c d3, dr_c e1⟩ | with_reducible exact ⟨al_c _ c0, al_c _ c1, al_c _ d0, al_c _ d1, al_c _ d2, al_c _ d3, al_c _ e1⟩ | with_reducible exact ⟨al_c _ (dr_c c0), al_c _ (dr_c c1), al_c _ (dr_c d0), al_c _ (dr_c d1), al_c _ (dr_c d2), al_c _ (dr_c d3), al_c _ (dr_c e1)⟩ | with_reducible exact ⟨dr_c (al_c _ c0), dr_c (al_c _ c1), dr_c (al_c _ d0), dr_c (al_c _ d1), dr_c (al_c _ d2), dr_c (al_c _ d3), dr_c (al_c _ e1)⟩ | with_reducible exact ⟨st4 (by omega) c0, st4 (by omega) c1, st4 (by omega) d0, st4 (by omega) d1, st4 (by omega) d2, st4 (by omega) d3, st4 (by omega) e1⟩ | with_reducible exact ⟨st4 (by omega) (al_c _ c0), st4 (by omega) (al_c _ c1), st4 (by omega) (al_c _ d0), st4 (by omega) (al_c _ d1), st4 (by omega) (al_c _ d2), st4 (by omega) (al_c _ d3), st4 (by omega) (al_c _ e1)⟩)
      (first | (go_at_call 18; refine Calls.mono (HC.out _) ?_; rintro u w3 ⟨rfl, hbb⟩; have hbn := (by first | exact hb.trans (hbb.mono hb.size) | exact hb.drew.trans (hbb.mono hb.drew.size) | exact (hb.alloc hb.size _).trans (hbb.mono (hb.alloc hb.size _).size) | exact ((hb.alloc hb.size _).drew).trans (hbb.mono ((hb.alloc hb.size _).drew).size)); replace hb := hbn; clear hbn; replace c0 := kept_c hb C0.out; replace c1 := kept_c hb C1.out; replace d0 := kept_c hb D0.out; replace d1 := kept_c hb D1.out; replace d2 := kept_c hb D2.out; replace d3 := kept_c hb D3.out; replace e1 := kept_c hb E1.out; (first | replace hV := bk_kept hbb hV | have hV := bk_kept hbb (Bk.new _ #[.int .i64 0, .int .i64 0, .int .i64 0, .bool false] 31 _ rfl) | have hV := bk_kept hbb (bk_kept (Below.refl _ _).drew (Bk.new _ #[.int .i64 0, .int .i64 0, .int .i64 0, .bool false] 31 _ rfl)) | skip); have hz3 := hb.size; (first | (have v0 := hV.cell 0 _ rfl; have v1 := hV.cell 1 _ rfl; have v2 := hV.cell 2 _ rfl; have v3 := hV.cell 3 _ rfl; have vf := hV.free) | skip); clear hbb))
    all_goals
      first
      | (have hf := osf_set (f := f2) (r := r2) (l := l2) (b := b2) (k := wr.heap.size) hb hV (by omega)
         generalize ((((w3.setCell ⟨wr.heap.size, 0, none⟩ (.int .i64 f2)).setCell ⟨wr.heap.size, 1, none⟩ (.int .i64 r2)).setCell ⟨wr.heap.size, 2, none⟩ (.int .i64 l2)).setCell ⟨wr.heap.size, 3, none⟩ (.bool b2)) = V at hf ⊢
         generalize wr.heap.size = kk at hf ⊢)
      | (have hf := osf_new f2 r2 l2 b2 31 hb
         generalize w3.alloc (.cells #[.int .i64 f2, .int .i64 r2, .int .i64 l2, .bool b2] 31) = V at hf ⊢
         generalize w3.heap.size = kk at hf ⊢)
    all_goals
      try clear v0 v1 v2 v3 vf
      try clear hV
      rename_i hhh
      clear hhh
      have HRV : Hid (RH w V k m (f0, r0, l0, b0) u7 hs) := HR.out.below hf.1
      have HKV : Hid (Bk V kk (hrow f2 r2 l2 b2)) := hf.2.1
      clear hb c0 c1 d0 d1 d2 d3 e1 hf hz3 C0 C1 D0 D1 D2 D3 E1 hbw HC
      have HRS : Hid (RH w ((((V.setCell ⟨w.heap.size + 2, 0, none⟩ (.int .i64 f2)).setCell ⟨w.heap.size + 2, 1, none⟩ (.int .i64 r2)).setCell ⟨w.heap.size + 2, 2, none⟩ (.int .i64 l2)).setCell ⟨w.heap.size + 2, 3, none⟩ (.bool b2)) k m (f2, r2, l2, b2) u7 hs) := HRV.out.set f2 r2 l2 b2
      have g0 := HKV.out.cell 0 _ rfl
      have g1 := HKV.out.cell 1 _ rfl
      have g2 := HKV.out.cell 2 _ rfl
      have g3 := HKV.out.cell 3 _ rfl
      have p0 := HRV.out.hh.cell 0 _ rfl
      have p1 := HRV.out.hh.cell 1 _ rfl
      have p2 := HRV.out.hh.cell 2 _ rfl
      have p3 := HRV.out.hh.cell 3 _ rfl
      have pf := HRV.out.hh.free
      have hal : Below ((((V.setCell ⟨w.heap.size + 2, 0, none⟩ (.int .i64 f2)).setCell ⟨w.heap.size + 2, 1, none⟩ (.int .i64 r2)).setCell ⟨w.heap.size + 2, 2, none⟩ (.int .i64 l2)).setCell ⟨w.heap.size + 2, 3, none⟩ (.bool b2)).heap.size ((((V.setCell ⟨w.heap.size + 2, 0, none⟩ (.int .i64 f2)).setCell ⟨w.heap.size + 2, 1, none⟩ (.int .i64 r2)).setCell ⟨w.heap.size + 2, 2, none⟩ (.int .i64 l2)).setCell ⟨w.heap.size + 2, 3, none⟩ (.bool b2)) (((((V.setCell ⟨w.heap.size + 2, 0, none⟩ (.int .i64 f2)).setCell ⟨w.heap.size + 2, 1, none⟩ (.int .i64 r2)).setCell ⟨w.heap.size + 2, 2, none⟩ (.int .i64 l2)).setCell ⟨w.heap.size + 2, 3, none⟩ (.bool b2)).alloc (.cells #[.int .i64 x9] 3)) := (Below.refl _ _).alloc (Nat.le_refl _) _
      have hown7 : (((((V.setCell ⟨w.heap.size + 2, 0, none⟩ (.int .i64 f2)).setCell ⟨w.heap.size + 2, 1, none⟩ (.int .i64 r2)).setCell ⟨w.heap.size + 2, 2, none⟩ (.int .i64 l2)).setCell ⟨w.heap.size + 2, 3, none⟩ (.bool b2)).alloc (.cells #[.int .i64 x9] 3)).ownsRow (w.heap.size + 3) 3 1 u7 hs.length (hs.map (Value.int .i64)) := World.ownsRow.alloc HRS.out.own _
      have HBS : Hid (w.heap.size + 3 ≤ (((((V.setCell ⟨w.heap.size + 2, 0, none⟩ (.int .i64 f2)).setCell ⟨w.heap.size + 2, 1, none⟩ (.int .i64 r2)).setCell ⟨w.heap.size + 2, 2, none⟩ (.int .i64 l2)).setCell ⟨w.heap.size + 2, 3, none⟩ (.bool b2)).alloc (.cells #[.int .i64 x9] 3)).heap.size) := Nat.le_trans HRS.out.le hal.size
      have HZ : Hid (∀ (gg cap1 : Nat) (w9 : World), w9.ownsRow (w.heap.size + 3) 3 1 (.slice (some ⟨gg, 0, none⟩) (hs.length + 1) cap1) (hs.length + 1) (hs.map (Value.int .i64) ++ [.int .i64 x9]) → (((((V.setCell ⟨w.heap.size + 2, 0, none⟩ (.int .i64 f2)).setCell ⟨w.heap.size + 2, 1, none⟩ (.int .i64 r2)).setCell ⟨w.heap.size + 2, 2, none⟩ (.int .i64 l2)).setCell ⟨w.heap.size + 2, 3, none⟩ (.bool b2)).alloc (.cells #[.int .i64 x9] 3)).grownBy w9 u7.ownBlock → RH w w9 k m (stI k m zs (j + 1)) (.slice (some ⟨gg, 0, none⟩) (hs.length + 1) cap1) (acts k m zs (j + 1))) := fun gg cap1 w9 h1 h2 => by
        rw [HST2.out, HAC2.out]
        exact HRS.out.push hal h2 (OwnL.snoc h1)
      have hsl : hs.length ≤ 1000 := by have := HAL.out; omega
      clear hal HRS HRV HR HKV HAC2 HST2 HF
      go_wp2_with (at_builtin; (refine wpList_append_lies _ rfl (.tmp 40) (.tmp 42) 39 rfl (w.heap.size + 3) 3 i3 (.int .i64 0) 1 8 Try.underlying39 HIN.out.1 HIN.out.2.1 HIN.out.2.2.1 HIN.out.2.2.2 rfl (by omega) _ _ _ rfl hown7 _ 1 1 [.int .i64 x9] rfl rfl (news_int _ _ _ (by simp)) (one_int _) (by omega) (by unfold maxLen; omega) (by omega) HBS.out _ rfl ?_; intro gg cap1 w9 hown1 hgrow hat hlt1; have HYY : Hid _ := HZ.out gg cap1 w9 hown1 hgrow; clear hown1 hgrow hat hlt1))
      go_roundw
      case rel => exact ⟨j + 1, by omega, by go_num, HYY⟩
      case measure => simp [intOf]; omega
end Go.Proofs.Ytnjjjcmomjcmfaa
