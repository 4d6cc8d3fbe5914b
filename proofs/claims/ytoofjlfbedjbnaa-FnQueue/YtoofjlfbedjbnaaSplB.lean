
/-
  The specification's ChanPlay.
-/
import Derived.Test.YtoofjlfbedjbnaaSplA
namespace Go.Proofs.Ytoofjlfbedjbnaa
open Go.ChangeShapes Go.WideShapes Go.ChangeAt Go.RowKit Go.Deep
set_option linter.unusedVariables false

theorem infoSD' : ∃ i, Try.prog.info? 78 = some i ∧ i.zero = some (.agg #[.int .i64 0, .int .u32 0]) ∧ i.size = 2 ∧ i.bytes = 16 := by
  obtain ⟨i, hi, h⟩ := Option.map_eq_some_iff.1 infoSD
  simp only [Prod.mk.injEq] at h
  exact ⟨i, hi, h.1, h.2.1, h.2.2⟩
set_option maxRecDepth 20000 in
set_option maxHeartbeats 8000000 in
theorem spec_play (k f t d : Int) (a : Option Addr) (n c : Nat) (ops : List Cp) (w : World) (hs : PSeg w a ops) (hl : ops.length = n) (hn : n ≤ 1048576) :
    Calls Try.prog 45 #[crw k f t d, .slice a n c] w fun e w' => ∃ a' c', e = .returned (.slice a' (plyF k f t d ops).length c') ∧ Below w.heap.size w w' ∧ PI w' w.heap.size w'.heap.size a' (plyF k f t d ops) := by
  have HB : Hid (Below w.heap.size w ((w.alloc (.cells (crow k f t d) 25)).alloc (.cells #[] 78))) := ((Below.refl _ w).alloc (Nat.le_refl _) _).alloc (by simp) _
  have HK : Hid (Bk ((w.alloc (.cells (crow k f t d) 25)).alloc (.cells #[] 78)) w.heap.size (crow k f t d)) := (Bk.new w _ _ _ rfl).alloc _
  have HOW : Hid (OwnP ((w.alloc (.cells (crow k f t d) 25)).alloc (.cells #[] 78)) (w.heap.size + 1) (.slice (some ⟨w.heap.size + 1, 0, none⟩) 0 0) []) := OwnP.new _ _ (by simp)
  have HS : Hid (PSeg w a ops) := hs
  have HL : Hid (ops.length = n) := hl
  clear hs hl
  obtain ⟨iS, hi1, hi2, hi3, hi4⟩ := infoSD'
  have HIN : Hid (Try.prog.info? 78 = some iS ∧ iS.zero = some (.agg #[.int .i64 0, .int .u32 0]) ∧ iS.size = 2 ∧ iS.bytes = 16) := ⟨hi1, hi2, hi3, hi4⟩
  clear hi1 hi2 hi3 hi4
  obtain ⟨q1, HQ1⟩ : ∃ q, Hid (chOk k f t d = q) := ⟨_, rfl⟩
  have HE0 : Hid ((q1 = false ∨ ¬ n ≤ 1000 ∨ ¬ kdsOk ops) → plyF k f t d ops = []) := fun g => by
    unfold plyF
    refine if_neg fun ⟨g1, g2, g3⟩ => ?_
    rcases g with g | g | g
    · rw [← HQ1.out, g1] at g; cases g
    · exact g (by rw [← HL.out]; exact g2)
    · exact g g3
  have HE1 : Hid (q1 = true → n ≤ 1000 → kdsOk ops → plyF k f t d ops = sdL k f t d ops n) := fun g1 g2 g3 => by
    unfold plyF
    rw [if_pos ⟨HQ1.out.trans g1, by rw [HL.out]; exact g2, g3⟩, HL.out]
  obtain ⟨ps, HPS⟩ : ∃ p, Hid (plyF k f t d ops = p) := ⟨_, rfl⟩
  rw [HPS.out] at HE0 HE1 ⊢
  go_enter Try.func45, Try.ntmps45
  go_wp2_with fail
  refine (spec_chok k f t d q1 _ HQ1).mono ?_
  rintro x w1 ⟨rfl, hb1⟩
  have HB1 : Hid (Below w.heap.size w w1) := HB.out.trans (hb1.mono HB.out.size)
  have K1 : Hid (Bk w1 w.heap.size (crow k f t d)) := HK.out.below hb1
  have O1 : Hid (OwnP w1 (w.heap.size + 1) (.slice (some ⟨w.heap.size + 1, 0, none⟩) 0 0) []) := HOW.out.below hb1
  have hz1 : w.heap.size + 2 ≤ w1.heap.size := by have := hb1.size; simp at this; omega
  clear HB HK hb1 HQ1 HOW
  cases q1
  · have e : ps = [] := HE0.out (.inl rfl)
    subst e
    go_wp2
    go_ret
    exact ⟨_, _, rfl, HB1.out, fun h => absurd h (by simp)⟩
  by_cases h1000 : (1000 : Int) < (n : Int)
  · have e : ps = [] := HE0.out (.inr (.inl (by omega)))
    subst e
    go_wp2
    go_ret
    exact ⟨_, _, rfl, HB1.out, fun h => absurd h (by simp)⟩
  go_wp2
  go_loopw [6] (fun i wr => ∃ j : Nat, j ≤ n ∧ i = .int .i64 j ∧ wr = w1 ∧ Hid (∀ i, i < j → 0 ≤ (ops.getD i cp0).1 ∧ (ops.getD i cp0).1 ≤ 3)) (fun i _ => n - (intOf i).toNat)
  case atStart => exact ⟨0, by omega, rfl, rfl, fun i hi => absurd hi (by omega)⟩
  case round =>
  obtain ⟨j, hj, rfl, rfl, HJ⟩ := hrel
  by_cases hjn : j < n
  · have hjn' : (j : Int) < (n : Int) := by omega
    obtain ⟨b1, o1, rfl, hbl1, p1⟩ := PSeg.at (w := w) HS.out j (by have := HL.out; omega)
    replace p1 := p1.of (w' := wr) (fun i => HB1.out.cell (p := ⟨b1, i, none⟩) hbl1)
    obtain ⟨p, HP⟩ : ∃ p, Hid (ops.getD j cp0 = p) := ⟨_, rfl⟩
    rw [HP.out] at p1
    obtain ⟨q0, q1⟩ := p1
    obtain ⟨x1, x2⟩ := p
    simp only at q0 q1
    clear q1
    obtain ⟨qi, HI⟩ : ∃ q, Hid (inr x1 0 3 = q) := ⟨_, rfl⟩
    have A0 : Hid (∀ X : World, Calls Try.prog 55 #[.int .i64 x1, .int .i64 0, .int .i64 3] X fun e w' => e = .returned (.bool qi) ∧ w' = X) := fun X => by rw [← HI.out]; exact in_any _ _ _ X
    go_wp2_with fail
    refine (A0.out _).mono ?_
    rintro u w3 ⟨rfl, h3⟩
    rw [h3]
    clear h3 w3 q0
    cases qi
    · have hk : ¬ kdsOk ops := fun g => by
        have h1 := g j (by have := HL.out; omega)
        rw [HP.out] at h1
        have h2 := inr_yes h1
        rw [HI.out] at h2
        cases h2
      have e : ps = [] := HE0.out (.inr (.inr hk))
      subst e
      clear hk
      have hb := HB1.out.alloc HB1.out.size (.cells #[] 78)
      go_wp2
      go_ret
      exact ⟨_, _, rfl, hb, fun h => absurd h (by simp)⟩
    · have HJ2 : Hid (∀ i, i < j + 1 → 0 ≤ (ops.getD i cp0).1 ∧ (ops.getD i cp0).1 ≤ 3) := fun i hi => by
        by_cases e : i = j
        · subst e
          rw [HP.out]
          exact inr_iff.1 HI.out
        · exact HJ.out i (by omega)
      go_wp2
      go_roundw
      case rel => exact ⟨j + 1, by omega, by go_num, (by first | rfl | trivial), HJ2⟩
      case measure => simp [intOf]; omega
  obtain rfl : j = n := by omega
  have HKD : Hid (kdsOk ops) := fun i hi => HJ.out i (by have := HL.out; omega)
  have e : ps = sdL k f t d ops j := HE1.out (by first | rfl | trivial) (by omega) HKD.out
  subst e
  clear HE0 HE1 HPS HJ hjn
  have HPS0 : Hid (PS w ((wr.alloc (.cells (orow 0 none 0 0) 33)).alloc (.cells (irow none 0 0) 41)) wr.heap.size (wr.heap.size + 1) 0 k f t d (0, [], []) (.slice (some ⟨w.heap.size + 1, 0, none⟩) 0 0) [] none 0 none 0) := by
    have hal : Below wr.heap.size wr ((wr.alloc (.cells (orow 0 none 0 0) 33)).alloc (.cells (irow none 0 0) 41)) := ((Below.refl _ wr).alloc (Nat.le_refl _) _).alloc (by simp) _
    exact ⟨HB1.out.trans (hal.mono HB1.out.size), K1.out.below hal, (Bk.new wr _ _ _ rfl).alloc _, Bk.new _ _ _ _ (by simp), SegQ.nil _ _ _, SegQ.nil _ _ _, Nat.le_refl _, O1.out.below hal, by simp, by intro g; have : some (w.heap.size + 1) = some wr.heap.size := g; injection this; omega, by intro g; have : some (w.heap.size + 1) = some (wr.heap.size + 1) := g; injection this; omega, by omega, by omega, by omega⟩
  clear HB1 K1 O1
  go_wp2
  revert HPS0
  generalize ((wr.alloc (.cells (orow 0 none 0 0) 33)).alloc (.cells (irow none 0 0) 41)) = V0
  generalize hbO : wr.heap.size = bO
  generalize hbI : bO + 1 = bI
  intro HPS0
  go_loopw [5, 9] (fun v i wr => ∃ m : Nat, m ≤ j ∧ i = .int .i64 m ∧ Hid (∃ bs a1 c1 a2 c2, PS w wr bO bI bs k f t d (stN k f t d ops m) v (sdL k f t d ops m) a1 c1 a2 c2)) (fun _ i _ => j - (intOf i).toNat)
  case atStart => exact ⟨0, by omega, rfl, 0, none, 0, none, 0, HPS0.out⟩
  case round =>
  obtain ⟨m, hm, rfl, HR⟩ := hrel
  by_cases hmn : m < j
  rotate_left
  · obtain rfl : m = j := by omega
    obtain ⟨bs0, a1, c1, a2, c2, hps⟩ := HR.out
    obtain ⟨a9, c9, e9, o9⟩ := hps.ow.pi
    have HF : Hid (Below w.heap.size w wr ∧ PI wr (w.heap.size + 1) wr.heap.size a9 (sdL k f t d ops m)) := ⟨hps.gb, o9⟩
    subst e9
    clear hps HR o9 HPS0
    go_wp2
    go_ret
    exact ⟨_, _, rfl, HF.out.1, HF.out.2.wide (by omega) (Nat.le_refl _)⟩
  have hmn' : (m : Int) < (j : Int) := by omega
  obtain ⟨bs0, a1, c1, a2, c2, hps⟩ := HR.out
  clear HR HPS0
  obtain ⟨b1, o1, rfl, hbl1, p1⟩ := PSeg.at (w := w) HS.out m (by have := HL.out; omega)
  replace p1 := p1.of (w' := wr) (fun i => hps.gb.cell (p := ⟨b1, i, none⟩) hbl1)
  obtain ⟨p, HP⟩ : ∃ p, Hid (ops.getD m cp0 = p) := ⟨_, rfl⟩
  have HKM : Hid (0 ≤ p.1 ∧ p.1 ≤ 3) := by rw [← HP.out]; exact HKD.out m (by have := HL.out; omega)
  rw [HP.out] at p1
  obtain ⟨q0, q1⟩ := p1
  have HST : Hid (stN k f t d ops (m + 1) = (stpF k f t d (stN k f t d ops m) p).1) := (show stN k f t d ops (m + 1) = (stpF k f t d (stN k f t d ops m) p).1 by rw [← HP.out]; rfl)
  have HSD : Hid (sdN k f t d ops m = (stpF k f t d (stN k f t d ops m) p).2) := (show sdN k f t d ops m = (stpF k f t d (stN k f t d ops m) p).2 by rw [← HP.out]; rfl)
  have HFW : Hid (Few (stN k f t d ops m)) := few_stN k f t d ops m
  generalize stN k f t d ops m = s at hps HST HSD HFW
  obtain ⟨h1, zs, rs⟩ := s
  obtain ⟨x1, x2⟩ := p
  simp only at q0 q1
  have hal1 : Below wr.heap.size wr (wr.alloc (.cells #[.int .i64 0, .int .u32 0] 78)) := (Below.refl _ _).alloc (Nat.le_refl _) _
  have HP1 : Hid (PS w (wr.alloc (.cells #[.int .i64 0, .int .u32 0] 78)) bO bI wr.heap.size k f t d (h1, zs, rs) u5 (sdL k f t d ops m) a1 c1 a2 c2) := (hps.renew wr.heap.size (Nat.le_refl _)).below hal1
  have KS1 : Hid (Bk (wr.alloc (.cells #[.int .i64 0, .int .u32 0] 78)) wr.heap.size #[.int .i64 0, .int .u32 0]) := Bk.new _ _ _ _ rfl
  have HBS : Hid (∀ b, (b = bO ∨ b = bI ∨ u5.ownBlock = some b) → b < wr.heap.size) := fun b g => (hps.bad_lt g).2
  have hbw1 : w.heap.size < wr.heap.size := hps.rr.lt
  have hb1w : b1 < wr.heap.size := Nat.lt_of_lt_of_le hbl1 hps.gb.size
  have hbO1 := hps.ro.lt
  have hbI1 := hps.ri.lt
  have hbO2 := hps.hO
  have hbI2 := hps.hI
  have hbOI := hps.ne
  have hkm := HKM.out
  clear hps hbl1 HP HKM
  have hcs : x1 = 0 ∨ x1 = 1 ∨ x1 = 2 ∨ x1 = 3 := by simp only at hkm; omega
  clear hkm
  rcases hcs with rfl | rfl | rfl | rfl
  · obtain ⟨h', ys, cd, HQ⟩ : ∃ h' ys cd, Hid (sndF k f t d h1 (zs.length : Int) zs x2 = (h', ys, cd)) := ⟨_, _, _, rfl⟩
    have HST2 : Hid (stN k f t d ops (m + 1) = (h', ys, rs)) := (show stN k f t d ops (m + 1) = (h', ys, rs) by rw [HST.out]; simp only [stpF, if_pos]; rw [HQ.out])
    have HYS : Hid (sdN k f t d ops m = (cd, 0)) := (show sdN k f t d ops m = (cd, 0) by rw [HSD.out]; simp only [stpF, if_pos]; rw [HQ.out])
    obtain ⟨y, HYL⟩ : ∃ y, Hid (ys.length = y) := ⟨_, rfl⟩
    have SN : Hid (∀ X, Below (wr.alloc (.cells #[.int .i64 0, .int .u32 0] 78)).heap.size (wr.alloc (.cells #[.int .i64 0, .int .u32 0] 78)) X → Calls Try.prog 33 #[crw k f t d, oen h1 a1 zs.length c1, .int .u32 x2] X fun e w' => ∃ a' c', e = .returned (.tuple #[oen h' a' y c', .int .i64 cd]) ∧ Below X.heap.size X w' ∧ OE w' X.heap.size w'.heap.size a' ys) := fun X hX => by have g := spec_send k f t d h1 x2 a1 zs.length c1 zs h' ys cd X ((HP1.out.below hX).l1.seg) rfl HFW.out.1 HQ; rw [HYL.out] at g; exact g
    clear HST HSD HQ HFW
    have kd := kept_c hal1 q0
    have g0 := HP1.out.rr.cell 0 _ rfl
    go_wp2
    clear g0 kd
    revert HP1 KS1 SN
    have hwd := kept_c hal1 q1
    revert hwd
    have hbs : wr.heap.size < (wr.alloc (.cells #[.int .i64 0, .int .u32 0] 78)).heap.size := by simp
    revert hbs
    generalize (wr.alloc (.cells #[.int .i64 0, .int .u32 0] 78)) = W1
    generalize wr.heap.size = bs at HBS hbO1 hbI1 hbw1 hb1w ⊢
    intro hbs hwd HP1 KS1 SN
    clear q0 q1 hal1
    have hb : Below W1.heap.size W1 W1 := Below.refl _ _
    have RC0 : Hid (W1.cell? ⟨w.heap.size, 0, none⟩ = some (.int .i64 k)) := HP1.out.rr.cell 0 _ rfl
    have rc0 := RC0.out
    have RC1 : Hid (W1.cell? ⟨w.heap.size, 1, none⟩ = some (.int .i64 f)) := HP1.out.rr.cell 1 _ rfl
    have rc1 := RC1.out
    have RC2 : Hid (W1.cell? ⟨w.heap.size, 2, none⟩ = some (.int .i64 t)) := HP1.out.rr.cell 2 _ rfl
    have rc2 := RC2.out
    have RC3 : Hid (W1.cell? ⟨w.heap.size, 3, none⟩ = some (.int .i64 d)) := HP1.out.rr.cell 3 _ rfl
    have rc3 := RC3.out
    have OC0 : Hid (W1.cell? ⟨bO, 0, none⟩ = some (.int .i64 h1)) := HP1.out.ro.cell 0 _ rfl
    have oc0 := OC0.out
    have OC1 : Hid (W1.cell? ⟨bO, 1, none⟩ = some (.slice a1 zs.length c1)) := HP1.out.ro.cell 1 _ rfl
    have oc1 := OC1.out
    have WC : Hid (W1.cell? ⟨b1, o1 + m * 2 + 1, none⟩ = some (.int .u32 x2)) := hwd
    have wc := WC.out
    go_region_held_law (fun w' => w'.cell? ⟨w.heap.size, 0, none⟩ = some (.int .i64 k) ∧ w'.cell? ⟨w.heap.size, 1, none⟩ = some (.int .i64 f) ∧ w'.cell? ⟨w.heap.size, 2, none⟩ = some (.int .i64 t) ∧ w'.cell? ⟨w.heap.size, 3, none⟩ = some (.int .i64 d) ∧ w'.cell? ⟨bO, 0, none⟩ = some (.int .i64 h1) ∧ w'.cell? ⟨bO, 1, none⟩ = some (.slice a1 zs.length c1) ∧ w'.cell? ⟨b1, o1 + m * 2 + 1, none⟩ = some (.int .u32 x2)) (first | with_reducible exact ⟨rc0, rc1, rc2, rc3, oc0, oc1, wc⟩ | with_reducible exact ⟨dr_c rc0, dr_c rc1, dr_c rc2, dr_c rc3, dr_c oc0, dr_c oc1, dr_c wc⟩ | with_reducible exact ⟨al_c _ rc0, al_c _ rc1, al_c _ rc2, al_c _ rc3, al_c _ oc0, al_c _ oc1, al_c _ wc⟩ | with_reducible exact ⟨al_c _ (dr_c rc0), al_c _ (dr_c rc1), al_c _ (dr_c rc2), al_c _ (dr_c rc3), al_c _ (dr_c oc0), al_c _ (dr_c oc1), al_c _ (dr_c wc)⟩ | with_reducible exact ⟨dr_c (al_c _ rc0), dr_c (al_c _ rc1), dr_c (al_c _ rc2), dr_c (al_c _ rc3), dr_c (al_c _ oc0), dr_c (al_c _ oc1), dr_c (al_c _ wc)⟩ | with_reducible exact ⟨st2 (by omega) rc0, st2 (by omega) rc1, st2 (by omega) rc2, st2 (by omega) rc3, st2 (by omega) oc0, st2 (by omega) oc1, st2 (by omega) wc⟩ | with_reducible exact ⟨st2 (by omega) (al_c _ rc0), st2 (by omega) (al_c _ rc1), st2 (by omega) (al_c _ rc2), st2 (by omega) (al_c _ rc3), st2 (by omega) (al_c _ oc0), st2 (by omega) (al_c _ oc1), st2 (by omega) (al_c _ wc)⟩)
      (first | (go_at_call 33; refine Calls.mono (SN.out _ (by first | exact hb | exact hb.drew | exact hb.alloc hb.size _ | exact (hb.alloc hb.size _).drew)) ?_; rintro u w97 ⟨a7, c7, rfl, hbb, ho7⟩; (first | have hvz := hV.lt | skip); have hbn := (by first | exact hb.trans (hbb.mono hb.size) | exact hb.drew.trans (hbb.mono hb.drew.size) | exact (hb.alloc hb.size _).trans (hbb.mono (hb.alloc hb.size _).size) | exact ((hb.alloc hb.size _).drew).trans (hbb.mono ((hb.alloc hb.size _).drew).size)); replace hb := hbn; clear hbn; replace rc0 := kept_c hb RC0.out; replace rc1 := kept_c hb RC1.out; replace rc2 := kept_c hb RC2.out; replace rc3 := kept_c hb RC3.out; replace oc0 := kept_c hb OC0.out; replace oc1 := kept_c hb OC1.out; replace wc := kept_c hb WC.out; (first | replace hV := bk_kept hbb hV | have hV := bk_kept hbb (Bk.new _ #[.int .i64 0, .slice none 0 0] 33 _ rfl) | have hV := bk_kept hbb (bk_kept (Below.refl _ _).drew (Bk.new _ #[.int .i64 0, .slice none 0 0] 33 _ rfl)) | skip); have HO7 : Hid (OE _ _ _ _ _) := ho7; have hz7 := hbb.size; clear ho7; have hz90 := hb.size; (first | (have v0 := hV.cell 0 _ rfl; have v1 := hV.cell 1 _ rfl; have vf := hV.free) | skip); clear hbb))
    all_goals
      first
      | (have hf := ef_set2 (v0 := (.int .i64 h')) (v1 := (.slice a7 y c7)) (k := W1.heap.size) hb hV (by omega) HO7.out (by first | exact hvz | simp | omega) hz7
         generalize ((w97.setCell ⟨W1.heap.size, 0, none⟩ (.int .i64 h')).setCell ⟨W1.heap.size, 1, none⟩ (.slice a7 y c7)) = V at hf ⊢
         generalize W1.heap.size = kn at hf ⊢)
      | (have hf := ef_new #[.int .i64 h', .slice a7 y c7] 33 hb HO7.out (by first | omega | (simp; done) | (simp; omega)) hz7
         generalize w97.alloc (.cells #[.int .i64 h', .slice a7 y c7] 33) = V at hf ⊢
         generalize w97.heap.size = kn at hf ⊢)
    all_goals
      rename_i hhh
      clear hhh
      try clear v0 v1 vf
      try clear hvz
      try clear hV
      clear HO7 hz7 hb hz90 rc0 rc1 rc2 rc3 oc0 oc1 wc RC0 RC1 RC2 RC3 OC0 OC1 WC SN hwd
      have hbV := hf.1
      have hzV := hbV.size
      have HPV : Hid (PS w V bO bI bs k f t d (h1, zs, rs) u5 (sdL k f t d ops m) a1 c1 a2 c2) := HP1.out.below hbV
      have KSV : Hid (Bk V bs #[.int .i64 0, .int .u32 0]) := KS1.out.below hbV
      have KN : Hid (Bk V kn #[.int .i64 h', .slice a7 y c7]) := hf.2.1
      have HQ7 : Hid (SegQ V (badB bO bI bs u5) a7 ys) := by
        obtain ⟨lo, hi, ho, g1, g2, g3, g4⟩ := hf.2.2.2
        exact ho.segq (fun b g => by
          have g5 : b ≤ bs := by
            rcases g with g | g | g | g
            · have := HBS.out b (.inl g); omega
            · have := HBS.out b (.inr (.inl g)); omega
            · have := HBS.out b (.inr (.inr g)); omega
            · omega
          omega)
      clear hf hbV HP1 KS1 w97
      have n0 := KN.out.cell 0 _ rfl
      have n1 := KN.out.cell 1 _ rfl
      have p0 := HPV.out.ro.cell 0 _ rfl
      have p1 := HPV.out.ro.cell 1 _ rfl
      have pf := HPV.out.ro.free
      have HPY : Hid (PS w ((V.setCell ⟨bO, 0, none⟩ (.int .i64 h')).setCell ⟨bO, 1, none⟩ (.slice a7 y c7)) bO bI bs k f t d (h', ys, rs) u5 (sdL k f t d ops m) a7 c7 a2 c2) := HPV.out.putO h' a7 ys c7 y HYL.out HQ7.out
      have KSY1 : Hid (Bk ((V.setCell ⟨bO, 0, none⟩ (.int .i64 h')).setCell ⟨bO, 1, none⟩ (.slice a7 y c7)) bs #[.int .i64 0, .int .u32 0]) := (KSV.out.other bO 0 _ (by omega)).other bO 1 _ (by omega)
      have r0 := KSY1.out.cell 0 _ rfl
      have rf := KSY1.out.free
      have hbt : Betw bs (bs + 1) ((V.setCell ⟨bO, 0, none⟩ (.int .i64 h')).setCell ⟨bO, 1, none⟩ (.slice a7 y c7)) (((V.setCell ⟨bO, 0, none⟩ (.int .i64 h')).setCell ⟨bO, 1, none⟩ (.slice a7 y c7)).setCell ⟨bs, 0, none⟩ (.int .i64 cd)) := (Betw.refl _ _ _).setCell (p := ⟨bs, 0, none⟩) (Nat.le_refl _) (by simp) _
      have PSY : Hid (PS w (((V.setCell ⟨bO, 0, none⟩ (.int .i64 h')).setCell ⟨bO, 1, none⟩ (.slice a7 y c7)).setCell ⟨bs, 0, none⟩ (.int .i64 cd)) bO bI bs k f t d (stN k f t d ops (m + 1)) u5 (sdL k f t d ops m) a7 c7 a2 c2) := by
        rw [HST2.out]
        exact HPY.out.said hbt hbw1 HBS.out
      have KSY : Hid (Bk (((V.setCell ⟨bO, 0, none⟩ (.int .i64 h')).setCell ⟨bO, 1, none⟩ (.slice a7 y c7)).setCell ⟨bs, 0, none⟩ (.int .i64 cd)) bs #[.int .i64 cd, .int .u32 0]) := KSY1.out.set 0 _ (by simp) rfl
      clear HPV KSV KN HQ7 HPY KSY1 hbt
      have s0 := KSY.out.cell 0 _ rfl
      have s1 := KSY.out.cell 1 _ rfl
      have hal : Below (((V.setCell ⟨bO, 0, none⟩ (.int .i64 h')).setCell ⟨bO, 1, none⟩ (.slice a7 y c7)).setCell ⟨bs, 0, none⟩ (.int .i64 cd)).heap.size (((V.setCell ⟨bO, 0, none⟩ (.int .i64 h')).setCell ⟨bO, 1, none⟩ (.slice a7 y c7)).setCell ⟨bs, 0, none⟩ (.int .i64 cd)) ((((V.setCell ⟨bO, 0, none⟩ (.int .i64 h')).setCell ⟨bO, 1, none⟩ (.slice a7 y c7)).setCell ⟨bs, 0, none⟩ (.int .i64 cd)).alloc (.cells #[.int .i64 cd, .int .u32 0] 78)) := (Below.refl _ _).alloc (Nat.le_refl _) _
      have HPA : Hid (PS w ((((V.setCell ⟨bO, 0, none⟩ (.int .i64 h')).setCell ⟨bO, 1, none⟩ (.slice a7 y c7)).setCell ⟨bs, 0, none⟩ (.int .i64 cd)).alloc (.cells #[.int .i64 cd, .int .u32 0] 78)) bO bI bs k f t d (stN k f t d ops (m + 1)) u5 (sdL k f t d ops m) a7 c7 a2 c2) := PSY.out.below hal
      have hownA : ((((V.setCell ⟨bO, 0, none⟩ (.int .i64 h')).setCell ⟨bO, 1, none⟩ (.slice a7 y c7)).setCell ⟨bs, 0, none⟩ (.int .i64 cd)).alloc (.cells #[.int .i64 cd, .int .u32 0] 78)).ownsRow (w.heap.size + 1) 78 2 u5 (sdL k f t d ops m).length (cpCells (sdL k f t d ops m)) := HPA.out.ow
      have HSZ : Hid (w.heap.size + 1 ≤ ((((V.setCell ⟨bO, 0, none⟩ (.int .i64 h')).setCell ⟨bO, 1, none⟩ (.slice a7 y c7)).setCell ⟨bs, 0, none⟩ (.int .i64 cd)).alloc (.cells #[.int .i64 cd, .int .u32 0] 78)).heap.size) := (show w.heap.size + 1 ≤ ((((V.setCell ⟨bO, 0, none⟩ (.int .i64 h')).setCell ⟨bO, 1, none⟩ (.slice a7 y c7)).setCell ⟨bs, 0, none⟩ (.int .i64 cd)).alloc (.cells #[.int .i64 cd, .int .u32 0] 78)).heap.size from HPA.out.rr.lt)
      have hsl : (sdL k f t d ops m).length ≤ 1000 := by rw [sdL_len]; omega
      have HZ : Hid (∀ (gg cap1 : Nat) (w9 : World), w9.ownsRow (w.heap.size + 1) 78 2 (Value.slice (some ⟨gg, 0, none⟩) ((sdL k f t d ops m).length + 1) cap1) ((sdL k f t d ops m).length + 1) (cpCells (sdL k f t d ops m) ++ [.int .i64 cd, .int .u32 0]) → ((((V.setCell ⟨bO, 0, none⟩ (.int .i64 h')).setCell ⟨bO, 1, none⟩ (.slice a7 y c7)).setCell ⟨bs, 0, none⟩ (.int .i64 cd)).alloc (.cells #[.int .i64 cd, .int .u32 0] 78)).grownBy w9 u5.ownBlock → (u5.ownBlock = some gg ∨ gg = ((((V.setCell ⟨bO, 0, none⟩ (.int .i64 h')).setCell ⟨bO, 1, none⟩ (.slice a7 y c7)).setCell ⟨bs, 0, none⟩ (.int .i64 cd)).alloc (.cells #[.int .i64 cd, .int .u32 0] 78)).heap.size) → ∃ bs a1 c1 a2 c2, PS w w9 bO bI bs k f t d (stN k f t d ops (m + 1)) (Value.slice (some ⟨gg, 0, none⟩) ((sdL k f t d ops m).length + 1) cap1) (sdL k f t d ops (m + 1)) a1 c1 a2 c2) := fun gg cap1 w9 g1 g2 g3 => ⟨bs, a7, c7, a2, c2, HPA.out.push (by rw [sdL_succ, HYS.out]; exact OwnP.snoc g1) g2 (by simp) (g3.elim (fun e => .inl (show some gg = _ from e.symm)) (fun e => .inr (show some gg = _ by rw [e])))⟩
      clear hal PSY KSY HPA
      go_wp2_with (at_builtin; (refine wpList_append_lies _ rfl (.tmp 102) (.tmp 104) 62 rfl (w.heap.size + 1) 78 iS (.agg #[.int .i64 0, .int .u32 0]) 2 16 Try.underlying62 HIN.out.1 HIN.out.2.1 HIN.out.2.2.1 HIN.out.2.2.2 rfl (by omega) u5 (sdL k f t d ops m).length (cpCells (sdL k f t d ops m)) rfl hownA _ 1 1 [.int .i64 cd, .int .u32 0] rfl rfl (news_sd _ _ _ _ (by simp)) (one_sd _ _) (by omega) (by unfold maxLen; omega) (by omega) HSZ.out _ rfl ?_; intro gg cap1 w9 hown1 hgrow hat hlt1; have HYY : Hid _ := HZ.out gg cap1 w9 hown1 hgrow hat; clear hown1 hgrow hat hlt1))
      go_roundw
      case rel => exact ⟨m + 1, by omega, by go_num, HYY⟩
      case measure => simp [intOf]; omega
  · obtain ⟨ys, x, cd, HQ⟩ : ∃ ys x cd, Hid (rcvF k f t d (rs.length : Int) rs = (ys, x, cd)) := ⟨_, _, _, rfl⟩
    have HST2 : Hid (stN k f t d ops (m + 1) = (h1, zs, ys)) := (show stN k f t d ops (m + 1) = (h1, zs, ys) by rw [HST.out]; unfold stpF; rw [if_neg (by simp), if_pos (by simp)]; simp only; rw [HQ.out])
    have HYS : Hid (sdN k f t d ops m = (cd, x)) := (show sdN k f t d ops m = (cd, x) by rw [HSD.out]; unfold stpF; rw [if_neg (by simp), if_pos (by simp)]; simp only; rw [HQ.out])
    obtain ⟨y, HYL⟩ : ∃ y, Hid (ys.length = y) := ⟨_, rfl⟩
    have RC : Hid (∀ X, Below (wr.alloc (.cells #[.int .i64 0, .int .u32 0] 78)).heap.size (wr.alloc (.cells #[.int .i64 0, .int .u32 0] 78)) X → Calls Try.prog 35 #[crw k f t d, ien a2 rs.length c2] X fun e w' => ∃ a' c', e = .returned (.tuple #[ien a' y c', .int .u32 x, .int .i64 cd]) ∧ Below X.heap.size X w' ∧ OE w' X.heap.size w'.heap.size a' ys ∧ y ≤ c') := fun X hX => by have g := spec_recvc k f t d a2 rs.length c2 rs ys x cd X ((HP1.out.below hX).l2.seg) rfl HFW.out.2 HP1.out.cp HQ; rw [HYL.out] at g; exact g
    clear HST HSD HQ HFW
    have kd := kept_c hal1 q0
    have r0 := HP1.out.rr.cell 0 _ rfl
    have r1 := HP1.out.rr.cell 1 _ rfl
    have r2 := HP1.out.rr.cell 2 _ rfl
    have r3 := HP1.out.rr.cell 3 _ rfl
    have i0 := HP1.out.ri.cell 0 _ rfl
    go_wp2_with fail
    refine (RC.out _ (Below.refl _ _)).mono ?_
    clear kd r0 r1 r2 r3 i0 q0 q1 hal1 RC
    have hbs : wr.heap.size < (wr.alloc (.cells #[.int .i64 0, .int .u32 0] 78)).heap.size := by simp
    revert HP1 KS1 hbs
    generalize (wr.alloc (.cells #[.int .i64 0, .int .u32 0] 78)) = W1
    generalize wr.heap.size = bs at HBS hbO1 hbI1 hbw1 hb1w ⊢
    intro HP1 KS1 hbs
    rintro u w7 ⟨a7, c7, rfl, hb7, ho7, hc7⟩
    have hz7 := hb7.size
    have hal : Below w7.heap.size w7 (w7.alloc (.cells #[.slice a7 y c7] 41)) := (Below.refl _ _).alloc (Nat.le_refl _) _
    have hbV := hb7.trans (hal.mono hb7.size)
    have HPV : Hid (PS w (w7.alloc (.cells #[.slice a7 y c7] 41)) bO bI bs k f t d (h1, zs, rs) u5 (sdL k f t d ops m) a1 c1 a2 c2) := HP1.out.below hbV
    have KSV : Hid (Bk (w7.alloc (.cells #[.slice a7 y c7] 41)) bs #[.int .i64 0, .int .u32 0]) := KS1.out.below hbV
    have KN : Hid (Bk (w7.alloc (.cells #[.slice a7 y c7] 41)) w7.heap.size #[.slice a7 y c7]) := Bk.new _ _ _ _ rfl
    have HQ7 : Hid (SegQ (w7.alloc (.cells #[.slice a7 y c7] 41)) (badB bO bI bs u5) a7 ys) := by
      replace ho7 := ho7.below hal
      exact ho7.segq (fun b g => by
        have g5 : b ≤ bs := by
          rcases g with g | g | g | g
          · have := HBS.out b (.inl g); omega
          · have := HBS.out b (.inr (.inl g)); omega
          · have := HBS.out b (.inr (.inr g)); omega
          · omega
        omega)
    have HC7 : Hid (y ≤ c7) := hc7
    clear hb7 ho7 hc7 hal hbV HP1 KS1
    have n0 := KN.out.cell 0 _ rfl
    have p0 := HPV.out.ri.cell 0 _ rfl
    have pf := HPV.out.ri.free
    have HPY : Hid (PS w ((w7.alloc (.cells #[.slice a7 y c7] 41)).setCell ⟨bI, 0, none⟩ (.slice a7 y c7)) bO bI bs k f t d (h1, zs, ys) u5 (sdL k f t d ops m) a1 c1 a7 c7) := HPV.out.putI a7 ys c7 y HYL.out HC7.out HQ7.out
    have KSY1 : Hid (Bk ((w7.alloc (.cells #[.slice a7 y c7] 41)).setCell ⟨bI, 0, none⟩ (.slice a7 y c7)) bs #[.int .i64 0, .int .u32 0]) := KSV.out.other bI 0 _ (by omega)
    have r0 := KSY1.out.cell 0 _ rfl
    have r1 := (KSY1.out.set 0 (.int .i64 cd) (by simp) (cs' := #[.int .i64 cd, .int .u32 0]) rfl).cell 1 _ rfl
    have rf := KSY1.out.free
    have rf2 := (KSY1.out.set 0 (.int .i64 cd) (by simp) (cs' := #[.int .i64 cd, .int .u32 0]) rfl).free
    have hbt : Betw bs (bs + 1) ((w7.alloc (.cells #[.slice a7 y c7] 41)).setCell ⟨bI, 0, none⟩ (.slice a7 y c7)) ((((w7.alloc (.cells #[.slice a7 y c7] 41)).setCell ⟨bI, 0, none⟩ (.slice a7 y c7)).setCell ⟨bs, 0, none⟩ (.int .i64 cd)).setCell ⟨bs, 1, none⟩ (.int .u32 x)) := ((Betw.refl _ _ _).setCell (p := ⟨bs, 0, none⟩) (Nat.le_refl _) (by simp) _).setCell (p := ⟨bs, 1, none⟩) (Nat.le_refl _) (by simp) _
    have PSY : Hid (PS w ((((w7.alloc (.cells #[.slice a7 y c7] 41)).setCell ⟨bI, 0, none⟩ (.slice a7 y c7)).setCell ⟨bs, 0, none⟩ (.int .i64 cd)).setCell ⟨bs, 1, none⟩ (.int .u32 x)) bO bI bs k f t d (stN k f t d ops (m + 1)) u5 (sdL k f t d ops m) a1 c1 a7 c7) := by
      rw [HST2.out]
      exact HPY.out.said hbt hbw1 HBS.out
    have KSY : Hid (Bk ((((w7.alloc (.cells #[.slice a7 y c7] 41)).setCell ⟨bI, 0, none⟩ (.slice a7 y c7)).setCell ⟨bs, 0, none⟩ (.int .i64 cd)).setCell ⟨bs, 1, none⟩ (.int .u32 x)) bs #[.int .i64 cd, .int .u32 x]) := (KSY1.out.set 0 (.int .i64 cd) (by simp) (cs' := #[.int .i64 cd, .int .u32 0]) rfl).set 1 _ (by simp) rfl
    clear HPV KSV KN HQ7 HPY KSY1 hbt HC7
    have s0 := KSY.out.cell 0 _ rfl
    have s1 := KSY.out.cell 1 _ rfl
    have hal : Below ((((w7.alloc (.cells #[.slice a7 y c7] 41)).setCell ⟨bI, 0, none⟩ (.slice a7 y c7)).setCell ⟨bs, 0, none⟩ (.int .i64 cd)).setCell ⟨bs, 1, none⟩ (.int .u32 x)).heap.size ((((w7.alloc (.cells #[.slice a7 y c7] 41)).setCell ⟨bI, 0, none⟩ (.slice a7 y c7)).setCell ⟨bs, 0, none⟩ (.int .i64 cd)).setCell ⟨bs, 1, none⟩ (.int .u32 x)) (((((w7.alloc (.cells #[.slice a7 y c7] 41)).setCell ⟨bI, 0, none⟩ (.slice a7 y c7)).setCell ⟨bs, 0, none⟩ (.int .i64 cd)).setCell ⟨bs, 1, none⟩ (.int .u32 x)).alloc (.cells #[.int .i64 cd, .int .u32 x] 78)) := (Below.refl _ _).alloc (Nat.le_refl _) _
    have HPA : Hid (PS w (((((w7.alloc (.cells #[.slice a7 y c7] 41)).setCell ⟨bI, 0, none⟩ (.slice a7 y c7)).setCell ⟨bs, 0, none⟩ (.int .i64 cd)).setCell ⟨bs, 1, none⟩ (.int .u32 x)).alloc (.cells #[.int .i64 cd, .int .u32 x] 78)) bO bI bs k f t d (stN k f t d ops (m + 1)) u5 (sdL k f t d ops m) a1 c1 a7 c7) := PSY.out.below hal
    have hownA : (((((w7.alloc (.cells #[.slice a7 y c7] 41)).setCell ⟨bI, 0, none⟩ (.slice a7 y c7)).setCell ⟨bs, 0, none⟩ (.int .i64 cd)).setCell ⟨bs, 1, none⟩ (.int .u32 x)).alloc (.cells #[.int .i64 cd, .int .u32 x] 78)).ownsRow (w.heap.size + 1) 78 2 u5 (sdL k f t d ops m).length (cpCells (sdL k f t d ops m)) := HPA.out.ow
    have HSZ : Hid (w.heap.size + 1 ≤ (((((w7.alloc (.cells #[.slice a7 y c7] 41)).setCell ⟨bI, 0, none⟩ (.slice a7 y c7)).setCell ⟨bs, 0, none⟩ (.int .i64 cd)).setCell ⟨bs, 1, none⟩ (.int .u32 x)).alloc (.cells #[.int .i64 cd, .int .u32 x] 78)).heap.size) := (show w.heap.size + 1 ≤ (((((w7.alloc (.cells #[.slice a7 y c7] 41)).setCell ⟨bI, 0, none⟩ (.slice a7 y c7)).setCell ⟨bs, 0, none⟩ (.int .i64 cd)).setCell ⟨bs, 1, none⟩ (.int .u32 x)).alloc (.cells #[.int .i64 cd, .int .u32 x] 78)).heap.size from HPA.out.rr.lt)
    have hsl : (sdL k f t d ops m).length ≤ 1000 := by rw [sdL_len]; omega
    have HZ : Hid (∀ (gg cap1 : Nat) (w9 : World), w9.ownsRow (w.heap.size + 1) 78 2 (Value.slice (some ⟨gg, 0, none⟩) ((sdL k f t d ops m).length + 1) cap1) ((sdL k f t d ops m).length + 1) (cpCells (sdL k f t d ops m) ++ [.int .i64 cd, .int .u32 x]) → (((((w7.alloc (.cells #[.slice a7 y c7] 41)).setCell ⟨bI, 0, none⟩ (.slice a7 y c7)).setCell ⟨bs, 0, none⟩ (.int .i64 cd)).setCell ⟨bs, 1, none⟩ (.int .u32 x)).alloc (.cells #[.int .i64 cd, .int .u32 x] 78)).grownBy w9 u5.ownBlock → (u5.ownBlock = some gg ∨ gg = (((((w7.alloc (.cells #[.slice a7 y c7] 41)).setCell ⟨bI, 0, none⟩ (.slice a7 y c7)).setCell ⟨bs, 0, none⟩ (.int .i64 cd)).setCell ⟨bs, 1, none⟩ (.int .u32 x)).alloc (.cells #[.int .i64 cd, .int .u32 x] 78)).heap.size) → ∃ bs a1 c1 a2 c2, PS w w9 bO bI bs k f t d (stN k f t d ops (m + 1)) (Value.slice (some ⟨gg, 0, none⟩) ((sdL k f t d ops m).length + 1) cap1) (sdL k f t d ops (m + 1)) a1 c1 a2 c2) := fun gg cap1 w9 g1 g2 g3 => ⟨bs, a1, c1, a7, c7, HPA.out.push (by rw [sdL_succ, HYS.out]; exact OwnP.snoc g1) g2 (by simp) (g3.elim (fun e => .inl (show some gg = _ from e.symm)) (fun e => .inr (show some gg = _ by rw [e])))⟩
    clear hal PSY KSY HPA
    go_wp2_with (at_builtin; (refine wpList_append_lies _ rfl (.tmp 102) (.tmp 104) 62 rfl (w.heap.size + 1) 78 iS (.agg #[.int .i64 0, .int .u32 0]) 2 16 Try.underlying62 HIN.out.1 HIN.out.2.1 HIN.out.2.2.1 HIN.out.2.2.2 rfl (by omega) u5 (sdL k f t d ops m).length (cpCells (sdL k f t d ops m)) rfl hownA _ 1 1 [.int .i64 cd, .int .u32 x] rfl rfl (news_sd _ _ _ _ (by simp)) (one_sd _ _) (by omega) (by unfold maxLen; omega) (by omega) HSZ.out _ rfl ?_; intro gg cap1 w9 hown1 hgrow hat hlt1; have HYY : Hid _ := HZ.out gg cap1 w9 hown1 hgrow hat; clear hown1 hgrow hat hlt1))
    go_roundw
    case rel => exact ⟨m + 1, by omega, by go_num, HYY⟩
    case measure => simp [intOf]; omega
  · obtain ⟨h', ys, xs, HQ⟩ : ∃ h' ys xs, Hid (borF k f t d h1 (zs.length : Int) (rs.length : Int) zs rs = (h', ys, xs)) := ⟨_, _, _, rfl⟩
    have HST2 : Hid (stN k f t d ops (m + 1) = (h', [], ys)) := (show stN k f t d ops (m + 1) = (h', [], ys) by rw [HST.out]; unfold stpF; rw [if_neg (by simp), if_neg (by simp), if_pos (by simp)]; simp only; rw [HQ.out])
    have HYS : Hid (sdN k f t d ops m = (0, 0)) := (show sdN k f t d ops m = (0, 0) by rw [HSD.out]; unfold stpF; rw [if_neg (by simp), if_neg (by simp), if_pos (by simp)])
    obtain ⟨y, HYL⟩ : ∃ y, Hid (ys.length = y) := ⟨_, rfl⟩
    obtain ⟨xl, HXL⟩ : ∃ y, Hid (xs.length = y) := ⟨_, rfl⟩
    have BC : Hid (∀ X, Below (wr.alloc (.cells #[.int .i64 0, .int .u32 0] 78)).heap.size (wr.alloc (.cells #[.int .i64 0, .int .u32 0] 78)) X → Calls Try.prog 39 #[crw k f t d, oen h1 a1 zs.length c1, ien a2 rs.length c2] X fun e w' => ∃ a' c' a'' c'', e = .returned (.tuple #[oen h' none 0 0, ien a' y c', .slice a'' xl c'']) ∧ Below X.heap.size X w' ∧ OE w' X.heap.size w'.heap.size a' ys ∧ y ≤ c') := fun X hX => by
      have g := spec_borderc k f t d h1 a1 zs.length c1 a2 rs.length c2 zs rs h' ys xs X ((HP1.out.below hX).l1.seg) rfl HFW.out.1 ((HP1.out.below hX).l2.seg) rfl HFW.out.2 HQ
      rw [HYL.out, HXL.out] at g
      refine g.mono ?_
      rintro e w' ⟨b1', d1', b2', d2', g1, g2, g3, g4⟩
      exact ⟨b1', d1', b2', d2', g1, g2, g3.fst, g4⟩
    clear HST HSD HQ HFW HXL
    have kd := kept_c hal1 q0
    have r0 := HP1.out.rr.cell 0 _ rfl
    have r1 := HP1.out.rr.cell 1 _ rfl
    have r2 := HP1.out.rr.cell 2 _ rfl
    have r3 := HP1.out.rr.cell 3 _ rfl
    have o0 := HP1.out.ro.cell 0 _ rfl
    have o1' := HP1.out.ro.cell 1 _ rfl
    have i0 := HP1.out.ri.cell 0 _ rfl
    go_wp2_with fail
    refine (BC.out _ (Below.refl _ _)).mono ?_
    clear kd r0 r1 r2 r3 i0 o0 o1' q0 q1 hal1 BC
    have hbs : wr.heap.size < (wr.alloc (.cells #[.int .i64 0, .int .u32 0] 78)).heap.size := by simp
    revert HP1 KS1 hbs
    generalize (wr.alloc (.cells #[.int .i64 0, .int .u32 0] 78)) = W1
    generalize wr.heap.size = bs at HBS hbO1 hbI1 hbw1 hb1w ⊢
    intro HP1 KS1 hbs
    rintro u w7 ⟨a7, c7, a8, c8, rfl, hb7, ho7, hc7⟩
    have hz7 := hb7.size
    have hal : Below w7.heap.size w7 ((w7.alloc (.cells #[.int .i64 h', .slice none 0 0] 33)).alloc (.cells #[.slice a7 y c7] 41)) := ((Below.refl _ _).alloc (Nat.le_refl _) _).alloc (by simp) _
    have hbV := hb7.trans (hal.mono hb7.size)
    have HPV : Hid (PS w ((w7.alloc (.cells #[.int .i64 h', .slice none 0 0] 33)).alloc (.cells #[.slice a7 y c7] 41)) bO bI bs k f t d (h1, zs, rs) u5 (sdL k f t d ops m) a1 c1 a2 c2) := HP1.out.below hbV
    have KSV : Hid (Bk ((w7.alloc (.cells #[.int .i64 h', .slice none 0 0] 33)).alloc (.cells #[.slice a7 y c7] 41)) bs #[.int .i64 0, .int .u32 0]) := KS1.out.below hbV
    have KN : Hid (Bk ((w7.alloc (.cells #[.int .i64 h', .slice none 0 0] 33)).alloc (.cells #[.slice a7 y c7] 41)) w7.heap.size #[.int .i64 h', .slice none 0 0] ∧ Bk ((w7.alloc (.cells #[.int .i64 h', .slice none 0 0] 33)).alloc (.cells #[.slice a7 y c7] 41)) (w7.heap.size + 1) #[.slice a7 y c7]) := ⟨(Bk.new _ _ _ _ rfl).alloc _, Bk.new _ _ _ _ (by simp)⟩
    have HQ7 : Hid (SegQ ((w7.alloc (.cells #[.int .i64 h', .slice none 0 0] 33)).alloc (.cells #[.slice a7 y c7] 41)) (badB bO bI bs u5) a7 ys) := by
      replace ho7 := ho7.below hal
      exact ho7.segq (fun b g => by
        have g5 : b ≤ bs := by
          rcases g with g | g | g | g
          · have := HBS.out b (.inl g); omega
          · have := HBS.out b (.inr (.inl g)); omega
          · have := HBS.out b (.inr (.inr g)); omega
          · omega
        omega)
    have HC7 : Hid (y ≤ c7) := hc7
    clear hb7 ho7 hc7 hal hbV HP1 KS1
    have n0 := KN.out.1.cell 0 _ rfl
    have n1 := KN.out.1.cell 1 _ rfl
    have p0 := HPV.out.ro.cell 0 _ rfl
    have p1 := HPV.out.ro.cell 1 _ rfl
    have pf := HPV.out.ro.free
    have HPY : Hid (PS w ((((w7.alloc (.cells #[.int .i64 h', .slice none 0 0] 33)).alloc (.cells #[.slice a7 y c7] 41)).setCell ⟨bO, 0, none⟩ (.int .i64 h')).setCell ⟨bO, 1, none⟩ (.slice none 0 0)) bO bI bs k f t d (h', [], rs) u5 (sdL k f t d ops m) none 0 a2 c2) := HPV.out.putO h' none [] 0 0 rfl (SegQ.nil _ _ _)
    have HQ8 : Hid (SegQ ((((w7.alloc (.cells #[.int .i64 h', .slice none 0 0] 33)).alloc (.cells #[.slice a7 y c7] 41)).setCell ⟨bO, 0, none⟩ (.int .i64 h')).setCell ⟨bO, 1, none⟩ (.slice none 0 0)) (badB bO bI bs u5) a7 ys) := HQ7.out.betw (((Betw.refl bO (bO + 1) ((w7.alloc (.cells #[.int .i64 h', .slice none 0 0] 33)).alloc (.cells #[.slice a7 y c7] 41))).setCell (p := ⟨bO, 0, none⟩) (Nat.le_refl _) (by simp) _).setCell (p := ⟨bO, 1, none⟩) (Nat.le_refl _) (by simp) _) (.inl rfl)
    have KNI : Hid (Bk ((((w7.alloc (.cells #[.int .i64 h', .slice none 0 0] 33)).alloc (.cells #[.slice a7 y c7] 41)).setCell ⟨bO, 0, none⟩ (.int .i64 h')).setCell ⟨bO, 1, none⟩ (.slice none 0 0)) (w7.heap.size + 1) #[.slice a7 y c7]) := (KN.out.2.other bO 0 _ (by omega)).other bO 1 _ (by omega)
    have KSY1 : Hid (Bk ((((w7.alloc (.cells #[.int .i64 h', .slice none 0 0] 33)).alloc (.cells #[.slice a7 y c7] 41)).setCell ⟨bO, 0, none⟩ (.int .i64 h')).setCell ⟨bO, 1, none⟩ (.slice none 0 0)) bs #[.int .i64 0, .int .u32 0]) := (KSV.out.other bO 0 _ (by omega)).other bO 1 _ (by omega)
    have m0 := KNI.out.cell 0 _ rfl
    have l0 := HPY.out.ri.cell 0 _ rfl
    have lf := HPY.out.ri.free
    have PSY : Hid (PS w (((((w7.alloc (.cells #[.int .i64 h', .slice none 0 0] 33)).alloc (.cells #[.slice a7 y c7] 41)).setCell ⟨bO, 0, none⟩ (.int .i64 h')).setCell ⟨bO, 1, none⟩ (.slice none 0 0)).setCell ⟨bI, 0, none⟩ (.slice a7 y c7)) bO bI bs k f t d (stN k f t d ops (m + 1)) u5 (sdL k f t d ops m) none 0 a7 c7) := by
      rw [HST2.out]
      exact HPY.out.putI a7 ys c7 y HYL.out HC7.out HQ8.out
    have KSY : Hid (Bk (((((w7.alloc (.cells #[.int .i64 h', .slice none 0 0] 33)).alloc (.cells #[.slice a7 y c7] 41)).setCell ⟨bO, 0, none⟩ (.int .i64 h')).setCell ⟨bO, 1, none⟩ (.slice none 0 0)).setCell ⟨bI, 0, none⟩ (.slice a7 y c7)) bs #[.int .i64 0, .int .u32 0]) := KSY1.out.other bI 0 _ (by omega)
    clear HPV KSV KN HQ7 HPY KSY1 HC7 HQ8 KNI
    have s0 := KSY.out.cell 0 _ rfl
    have s1 := KSY.out.cell 1 _ rfl
    have hal : Below (((((w7.alloc (.cells #[.int .i64 h', .slice none 0 0] 33)).alloc (.cells #[.slice a7 y c7] 41)).setCell ⟨bO, 0, none⟩ (.int .i64 h')).setCell ⟨bO, 1, none⟩ (.slice none 0 0)).setCell ⟨bI, 0, none⟩ (.slice a7 y c7)).heap.size (((((w7.alloc (.cells #[.int .i64 h', .slice none 0 0] 33)).alloc (.cells #[.slice a7 y c7] 41)).setCell ⟨bO, 0, none⟩ (.int .i64 h')).setCell ⟨bO, 1, none⟩ (.slice none 0 0)).setCell ⟨bI, 0, none⟩ (.slice a7 y c7)) ((((((w7.alloc (.cells #[.int .i64 h', .slice none 0 0] 33)).alloc (.cells #[.slice a7 y c7] 41)).setCell ⟨bO, 0, none⟩ (.int .i64 h')).setCell ⟨bO, 1, none⟩ (.slice none 0 0)).setCell ⟨bI, 0, none⟩ (.slice a7 y c7)).alloc (.cells #[.int .i64 0, .int .u32 0] 78)) := (Below.refl _ _).alloc (Nat.le_refl _) _
    have HPA : Hid (PS w ((((((w7.alloc (.cells #[.int .i64 h', .slice none 0 0] 33)).alloc (.cells #[.slice a7 y c7] 41)).setCell ⟨bO, 0, none⟩ (.int .i64 h')).setCell ⟨bO, 1, none⟩ (.slice none 0 0)).setCell ⟨bI, 0, none⟩ (.slice a7 y c7)).alloc (.cells #[.int .i64 0, .int .u32 0] 78)) bO bI bs k f t d (stN k f t d ops (m + 1)) u5 (sdL k f t d ops m) none 0 a7 c7) := PSY.out.below hal
    have hownA : ((((((w7.alloc (.cells #[.int .i64 h', .slice none 0 0] 33)).alloc (.cells #[.slice a7 y c7] 41)).setCell ⟨bO, 0, none⟩ (.int .i64 h')).setCell ⟨bO, 1, none⟩ (.slice none 0 0)).setCell ⟨bI, 0, none⟩ (.slice a7 y c7)).alloc (.cells #[.int .i64 0, .int .u32 0] 78)).ownsRow (w.heap.size + 1) 78 2 u5 (sdL k f t d ops m).length (cpCells (sdL k f t d ops m)) := HPA.out.ow
    have HSZ : Hid (w.heap.size + 1 ≤ ((((((w7.alloc (.cells #[.int .i64 h', .slice none 0 0] 33)).alloc (.cells #[.slice a7 y c7] 41)).setCell ⟨bO, 0, none⟩ (.int .i64 h')).setCell ⟨bO, 1, none⟩ (.slice none 0 0)).setCell ⟨bI, 0, none⟩ (.slice a7 y c7)).alloc (.cells #[.int .i64 0, .int .u32 0] 78)).heap.size) := (show w.heap.size + 1 ≤ ((((((w7.alloc (.cells #[.int .i64 h', .slice none 0 0] 33)).alloc (.cells #[.slice a7 y c7] 41)).setCell ⟨bO, 0, none⟩ (.int .i64 h')).setCell ⟨bO, 1, none⟩ (.slice none 0 0)).setCell ⟨bI, 0, none⟩ (.slice a7 y c7)).alloc (.cells #[.int .i64 0, .int .u32 0] 78)).heap.size from HPA.out.rr.lt)
    have hsl : (sdL k f t d ops m).length ≤ 1000 := by rw [sdL_len]; omega
    have HZ : Hid (∀ (gg cap1 : Nat) (w9 : World), w9.ownsRow (w.heap.size + 1) 78 2 (Value.slice (some ⟨gg, 0, none⟩) ((sdL k f t d ops m).length + 1) cap1) ((sdL k f t d ops m).length + 1) (cpCells (sdL k f t d ops m) ++ [.int .i64 0, .int .u32 0]) → ((((((w7.alloc (.cells #[.int .i64 h', .slice none 0 0] 33)).alloc (.cells #[.slice a7 y c7] 41)).setCell ⟨bO, 0, none⟩ (.int .i64 h')).setCell ⟨bO, 1, none⟩ (.slice none 0 0)).setCell ⟨bI, 0, none⟩ (.slice a7 y c7)).alloc (.cells #[.int .i64 0, .int .u32 0] 78)).grownBy w9 u5.ownBlock → (u5.ownBlock = some gg ∨ gg = ((((((w7.alloc (.cells #[.int .i64 h', .slice none 0 0] 33)).alloc (.cells #[.slice a7 y c7] 41)).setCell ⟨bO, 0, none⟩ (.int .i64 h')).setCell ⟨bO, 1, none⟩ (.slice none 0 0)).setCell ⟨bI, 0, none⟩ (.slice a7 y c7)).alloc (.cells #[.int .i64 0, .int .u32 0] 78)).heap.size) → ∃ bs a1 c1 a2 c2, PS w w9 bO bI bs k f t d (stN k f t d ops (m + 1)) (Value.slice (some ⟨gg, 0, none⟩) ((sdL k f t d ops m).length + 1) cap1) (sdL k f t d ops (m + 1)) a1 c1 a2 c2) := fun gg cap1 w9 g1 g2 g3 => ⟨bs, none, 0, a7, c7, HPA.out.push (by rw [sdL_succ, HYS.out]; exact OwnP.snoc g1) g2 (by simp) (g3.elim (fun e => .inl (show some gg = _ from e.symm)) (fun e => .inr (show some gg = _ by rw [e])))⟩
    clear hal PSY KSY HPA
    go_wp2_with (at_builtin; (refine wpList_append_lies _ rfl (.tmp 102) (.tmp 104) 62 rfl (w.heap.size + 1) 78 iS (.agg #[.int .i64 0, .int .u32 0]) 2 16 Try.underlying62 HIN.out.1 HIN.out.2.1 HIN.out.2.2.1 HIN.out.2.2.2 rfl (by omega) u5 (sdL k f t d ops m).length (cpCells (sdL k f t d ops m)) rfl hownA _ 1 1 [.int .i64 0, .int .u32 0] rfl rfl (news_sd _ _ _ _ (by simp)) (one_sd _ _) (by omega) (by unfold maxLen; omega) (by omega) HSZ.out _ rfl ?_; intro gg cap1 w9 hown1 hgrow hat hlt1; have HYY : Hid _ := HZ.out gg cap1 w9 hown1 hgrow hat; clear hown1 hgrow hat hlt1))
    go_roundw
    case rel => exact ⟨m + 1, by omega, by go_num, HYY⟩
    case measure => simp [intOf]; omega
  · obtain ⟨r, HQ⟩ : ∃ r : Int, Hid ((if outOk k f t d h1 (zs.length : Int) = true then h1 else 0) = r) := ⟨_, rfl⟩
    have HST2 : Hid (stN k f t d ops (m + 1) = (r, [], rs)) := (show stN k f t d ops (m + 1) = (r, [], rs) by rw [HST.out]; unfold stpF; rw [if_neg (by simp), if_neg (by simp), if_neg (by simp)]; simp only; rw [HQ.out])
    have HYS : Hid (sdN k f t d ops m = (0, 0)) := (show sdN k f t d ops m = (0, 0) by rw [HSD.out]; unfold stpF; rw [if_neg (by simp), if_neg (by simp), if_neg (by simp)])
    have DC : Hid (∀ X, Calls Try.prog 29 #[crw k f t d, oen h1 a1 zs.length c1] X fun e w' => e = .returned (oen r none 0 0) ∧ Below X.heap.size X w') := fun X => spec_disc k f t d h1 a1 zs.length c1 r X HQ HFW.out.1
    clear HST HSD HQ HFW
    have kd := kept_c hal1 q0
    have r0 := HP1.out.rr.cell 0 _ rfl
    have r1 := HP1.out.rr.cell 1 _ rfl
    have r2 := HP1.out.rr.cell 2 _ rfl
    have r3 := HP1.out.rr.cell 3 _ rfl
    have o0 := HP1.out.ro.cell 0 _ rfl
    have o1' := HP1.out.ro.cell 1 _ rfl
    go_wp2_with fail
    refine (DC.out _).mono ?_
    clear kd r0 r1 r2 r3 o0 o1' q0 q1 hal1 DC
    have hbs : wr.heap.size < (wr.alloc (.cells #[.int .i64 0, .int .u32 0] 78)).heap.size := by simp
    revert HP1 KS1 hbs
    generalize (wr.alloc (.cells #[.int .i64 0, .int .u32 0] 78)) = W1
    generalize wr.heap.size = bs at HBS hbO1 hbI1 hbw1 hb1w ⊢
    intro HP1 KS1 hbs
    rintro u w7 ⟨rfl, hb7⟩
    have HPV : Hid (PS w w7 bO bI bs k f t d (h1, zs, rs) u5 (sdL k f t d ops m) a1 c1 a2 c2) := HP1.out.below hb7
    have KSV : Hid (Bk w7 bs #[.int .i64 0, .int .u32 0]) := KS1.out.below hb7
    clear hb7 HP1 KS1
    have p0 := HPV.out.ro.cell 0 _ rfl
    have p1 := HPV.out.ro.cell 1 _ rfl
    have pf := HPV.out.ro.free
    have PSY : Hid (PS w ((w7.setCell ⟨bO, 0, none⟩ (.int .i64 r)).setCell ⟨bO, 1, none⟩ (.slice none 0 0)) bO bI bs k f t d (stN k f t d ops (m + 1)) u5 (sdL k f t d ops m) none 0 a2 c2) := by
      rw [HST2.out]
      exact HPV.out.putO r none [] 0 0 rfl (SegQ.nil _ _ _)
    have KSY : Hid (Bk ((w7.setCell ⟨bO, 0, none⟩ (.int .i64 r)).setCell ⟨bO, 1, none⟩ (.slice none 0 0)) bs #[.int .i64 0, .int .u32 0]) := (KSV.out.other bO 0 _ (by omega)).other bO 1 _ (by omega)
    clear HPV KSV
    have s0 := KSY.out.cell 0 _ rfl
    have s1 := KSY.out.cell 1 _ rfl
    have hal : Below ((w7.setCell ⟨bO, 0, none⟩ (.int .i64 r)).setCell ⟨bO, 1, none⟩ (.slice none 0 0)).heap.size ((w7.setCell ⟨bO, 0, none⟩ (.int .i64 r)).setCell ⟨bO, 1, none⟩ (.slice none 0 0)) (((w7.setCell ⟨bO, 0, none⟩ (.int .i64 r)).setCell ⟨bO, 1, none⟩ (.slice none 0 0)).alloc (.cells #[.int .i64 0, .int .u32 0] 78)) := (Below.refl _ _).alloc (Nat.le_refl _) _
    have HPA : Hid (PS w (((w7.setCell ⟨bO, 0, none⟩ (.int .i64 r)).setCell ⟨bO, 1, none⟩ (.slice none 0 0)).alloc (.cells #[.int .i64 0, .int .u32 0] 78)) bO bI bs k f t d (stN k f t d ops (m + 1)) u5 (sdL k f t d ops m) none 0 a2 c2) := PSY.out.below hal
    have hownA : (((w7.setCell ⟨bO, 0, none⟩ (.int .i64 r)).setCell ⟨bO, 1, none⟩ (.slice none 0 0)).alloc (.cells #[.int .i64 0, .int .u32 0] 78)).ownsRow (w.heap.size + 1) 78 2 u5 (sdL k f t d ops m).length (cpCells (sdL k f t d ops m)) := HPA.out.ow
    have HSZ : Hid (w.heap.size + 1 ≤ (((w7.setCell ⟨bO, 0, none⟩ (.int .i64 r)).setCell ⟨bO, 1, none⟩ (.slice none 0 0)).alloc (.cells #[.int .i64 0, .int .u32 0] 78)).heap.size) := (show w.heap.size + 1 ≤ (((w7.setCell ⟨bO, 0, none⟩ (.int .i64 r)).setCell ⟨bO, 1, none⟩ (.slice none 0 0)).alloc (.cells #[.int .i64 0, .int .u32 0] 78)).heap.size from HPA.out.rr.lt)
    have hsl : (sdL k f t d ops m).length ≤ 1000 := by rw [sdL_len]; omega
    have HZ : Hid (∀ (gg cap1 : Nat) (w9 : World), w9.ownsRow (w.heap.size + 1) 78 2 (Value.slice (some ⟨gg, 0, none⟩) ((sdL k f t d ops m).length + 1) cap1) ((sdL k f t d ops m).length + 1) (cpCells (sdL k f t d ops m) ++ [.int .i64 0, .int .u32 0]) → (((w7.setCell ⟨bO, 0, none⟩ (.int .i64 r)).setCell ⟨bO, 1, none⟩ (.slice none 0 0)).alloc (.cells #[.int .i64 0, .int .u32 0] 78)).grownBy w9 u5.ownBlock → (u5.ownBlock = some gg ∨ gg = (((w7.setCell ⟨bO, 0, none⟩ (.int .i64 r)).setCell ⟨bO, 1, none⟩ (.slice none 0 0)).alloc (.cells #[.int .i64 0, .int .u32 0] 78)).heap.size) → ∃ bs a1 c1 a2 c2, PS w w9 bO bI bs k f t d (stN k f t d ops (m + 1)) (Value.slice (some ⟨gg, 0, none⟩) ((sdL k f t d ops m).length + 1) cap1) (sdL k f t d ops (m + 1)) a1 c1 a2 c2) := fun gg cap1 w9 g1 g2 g3 => ⟨bs, none, 0, a2, c2, HPA.out.push (by rw [sdL_succ, HYS.out]; exact OwnP.snoc g1) g2 (by simp) (g3.elim (fun e => .inl (show some gg = _ from e.symm)) (fun e => .inr (show some gg = _ by rw [e])))⟩
    clear hal PSY KSY HPA
    go_wp2_with (at_builtin; (refine wpList_append_lies _ rfl (.tmp 102) (.tmp 104) 62 rfl (w.heap.size + 1) 78 iS (.agg #[.int .i64 0, .int .u32 0]) 2 16 Try.underlying62 HIN.out.1 HIN.out.2.1 HIN.out.2.2.1 HIN.out.2.2.2 rfl (by omega) u5 (sdL k f t d ops m).length (cpCells (sdL k f t d ops m)) rfl hownA _ 1 1 [.int .i64 0, .int .u32 0] rfl rfl (news_sd _ _ _ _ (by simp)) (one_sd _ _) (by omega) (by unfold maxLen; omega) (by omega) HSZ.out _ rfl ?_; intro gg cap1 w9 hown1 hgrow hat hlt1; have HYY : Hid _ := HZ.out gg cap1 w9 hown1 hgrow hat; clear hown1 hgrow hat hlt1))
    go_roundw
    case rel => exact ⟨m + 1, by omega, by go_num, HYY⟩
    case measure => simp [intOf]; omega
end Go.Proofs.Ytoofjlfbedjbnaa
