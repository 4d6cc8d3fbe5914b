
/-
  The specification's DevPlay: what the plain functions say, in memory of its own. Conditions: the ops read as pairs, at most 1048576 of them.
-/
import Derived.Test.YthfmggfohegpnaaRows
import Derived.Test.YthfmggfohegpnaaSpdA
import Derived.Deep.RegionHeldLaw
namespace Go.Proofs.Ythfmggfohegpnaa
open Go.ChangeShapes Go.WideShapes Go.ChangeAt Go.RowKit Go.Deep
set_option linter.unusedVariables false

set_option maxRecDepth 20000 in
set_option maxHeartbeats 8000000 in
theorem spec_play (a : Option Addr) (n c : Nat) (ops : List Cp) (w : World) (hs : PSeg w a ops) (hl : ops.length = n) (hn : n ≤ 1048576) :
    Calls Try.prog 23 #[.slice a n c] w fun e w' => ∃ a' c', e = .returned (.slice a' (plyD ops).length c') ∧ Below w.heap.size w w' ∧ AI w' w.heap.size w'.heap.size a' (plyD ops) := by
  have HB1 : Hid (Below w.heap.size w (w.alloc (.cells #[] 56))) := (Below.refl _ w).alloc (Nat.le_refl _) _
  have O1 : Hid (OwnA (w.alloc (.cells #[] 56)) w.heap.size (.slice (some ⟨w.heap.size, 0, none⟩) 0 0) []) := OwnA.new _ _ rfl
  have HS : Hid (PSeg w a ops) := hs
  have HL : Hid (ops.length = n) := hl
  have hz1 : w.heap.size + 1 ≤ (w.alloc (.cells #[] 56)).heap.size := by simp
  clear hs hl
  obtain ⟨iS, hi1, hi2, hi3, hi4⟩ := infoA'
  have HIN : Hid (Try.prog.info? 56 = some iS ∧ iS.zero = some (.agg #[.bool false, .int .u32 0, .int .i64 0]) ∧ iS.size = 3 ∧ iS.bytes = 16) := ⟨hi1, hi2, hi3, hi4⟩
  clear hi1 hi2 hi3 hi4
  have HE0 : Hid ((¬ n ≤ 1000 ∨ ¬ kdsOk ops) → plyD ops = []) := fun g => by
    unfold plyD
    refine if_neg fun ⟨g2, g3⟩ => ?_
    rcases g with g | g
    · exact g (by rw [← HL.out]; exact g2)
    · exact g g3
  have HE1 : Hid (n ≤ 1000 → kdsOk ops → plyD ops = sdL ops n) := fun g2 g3 => by
    unfold plyD
    rw [if_pos ⟨by rw [HL.out]; exact g2, g3⟩, HL.out]
  obtain ⟨ps, HPS⟩ : ∃ p, Hid (plyD ops = p) := ⟨_, rfl⟩
  rw [HPS.out] at HE0 HE1 ⊢
  by_cases h1000 : (1000 : Int) < (n : Int)
  · have e : ps = [] := HE0.out (.inl (by omega))
    subst e
    go_enter Try.func23, Try.ntmps23
    go_wp2
    go_ret
    first
    | exact ⟨_, _, rfl, HB1.out, fun h => absurd h (by simp)⟩
    | exact ⟨_, ⟨_, rfl⟩, HB1.out, fun h => absurd h (by simp)⟩
  go_enter Try.func23, Try.ntmps23
  go_wp2
  revert HB1 O1 hz1
  generalize (w.alloc (.cells #[] 56)) = w1
  intro HB1 O1 hz1
  go_loopw [4] (fun i wr => ∃ j : Nat, j ≤ n ∧ i = .int .i64 j ∧ wr = w1 ∧ Hid (∀ i, i < j → 0 ≤ (ops.getD i cp0).1 ∧ (ops.getD i cp0).1 ≤ 2)) (fun i _ => n - (intOf i).toNat)
  case atStart => exact ⟨0, by omega, rfl, rfl, fun i hi => absurd hi (by omega)⟩
  case round =>
  obtain ⟨j, hj, rfl, rfl, HJ⟩ := hrel
  by_cases hjn : j < n
  · have hjn' : (j : Int) < (n : Int) := by omega
    obtain ⟨b1, o1, rfl, hbl1, p1⟩ := PSeg.at (w := w) HS.out j (by have := HL.out; omega)
    replace p1 := p1.of (w' := wr) (fun i => HB1.out.cell (p := ⟨b1, i, none⟩) hbl1)
    obtain ⟨p, HP⟩ : ∃ p, Hid (ops.getD j cp0 = p) := ⟨_, rfl⟩
    rw [HP.out] at p1
    obtain ⟨q0, q1⟩ := p1
    obtain ⟨x1, x2⟩ := p
    simp only at q0 q1
    clear q1
    obtain ⟨qi, HI⟩ : ∃ q, Hid (inr x1 0 2 = q) := ⟨_, rfl⟩
    have A0 : Hid (∀ X : World, Calls Try.prog 45 #[.int .i64 x1, .int .i64 0, .int .i64 2] X fun e w' => e = .returned (.bool qi) ∧ w' = X) := fun X => by rw [← HI.out]; exact in_any _ _ _ X
    go_wp2_with fail
    refine (A0.out _).mono ?_
    rintro u w3 ⟨rfl, h3⟩
    rw [h3]
    clear h3 w3 q0
    cases qi
    · have hk : ¬ kdsOk ops := fun g => by
        have h1 := g j (by have := HL.out; omega)
        rw [HP.out] at h1
        have h2 := inr_yes h1
        rw [HI.out] at h2
        cases h2
      have e : ps = [] := HE0.out (.inr hk)
      subst e
      clear hk
      go_wp2
      go_ret
      exact ⟨_, _, rfl, HB1.out, fun h => absurd h (by simp)⟩
    · have HJ2 : Hid (∀ i, i < j + 1 → 0 ≤ (ops.getD i cp0).1 ∧ (ops.getD i cp0).1 ≤ 2) := fun i hi => by
        by_cases e : i = j
        · subst e
          rw [HP.out]
          exact inr_iff.1 HI.out
        · exact HJ.out i (by omega)
      go_wp2
      go_roundw
      case rel => exact ⟨j + 1, by omega, by go_num, (by first | rfl | trivial), HJ2⟩
      case measure => simp [intOf]; omega
  obtain rfl : j = n := by omega
  have HKD : Hid (kdsOk ops) := fun i hi => HJ.out i (by have := HL.out; omega)
  have e : ps = sdL ops j := HE1.out (by omega) HKD.out
  subst e
  clear HE0 HE1 HPS HJ hjn
  have HPS0 : Hid (PD w (wr.alloc (.cells (dsr none 0 0 none 0 0) 27)) wr.heap.size 0 ([], []) (.slice (some ⟨w.heap.size, 0, none⟩) 0 0) [] none 0 none 0) := by
    have hal : Below wr.heap.size wr (wr.alloc (.cells (dsr none 0 0 none 0 0) 27)) := (Below.refl _ wr).alloc (Nat.le_refl _) _
    exact ⟨HB1.out.trans (hal.mono HB1.out.size), Bk.new wr _ _ _ rfl, SegQ.nil _ _ _, SegQ.nil _ _ _, Nat.le_refl _, Nat.le_refl _, O1.out.below hal, by simp, by intro g; have : some w.heap.size = some wr.heap.size := g; injection this; omega, by omega⟩
  clear HB1 O1
  go_wp2
  revert HPS0
  generalize (wr.alloc (.cells (dsr none 0 0 none 0 0) 27)) = V0
  generalize hbO : wr.heap.size = bO
  intro HPS0
  go_loopw [3, 6] (fun v i wr => ∃ m : Nat, m ≤ j ∧ i = .int .i64 m ∧ Hid (∃ bs a1 c1 a2 c2, PD w wr bO bs (stN ops m) v (sdL ops m) a1 c1 a2 c2)) (fun _ i _ => j - (intOf i).toNat)
  case atStart => exact ⟨0, by omega, rfl, 0, none, 0, none, 0, HPS0.out⟩
  case round =>
  obtain ⟨m, hm, rfl, HR⟩ := hrel
  by_cases hmn : m < j
  rotate_left
  · obtain rfl : m = j := by omega
    obtain ⟨bs0, a1, c1, a2, c2, hps⟩ := HR.out
    obtain ⟨a9, c9, e9, o9⟩ := hps.ow.ai
    have HF : Hid (Below w.heap.size w wr ∧ AI wr w.heap.size wr.heap.size a9 (sdL ops m)) := ⟨hps.gb, o9⟩
    subst e9
    clear hps HR o9 HPS0
    go_wp2
    go_ret
    exact ⟨_, _, rfl, HF.out.1, HF.out.2⟩
  have hmn' : (m : Int) < (j : Int) := by omega
  obtain ⟨bs0, a1, c1, a2, c2, hps⟩ := HR.out
  clear HR HPS0
  obtain ⟨b1, o1, rfl, hbl1, p1⟩ := PSeg.at (w := w) HS.out m (by have := HL.out; omega)
  replace p1 := p1.of (w' := wr) (fun i => hps.gb.cell (p := ⟨b1, i, none⟩) hbl1)
  obtain ⟨p, HP⟩ : ∃ p, Hid (ops.getD m cp0 = p) := ⟨_, rfl⟩
  have HKM : Hid (0 ≤ p.1 ∧ p.1 ≤ 2) := by rw [← HP.out]; exact HKD.out m (by have := HL.out; omega)
  rw [HP.out] at p1
  obtain ⟨q0, q1⟩ := p1
  have HST : Hid (stN ops (m + 1) = (stpD (stN ops m) p).1) := (show stN ops (m + 1) = (stpD (stN ops m) p).1 by rw [← HP.out]; rfl)
  have HSD : Hid (sdN ops m = (stpD (stN ops m) p).2) := (show sdN ops m = (stpD (stN ops m) p).2 by rw [← HP.out]; rfl)
  have HFW : Hid (FewD (stN ops m)) := few_stN ops m
  generalize stN ops m = s at hps HST HSD HFW
  obtain ⟨zs, ys⟩ := s
  obtain ⟨x1, x2⟩ := p
  simp only at q0 q1
  have hal1 : Below wr.heap.size wr (wr.alloc (.cells #[.bool false, .int .u32 0, .int .i64 0] 56)) := (Below.refl _ _).alloc (Nat.le_refl _) _
  have HP1 : Hid (PD w (wr.alloc (.cells #[.bool false, .int .u32 0, .int .i64 0] 56)) bO wr.heap.size (zs, ys) u3 (sdL ops m) a1 c1 a2 c2) := (hps.renew wr.heap.size (Nat.le_refl _)).below hal1
  have KS1 : Hid (Bk (wr.alloc (.cells #[.bool false, .int .u32 0, .int .i64 0] 56)) wr.heap.size #[.bool false, .int .u32 0, .int .i64 0]) := Bk.new _ _ _ _ rfl
  have HBS : Hid (∀ b, (b = bO ∨ u3.ownBlock = some b) → b < wr.heap.size) := fun b g => (hps.bad_lt g).2
  have hbw1 : w.heap.size ≤ wr.heap.size := hps.gb.size
  have hb1w : b1 < wr.heap.size := Nat.lt_of_lt_of_le hbl1 hps.gb.size
  have hbO1 := hps.ro.lt
  have hbO2 := hps.hO
  have hkm := HKM.out
  clear hps hbl1 HP HKM
  have hcs : x1 = 0 ∨ x1 = 1 ∨ x1 = 2 := by simp only at hkm; omega
  clear hkm
  rcases hcs with rfl | rfl | rfl
  · obtain ⟨ls, ms, q, HQ⟩ : ∃ ls ms q, Hid (inpF zs ys x2 = (ls, ms, q)) := ⟨_, _, _, rfl⟩
    have HST2 : Hid (stN ops (m + 1) = (ls, ms)) := (show stN ops (m + 1) = (ls, ms) by rw [HST.out]; unfold stpD; rw [if_pos (by simp)]; simp only; rw [HQ.out])
    have HYS : Hid (sdN ops m = (q, 0, 0)) := (show sdN ops m = (q, 0, 0) by rw [HSD.out]; unfold stpD; rw [if_pos (by simp)]; simp only; rw [HQ.out])
    obtain ⟨y, HYL⟩ : ∃ y, Hid (ls.length = y) := ⟨_, rfl⟩
    obtain ⟨z, HZL⟩ : ∃ y, Hid (ms.length = y) := ⟨_, rfl⟩
    have SN : Hid (∀ X, Below (wr.alloc (.cells #[.bool false, .int .u32 0, .int .i64 0] 56)).heap.size (wr.alloc (.cells #[.bool false, .int .u32 0, .int .i64 0] 56)) X → Calls Try.prog 14 #[dst a1 zs.length c1 a2 ys.length c2, .int .u32 x2] X fun e w' => ∃ a' c' b' d', e = .returned (.tuple #[dst a' y c' b' z d', .bool q]) ∧ Below X.heap.size X w' ∧ DE w' X.heap.size w'.heap.size a' ls b' ms ∧ y ≤ c' ∧ z ≤ d') := fun X hX => by have g := spec_inp a1 zs.length c1 a2 ys.length c2 x2 zs ys X ((HP1.out.below hX).l1.seg) rfl (by have := HFW.out.1; simp only at this; omega) HP1.out.p1 ((HP1.out.below hX).l2.seg) rfl (by have := HFW.out.2; simp only at this; omega) HP1.out.p2 ls ms q HQ; rw [HYL.out, HZL.out] at g; exact g
    clear HST HSD HQ HFW
    have kd := kept_c hal1 q0
    have hwd := kept_c hal1 q1
    go_wp2
    clear kd
    revert hwd SN
    have hbs : wr.heap.size < (wr.alloc (.cells #[.bool false, .int .u32 0, .int .i64 0] 56)).heap.size := by simp
    revert HP1 KS1 hbs
    generalize (wr.alloc (.cells #[.bool false, .int .u32 0, .int .i64 0] 56)) = W1
    generalize wr.heap.size = bs at HBS hbO1 hbw1 hb1w ⊢
    intro HP1 KS1 hbs
    intro SN hwd
    clear q0 q1 hal1
    have hb : Below W1.heap.size W1 W1 := Below.refl _ _
    have OC0 : Hid (W1.cell? ⟨bO, 0, none⟩ = some (.slice a1 zs.length c1)) := HP1.out.ro.cell 0 _ rfl
    have oc0 := OC0.out
    have OC1 : Hid (W1.cell? ⟨bO, 1, none⟩ = some (.slice a2 ys.length c2)) := HP1.out.ro.cell 1 _ rfl
    have oc1 := OC1.out
    have WC : Hid (W1.cell? ⟨b1, o1 + m * 2 + 1, none⟩ = some (.int .u32 x2)) := hwd
    have wc := WC.out
    go_region_held_law (fun w' => w'.cell? ⟨bO, 0, none⟩ = some (.slice a1 zs.length c1) ∧ w'.cell? ⟨bO, 1, none⟩ = some (.slice a2 ys.length c2) ∧ w'.cell? ⟨b1, o1 + m * 2 + 1, none⟩ = some (.int .u32 x2)) (first | with_reducible exact ⟨oc0, oc1, wc⟩ | with_reducible exact ⟨dr_c oc0, dr_c oc1, dr_c wc⟩ | with_reducible exact ⟨al_c _ oc0, al_c _ oc1, al_c _ wc⟩ | with_reducible exact ⟨al_c _ (dr_c oc0), al_c _ (dr_c oc1), al_c _ (dr_c wc)⟩ | with_reducible exact ⟨dr_c (al_c _ oc0), dr_c (al_c _ oc1), dr_c (al_c _ wc)⟩ | with_reducible exact ⟨st2 (by omega) oc0, st2 (by omega) oc1, st2 (by omega) wc⟩ | with_reducible exact ⟨st2 (by omega) (al_c _ oc0), st2 (by omega) (al_c _ oc1), st2 (by omega) (al_c _ wc)⟩)
      (first | (go_at_call 14; refine Calls.mono (SN.out _ (by first | exact hb | exact hb.drew | exact hb.alloc hb.size _ | exact (hb.alloc hb.size _).drew)) ?_; rintro u w97 ⟨a7, c7, b7, d7, rfl, hbb, ho7, hc7, hd7⟩; (first | have hvz := hV.lt | skip); have hbn := (by first | exact hb.trans (hbb.mono hb.size) | exact hb.drew.trans (hbb.mono hb.drew.size) | exact (hb.alloc hb.size _).trans (hbb.mono (hb.alloc hb.size _).size) | exact ((hb.alloc hb.size _).drew).trans (hbb.mono ((hb.alloc hb.size _).drew).size)); replace hb := hbn; clear hbn; replace oc0 := kept_c hb OC0.out; replace oc1 := kept_c hb OC1.out; replace wc := kept_c hb WC.out; (first | replace hV := bk_kept hbb hV | have hV := bk_kept hbb (Bk.new _ #[.slice none 0 0, .slice none 0 0] 27 _ rfl) | have hV := bk_kept hbb (bk_kept (Below.refl _ _).drew (Bk.new _ #[.slice none 0 0, .slice none 0 0] 27 _ rfl)) | skip); have HO7 : Hid (DE _ _ _ _ _ _ _) := ho7; have HC7 : Hid (y ≤ c7 ∧ z ≤ d7) := ⟨hc7, hd7⟩; have hz7 := hbb.size; clear ho7 hc7 hd7; have hz90 := hb.size; (first | (have v0 := hV.cell 0 _ rfl; have v1 := hV.cell 1 _ rfl; have vf := hV.free) | skip); clear hbb))
    all_goals
      first
      | (have hf := efd_set2 (v0 := (.slice a7 y c7)) (v1 := (.slice b7 z d7)) (k := W1.heap.size) hb hV (by omega) HO7.out (by first | exact hvz | simp | omega) hz7
         generalize ((w97.setCell ⟨W1.heap.size, 0, none⟩ (.slice a7 y c7)).setCell ⟨W1.heap.size, 1, none⟩ (.slice b7 z d7)) = V at hf ⊢
         generalize W1.heap.size = kn at hf ⊢)
      | (have hf := efd_new #[.slice a7 y c7, .slice b7 z d7] 27 hb HO7.out (by first | omega | (simp; done) | (simp; omega)) hz7
         generalize w97.alloc (.cells #[.slice a7 y c7, .slice b7 z d7] 27) = V at hf ⊢
         generalize w97.heap.size = kn at hf ⊢)
    all_goals
      rename_i hhh
      clear hhh
      try clear v0 v1 vf
      try clear hvz
      try clear hV
      clear HO7 hz7 hb hz90 oc0 oc1 wc OC0 OC1 WC SN hwd
      have hbV := hf.1
      have hzV := hbV.size
      have HPV : Hid (PD w V bO bs (zs, ys) u3 (sdL ops m) a1 c1 a2 c2) := HP1.out.below hbV
      have KSV : Hid (Bk V bs #[.bool false, .int .u32 0, .int .i64 0]) := KS1.out.below hbV
      have KN : Hid (Bk V kn #[.slice a7 y c7, .slice b7 z d7]) := hf.2.1
      have HQ7 : Hid (SegQ V (badB bO bs u3) a7 ls ∧ SegQ V (badB bO bs u3) b7 ms) := by
        obtain ⟨lo, hi, ho, g1, g2, g3, g4⟩ := hf.2.2.2
        exact ⟨ho.cut.1.segq (fun b g => by
          have g5 : b ≤ bs := by
            rcases g with g | g | g
            · have := HBS.out b (.inl g); omega
            · have := HBS.out b (.inr g); omega
            · omega
          omega), ho.cut.2.segq (fun b g => by
          have g5 : b ≤ bs := by
            rcases g with g | g | g
            · have := HBS.out b (.inl g); omega
            · have := HBS.out b (.inr g); omega
            · omega
          omega)⟩
      clear hf hbV HP1 KS1 w97
      have n0 := KN.out.cell 0 _ rfl
      have n1 := KN.out.cell 1 _ rfl
      have p0 := HPV.out.ro.cell 0 _ rfl
      have p1 := HPV.out.ro.cell 1 _ rfl
      have pf := HPV.out.ro.free
      have HPY : Hid (PD w ((V.setCell ⟨bO, 0, none⟩ (.slice a7 y c7)).setCell ⟨bO, 1, none⟩ (.slice b7 z d7)) bO bs (ls, ms) u3 (sdL ops m) a7 c7 b7 d7) := HPV.out.put a7 ls c7 y b7 ms d7 z HYL.out HZL.out HC7.out.1 HC7.out.2 HQ7.out.1 HQ7.out.2
      have KSY1 : Hid (Bk ((V.setCell ⟨bO, 0, none⟩ (.slice a7 y c7)).setCell ⟨bO, 1, none⟩ (.slice b7 z d7)) bs #[.bool false, .int .u32 0, .int .i64 0]) := (KSV.out.other bO 0 _ (by omega)).other bO 1 _ (by omega)
      have e0 := (KSY1.out).cell 0 _ rfl
      have ef0 := (KSY1.out).free
      have hbt : Betw bs (bs + 1) ((V.setCell ⟨bO, 0, none⟩ (.slice a7 y c7)).setCell ⟨bO, 1, none⟩ (.slice b7 z d7)) (((V.setCell ⟨bO, 0, none⟩ (.slice a7 y c7)).setCell ⟨bO, 1, none⟩ (.slice b7 z d7)).setCell ⟨bs, 0, none⟩ (.bool q)) := ((Betw.refl _ _ _)).setCell (p := ⟨bs, 0, none⟩) (Nat.le_refl _) (by simp) _
      have PSY : Hid (PD w (((V.setCell ⟨bO, 0, none⟩ (.slice a7 y c7)).setCell ⟨bO, 1, none⟩ (.slice b7 z d7)).setCell ⟨bs, 0, none⟩ (.bool q)) bO bs (stN ops (m + 1)) u3 (sdL ops m) a7 c7 b7 d7) := by
        rw [HST2.out]
        exact HPY.out.said hbt (by omega) HBS.out
      have KSY : Hid (Bk (((V.setCell ⟨bO, 0, none⟩ (.slice a7 y c7)).setCell ⟨bO, 1, none⟩ (.slice b7 z d7)).setCell ⟨bs, 0, none⟩ (.bool q)) bs #[.bool q, .int .u32 0, .int .i64 0]) := (KSY1.out).set 0 (.bool q) (by simp) (cs' := #[.bool q, .int .u32 0, .int .i64 0]) rfl
      clear HPV KSV KN HQ7 HPY KSY1 hbt HC7
      have s0 := KSY.out.cell 0 _ rfl
      have s1 := KSY.out.cell 1 _ rfl
      have s2 := KSY.out.cell 2 _ rfl
      have hal : Below (((V.setCell ⟨bO, 0, none⟩ (.slice a7 y c7)).setCell ⟨bO, 1, none⟩ (.slice b7 z d7)).setCell ⟨bs, 0, none⟩ (.bool q)).heap.size (((V.setCell ⟨bO, 0, none⟩ (.slice a7 y c7)).setCell ⟨bO, 1, none⟩ (.slice b7 z d7)).setCell ⟨bs, 0, none⟩ (.bool q)) ((((V.setCell ⟨bO, 0, none⟩ (.slice a7 y c7)).setCell ⟨bO, 1, none⟩ (.slice b7 z d7)).setCell ⟨bs, 0, none⟩ (.bool q)).alloc (.cells #[.bool q, .int .u32 0, .int .i64 0] 56)) := (Below.refl _ _).alloc (Nat.le_refl _) _
      have HPA : Hid (PD w ((((V.setCell ⟨bO, 0, none⟩ (.slice a7 y c7)).setCell ⟨bO, 1, none⟩ (.slice b7 z d7)).setCell ⟨bs, 0, none⟩ (.bool q)).alloc (.cells #[.bool q, .int .u32 0, .int .i64 0] 56)) bO bs (stN ops (m + 1)) u3 (sdL ops m) a7 c7 b7 d7) := PSY.out.below hal
      have hownA : ((((V.setCell ⟨bO, 0, none⟩ (.slice a7 y c7)).setCell ⟨bO, 1, none⟩ (.slice b7 z d7)).setCell ⟨bs, 0, none⟩ (.bool q)).alloc (.cells #[.bool q, .int .u32 0, .int .i64 0] 56)).ownsRow w.heap.size 56 3 u3 (sdL ops m).length (acCells (sdL ops m)) := HPA.out.ow
      have HSZ : Hid (w.heap.size ≤ ((((V.setCell ⟨bO, 0, none⟩ (.slice a7 y c7)).setCell ⟨bO, 1, none⟩ (.slice b7 z d7)).setCell ⟨bs, 0, none⟩ (.bool q)).alloc (.cells #[.bool q, .int .u32 0, .int .i64 0] 56)).heap.size) := (show w.heap.size ≤ ((((V.setCell ⟨bO, 0, none⟩ (.slice a7 y c7)).setCell ⟨bO, 1, none⟩ (.slice b7 z d7)).setCell ⟨bs, 0, none⟩ (.bool q)).alloc (.cells #[.bool q, .int .u32 0, .int .i64 0] 56)).heap.size from HPA.out.gb.size)
      have hsl : (sdL ops m).length ≤ 1000 := by rw [sdL_len]; omega
      have HZ : Hid (∀ (gg cap1 : Nat) (w9 : World), w9.ownsRow w.heap.size 56 3 (Value.slice (some ⟨gg, 0, none⟩) ((sdL ops m).length + 1) cap1) ((sdL ops m).length + 1) (acCells (sdL ops m) ++ [.bool q, .int .u32 0, .int .i64 0]) → ((((V.setCell ⟨bO, 0, none⟩ (.slice a7 y c7)).setCell ⟨bO, 1, none⟩ (.slice b7 z d7)).setCell ⟨bs, 0, none⟩ (.bool q)).alloc (.cells #[.bool q, .int .u32 0, .int .i64 0] 56)).grownBy w9 u3.ownBlock → (u3.ownBlock = some gg ∨ gg = ((((V.setCell ⟨bO, 0, none⟩ (.slice a7 y c7)).setCell ⟨bO, 1, none⟩ (.slice b7 z d7)).setCell ⟨bs, 0, none⟩ (.bool q)).alloc (.cells #[.bool q, .int .u32 0, .int .i64 0] 56)).heap.size) → ∃ bs a1 c1 a2 c2, PD w w9 bO bs (stN ops (m + 1)) (Value.slice (some ⟨gg, 0, none⟩) ((sdL ops m).length + 1) cap1) (sdL ops (m + 1)) a1 c1 a2 c2) := fun gg cap1 w9 g1 g2 g3 => ⟨bs, a7, c7, b7, d7, HPA.out.push (by rw [sdL_succ, HYS.out]; exact OwnA.snoc g1) g2 (by simp) (g3.elim (fun e => .inl (show some gg = _ from e.symm)) (fun e => .inr (show some gg = _ by rw [e])))⟩
      clear hal PSY KSY HPA
      go_wp2_with (at_builtin; (refine wpList_append_lies _ rfl (.tmp 83) (.tmp 85) 41 rfl w.heap.size 56 iS (.agg #[.bool false, .int .u32 0, .int .i64 0]) 3 16 Try.underlying41 HIN.out.1 HIN.out.2.1 HIN.out.2.2.1 HIN.out.2.2.2 rfl (by omega) u3 (sdL ops m).length (acCells (sdL ops m)) rfl hownA _ 1 1 [.bool q, .int .u32 0, .int .i64 0] rfl rfl (news_acc _ (q, 0, 0) _ (by simp)) (one_acc (q, 0, 0)) (by omega) (by unfold maxLen; omega) (by omega) HSZ.out _ rfl ?_; intro gg cap1 w9 hown1 hgrow hat hlt1; have HYY : Hid _ := HZ.out gg cap1 w9 hown1 hgrow hat; clear hown1 hgrow hat hlt1))
      go_roundw
      case rel => exact ⟨m + 1, by omega, by go_num, HYY⟩
      case measure => simp [intOf]; omega
  · obtain ⟨ls, ms, q, HQ⟩ : ∃ ls ms q, Hid (opnF zs ys = (ls, ms, q)) := ⟨_, _, _, rfl⟩
    have HST2 : Hid (stN ops (m + 1) = (ls, ms)) := (show stN ops (m + 1) = (ls, ms) by rw [HST.out]; unfold stpD; rw [if_neg (by simp), if_pos (by simp)]; simp only; rw [HQ.out])
    have HYS : Hid (sdN ops m = (q, 0, 0)) := (show sdN ops m = (q, 0, 0) by rw [HSD.out]; unfold stpD; rw [if_neg (by simp), if_pos (by simp)]; simp only; rw [HQ.out])
    obtain ⟨y, HYL⟩ : ∃ y, Hid (ls.length = y) := ⟨_, rfl⟩
    obtain ⟨z, HZL⟩ : ∃ y, Hid (ms.length = y) := ⟨_, rfl⟩
    have SN : Hid (∀ X, Below (wr.alloc (.cells #[.bool false, .int .u32 0, .int .i64 0] 56)).heap.size (wr.alloc (.cells #[.bool false, .int .u32 0, .int .i64 0] 56)) X → Calls Try.prog 18 #[dst a1 zs.length c1 a2 ys.length c2] X fun e w' => ∃ a' c' b' d', e = .returned (.tuple #[dst a' y c' b' z d', .bool q]) ∧ Below X.heap.size X w' ∧ DE w' X.heap.size w'.heap.size a' ls b' ms ∧ y ≤ c' ∧ z ≤ d') := fun X hX => by have g := spec_opn a1 zs.length c1 a2 ys.length c2 zs ys X ((HP1.out.below hX).l1.seg) rfl (by have := HFW.out.1; simp only at this; omega) HP1.out.p1 ((HP1.out.below hX).l2.seg) rfl (by have := HFW.out.2; simp only at this; omega) HP1.out.p2 ls ms q HQ; rw [HYL.out, HZL.out] at g; exact g
    clear HST HSD HQ HFW
    have kd := kept_c hal1 q0
    have o0 := HP1.out.ro.cell 0 _ rfl
    have o1' := HP1.out.ro.cell 1 _ rfl
    go_wp2_with fail
    refine (SN.out _ (Below.refl _ _)).mono ?_
    clear kd o0 o1' q0 q1 hal1 SN
    have hbs : wr.heap.size < (wr.alloc (.cells #[.bool false, .int .u32 0, .int .i64 0] 56)).heap.size := by simp
    revert HP1 KS1 hbs
    generalize (wr.alloc (.cells #[.bool false, .int .u32 0, .int .i64 0] 56)) = W1
    generalize wr.heap.size = bs at HBS hbO1 hbw1 hb1w ⊢
    intro HP1 KS1 hbs
    rintro u w7 ⟨a7, c7, b7, d7, rfl, hb7, ho7, hc7, hd7⟩
    have hz7 := hb7.size
    have hal : Below w7.heap.size w7 (w7.alloc (.cells #[.slice a7 y c7, .slice b7 z d7] 27)) := (Below.refl _ _).alloc (Nat.le_refl _) _
    have hbV := hb7.trans (hal.mono hb7.size)
    have HPV : Hid (PD w (w7.alloc (.cells #[.slice a7 y c7, .slice b7 z d7] 27)) bO bs (zs, ys) u3 (sdL ops m) a1 c1 a2 c2) := HP1.out.below hbV
    have KSV : Hid (Bk (w7.alloc (.cells #[.slice a7 y c7, .slice b7 z d7] 27)) bs #[.bool false, .int .u32 0, .int .i64 0]) := KS1.out.below hbV
    have KN : Hid (Bk (w7.alloc (.cells #[.slice a7 y c7, .slice b7 z d7] 27)) w7.heap.size #[.slice a7 y c7, .slice b7 z d7]) := Bk.new _ _ _ _ rfl
    have HQ7 : Hid (SegQ (w7.alloc (.cells #[.slice a7 y c7, .slice b7 z d7] 27)) (badB bO bs u3) a7 ls ∧ SegQ (w7.alloc (.cells #[.slice a7 y c7, .slice b7 z d7] 27)) (badB bO bs u3) b7 ms) := by
      replace ho7 := ho7.below hal
      exact ⟨ho7.cut.1.segq (fun b g => by
        have g5 : b ≤ bs := by
          rcases g with g | g | g
          · have := HBS.out b (.inl g); omega
          · have := HBS.out b (.inr g); omega
          · omega
        omega), ho7.cut.2.segq (fun b g => by
        have g5 : b ≤ bs := by
          rcases g with g | g | g
          · have := HBS.out b (.inl g); omega
          · have := HBS.out b (.inr g); omega
          · omega
        omega)⟩
    have HC7 : Hid (y ≤ c7 ∧ z ≤ d7) := ⟨hc7, hd7⟩
    clear hb7 ho7 hc7 hd7 hal hbV HP1 KS1
    have n0 := KN.out.cell 0 _ rfl
    have n1 := KN.out.cell 1 _ rfl
    have p0 := HPV.out.ro.cell 0 _ rfl
    have p1 := HPV.out.ro.cell 1 _ rfl
    have pf := HPV.out.ro.free
    have HPY : Hid (PD w (((w7.alloc (.cells #[.slice a7 y c7, .slice b7 z d7] 27)).setCell ⟨bO, 0, none⟩ (.slice a7 y c7)).setCell ⟨bO, 1, none⟩ (.slice b7 z d7)) bO bs (ls, ms) u3 (sdL ops m) a7 c7 b7 d7) := HPV.out.put a7 ls c7 y b7 ms d7 z HYL.out HZL.out HC7.out.1 HC7.out.2 HQ7.out.1 HQ7.out.2
    have KSY1 : Hid (Bk (((w7.alloc (.cells #[.slice a7 y c7, .slice b7 z d7] 27)).setCell ⟨bO, 0, none⟩ (.slice a7 y c7)).setCell ⟨bO, 1, none⟩ (.slice b7 z d7)) bs #[.bool false, .int .u32 0, .int .i64 0]) := (KSV.out.other bO 0 _ (by omega)).other bO 1 _ (by omega)
    have e0 := (KSY1.out).cell 0 _ rfl
    have ef0 := (KSY1.out).free
    have hbt : Betw bs (bs + 1) (((w7.alloc (.cells #[.slice a7 y c7, .slice b7 z d7] 27)).setCell ⟨bO, 0, none⟩ (.slice a7 y c7)).setCell ⟨bO, 1, none⟩ (.slice b7 z d7)) ((((w7.alloc (.cells #[.slice a7 y c7, .slice b7 z d7] 27)).setCell ⟨bO, 0, none⟩ (.slice a7 y c7)).setCell ⟨bO, 1, none⟩ (.slice b7 z d7)).setCell ⟨bs, 0, none⟩ (.bool q)) := ((Betw.refl _ _ _)).setCell (p := ⟨bs, 0, none⟩) (Nat.le_refl _) (by simp) _
    have PSY : Hid (PD w ((((w7.alloc (.cells #[.slice a7 y c7, .slice b7 z d7] 27)).setCell ⟨bO, 0, none⟩ (.slice a7 y c7)).setCell ⟨bO, 1, none⟩ (.slice b7 z d7)).setCell ⟨bs, 0, none⟩ (.bool q)) bO bs (stN ops (m + 1)) u3 (sdL ops m) a7 c7 b7 d7) := by
      rw [HST2.out]
      exact HPY.out.said hbt (by omega) HBS.out
    have KSY : Hid (Bk ((((w7.alloc (.cells #[.slice a7 y c7, .slice b7 z d7] 27)).setCell ⟨bO, 0, none⟩ (.slice a7 y c7)).setCell ⟨bO, 1, none⟩ (.slice b7 z d7)).setCell ⟨bs, 0, none⟩ (.bool q)) bs #[.bool q, .int .u32 0, .int .i64 0]) := (KSY1.out).set 0 (.bool q) (by simp) (cs' := #[.bool q, .int .u32 0, .int .i64 0]) rfl
    clear HPV KSV KN HQ7 HPY KSY1 hbt HC7
    have s0 := KSY.out.cell 0 _ rfl
    have s1 := KSY.out.cell 1 _ rfl
    have s2 := KSY.out.cell 2 _ rfl
    have hal : Below ((((w7.alloc (.cells #[.slice a7 y c7, .slice b7 z d7] 27)).setCell ⟨bO, 0, none⟩ (.slice a7 y c7)).setCell ⟨bO, 1, none⟩ (.slice b7 z d7)).setCell ⟨bs, 0, none⟩ (.bool q)).heap.size ((((w7.alloc (.cells #[.slice a7 y c7, .slice b7 z d7] 27)).setCell ⟨bO, 0, none⟩ (.slice a7 y c7)).setCell ⟨bO, 1, none⟩ (.slice b7 z d7)).setCell ⟨bs, 0, none⟩ (.bool q)) (((((w7.alloc (.cells #[.slice a7 y c7, .slice b7 z d7] 27)).setCell ⟨bO, 0, none⟩ (.slice a7 y c7)).setCell ⟨bO, 1, none⟩ (.slice b7 z d7)).setCell ⟨bs, 0, none⟩ (.bool q)).alloc (.cells #[.bool q, .int .u32 0, .int .i64 0] 56)) := (Below.refl _ _).alloc (Nat.le_refl _) _
    have HPA : Hid (PD w (((((w7.alloc (.cells #[.slice a7 y c7, .slice b7 z d7] 27)).setCell ⟨bO, 0, none⟩ (.slice a7 y c7)).setCell ⟨bO, 1, none⟩ (.slice b7 z d7)).setCell ⟨bs, 0, none⟩ (.bool q)).alloc (.cells #[.bool q, .int .u32 0, .int .i64 0] 56)) bO bs (stN ops (m + 1)) u3 (sdL ops m) a7 c7 b7 d7) := PSY.out.below hal
    have hownA : (((((w7.alloc (.cells #[.slice a7 y c7, .slice b7 z d7] 27)).setCell ⟨bO, 0, none⟩ (.slice a7 y c7)).setCell ⟨bO, 1, none⟩ (.slice b7 z d7)).setCell ⟨bs, 0, none⟩ (.bool q)).alloc (.cells #[.bool q, .int .u32 0, .int .i64 0] 56)).ownsRow w.heap.size 56 3 u3 (sdL ops m).length (acCells (sdL ops m)) := HPA.out.ow
    have HSZ : Hid (w.heap.size ≤ (((((w7.alloc (.cells #[.slice a7 y c7, .slice b7 z d7] 27)).setCell ⟨bO, 0, none⟩ (.slice a7 y c7)).setCell ⟨bO, 1, none⟩ (.slice b7 z d7)).setCell ⟨bs, 0, none⟩ (.bool q)).alloc (.cells #[.bool q, .int .u32 0, .int .i64 0] 56)).heap.size) := (show w.heap.size ≤ (((((w7.alloc (.cells #[.slice a7 y c7, .slice b7 z d7] 27)).setCell ⟨bO, 0, none⟩ (.slice a7 y c7)).setCell ⟨bO, 1, none⟩ (.slice b7 z d7)).setCell ⟨bs, 0, none⟩ (.bool q)).alloc (.cells #[.bool q, .int .u32 0, .int .i64 0] 56)).heap.size from HPA.out.gb.size)
    have hsl : (sdL ops m).length ≤ 1000 := by rw [sdL_len]; omega
    have HZ : Hid (∀ (gg cap1 : Nat) (w9 : World), w9.ownsRow w.heap.size 56 3 (Value.slice (some ⟨gg, 0, none⟩) ((sdL ops m).length + 1) cap1) ((sdL ops m).length + 1) (acCells (sdL ops m) ++ [.bool q, .int .u32 0, .int .i64 0]) → (((((w7.alloc (.cells #[.slice a7 y c7, .slice b7 z d7] 27)).setCell ⟨bO, 0, none⟩ (.slice a7 y c7)).setCell ⟨bO, 1, none⟩ (.slice b7 z d7)).setCell ⟨bs, 0, none⟩ (.bool q)).alloc (.cells #[.bool q, .int .u32 0, .int .i64 0] 56)).grownBy w9 u3.ownBlock → (u3.ownBlock = some gg ∨ gg = (((((w7.alloc (.cells #[.slice a7 y c7, .slice b7 z d7] 27)).setCell ⟨bO, 0, none⟩ (.slice a7 y c7)).setCell ⟨bO, 1, none⟩ (.slice b7 z d7)).setCell ⟨bs, 0, none⟩ (.bool q)).alloc (.cells #[.bool q, .int .u32 0, .int .i64 0] 56)).heap.size) → ∃ bs a1 c1 a2 c2, PD w w9 bO bs (stN ops (m + 1)) (Value.slice (some ⟨gg, 0, none⟩) ((sdL ops m).length + 1) cap1) (sdL ops (m + 1)) a1 c1 a2 c2) := fun gg cap1 w9 g1 g2 g3 => ⟨bs, a7, c7, b7, d7, HPA.out.push (by rw [sdL_succ, HYS.out]; exact OwnA.snoc g1) g2 (by simp) (g3.elim (fun e => .inl (show some gg = _ from e.symm)) (fun e => .inr (show some gg = _ by rw [e])))⟩
    clear hal PSY KSY HPA
    go_wp2_with (at_builtin; (refine wpList_append_lies _ rfl (.tmp 83) (.tmp 85) 41 rfl w.heap.size 56 iS (.agg #[.bool false, .int .u32 0, .int .i64 0]) 3 16 Try.underlying41 HIN.out.1 HIN.out.2.1 HIN.out.2.2.1 HIN.out.2.2.2 rfl (by omega) u3 (sdL ops m).length (acCells (sdL ops m)) rfl hownA _ 1 1 [.bool q, .int .u32 0, .int .i64 0] rfl rfl (news_acc _ (q, 0, 0) _ (by simp)) (one_acc (q, 0, 0)) (by omega) (by unfold maxLen; omega) (by omega) HSZ.out _ rfl ?_; intro gg cap1 w9 hown1 hgrow hat hlt1; have HYY : Hid _ := HZ.out gg cap1 w9 hown1 hgrow hat; clear hown1 hgrow hat hlt1))
    go_roundw
    case rel => exact ⟨m + 1, by omega, by go_num, HYY⟩
    case measure => simp [intOf]; omega
  · obtain ⟨ls, ms, x, cd, HQ⟩ : ∃ ls ms x cd, Hid (redF zs ys = (ls, ms, x, cd)) := ⟨_, _, _, _, rfl⟩
    have HST2 : Hid (stN ops (m + 1) = (ls, ms)) := (show stN ops (m + 1) = (ls, ms) by rw [HST.out]; unfold stpD; rw [if_neg (by simp), if_neg (by simp)]; simp only; rw [HQ.out])
    have HYS : Hid (sdN ops m = (false, x, cd)) := (show sdN ops m = (false, x, cd) by rw [HSD.out]; unfold stpD; rw [if_neg (by simp), if_neg (by simp)]; simp only; rw [HQ.out])
    obtain ⟨y, HYL⟩ : ∃ y, Hid (ls.length = y) := ⟨_, rfl⟩
    obtain ⟨z, HZL⟩ : ∃ y, Hid (ms.length = y) := ⟨_, rfl⟩
    have SN : Hid (∀ X, Below (wr.alloc (.cells #[.bool false, .int .u32 0, .int .i64 0] 56)).heap.size (wr.alloc (.cells #[.bool false, .int .u32 0, .int .i64 0] 56)) X → Calls Try.prog 20 #[dst a1 zs.length c1 a2 ys.length c2] X fun e w' => ∃ a' c' b' d', e = .returned (.tuple #[dst a' y c' b' z d', .int .u32 x, .int .i64 cd]) ∧ Below X.heap.size X w' ∧ DE w' X.heap.size w'.heap.size a' ls b' ms ∧ y ≤ c' ∧ z ≤ d') := fun X hX => by have g := spec_red a1 zs.length c1 a2 ys.length c2 zs ys X ((HP1.out.below hX).l1.seg) rfl (by have := HFW.out.1; simp only at this; omega) HP1.out.p1 ((HP1.out.below hX).l2.seg) rfl (by have := HFW.out.2; simp only at this; omega) HP1.out.p2 ls ms x cd HQ; rw [HYL.out, HZL.out] at g; exact g
    clear HST HSD HQ HFW
    have kd := kept_c hal1 q0
    have o0 := HP1.out.ro.cell 0 _ rfl
    have o1' := HP1.out.ro.cell 1 _ rfl
    go_wp2_with fail
    refine (SN.out _ (Below.refl _ _)).mono ?_
    clear kd o0 o1' q0 q1 hal1 SN
    have hbs : wr.heap.size < (wr.alloc (.cells #[.bool false, .int .u32 0, .int .i64 0] 56)).heap.size := by simp
    revert HP1 KS1 hbs
    generalize (wr.alloc (.cells #[.bool false, .int .u32 0, .int .i64 0] 56)) = W1
    generalize wr.heap.size = bs at HBS hbO1 hbw1 hb1w ⊢
    intro HP1 KS1 hbs
    rintro u w7 ⟨a7, c7, b7, d7, rfl, hb7, ho7, hc7, hd7⟩
    have hz7 := hb7.size
    have hal : Below w7.heap.size w7 (w7.alloc (.cells #[.slice a7 y c7, .slice b7 z d7] 27)) := (Below.refl _ _).alloc (Nat.le_refl _) _
    have hbV := hb7.trans (hal.mono hb7.size)
    have HPV : Hid (PD w (w7.alloc (.cells #[.slice a7 y c7, .slice b7 z d7] 27)) bO bs (zs, ys) u3 (sdL ops m) a1 c1 a2 c2) := HP1.out.below hbV
    have KSV : Hid (Bk (w7.alloc (.cells #[.slice a7 y c7, .slice b7 z d7] 27)) bs #[.bool false, .int .u32 0, .int .i64 0]) := KS1.out.below hbV
    have KN : Hid (Bk (w7.alloc (.cells #[.slice a7 y c7, .slice b7 z d7] 27)) w7.heap.size #[.slice a7 y c7, .slice b7 z d7]) := Bk.new _ _ _ _ rfl
    have HQ7 : Hid (SegQ (w7.alloc (.cells #[.slice a7 y c7, .slice b7 z d7] 27)) (badB bO bs u3) a7 ls ∧ SegQ (w7.alloc (.cells #[.slice a7 y c7, .slice b7 z d7] 27)) (badB bO bs u3) b7 ms) := by
      replace ho7 := ho7.below hal
      exact ⟨ho7.cut.1.segq (fun b g => by
        have g5 : b ≤ bs := by
          rcases g with g | g | g
          · have := HBS.out b (.inl g); omega
          · have := HBS.out b (.inr g); omega
          · omega
        omega), ho7.cut.2.segq (fun b g => by
        have g5 : b ≤ bs := by
          rcases g with g | g | g
          · have := HBS.out b (.inl g); omega
          · have := HBS.out b (.inr g); omega
          · omega
        omega)⟩
    have HC7 : Hid (y ≤ c7 ∧ z ≤ d7) := ⟨hc7, hd7⟩
    clear hb7 ho7 hc7 hd7 hal hbV HP1 KS1
    have n0 := KN.out.cell 0 _ rfl
    have n1 := KN.out.cell 1 _ rfl
    have p0 := HPV.out.ro.cell 0 _ rfl
    have p1 := HPV.out.ro.cell 1 _ rfl
    have pf := HPV.out.ro.free
    have HPY : Hid (PD w (((w7.alloc (.cells #[.slice a7 y c7, .slice b7 z d7] 27)).setCell ⟨bO, 0, none⟩ (.slice a7 y c7)).setCell ⟨bO, 1, none⟩ (.slice b7 z d7)) bO bs (ls, ms) u3 (sdL ops m) a7 c7 b7 d7) := HPV.out.put a7 ls c7 y b7 ms d7 z HYL.out HZL.out HC7.out.1 HC7.out.2 HQ7.out.1 HQ7.out.2
    have KSY1 : Hid (Bk (((w7.alloc (.cells #[.slice a7 y c7, .slice b7 z d7] 27)).setCell ⟨bO, 0, none⟩ (.slice a7 y c7)).setCell ⟨bO, 1, none⟩ (.slice b7 z d7)) bs #[.bool false, .int .u32 0, .int .i64 0]) := (KSV.out.other bO 0 _ (by omega)).other bO 1 _ (by omega)
    have e0 := (KSY1.out).cell 1 _ rfl
    have ef0 := (KSY1.out).free
    have e1 := ((KSY1.out).set 1 (.int .u32 x) (by simp) (cs' := #[.bool false, .int .u32 x, .int .i64 0]) rfl).cell 2 _ rfl
    have ef1 := ((KSY1.out).set 1 (.int .u32 x) (by simp) (cs' := #[.bool false, .int .u32 x, .int .i64 0]) rfl).free
    have hbt : Betw bs (bs + 1) (((w7.alloc (.cells #[.slice a7 y c7, .slice b7 z d7] 27)).setCell ⟨bO, 0, none⟩ (.slice a7 y c7)).setCell ⟨bO, 1, none⟩ (.slice b7 z d7)) (((((w7.alloc (.cells #[.slice a7 y c7, .slice b7 z d7] 27)).setCell ⟨bO, 0, none⟩ (.slice a7 y c7)).setCell ⟨bO, 1, none⟩ (.slice b7 z d7)).setCell ⟨bs, 1, none⟩ (.int .u32 x)).setCell ⟨bs, 2, none⟩ (.int .i64 cd)) := (((Betw.refl _ _ _)).setCell (p := ⟨bs, 1, none⟩) (Nat.le_refl _) (by simp) _).setCell (p := ⟨bs, 2, none⟩) (Nat.le_refl _) (by simp) _
    have PSY : Hid (PD w (((((w7.alloc (.cells #[.slice a7 y c7, .slice b7 z d7] 27)).setCell ⟨bO, 0, none⟩ (.slice a7 y c7)).setCell ⟨bO, 1, none⟩ (.slice b7 z d7)).setCell ⟨bs, 1, none⟩ (.int .u32 x)).setCell ⟨bs, 2, none⟩ (.int .i64 cd)) bO bs (stN ops (m + 1)) u3 (sdL ops m) a7 c7 b7 d7) := by
      rw [HST2.out]
      exact HPY.out.said hbt (by omega) HBS.out
    have KSY : Hid (Bk (((((w7.alloc (.cells #[.slice a7 y c7, .slice b7 z d7] 27)).setCell ⟨bO, 0, none⟩ (.slice a7 y c7)).setCell ⟨bO, 1, none⟩ (.slice b7 z d7)).setCell ⟨bs, 1, none⟩ (.int .u32 x)).setCell ⟨bs, 2, none⟩ (.int .i64 cd)) bs #[.bool false, .int .u32 x, .int .i64 cd]) := ((KSY1.out).set 1 (.int .u32 x) (by simp) (cs' := #[.bool false, .int .u32 x, .int .i64 0]) rfl).set 2 (.int .i64 cd) (by simp) (cs' := #[.bool false, .int .u32 x, .int .i64 cd]) rfl
    clear HPV KSV KN HQ7 HPY KSY1 hbt HC7
    have s0 := KSY.out.cell 0 _ rfl
    have s1 := KSY.out.cell 1 _ rfl
    have s2 := KSY.out.cell 2 _ rfl
    have hal : Below (((((w7.alloc (.cells #[.slice a7 y c7, .slice b7 z d7] 27)).setCell ⟨bO, 0, none⟩ (.slice a7 y c7)).setCell ⟨bO, 1, none⟩ (.slice b7 z d7)).setCell ⟨bs, 1, none⟩ (.int .u32 x)).setCell ⟨bs, 2, none⟩ (.int .i64 cd)).heap.size (((((w7.alloc (.cells #[.slice a7 y c7, .slice b7 z d7] 27)).setCell ⟨bO, 0, none⟩ (.slice a7 y c7)).setCell ⟨bO, 1, none⟩ (.slice b7 z d7)).setCell ⟨bs, 1, none⟩ (.int .u32 x)).setCell ⟨bs, 2, none⟩ (.int .i64 cd)) ((((((w7.alloc (.cells #[.slice a7 y c7, .slice b7 z d7] 27)).setCell ⟨bO, 0, none⟩ (.slice a7 y c7)).setCell ⟨bO, 1, none⟩ (.slice b7 z d7)).setCell ⟨bs, 1, none⟩ (.int .u32 x)).setCell ⟨bs, 2, none⟩ (.int .i64 cd)).alloc (.cells #[.bool false, .int .u32 x, .int .i64 cd] 56)) := (Below.refl _ _).alloc (Nat.le_refl _) _
    have HPA : Hid (PD w ((((((w7.alloc (.cells #[.slice a7 y c7, .slice b7 z d7] 27)).setCell ⟨bO, 0, none⟩ (.slice a7 y c7)).setCell ⟨bO, 1, none⟩ (.slice b7 z d7)).setCell ⟨bs, 1, none⟩ (.int .u32 x)).setCell ⟨bs, 2, none⟩ (.int .i64 cd)).alloc (.cells #[.bool false, .int .u32 x, .int .i64 cd] 56)) bO bs (stN ops (m + 1)) u3 (sdL ops m) a7 c7 b7 d7) := PSY.out.below hal
    have hownA : ((((((w7.alloc (.cells #[.slice a7 y c7, .slice b7 z d7] 27)).setCell ⟨bO, 0, none⟩ (.slice a7 y c7)).setCell ⟨bO, 1, none⟩ (.slice b7 z d7)).setCell ⟨bs, 1, none⟩ (.int .u32 x)).setCell ⟨bs, 2, none⟩ (.int .i64 cd)).alloc (.cells #[.bool false, .int .u32 x, .int .i64 cd] 56)).ownsRow w.heap.size 56 3 u3 (sdL ops m).length (acCells (sdL ops m)) := HPA.out.ow
    have HSZ : Hid (w.heap.size ≤ ((((((w7.alloc (.cells #[.slice a7 y c7, .slice b7 z d7] 27)).setCell ⟨bO, 0, none⟩ (.slice a7 y c7)).setCell ⟨bO, 1, none⟩ (.slice b7 z d7)).setCell ⟨bs, 1, none⟩ (.int .u32 x)).setCell ⟨bs, 2, none⟩ (.int .i64 cd)).alloc (.cells #[.bool false, .int .u32 x, .int .i64 cd] 56)).heap.size) := (show w.heap.size ≤ ((((((w7.alloc (.cells #[.slice a7 y c7, .slice b7 z d7] 27)).setCell ⟨bO, 0, none⟩ (.slice a7 y c7)).setCell ⟨bO, 1, none⟩ (.slice b7 z d7)).setCell ⟨bs, 1, none⟩ (.int .u32 x)).setCell ⟨bs, 2, none⟩ (.int .i64 cd)).alloc (.cells #[.bool false, .int .u32 x, .int .i64 cd] 56)).heap.size from HPA.out.gb.size)
    have hsl : (sdL ops m).length ≤ 1000 := by rw [sdL_len]; omega
    have HZ : Hid (∀ (gg cap1 : Nat) (w9 : World), w9.ownsRow w.heap.size 56 3 (Value.slice (some ⟨gg, 0, none⟩) ((sdL ops m).length + 1) cap1) ((sdL ops m).length + 1) (acCells (sdL ops m) ++ [.bool false, .int .u32 x, .int .i64 cd]) → ((((((w7.alloc (.cells #[.slice a7 y c7, .slice b7 z d7] 27)).setCell ⟨bO, 0, none⟩ (.slice a7 y c7)).setCell ⟨bO, 1, none⟩ (.slice b7 z d7)).setCell ⟨bs, 1, none⟩ (.int .u32 x)).setCell ⟨bs, 2, none⟩ (.int .i64 cd)).alloc (.cells #[.bool false, .int .u32 x, .int .i64 cd] 56)).grownBy w9 u3.ownBlock → (u3.ownBlock = some gg ∨ gg = ((((((w7.alloc (.cells #[.slice a7 y c7, .slice b7 z d7] 27)).setCell ⟨bO, 0, none⟩ (.slice a7 y c7)).setCell ⟨bO, 1, none⟩ (.slice b7 z d7)).setCell ⟨bs, 1, none⟩ (.int .u32 x)).setCell ⟨bs, 2, none⟩ (.int .i64 cd)).alloc (.cells #[.bool false, .int .u32 x, .int .i64 cd] 56)).heap.size) → ∃ bs a1 c1 a2 c2, PD w w9 bO bs (stN ops (m + 1)) (Value.slice (some ⟨gg, 0, none⟩) ((sdL ops m).length + 1) cap1) (sdL ops (m + 1)) a1 c1 a2 c2) := fun gg cap1 w9 g1 g2 g3 => ⟨bs, a7, c7, b7, d7, HPA.out.push (by rw [sdL_succ, HYS.out]; exact OwnA.snoc g1) g2 (by simp) (g3.elim (fun e => .inl (show some gg = _ from e.symm)) (fun e => .inr (show some gg = _ by rw [e])))⟩
    clear hal PSY KSY HPA
    go_wp2_with (at_builtin; (refine wpList_append_lies _ rfl (.tmp 83) (.tmp 85) 41 rfl w.heap.size 56 iS (.agg #[.bool false, .int .u32 0, .int .i64 0]) 3 16 Try.underlying41 HIN.out.1 HIN.out.2.1 HIN.out.2.2.1 HIN.out.2.2.2 rfl (by omega) u3 (sdL ops m).length (acCells (sdL ops m)) rfl hownA _ 1 1 [.bool false, .int .u32 x, .int .i64 cd] rfl rfl (news_acc _ (false, x, cd) _ (by simp)) (one_acc (false, x, cd)) (by omega) (by unfold maxLen; omega) (by omega) HSZ.out _ rfl ?_; intro gg cap1 w9 hown1 hgrow hat hlt1; have HYY : Hid _ := HZ.out gg cap1 w9 hown1 hgrow hat; clear hown1 hgrow hat hlt1))
    go_roundw
    case rel => exact ⟨m + 1, by omega, by go_num, HYY⟩
    case measure => simp [intOf]; omega
end Go.Proofs.Ythfmggfohegpnaa
