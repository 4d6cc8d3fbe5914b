
/-
  Devices and channels that are right: the specification's own function. Conditions: the lists lie in memory; costs and shape are right.
-/
import Derived.Test.YtofibnmbgfggkaaGreatDoorBas
import Derived.Test.YtofibnmbgfggkaaGreatDoorRul
import Derived.Test.YtofibnmbgfggkaaGreatDoorLrw
import Derived.BigQuiet

namespace Go.Proofs.YtofibnmbgfggkaaGreatDoor
open Go.ChangeShapes Go.WideShapes Go.ChangeAt Go.RowKit Go.Deep Go.Joins
set_option linter.unusedVariables false

def ChanP (np : Nat) (x : chT) : Prop := chOkT x = true ∧ x.2.1 < (np : Int) ∧ x.2.2.1 < (np : Int)
def ChansP (t : Tb) (np : Nat) (ds : List Int) (dn : Nat) (cs : List chT) (cn : Nat) : Prop := dn ≤ 8 ∧ cn ≤ 8 ∧ (∀ i, i < dn → 0 ≤ ds.getD i 0 ∧ ds.getD i 0 ≤ (np : Int) - 1) ∧ (∀ i, i < cn → ChanP np (cs.getD i ch0)) ∧ t.c1 * (16 + mostN cs cn) + t.c7 * (t.s1 * t.s2) ≤ t.pad
set_option maxRecDepth 40000 in
set_option maxHeartbeats 8000000 in
theorem spec_chans0 (t : Tb) (pa da ca sa : Option Addr) (pn pc dn dc cn cc sn sc : Nat) (ds : List Int) (cs : List chT) (q : Bool) (w : World) (hd : GSeg 1 w da dn (inX ds)) (hc : GSeg 4 w ca cn (chX cs)) (hdn : dn ≤ 9223372036854775807) (hcn : cn ≤ 9223372036854775807) (hpn : pn ≤ 9223372036854775807) (hco : costsOk t.c1 t.c2 t.c3 t.c4 t.c5 t.c6 t.c7 = true) (hsh : shapeOk t.s1 t.s2 t.s3 = true) (hq : q = true ↔ ChansP t pn ds dn cs cn) :
    Calls Tryz.prog 27 #[.agg #[.int .i64 t.mem, .int .i64 t.s1, .int .i64 t.s2, .int .i64 t.s3, .int .i64 t.tlb, .int .i64 t.c1, .int .i64 t.c2, .int .i64 t.c3, .int .i64 t.c4, .int .i64 t.c5, .int .i64 t.c6, .int .i64 t.c7, .int .i64 t.pad, .int .i64 t.grd, .int .i64 t.maj, .slice pa pn pc, .slice da dn dc, .slice ca cn cc, .slice sa sn sc]] w fun e w' => e = .returned (.bool q) ∧ Below w.heap.size w w' := by
  have HD : Hid (GSeg 1 w da dn (inX ds)) := hd
  have HC : Hid (GSeg 4 w ca cn (chX cs)) := hc
  have HQ : Hid (q = true ↔ ChansP t pn ds dn cs cn) := hq
  have HN : Hid (∀ {P : Prop}, P → ¬ ChansP t pn ds dn cs cn → q = false) := fun _ h => not_true hq h
  have HOK : Hid (costsOk t.c1 t.c2 t.c3 t.c4 t.c5 t.c6 t.c7 = true ∧ shapeOk t.s1 t.s2 t.s3 = true) := ⟨hco, hsh⟩
  clear hd hc hq hco hsh
  have hwp : IntKind.i64.wrap ((pn : Int) - 1) = (pn : Int) - 1 := by rw [IntKind.wrap_i64]; omega
  have HB0 : Hid (Below w.heap.size w (w.alloc (.cells #[.int .i64 t.mem, .int .i64 t.s1, .int .i64 t.s2, .int .i64 t.s3, .int .i64 t.tlb, .int .i64 t.c1, .int .i64 t.c2, .int .i64 t.c3, .int .i64 t.c4, .int .i64 t.c5, .int .i64 t.c6, .int .i64 t.c7, .int .i64 t.pad, .int .i64 t.grd, .int .i64 t.maj, .slice pa pn pc, .slice da dn dc, .slice ca cn cc, .slice sa sn sc] 40))) := (Below.refl _ _).alloc (Nat.le_refl _) _
  have HK0 : Hid (CellsAt (w.alloc (.cells #[.int .i64 t.mem, .int .i64 t.s1, .int .i64 t.s2, .int .i64 t.s3, .int .i64 t.tlb, .int .i64 t.c1, .int .i64 t.c2, .int .i64 t.c3, .int .i64 t.c4, .int .i64 t.c5, .int .i64 t.c6, .int .i64 t.c7, .int .i64 t.pad, .int .i64 t.grd, .int .i64 t.maj, .slice pa pn pc, .slice da dn dc, .slice ca cn cc, .slice sa sn sc] 40)) w.heap.size 0 [.int .i64 t.mem, .int .i64 t.s1, .int .i64 t.s2, .int .i64 t.s3, .int .i64 t.tlb, .int .i64 t.c1, .int .i64 t.c2, .int .i64 t.c3, .int .i64 t.c4, .int .i64 t.c5, .int .i64 t.c6, .int .i64 t.c7, .int .i64 t.pad, .int .i64 t.grd, .int .i64 t.maj, .slice pa pn pc, .slice da dn dc, .slice ca cn cc, .slice sa sn sc]) := CellsAt.new w [.int .i64 t.mem, .int .i64 t.s1, .int .i64 t.s2, .int .i64 t.s3, .int .i64 t.tlb, .int .i64 t.c1, .int .i64 t.c2, .int .i64 t.c3, .int .i64 t.c4, .int .i64 t.c5, .int .i64 t.c6, .int .i64 t.c7, .int .i64 t.pad, .int .i64 t.grd, .int .i64 t.maj, .slice pa pn pc, .slice da dn dc, .slice ca cn cc, .slice sa sn sc] 40 _ rfl
  by_cases h8 : dn ≤ 8
  rotate_left
  · have HT : Hid (q = false) := HN.out trivial (fun h => h8 h.1)
    have h8' : (8 : Int) < (dn : Int) := by omega
    go_enter Tryz.func27, Tryz.ntmps27
    go_wp2
    go_ret
    exact ⟨ret_bool HT.out.symm, HB0.out⟩
  have h8' : ¬ (8 : Int) < (dn : Int) := by omega
  by_cases h9 : cn ≤ 8
  rotate_left
  · have HT : Hid (q = false) := HN.out trivial (fun h => h9 h.2.1)
    have h9' : (8 : Int) < (cn : Int) := by omega
    go_enter Tryz.func27, Tryz.ntmps27
    go_wp2
    go_ret
    exact ⟨ret_bool HT.out.symm, HB0.out⟩
  have h9' : ¬ (8 : Int) < (cn : Int) := by omega
  go_enter Tryz.func27, Tryz.ntmps27
  go_wp2
  go_loopw [3] (fun i wr => ∃ m : Nat, m ≤ dn ∧ i = .int .i64 m ∧ Hid (Below w.heap.size w wr ∧ CellsAt wr w.heap.size 0 [.int .i64 t.mem, .int .i64 t.s1, .int .i64 t.s2, .int .i64 t.s3, .int .i64 t.tlb, .int .i64 t.c1, .int .i64 t.c2, .int .i64 t.c3, .int .i64 t.c4, .int .i64 t.c5, .int .i64 t.c6, .int .i64 t.c7, .int .i64 t.pad, .int .i64 t.grd, .int .i64 t.maj, .slice pa pn pc, .slice da dn dc, .slice ca cn cc, .slice sa sn sc] ∧ ∀ i, i < m → 0 ≤ ds.getD i 0 ∧ ds.getD i 0 ≤ (pn : Int) - 1)) (fun i _ => dn - (intOf i).toNat)
  case atStart => exact ⟨0, by omega, rfl, HB0.out, HK0.out, fun i hi => absurd hi (by omega)⟩
  case round =>
    obtain ⟨m, hm, rfl, HR⟩ := hrel
    have k16 : wr.cell? ⟨w.heap.size, 16, none⟩ = some (.slice da dn dc) := cell0 HR.out.2.1 16 rfl
    have k15 : wr.cell? ⟨w.heap.size, 15, none⟩ = some (.slice pa pn pc) := cell0 HR.out.2.1 15 rfl
    by_cases hmn : m < dn
    · have hmn' : (m : Int) < (dn : Int) := by omega
      obtain ⟨b1, o1, rfl, hbl1, p1⟩ := HD.out.at m hmn
      replace p1 := p1.of (w' := wr) (fun j => HR.out.1.cell (p := ⟨b1, j, none⟩) hbl1)
      rw [Nat.mul_one] at p1
      have c0 := in_cell p1
      have HNO : Hid (¬ (0 ≤ ds.getD m 0 ∧ ds.getD m 0 ≤ (pn : Int) - 1) → q = false) := fun h => HN.out trivial (fun g => h (g.2.2.1 m hmn))
      have HYS : Hid (0 ≤ ds.getD m 0 ∧ ds.getD m 0 ≤ (pn : Int) - 1 → ∀ i, i < m + 1 → 0 ≤ ds.getD i 0 ∧ ds.getD i 0 ≤ (pn : Int) - 1) := fun h i hi => by
        by_cases e : i = m
        · subst e; exact h
        · exact HR.out.2.2 i (by omega)
      obtain ⟨z, HZ⟩ : ∃ z, Hid (ds.getD m 0 = z) := ⟨_, rfl⟩
      rw [HZ.out] at c0 HNO HYS
      obtain ⟨g1, G1⟩ : ∃ b, Hid (inr z 0 ((pn : Int) - 1) = b) := ⟨_, rfl⟩
      have HBR : Hid (Below w.heap.size w wr ∧ CellsAt wr w.heap.size 0 [.int .i64 t.mem, .int .i64 t.s1, .int .i64 t.s2, .int .i64 t.s3, .int .i64 t.tlb, .int .i64 t.c1, .int .i64 t.c2, .int .i64 t.c3, .int .i64 t.c4, .int .i64 t.c5, .int .i64 t.c6, .int .i64 t.c7, .int .i64 t.pad, .int .i64 t.grd, .int .i64 t.maj, .slice pa pn pc, .slice (some ⟨b1, o1, none⟩) dn dc, .slice ca cn cc, .slice sa sn sc]) := ⟨HR.out.1, HR.out.2.1⟩
      have HI : Hid (∀ X, Calls Tryz.prog 49 #[.int .i64 z, .int .i64 0, .int .i64 ((pn : Int) - 1)] X fun e w' => e = .returned (.bool g1) ∧ w' = X) := fun X => by rw [← G1.out]; exact in_any z 0 ((pn : Int) - 1) X
      clear p1 hbl1 HR HZ
      have k16' := k16
      replace c0 := fun x => gr_cell c0 x
      replace k16 := fun x => gr_cell k16 x
      replace k15 := fun x => gr_cell k15 x
      go_wp2
      have hgr := gr_some wr
      refine region_alike (by kernel_rfl) (by kernel_rfl) ?_
      repeat (go_big_quiet_step (first | (go_at_call 49; exact gr_same (HI.out _))))
      refine wpQuiet_nil ?_
      intro _ hw'
      obtain ⟨X1, rfl⟩ := hw'
      have hb9 := X1.h
      generalize X1.w = W1 at hb9 ⊢
      replace HBR : Hid (Below w.heap.size w W1 ∧ CellsAt W1 w.heap.size 0 [.int .i64 t.mem, .int .i64 t.s1, .int .i64 t.s2, .int .i64 t.s3, .int .i64 t.tlb, .int .i64 t.c1, .int .i64 t.c2, .int .i64 t.c3, .int .i64 t.c4, .int .i64 t.c5, .int .i64 t.c6, .int .i64 t.c7, .int .i64 t.pad, .int .i64 t.grd, .int .i64 t.maj, .slice pa pn pc, .slice (some ⟨b1, o1, none⟩) dn dc, .slice ca cn cc, .slice sa sn sc]) := ⟨HBR.out.1.trans (hb9.mono HBR.out.1.size), HBR.out.2.below hb9⟩
      clear hb9 c0 k16 k15 k16'
      cases g1
      · have HT : Hid (q = false) := HNO.out (fun h => by rw [inr_yes h] at G1; exact absurd G1.out (by simp))
        go_wp2
        go_ret
        exact ⟨ret_bool HT.out.symm, HBR.out.1⟩
      · have HT : Hid _ := HYS.out (of_inr G1.out)
        go_wp2
        go_roundw
        case rel => exact ⟨m + 1, by omega, by go_num, HBR.out.1, HBR.out.2, HT.out⟩
        case measure => simp [intOf]; omega
    · obtain rfl : m = dn := by omega
      have HDS : Hid (∀ i, i < m → 0 ≤ ds.getD i 0 ∧ ds.getD i 0 ≤ (pn : Int) - 1) := HR.out.2.2
      have HBR : Hid (Below w.heap.size w wr ∧ CellsAt wr w.heap.size 0 [.int .i64 t.mem, .int .i64 t.s1, .int .i64 t.s2, .int .i64 t.s3, .int .i64 t.tlb, .int .i64 t.c1, .int .i64 t.c2, .int .i64 t.c3, .int .i64 t.c4, .int .i64 t.c5, .int .i64 t.c6, .int .i64 t.c7, .int .i64 t.pad, .int .i64 t.grd, .int .i64 t.maj, .slice pa pn pc, .slice da m dc, .slice ca cn cc, .slice sa sn sc]) := ⟨HR.out.1, HR.out.2.1⟩
      clear HR
      go_wp2
      go_loopw [4] (fun i wq => ∃ k : Nat, k ≤ cn ∧ i = .int .i64 k ∧ Hid (Below w.heap.size w wq ∧ CellsAt wq w.heap.size 0 [.int .i64 t.mem, .int .i64 t.s1, .int .i64 t.s2, .int .i64 t.s3, .int .i64 t.tlb, .int .i64 t.c1, .int .i64 t.c2, .int .i64 t.c3, .int .i64 t.c4, .int .i64 t.c5, .int .i64 t.c6, .int .i64 t.c7, .int .i64 t.pad, .int .i64 t.grd, .int .i64 t.maj, .slice pa pn pc, .slice da m dc, .slice ca cn cc, .slice sa sn sc] ∧ ∀ i, i < k → ChanP pn (cs.getD i ch0))) (fun i _ => cn - (intOf i).toNat)
      case atStart => exact ⟨0, by omega, rfl, HBR.out.1, HBR.out.2, fun i hi => absurd hi (by omega)⟩
      case round =>
        rename World => wq
        obtain ⟨k, hk, rfl, HR⟩ := hrel
        have k17 : wq.cell? ⟨w.heap.size, 17, none⟩ = some (.slice ca cn cc) := cell0 HR.out.2.1 17 rfl
        by_cases hkn : k < cn
        rotate_left
        · obtain rfl : k = cn := by omega
          have hpo : padOk t.c1 t.c2 t.c3 t.c4 t.c5 t.c6 t.c7 t.s1 t.s2 t.s3 cs k := ⟨HOK.out.1, HOK.out.2, h9, fun i hi => (HR.out.2.2 i hi).1⟩
          obtain ⟨v, HV⟩ : ∃ v, Hid (t.c1 * (16 + mostN cs k) + t.c7 * (t.s1 * t.s2) = v) := ⟨_, rfl⟩
          have HT : Hid (decide (v ≤ t.pad) = q) := bool_is HQ.out ⟨fun h => ⟨h8, h9, HDS.out, HR.out.2.2, by rw [HV.out]; exact of_decide_eq_true h⟩, fun h => decide_eq_true (by rw [← HV.out]; exact h.2.2.2.2)⟩
          have HWP : Hid (∀ x : Gr wq, Calls Tryz.prog 56 #[cst t.c1 t.c2 t.c3 t.c4 t.c5 t.c6 t.c7, shp t.s1 t.s2 t.s3, .slice ca k cc] x.w fun r w' => r = .returned (.int .i64 v) ∧ Below x.w.heap.size x.w w') := fun x =>
            (spec_pad t.c1 t.c2 t.c3 t.c4 t.c5 t.c6 t.c7 t.s1 t.s2 t.s3 ca cc k cs x.w (HC.out.below (HR.out.1.trans (x.h.mono HR.out.1.size))) hcn).mono fun e w' ⟨⟨v', g1, g2, _⟩, g4⟩ => ⟨by rw [g1, g2 hpo, HV.out], g4⟩
          have HBF : Hid (Below w.heap.size w wq) := HR.out.1
          have k1 : wq.cell? ⟨w.heap.size, 1, none⟩ = some (.int .i64 t.s1) := cell0 HR.out.2.1 1 rfl
          have k2 : wq.cell? ⟨w.heap.size, 2, none⟩ = some (.int .i64 t.s2) := cell0 HR.out.2.1 2 rfl
          have k3 : wq.cell? ⟨w.heap.size, 3, none⟩ = some (.int .i64 t.s3) := cell0 HR.out.2.1 3 rfl
          have k5 : wq.cell? ⟨w.heap.size, 5, none⟩ = some (.int .i64 t.c1) := cell0 HR.out.2.1 5 rfl
          have k6 : wq.cell? ⟨w.heap.size, 6, none⟩ = some (.int .i64 t.c2) := cell0 HR.out.2.1 6 rfl
          have k7 : wq.cell? ⟨w.heap.size, 7, none⟩ = some (.int .i64 t.c3) := cell0 HR.out.2.1 7 rfl
          have k8 : wq.cell? ⟨w.heap.size, 8, none⟩ = some (.int .i64 t.c4) := cell0 HR.out.2.1 8 rfl
          have k9 : wq.cell? ⟨w.heap.size, 9, none⟩ = some (.int .i64 t.c5) := cell0 HR.out.2.1 9 rfl
          have k10 : wq.cell? ⟨w.heap.size, 10, none⟩ = some (.int .i64 t.c6) := cell0 HR.out.2.1 10 rfl
          have k11 : wq.cell? ⟨w.heap.size, 11, none⟩ = some (.int .i64 t.c7) := cell0 HR.out.2.1 11 rfl
          have k12 : wq.cell? ⟨w.heap.size, 12, none⟩ = some (.int .i64 t.pad) := cell0 HR.out.2.1 12 rfl
          have k17' := k17
          clear hpo HR HV k17
          generalize t.pad = g at k12 HT
          generalize hd : decide (v ≤ g) = d at HT
          replace k1 := fun x => gr_cell k1 x
          replace k2 := fun x => gr_cell k2 x
          replace k3 := fun x => gr_cell k3 x
          replace k5 := fun x => gr_cell k5 x
          replace k6 := fun x => gr_cell k6 x
          replace k7 := fun x => gr_cell k7 x
          replace k8 := fun x => gr_cell k8 x
          replace k9 := fun x => gr_cell k9 x
          replace k10 := fun x => gr_cell k10 x
          replace k11 := fun x => gr_cell k11 x
          replace k12 := fun x => gr_cell k12 x
          have k17 := fun x => gr_cell k17' x
          go_wp2
          have hgr := gr_some wq
          refine region_alike (by kernel_rfl) (by kernel_rfl) ?_
          repeat (go_big_quiet_step (first | (go_at_call 56; exact gr_call (HWP.out _))))
          refine wpQuiet_nil ?_
          intro _ hw'
          obtain ⟨X1, rfl⟩ := hw'
          have hb2 := X1.h
          generalize X1.w = W1 at hb2 ⊢
          have HB : Hid (Below w.heap.size w W1) := HBF.out.trans (hb2.mono HBF.out.size)
          clear hb2
          go_wp2
          go_ret
          exact ⟨ret_bool HT.out, HB.out⟩
        have hkn' : (k : Int) < (cn : Int) := by omega
        obtain ⟨b1, o1, rfl, hbl1, p1⟩ := HC.out.at k hkn
        replace p1 := p1.of (w' := wq) (fun j => HR.out.1.cell (p := ⟨b1, j, none⟩) hbl1)
        obtain ⟨PP, HPP⟩ : ∃ PP : Prop, Hid (PP ↔ ChanP pn (cs.getD k ch0)) := ⟨_, Iff.rfl⟩
        have HNO : Hid (¬ PP → q = false) := fun h => HN.out trivial (fun g => h (HPP.out.2 (g.2.2.2.1 k hkn)))
        have HYS : Hid (PP → ∀ i, i < k + 1 → ChanP pn (cs.getD i ch0)) := fun h i hi => by
          by_cases e : i = k
          · subst e; exact HPP.out.1 h
          · exact HR.out.2.2 i (by omega)
        simp only [chX] at p1
        obtain ⟨x, HXI⟩ : ∃ x, Hid (cs.getD k ch0 = x) := ⟨_, rfl⟩
        rw [HXI.out] at p1 HPP
        clear HXI
        obtain ⟨c0, c1, c2, c3⟩ := ch_cells p1
        obtain ⟨x1, x2, x3, x4⟩ := x
        simp only [ChanP] at c0 c1 c2 c3 HPP
        obtain ⟨b, HBo⟩ : ∃ b, Hid (chOkT (x1, x2, x3, x4) = b) := ⟨_, rfl⟩
        rw [HBo.out] at HPP
        have HCO : Hid (∀ x : Gr wq, Calls Tryz.prog 55 #[crw x1 x2 x3 x4] x.w fun e w' => e = .returned (.bool b) ∧ Below x.w.heap.size x.w w') := fun x => spec_chok x1 x2 x3 x4 b x.w HBo.out
        have HBR2 : Hid (Below w.heap.size w wq ∧ CellsAt wq w.heap.size 0 [.int .i64 t.mem, .int .i64 t.s1, .int .i64 t.s2, .int .i64 t.s3, .int .i64 t.tlb, .int .i64 t.c1, .int .i64 t.c2, .int .i64 t.c3, .int .i64 t.c4, .int .i64 t.c5, .int .i64 t.c6, .int .i64 t.c7, .int .i64 t.pad, .int .i64 t.grd, .int .i64 t.maj, .slice pa pn pc, .slice da m dc, .slice (some ⟨b1, o1, none⟩) cn cc, .slice sa sn sc]) := ⟨HR.out.1, HR.out.2.1⟩
        have k15 : wq.cell? ⟨w.heap.size, 15, none⟩ = some (.slice pa pn pc) := cell0 HBR2.out.2 15 rfl
        clear p1 hbl1 HR HBo
        replace c0 := fun x => gr_cell c0 x
        replace c1 := fun x => gr_cell c1 x
        replace c2 := fun x => gr_cell c2 x
        replace c3 := fun x => gr_cell c3 x
        have k17' := k17
        replace k17 := fun x => gr_cell k17 x
        replace k15 := fun x => gr_cell k15 x
        cases b
        · have HT : Hid (q = false) := HNO.out (fun h => by have := (HPP.out.1 h).1; cases this)
          go_wp2
          have hgr := gr_some wq
          refine region_alike (by kernel_rfl) (by kernel_rfl) ?_
          repeat (go_big_quiet_step (first | (go_at_call 55; exact gr_call (HCO.out _))))
          refine wpQuiet_nil ?_
          intro _ hw'
          obtain ⟨X1, rfl⟩ := hw'
          have hb9 := X1.h
          generalize X1.w = W1 at hb9 ⊢
          have HB : Hid (Below w.heap.size w W1 ∧ CellsAt W1 w.heap.size 0 [.int .i64 t.mem, .int .i64 t.s1, .int .i64 t.s2, .int .i64 t.s3, .int .i64 t.tlb, .int .i64 t.c1, .int .i64 t.c2, .int .i64 t.c3, .int .i64 t.c4, .int .i64 t.c5, .int .i64 t.c6, .int .i64 t.c7, .int .i64 t.pad, .int .i64 t.grd, .int .i64 t.maj, .slice pa pn pc, .slice da m dc, .slice (some ⟨b1, o1, none⟩) cn cc, .slice sa sn sc]) := ⟨HBR2.out.1.trans (hb9.mono HBR2.out.1.size), HBR2.out.2.below hb9⟩
          clear hb9
          go_wp2
          go_ret
          exact ⟨ret_bool HT.out.symm, HB.out.1⟩
        · by_cases h1 : (pn : Int) ≤ x2
          · have HT : Hid (q = false) := HNO.out (fun h => by have := (HPP.out.1 h).2.1; omega)
            go_wp2
            have hgr := gr_some wq
            refine region_alike (by kernel_rfl) (by kernel_rfl) ?_
            repeat (go_big_quiet_step (first | (go_at_call 55; exact gr_call (HCO.out _))))
            refine wpQuiet_nil ?_
            intro _ hw'
            obtain ⟨X1, rfl⟩ := hw'
            have hb9 := X1.h
            generalize X1.w = W1 at hb9 ⊢
            have HB : Hid (Below w.heap.size w W1 ∧ CellsAt W1 w.heap.size 0 [.int .i64 t.mem, .int .i64 t.s1, .int .i64 t.s2, .int .i64 t.s3, .int .i64 t.tlb, .int .i64 t.c1, .int .i64 t.c2, .int .i64 t.c3, .int .i64 t.c4, .int .i64 t.c5, .int .i64 t.c6, .int .i64 t.c7, .int .i64 t.pad, .int .i64 t.grd, .int .i64 t.maj, .slice pa pn pc, .slice da m dc, .slice (some ⟨b1, o1, none⟩) cn cc, .slice sa sn sc]) := ⟨HBR2.out.1.trans (hb9.mono HBR2.out.1.size), HBR2.out.2.below hb9⟩
            clear hb9
            go_wp2
            go_ret
            exact ⟨ret_bool HT.out.symm, HB.out.1⟩
          · have h1' : decide ((pn : Int) ≤ x2) = false := decide_eq_false h1
            by_cases h2 : (pn : Int) ≤ x3
            · have HT : Hid (q = false) := HNO.out (fun h => by have := (HPP.out.1 h).2.2; omega)
              clear h1
              go_wp2
              have hgr := gr_some wq
              refine region_alike (by kernel_rfl) (by kernel_rfl) ?_
              repeat (go_big_quiet_step (first | (go_at_call 55; exact gr_call (HCO.out _))))
              refine wpQuiet_nil ?_
              intro _ hw'
              obtain ⟨X1, rfl⟩ := hw'
              have hb9 := X1.h
              generalize X1.w = W1 at hb9 ⊢
              have HB : Hid (Below w.heap.size w W1 ∧ CellsAt W1 w.heap.size 0 [.int .i64 t.mem, .int .i64 t.s1, .int .i64 t.s2, .int .i64 t.s3, .int .i64 t.tlb, .int .i64 t.c1, .int .i64 t.c2, .int .i64 t.c3, .int .i64 t.c4, .int .i64 t.c5, .int .i64 t.c6, .int .i64 t.c7, .int .i64 t.pad, .int .i64 t.grd, .int .i64 t.maj, .slice pa pn pc, .slice da m dc, .slice (some ⟨b1, o1, none⟩) cn cc, .slice sa sn sc]) := ⟨HBR2.out.1.trans (hb9.mono HBR2.out.1.size), HBR2.out.2.below hb9⟩
              clear hb9
              go_wp2
              go_ret
              exact ⟨ret_bool HT.out.symm, HB.out.1⟩
            · have h2' : decide ((pn : Int) ≤ x3) = false := decide_eq_false h2
              have HT : Hid _ := HYS.out (HPP.out.2 ⟨by trivial, by omega, by omega⟩)
              clear h1 h2
              go_wp2
              have hgr := gr_some wq
              refine region_alike (by kernel_rfl) (by kernel_rfl) ?_
              repeat (go_big_quiet_step (first | (go_at_call 55; exact gr_call (HCO.out _))))
              refine wpQuiet_nil ?_
              intro _ hw'
              obtain ⟨X1, rfl⟩ := hw'
              have hb9 := X1.h
              generalize X1.w = W1 at hb9 ⊢
              have HB : Hid (Below w.heap.size w W1 ∧ CellsAt W1 w.heap.size 0 [.int .i64 t.mem, .int .i64 t.s1, .int .i64 t.s2, .int .i64 t.s3, .int .i64 t.tlb, .int .i64 t.c1, .int .i64 t.c2, .int .i64 t.c3, .int .i64 t.c4, .int .i64 t.c5, .int .i64 t.c6, .int .i64 t.c7, .int .i64 t.pad, .int .i64 t.grd, .int .i64 t.maj, .slice pa pn pc, .slice da m dc, .slice (some ⟨b1, o1, none⟩) cn cc, .slice sa sn sc]) := ⟨HBR2.out.1.trans (hb9.mono HBR2.out.1.size), HBR2.out.2.below hb9⟩
              clear hb9
              go_wp2
              go_roundw
              case rel => exact ⟨k + 1, by omega, by go_num, HB.out.1, HB.out.2, HT.out⟩
              case measure => simp [intOf]; omega
end Go.Proofs.YtofibnmbgfggkaaGreatDoor
