/-
  Slots that are right: the specification's own function. Conditions: the list lies in memory; pad, guard and major are right.
  Devices and channels that are right: the specification's own function. Conditions: the lists lie in memory; costs and shape are right.
  Whether tables are sound: the specification's own function. Conditions: the lists lie in memory, the lengths are at most 1048576.
-/
import Derived.Test.YtlomcdgfcocmmaaGreatDoorBas
import Derived.Test.YtlomcdgfcocmmaaGreatDoorRul
import Derived.BigQuiet
import Derived.Test.YtlomcdgfcocmmaaGreatDoorSp3
namespace Go.Proofs.YtlomcdgfcocmmaaGreatDoor
open Go.ChangeShapes Go.WideShapes Go.ChangeAt Go.RowKit Go.Deep Go.Joins
set_option linter.unusedVariables false

def SlotP (t : Tb) (np : Nat) (ss : List slT) (i : Nat) : Prop := (0 ≤ (ss.getD i sl0).1 ∧ (ss.getD i sl0).1 ≤ (np : Int) - 1) ∧ (freeN ss i ≤ (ss.getD i sl0).2.1 ∧ (ss.getD i sl0).2.1 ≤ 5000) ∧ (t.pad + t.grd + 1 ≤ (ss.getD i sl0).2.2 ∧ (ss.getD i sl0).2.2 ≤ 5000) ∧ (ss.getD i sl0).2.1 + (ss.getD i sl0).2.2 ≤ t.maj
def SlotsP (t : Tb) (np : Nat) (ss : List slT) (sn : Nat) : Prop := (1 ≤ sn ∧ sn ≤ 16) ∧ ∀ i, i < sn → SlotP t np ss i
set_option maxRecDepth 40000 in
set_option maxHeartbeats 8000000 in
theorem spec_slots0 (t : Tb) (pa da ca sa : Option Addr) (pn pc dn dc cn cc sn sc : Nat) (ss : List slT) (q : Bool) (w : World) (hs : GSeg 3 w sa sn (slX ss)) (hn : sn ≤ 9223372036854775807) (hpn : pn ≤ 9223372036854775807) (hpd : 1 ≤ t.pad ∧ t.pad ≤ 5000) (hgd : 1 ≤ t.grd ∧ t.grd ≤ 5000) (hmj : 1 ≤ t.maj ∧ t.maj ≤ 5000) (hq : q = true ↔ SlotsP t pn ss sn) :
    Calls Tryz.prog 64 #[.agg #[.int .i64 t.mem, .int .i64 t.s1, .int .i64 t.s2, .int .i64 t.s3, .int .i64 t.tlb, .int .i64 t.c1, .int .i64 t.c2, .int .i64 t.c3, .int .i64 t.c4, .int .i64 t.c5, .int .i64 t.c6, .int .i64 t.c7, .int .i64 t.pad, .int .i64 t.grd, .int .i64 t.maj, .slice pa pn pc, .slice da dn dc, .slice ca cn cc, .slice sa sn sc]] w fun e w' => e = .returned (.bool q) ∧ Below w.heap.size w w' := by
  have HS : Hid (GSeg 3 w sa sn (slX ss)) := hs
  have HQ : Hid (q = true ↔ SlotsP t pn ss sn) := hq
  have HN : Hid (∀ {P : Prop}, P → ¬ SlotsP t pn ss sn → q = false) := fun _ h => not_true hq h
  have HBD : Hid ((1 ≤ t.pad ∧ t.pad ≤ 5000) ∧ (1 ≤ t.grd ∧ t.grd ≤ 5000) ∧ (1 ≤ t.maj ∧ t.maj ≤ 5000)) := ⟨hpd, hgd, hmj⟩
  clear hs hq
  have hwp : IntKind.i64.wrap ((pn : Int) - 1) = (pn : Int) - 1 := by rw [IntKind.wrap_i64]; omega
  have hwg : IntKind.i64.wrap (t.pad + t.grd) = t.pad + t.grd := by rw [IntKind.wrap_i64]; omega
  have hwh : IntKind.i64.wrap (t.pad + t.grd + 1) = t.pad + t.grd + 1 := by rw [IntKind.wrap_i64]; omega
  have hwg' : wrap64 (t.pad + t.grd) = t.pad + t.grd := by unfold wrap64; omega
  have hwh' : wrap64 (t.pad + t.grd + 1) = t.pad + t.grd + 1 := by unfold wrap64; omega
  clear hpd hgd hmj
  have HB0 : Hid (Below w.heap.size w (w.alloc (.cells #[.int .i64 t.mem, .int .i64 t.s1, .int .i64 t.s2, .int .i64 t.s3, .int .i64 t.tlb, .int .i64 t.c1, .int .i64 t.c2, .int .i64 t.c3, .int .i64 t.c4, .int .i64 t.c5, .int .i64 t.c6, .int .i64 t.c7, .int .i64 t.pad, .int .i64 t.grd, .int .i64 t.maj, .slice pa pn pc, .slice da dn dc, .slice ca cn cc, .slice sa sn sc] 33))) := (Below.refl _ _).alloc (Nat.le_refl _) _
  have HK0 : Hid (CellsAt (w.alloc (.cells #[.int .i64 t.mem, .int .i64 t.s1, .int .i64 t.s2, .int .i64 t.s3, .int .i64 t.tlb, .int .i64 t.c1, .int .i64 t.c2, .int .i64 t.c3, .int .i64 t.c4, .int .i64 t.c5, .int .i64 t.c6, .int .i64 t.c7, .int .i64 t.pad, .int .i64 t.grd, .int .i64 t.maj, .slice pa pn pc, .slice da dn dc, .slice ca cn cc, .slice sa sn sc] 33)) w.heap.size 0 [.int .i64 t.mem, .int .i64 t.s1, .int .i64 t.s2, .int .i64 t.s3, .int .i64 t.tlb, .int .i64 t.c1, .int .i64 t.c2, .int .i64 t.c3, .int .i64 t.c4, .int .i64 t.c5, .int .i64 t.c6, .int .i64 t.c7, .int .i64 t.pad, .int .i64 t.grd, .int .i64 t.maj, .slice pa pn pc, .slice da dn dc, .slice ca cn cc, .slice sa sn sc]) := CellsAt.new w [.int .i64 t.mem, .int .i64 t.s1, .int .i64 t.s2, .int .i64 t.s3, .int .i64 t.tlb, .int .i64 t.c1, .int .i64 t.c2, .int .i64 t.c3, .int .i64 t.c4, .int .i64 t.c5, .int .i64 t.c6, .int .i64 t.c7, .int .i64 t.pad, .int .i64 t.grd, .int .i64 t.maj, .slice pa pn pc, .slice da dn dc, .slice ca cn cc, .slice sa sn sc] 33 _ rfl
  obtain ⟨b2, H2⟩ : ∃ b, Hid (inr (sn : Int) 1 16 = b) := ⟨_, rfl⟩
  go_enter Tryz.func64, Tryz.ntmps64
  go_wp2_with fail
  refine (in_any (sn : Int) 1 16 _).mono ?_
  rintro e w1 ⟨rfl, rfl⟩
  rw [H2.out]
  cases b2
  · have HT : Hid (q = false) := HN.out trivial (fun h => by have := h.1; rw [inr_yes (by omega)] at H2; exact absurd H2.out (by simp))
    go_wp2
    go_ret
    exact ⟨ret_bool HT.out.symm, HB0.out⟩
  have HS16 : Hid (1 ≤ sn ∧ sn ≤ 16) := by have := of_inr H2.out; show _ ∧ _; omega
  go_wp2
  go_loopw [3, 4] (fun v i wr => ∃ (m : Nat) (f : Int), m ≤ sn ∧ i = .int .i64 m ∧ v = .int .i64 f ∧ Hid (f = freeN ss m ∧ (0 ≤ f ∧ f ≤ 5000) ∧ Below w.heap.size w wr ∧ CellsAt wr w.heap.size 0 [.int .i64 t.mem, .int .i64 t.s1, .int .i64 t.s2, .int .i64 t.s3, .int .i64 t.tlb, .int .i64 t.c1, .int .i64 t.c2, .int .i64 t.c3, .int .i64 t.c4, .int .i64 t.c5, .int .i64 t.c6, .int .i64 t.c7, .int .i64 t.pad, .int .i64 t.grd, .int .i64 t.maj, .slice pa pn pc, .slice da dn dc, .slice ca cn cc, .slice sa sn sc] ∧ ∀ i, i < m → SlotP t pn ss i)) (fun _ i _ => sn - (intOf i).toNat)
  case atStart => exact ⟨0, 0, by omega, rfl, rfl, rfl, by omega, HB0.out, HK0.out, fun i hi => absurd hi (by omega)⟩
  case round =>
    obtain ⟨m, f, hm, rfl, rfl, HR⟩ := hrel
    have k18 : wr.cell? ⟨w.heap.size, 18, none⟩ = some (.slice sa sn sc) := cell0 HR.out.2.2.2.1 18 rfl
    by_cases hmn : m < sn
    rotate_left
    · obtain rfl : m = sn := by omega
      have HT : Hid (q = true) := HQ.out.2 ⟨HS16.out, HR.out.2.2.2.2⟩
      have HBF : Hid (Below w.heap.size w wr) := HR.out.2.2.1
      clear HR
      go_wp2
      go_ret
      exact ⟨ret_bool HT.out.symm, HBF.out⟩
    have hmn' : (m : Int) < (sn : Int) := by omega
    obtain ⟨b1, o1, rfl, hbl1, p1⟩ := HS.out.at m hmn
    replace p1 := p1.of (w' := wr) (fun j => HR.out.2.2.1.cell (p := ⟨b1, j, none⟩) hbl1)
    obtain ⟨PP, HPP⟩ : ∃ PP : Prop, Hid (PP ↔ SlotP t pn ss m) := ⟨_, Iff.rfl⟩
    have HNO : Hid (¬ PP → q = false) := fun h => HN.out trivial (fun g => h (HPP.out.2 (g.2 m hmn)))
    have HYS : Hid (PP → ∀ i, i < m + 1 → SlotP t pn ss i) := fun h i hi => by
      by_cases e : i = m
      · subst e; exact HPP.out.1 h
      · exact HR.out.2.2.2.2 i (by omega)
    have HFR : Hid (freeN ss (m + 1) = (ss.getD m sl0).2.1 + (ss.getD m sl0).2.2) := rfl
    simp only [SlotP] at HPP
    rw [← HR.out.1] at HPP
    simp only [slX] at p1
    obtain ⟨x, HXI⟩ : ∃ x, Hid (ss.getD m sl0 = x) := ⟨_, rfl⟩
    rw [HXI.out] at p1 HPP HFR
    clear HXI
    obtain ⟨c0, c1, c2⟩ := sl_cells p1
    obtain ⟨x1, x2, x3⟩ := x
    simp only at c0 c1 c2 HPP HFR
    have hf := HR.out.2.1
    have hal : Below wr.heap.size wr (wr.alloc (.cells #[.int .i64 x1, .int .i64 x2, .int .i64 x3] 42)) := (Below.refl _ _).alloc (Nat.le_refl _) _
    have HBV : Hid (Below w.heap.size w (wr.alloc (.cells #[.int .i64 x1, .int .i64 x2, .int .i64 x3] 42)) ∧ CellsAt (wr.alloc (.cells #[.int .i64 x1, .int .i64 x2, .int .i64 x3] 42)) w.heap.size 0 [.int .i64 t.mem, .int .i64 t.s1, .int .i64 t.s2, .int .i64 t.s3, .int .i64 t.tlb, .int .i64 t.c1, .int .i64 t.c2, .int .i64 t.c3, .int .i64 t.c4, .int .i64 t.c5, .int .i64 t.c6, .int .i64 t.c7, .int .i64 t.pad, .int .i64 t.grd, .int .i64 t.maj, .slice pa pn pc, .slice da dn dc, .slice ca cn cc, .slice (some ⟨b1, o1, none⟩) sn sc]) := ⟨HR.out.2.2.1.trans (hal.mono HR.out.2.2.1.size), HR.out.2.2.2.1.below hal⟩
    have k15 : (wr.alloc (.cells #[.int .i64 x1, .int .i64 x2, .int .i64 x3] 42)).cell? ⟨w.heap.size, 15, none⟩ = some (.slice pa pn pc) := cell0 HBV.out.2 15 rfl
    have k12 : (wr.alloc (.cells #[.int .i64 x1, .int .i64 x2, .int .i64 x3] 42)).cell? ⟨w.heap.size, 12, none⟩ = some (.int .i64 t.pad) := cell0 HBV.out.2 12 rfl
    have k13 : (wr.alloc (.cells #[.int .i64 x1, .int .i64 x2, .int .i64 x3] 42)).cell? ⟨w.heap.size, 13, none⟩ = some (.int .i64 t.grd) := cell0 HBV.out.2 13 rfl
    have k14 : (wr.alloc (.cells #[.int .i64 x1, .int .i64 x2, .int .i64 x3] 42)).cell? ⟨w.heap.size, 14, none⟩ = some (.int .i64 t.maj) := cell0 HBV.out.2 14 rfl
    have HF5 : Hid (0 ≤ f ∧ f ≤ 5000) := hf
    clear p1 hbl1 hal HR hf
    obtain ⟨g1, G1⟩ : ∃ b, Hid (inr x1 0 ((pn : Int) - 1) = b) := ⟨_, rfl⟩
    obtain ⟨g2, G2⟩ : ∃ b, Hid (inr x2 f 5000 = b) := ⟨_, rfl⟩
    obtain ⟨g3, G3⟩ : ∃ b, Hid (inr x3 (t.pad + t.grd + 1) 5000 = b) := ⟨_, rfl⟩
    go_wp2_with fail
    refine (in_any x1 0 ((pn : Int) - 1) _).mono ?_
    rintro e w2 ⟨rfl, rfl⟩
    rw [G1.out]
    cases g1
    · have HT : Hid (q = false) := HNO.out (fun h => by rw [inr_yes (HPP.out.1 h).1] at G1; exact absurd G1.out (by simp))
      go_wp2
      go_ret
      exact ⟨ret_bool HT.out.symm, HBV.out.1⟩
    go_wp2_with fail
    refine (in_any x2 f 5000 _).mono ?_
    rintro e w2 ⟨rfl, rfl⟩
    rw [G2.out]
    cases g2
    · have HT : Hid (q = false) := HNO.out (fun h => by rw [inr_yes (HPP.out.1 h).2.1] at G2; exact absurd G2.out (by simp))
      go_wp2
      go_ret
      exact ⟨ret_bool HT.out.symm, HBV.out.1⟩
    go_wp2_with fail
    refine (in_any x3 (t.pad + t.grd + 1) 5000 _).mono ?_
    rintro e w2 ⟨rfl, rfl⟩
    rw [G3.out]
    cases g3
    · have HT : Hid (q = false) := HNO.out (fun h => by rw [inr_yes (HPP.out.1 h).2.2.1] at G3; exact absurd G3.out (by simp))
      go_wp2
      go_ret
      exact ⟨ret_bool HT.out.symm, HBV.out.1⟩
    have h2 := of_inr G2.out
    have h3 := of_inr G3.out
    have hwe : IntKind.i64.wrap (x2 + x3) = x2 + x3 := by have := HF5.out; have := HBD.out; rw [IntKind.wrap_i64]; omega
    have hwe' : wrap64 (x2 + x3) = x2 + x3 := by have := HF5.out; have := HBD.out; unfold wrap64; omega
    have he0 : 0 ≤ x2 + x3 := by have := HF5.out; have := HBD.out; omega
    obtain ⟨ex, HEX⟩ : ∃ e, Hid (x2 + x3 = e) := ⟨_, rfl⟩
    have HP4 : Hid (ex ≤ t.maj ↔ PP) := ⟨fun h => HPP.out.2 ⟨of_inr G1.out, h2, h3, by rw [HEX.out]; exact h⟩, fun h => by rw [← HEX.out]; exact (HPP.out.1 h).2.2.2⟩
    replace hwe := hwe.trans HEX.out
    replace hwe' := hwe'.trans HEX.out
    rw [HEX.out] at he0 HFR
    have HE5 : Hid (ex ≤ t.maj → 0 ≤ ex ∧ ex ≤ 5000) := fun h => ⟨he0, by have := HBD.out; omega⟩
    clear HPP G1 G2 G3 h2 h3 he0 HEX HF5
    by_cases hle : ex ≤ t.maj
    · have HT : Hid _ := HYS.out (HP4.out.1 hle)
      have hgt : ¬ t.maj < ex := by omega
      have HE6 : Hid _ := HE5.out hle
      go_wp2
      go_roundw
      case rel => exact ⟨m + 1, ex, by omega, by go_num, rfl, HFR.out.symm, HE6.out, HBV.out.1, HBV.out.2, HT.out⟩
      case measure => simp [intOf]; omega
    · have HT : Hid (q = false) := HNO.out (fun h => hle (HP4.out.2 h))
      have hgt : t.maj < ex := by omega
      go_wp2
      go_ret
      exact ⟨ret_bool HT.out.symm, HBV.out.1⟩
end Go.Proofs.YtlomcdgfcocmmaaGreatDoor
namespace Go.Proofs.YtlomcdgfcocmmaaGreatDoor
open Go.ChangeShapes Go.WideShapes Go.ChangeAt Go.RowKit Go.Deep Go.Joins
set_option linter.unusedVariables false

def ChanP (np : Nat) (x : chT) : Prop := chOkT x = true ∧ x.2.1 < (np : Int) ∧ x.2.2.1 < (np : Int)
def ChansP (t : Tb) (np : Nat) (ds : List Int) (dn : Nat) (cs : List chT) (cn : Nat) : Prop := dn ≤ 8 ∧ cn ≤ 8 ∧ (∀ i, i < dn → 0 ≤ ds.getD i 0 ∧ ds.getD i 0 ≤ (np : Int) - 1) ∧ (∀ i, i < cn → ChanP np (cs.getD i ch0)) ∧ t.c1 * (16 + mostN cs cn) + t.c7 * (t.s1 * t.s2) ≤ t.pad
set_option maxRecDepth 40000 in
set_option maxHeartbeats 8000000 in
theorem spec_chans0 (t : Tb) (pa da ca sa : Option Addr) (pn pc dn dc cn cc sn sc : Nat) (ds : List Int) (cs : List chT) (q : Bool) (w : World) (hd : GSeg 1 w da dn (inX ds)) (hc : GSeg 4 w ca cn (chX cs)) (hdn : dn ≤ 9223372036854775807) (hcn : cn ≤ 9223372036854775807) (hpn : pn ≤ 9223372036854775807) (hco : costsOk t.c1 t.c2 t.c3 t.c4 t.c5 t.c6 t.c7 = true) (hsh : shapeOk t.s1 t.s2 t.s3 = true) (hq : q = true ↔ ChansP t pn ds dn cs cn) :
    Calls Tryz.prog 63 #[.agg #[.int .i64 t.mem, .int .i64 t.s1, .int .i64 t.s2, .int .i64 t.s3, .int .i64 t.tlb, .int .i64 t.c1, .int .i64 t.c2, .int .i64 t.c3, .int .i64 t.c4, .int .i64 t.c5, .int .i64 t.c6, .int .i64 t.c7, .int .i64 t.pad, .int .i64 t.grd, .int .i64 t.maj, .slice pa pn pc, .slice da dn dc, .slice ca cn cc, .slice sa sn sc]] w fun e w' => e = .returned (.bool q) ∧ Below w.heap.size w w' := by
  have HD : Hid (GSeg 1 w da dn (inX ds)) := hd
  have HC : Hid (GSeg 4 w ca cn (chX cs)) := hc
  have HQ : Hid (q = true ↔ ChansP t pn ds dn cs cn) := hq
  have HN : Hid (∀ {P : Prop}, P → ¬ ChansP t pn ds dn cs cn → q = false) := fun _ h => not_true hq h
  have HOK : Hid (costsOk t.c1 t.c2 t.c3 t.c4 t.c5 t.c6 t.c7 = true ∧ shapeOk t.s1 t.s2 t.s3 = true) := ⟨hco, hsh⟩
  clear hd hc hq hco hsh
  have hwp : IntKind.i64.wrap ((pn : Int) - 1) = (pn : Int) - 1 := by rw [IntKind.wrap_i64]; omega
  have HB0 : Hid (Below w.heap.size w (w.alloc (.cells #[.int .i64 t.mem, .int .i64 t.s1, .int .i64 t.s2, .int .i64 t.s3, .int .i64 t.tlb, .int .i64 t.c1, .int .i64 t.c2, .int .i64 t.c3, .int .i64 t.c4, .int .i64 t.c5, .int .i64 t.c6, .int .i64 t.c7, .int .i64 t.pad, .int .i64 t.grd, .int .i64 t.maj, .slice pa pn pc, .slice da dn dc, .slice ca cn cc, .slice sa sn sc] 33))) := (Below.refl _ _).alloc (Nat.le_refl _) _
  have HK0 : Hid (CellsAt (w.alloc (.cells #[.int .i64 t.mem, .int .i64 t.s1, .int .i64 t.s2, .int .i64 t.s3, .int .i64 t.tlb, .int .i64 t.c1, .int .i64 t.c2, .int .i64 t.c3, .int .i64 t.c4, .int .i64 t.c5, .int .i64 t.c6, .int .i64 t.c7, .int .i64 t.pad, .int .i64 t.grd, .int .i64 t.maj, .slice pa pn pc, .slice da dn dc, .slice ca cn cc, .slice sa sn sc] 33)) w.heap.size 0 [.int .i64 t.mem, .int .i64 t.s1, .int .i64 t.s2, .int .i64 t.s3, .int .i64 t.tlb, .int .i64 t.c1, .int .i64 t.c2, .int .i64 t.c3, .int .i64 t.c4, .int .i64 t.c5, .int .i64 t.c6, .int .i64 t.c7, .int .i64 t.pad, .int .i64 t.grd, .int .i64 t.maj, .slice pa pn pc, .slice da dn dc, .slice ca cn cc, .slice sa sn sc]) := CellsAt.new w [.int .i64 t.mem, .int .i64 t.s1, .int .i64 t.s2, .int .i64 t.s3, .int .i64 t.tlb, .int .i64 t.c1, .int .i64 t.c2, .int .i64 t.c3, .int .i64 t.c4, .int .i64 t.c5, .int .i64 t.c6, .int .i64 t.c7, .int .i64 t.pad, .int .i64 t.grd, .int .i64 t.maj, .slice pa pn pc, .slice da dn dc, .slice ca cn cc, .slice sa sn sc] 33 _ rfl
  by_cases h8 : dn ≤ 8
  rotate_left
  · have HT : Hid (q = false) := HN.out trivial (fun h => h8 h.1)
    have h8' : (8 : Int) < (dn : Int) := by omega
    go_enter Tryz.func63, Tryz.ntmps63
    go_wp2
    go_ret
    exact ⟨ret_bool HT.out.symm, HB0.out⟩
  have h8' : ¬ (8 : Int) < (dn : Int) := by omega
  by_cases h9 : cn ≤ 8
  rotate_left
  · have HT : Hid (q = false) := HN.out trivial (fun h => h9 h.2.1)
    have h9' : (8 : Int) < (cn : Int) := by omega
    go_enter Tryz.func63, Tryz.ntmps63
    go_wp2
    go_ret
    exact ⟨ret_bool HT.out.symm, HB0.out⟩
  have h9' : ¬ (8 : Int) < (cn : Int) := by omega
  go_enter Tryz.func63, Tryz.ntmps63
  go_wp2
  go_loopw [3] (fun i wr => ∃ m : Nat, m ≤ dn ∧ i = .int .i64 m ∧ Hid (Below w.heap.size w wr ∧ CellsAt wr w.heap.size 0 [.int .i64 t.mem, .int .i64 t.s1, .int .i64 t.s2, .int .i64 t.s3, .int .i64 t.tlb, .int .i64 t.c1, .int .i64 t.c2, .int .i64 t.c3, .int .i64 t.c4, .int .i64 t.c5, .int .i64 t.c6, .int .i64 t.c7, .int .i64 t.pad, .int .i64 t.grd, .int .i64 t.maj, .slice pa pn pc, .slice da dn dc, .slice ca cn cc, .slice sa sn sc] ∧ ∀ i, i < m → 0 ≤ ds.getD i 0 ∧ ds.getD i 0 ≤ (pn : Int) - 1)) (fun i _ => dn - (intOf i).toNat)
  case atStart => exact ⟨0, by omega, rfl, HB0.out, HK0.out, fun i hi => absurd hi (by omega)⟩
  case round =>
    obtain ⟨m, hm, rfl, HR⟩ := hrel
    have k16 : wr.cell? ⟨w.heap.size, 16, none⟩ = some (.slice da dn dc) := cell0 HR.out.2.1 16 rfl
    have k15 : wr.cell? ⟨w.heap.size, 15, none⟩ = some (.slice pa pn pc) := cell0 HR.out.2.1 15 rfl
    by_cases hmn : m < dn
    · have hmn' : (m : Int) < (dn : Int) := by omega
      obtain ⟨b1, o1, rfl, hbl1, p1⟩ := HD.out.at m hmn
      replace p1 := p1.of (w' := wr) (fun j => HR.out.1.cell (p := ⟨b1, j, none⟩) hbl1)
      rw [Nat.mul_one] at p1
      have c0 := in_cell p1
      have HNO : Hid (¬ (0 ≤ ds.getD m 0 ∧ ds.getD m 0 ≤ (pn : Int) - 1) → q = false) := fun h => HN.out trivial (fun g => h (g.2.2.1 m hmn))
      have HYS : Hid (0 ≤ ds.getD m 0 ∧ ds.getD m 0 ≤ (pn : Int) - 1 → ∀ i, i < m + 1 → 0 ≤ ds.getD i 0 ∧ ds.getD i 0 ≤ (pn : Int) - 1) := fun h i hi => by
        by_cases e : i = m
        · subst e; exact h
        · exact HR.out.2.2 i (by omega)
      obtain ⟨z, HZ⟩ : ∃ z, Hid (ds.getD m 0 = z) := ⟨_, rfl⟩
      rw [HZ.out] at c0 HNO HYS
      obtain ⟨g1, G1⟩ : ∃ b, Hid (inr z 0 ((pn : Int) - 1) = b) := ⟨_, rfl⟩
      have HBR : Hid (Below w.heap.size w wr ∧ CellsAt wr w.heap.size 0 [.int .i64 t.mem, .int .i64 t.s1, .int .i64 t.s2, .int .i64 t.s3, .int .i64 t.tlb, .int .i64 t.c1, .int .i64 t.c2, .int .i64 t.c3, .int .i64 t.c4, .int .i64 t.c5, .int .i64 t.c6, .int .i64 t.c7, .int .i64 t.pad, .int .i64 t.grd, .int .i64 t.maj, .slice pa pn pc, .slice (some ⟨b1, o1, none⟩) dn dc, .slice ca cn cc, .slice sa sn sc]) := ⟨HR.out.1, HR.out.2.1⟩
      have HI : Hid (∀ X, Calls Tryz.prog 33 #[.int .i64 z, .int .i64 0, .int .i64 ((pn : Int) - 1)] X fun e w' => e = .returned (.bool g1) ∧ w' = X) := fun X => by rw [← G1.out]; exact in_any z 0 ((pn : Int) - 1) X
      clear p1 hbl1 HR HZ
      have k16' := k16
      replace c0 := fun x => gr_cell c0 x
      replace k16 := fun x => gr_cell k16 x
      replace k15 := fun x => gr_cell k15 x
      go_wp2
      have hgr := gr_some wr
      refine region_alike (by kernel_rfl) (by kernel_rfl) ?_
      repeat (go_big_quiet_step (first | (go_at_call 33; exact gr_same (HI.out _))))
      refine wpQuiet_nil ?_
      intro _ hw'
      obtain ⟨X1, rfl⟩ := hw'
      have hb9 := X1.h
      generalize X1.w = W1 at hb9 ⊢
      replace HBR : Hid (Below w.heap.size w W1 ∧ CellsAt W1 w.heap.size 0 [.int .i64 t.mem, .int .i64 t.s1, .int .i64 t.s2, .int .i64 t.s3, .int .i64 t.tlb, .int .i64 t.c1, .int .i64 t.c2, .int .i64 t.c3, .int .i64 t.c4, .int .i64 t.c5, .int .i64 t.c6, .int .i64 t.c7, .int .i64 t.pad, .int .i64 t.grd, .int .i64 t.maj, .slice pa pn pc, .slice (some ⟨b1, o1, none⟩) dn dc, .slice ca cn cc, .slice sa sn sc]) := ⟨HBR.out.1.trans (hb9.mono HBR.out.1.size), HBR.out.2.below hb9⟩
      clear hb9 c0 k16 k15 k16'
      cases g1
      · have HT : Hid (q = false) := HNO.out (fun h => by rw [inr_yes h] at G1; exact absurd G1.out (by simp))
        go_wp2
        go_ret
        exact ⟨ret_bool HT.out.symm, HBR.out.1⟩
      · have HT : Hid _ := HYS.out (of_inr G1.out)
        go_wp2
        go_roundw
        case rel => exact ⟨m + 1, by omega, by go_num, HBR.out.1, HBR.out.2, HT.out⟩
        case measure => simp [intOf]; omega
    · obtain rfl : m = dn := by omega
      have HDS : Hid (∀ i, i < m → 0 ≤ ds.getD i 0 ∧ ds.getD i 0 ≤ (pn : Int) - 1) := HR.out.2.2
      have HBR : Hid (Below w.heap.size w wr ∧ CellsAt wr w.heap.size 0 [.int .i64 t.mem, .int .i64 t.s1, .int .i64 t.s2, .int .i64 t.s3, .int .i64 t.tlb, .int .i64 t.c1, .int .i64 t.c2, .int .i64 t.c3, .int .i64 t.c4, .int .i64 t.c5, .int .i64 t.c6, .int .i64 t.c7, .int .i64 t.pad, .int .i64 t.grd, .int .i64 t.maj, .slice pa pn pc, .slice da m dc, .slice ca cn cc, .slice sa sn sc]) := ⟨HR.out.1, HR.out.2.1⟩
      clear HR
      go_wp2
      go_loopw [4] (fun i wq => ∃ k : Nat, k ≤ cn ∧ i = .int .i64 k ∧ Hid (Below w.heap.size w wq ∧ CellsAt wq w.heap.size 0 [.int .i64 t.mem, .int .i64 t.s1, .int .i64 t.s2, .int .i64 t.s3, .int .i64 t.tlb, .int .i64 t.c1, .int .i64 t.c2, .int .i64 t.c3, .int .i64 t.c4, .int .i64 t.c5, .int .i64 t.c6, .int .i64 t.c7, .int .i64 t.pad, .int .i64 t.grd, .int .i64 t.maj, .slice pa pn pc, .slice da m dc, .slice ca cn cc, .slice sa sn sc] ∧ ∀ i, i < k → ChanP pn (cs.getD i ch0))) (fun i _ => cn - (intOf i).toNat)
      case atStart => exact ⟨0, by omega, rfl, HBR.out.1, HBR.out.2, fun i hi => absurd hi (by omega)⟩
      case round =>
        rename World => wq
        obtain ⟨k, hk, rfl, HR⟩ := hrel
        have k17 : wq.cell? ⟨w.heap.size, 17, none⟩ = some (.slice ca cn cc) := cell0 HR.out.2.1 17 rfl
        by_cases hkn : k < cn
        rotate_left
        · obtain rfl : k = cn := by omega
          have hpo : padOk t.c1 t.c2 t.c3 t.c4 t.c5 t.c6 t.c7 t.s1 t.s2 t.s3 cs k := ⟨HOK.out.1, HOK.out.2, h9, fun i hi => (HR.out.2.2 i hi).1⟩
          obtain ⟨v, HV⟩ : ∃ v, Hid (t.c1 * (16 + mostN cs k) + t.c7 * (t.s1 * t.s2) = v) := ⟨_, rfl⟩
          have HT : Hid (decide (v ≤ t.pad) = q) := bool_is HQ.out ⟨fun h => ⟨h8, h9, HDS.out, HR.out.2.2, by rw [HV.out]; exact of_decide_eq_true h⟩, fun h => decide_eq_true (by rw [← HV.out]; exact h.2.2.2.2)⟩
          have HWP : Hid (∀ x : Gr wq, Calls Tryz.prog 75 #[cst t.c1 t.c2 t.c3 t.c4 t.c5 t.c6 t.c7, shp t.s1 t.s2 t.s3, .slice ca k cc] x.w fun r w' => r = .returned (.int .i64 v) ∧ Below x.w.heap.size x.w w') := fun x =>
            (spec_pad t.c1 t.c2 t.c3 t.c4 t.c5 t.c6 t.c7 t.s1 t.s2 t.s3 ca cc k cs x.w (HC.out.below (HR.out.1.trans (x.h.mono HR.out.1.size))) hcn).mono fun e w' ⟨⟨v', g1, g2, _⟩, g4⟩ => ⟨by rw [g1, g2 hpo, HV.out], g4⟩
          have HBF : Hid (Below w.heap.size w wq) := HR.out.1
          have k1 : wq.cell? ⟨w.heap.size, 1, none⟩ = some (.int .i64 t.s1) := cell0 HR.out.2.1 1 rfl
          have k2 : wq.cell? ⟨w.heap.size, 2, none⟩ = some (.int .i64 t.s2) := cell0 HR.out.2.1 2 rfl
          have k3 : wq.cell? ⟨w.heap.size, 3, none⟩ = some (.int .i64 t.s3) := cell0 HR.out.2.1 3 rfl
          have k5 : wq.cell? ⟨w.heap.size, 5, none⟩ = some (.int .i64 t.c1) := cell0 HR.out.2.1 5 rfl
          have k6 : wq.cell? ⟨w.heap.size, 6, none⟩ = some (.int .i64 t.c2) := cell0 HR.out.2.1 6 rfl
          have k7 : wq.cell? ⟨w.heap.size, 7, none⟩ = some (.int .i64 t.c3) := cell0 HR.out.2.1 7 rfl
          have k8 : wq.cell? ⟨w.heap.size, 8, none⟩ = some (.int .i64 t.c4) := cell0 HR.out.2.1 8 rfl
          have k9 : wq.cell? ⟨w.heap.size, 9, none⟩ = some (.int .i64 t.c5) := cell0 HR.out.2.1 9 rfl
          have k10 : wq.cell? ⟨w.heap.size, 10, none⟩ = some (.int .i64 t.c6) := cell0 HR.out.2.1 10 rfl
          have k11 : wq.cell? ⟨w.heap.size, 11, none⟩ = some (.int .i64 t.c7) := cell0 HR.out.2.1 11 rfl
          have k12 : wq.cell? ⟨w.heap.size, 12, none⟩ = some (.int .i64 t.pad) := cell0 HR.out.2.1 12 rfl
          have k17' := k17
          clear hpo HR HV k17
          generalize t.pad = g at k12 HT
          generalize hd : decide (v ≤ g) = d at HT
          replace k1 := fun x => gr_cell k1 x
          replace k2 := fun x => gr_cell k2 x
          replace k3 := fun x => gr_cell k3 x
          replace k5 := fun x => gr_cell k5 x
          replace k6 := fun x => gr_cell k6 x
          replace k7 := fun x => gr_cell k7 x
          replace k8 := fun x => gr_cell k8 x
          replace k9 := fun x => gr_cell k9 x
          replace k10 := fun x => gr_cell k10 x
          replace k11 := fun x => gr_cell k11 x
          replace k12 := fun x => gr_cell k12 x
          have k17 := fun x => gr_cell k17' x
          go_wp2
          have hgr := gr_some wq
          refine region_alike (by kernel_rfl) (by kernel_rfl) ?_
          repeat (go_big_quiet_step (first | (go_at_call 75; exact gr_call (HWP.out _))))
          refine wpQuiet_nil ?_
          intro _ hw'
          obtain ⟨X1, rfl⟩ := hw'
          have hb2 := X1.h
          generalize X1.w = W1 at hb2 ⊢
          have HB : Hid (Below w.heap.size w W1) := HBF.out.trans (hb2.mono HBF.out.size)
          clear hb2
          go_wp2
          go_ret
          exact ⟨ret_bool HT.out, HB.out⟩
        have hkn' : (k : Int) < (cn : Int) := by omega
        obtain ⟨b1, o1, rfl, hbl1, p1⟩ := HC.out.at k hkn
        replace p1 := p1.of (w' := wq) (fun j => HR.out.1.cell (p := ⟨b1, j, none⟩) hbl1)
        obtain ⟨PP, HPP⟩ : ∃ PP : Prop, Hid (PP ↔ ChanP pn (cs.getD k ch0)) := ⟨_, Iff.rfl⟩
        have HNO : Hid (¬ PP → q = false) := fun h => HN.out trivial (fun g => h (HPP.out.2 (g.2.2.2.1 k hkn)))
        have HYS : Hid (PP → ∀ i, i < k + 1 → ChanP pn (cs.getD i ch0)) := fun h i hi => by
          by_cases e : i = k
          · subst e; exact HPP.out.1 h
          · exact HR.out.2.2 i (by omega)
        simp only [chX] at p1
        obtain ⟨x, HXI⟩ : ∃ x, Hid (cs.getD k ch0 = x) := ⟨_, rfl⟩
        rw [HXI.out] at p1 HPP
        clear HXI
        obtain ⟨c0, c1, c2, c3⟩ := ch_cells p1
        obtain ⟨x1, x2, x3, x4⟩ := x
        simp only [ChanP] at c0 c1 c2 c3 HPP
        obtain ⟨b, HBo⟩ : ∃ b, Hid (chOkT (x1, x2, x3, x4) = b) := ⟨_, rfl⟩
        rw [HBo.out] at HPP
        have HCO : Hid (∀ x : Gr wq, Calls Tryz.prog 92 #[crw x1 x2 x3 x4] x.w fun e w' => e = .returned (.bool b) ∧ Below x.w.heap.size x.w w') := fun x => spec_chok x1 x2 x3 x4 b x.w HBo.out
        have HBR2 : Hid (Below w.heap.size w wq ∧ CellsAt wq w.heap.size 0 [.int .i64 t.mem, .int .i64 t.s1, .int .i64 t.s2, .int .i64 t.s3, .int .i64 t.tlb, .int .i64 t.c1, .int .i64 t.c2, .int .i64 t.c3, .int .i64 t.c4, .int .i64 t.c5, .int .i64 t.c6, .int .i64 t.c7, .int .i64 t.pad, .int .i64 t.grd, .int .i64 t.maj, .slice pa pn pc, .slice da m dc, .slice (some ⟨b1, o1, none⟩) cn cc, .slice sa sn sc]) := ⟨HR.out.1, HR.out.2.1⟩
        have k15 : wq.cell? ⟨w.heap.size, 15, none⟩ = some (.slice pa pn pc) := cell0 HBR2.out.2 15 rfl
        clear p1 hbl1 HR HBo
        replace c0 := fun x => gr_cell c0 x
        replace c1 := fun x => gr_cell c1 x
        replace c2 := fun x => gr_cell c2 x
        replace c3 := fun x => gr_cell c3 x
        have k17' := k17
        replace k17 := fun x => gr_cell k17 x
        replace k15 := fun x => gr_cell k15 x
        cases b
        · have HT : Hid (q = false) := HNO.out (fun h => by have := (HPP.out.1 h).1; cases this)
          go_wp2
          have hgr := gr_some wq
          refine region_alike (by kernel_rfl) (by kernel_rfl) ?_
          repeat (go_big_quiet_step (first | (go_at_call 92; exact gr_call (HCO.out _))))
          refine wpQuiet_nil ?_
          intro _ hw'
          obtain ⟨X1, rfl⟩ := hw'
          have hb9 := X1.h
          generalize X1.w = W1 at hb9 ⊢
          have HB : Hid (Below w.heap.size w W1 ∧ CellsAt W1 w.heap.size 0 [.int .i64 t.mem, .int .i64 t.s1, .int .i64 t.s2, .int .i64 t.s3, .int .i64 t.tlb, .int .i64 t.c1, .int .i64 t.c2, .int .i64 t.c3, .int .i64 t.c4, .int .i64 t.c5, .int .i64 t.c6, .int .i64 t.c7, .int .i64 t.pad, .int .i64 t.grd, .int .i64 t.maj, .slice pa pn pc, .slice da m dc, .slice (some ⟨b1, o1, none⟩) cn cc, .slice sa sn sc]) := ⟨HBR2.out.1.trans (hb9.mono HBR2.out.1.size), HBR2.out.2.below hb9⟩
          clear hb9
          go_wp2
          go_ret
          exact ⟨ret_bool HT.out.symm, HB.out.1⟩
        · by_cases h1 : (pn : Int) ≤ x2
          · have HT : Hid (q = false) := HNO.out (fun h => by have := (HPP.out.1 h).2.1; omega)
            go_wp2
            have hgr := gr_some wq
            refine region_alike (by kernel_rfl) (by kernel_rfl) ?_
            repeat (go_big_quiet_step (first | (go_at_call 92; exact gr_call (HCO.out _))))
            refine wpQuiet_nil ?_
            intro _ hw'
            obtain ⟨X1, rfl⟩ := hw'
            have hb9 := X1.h
            generalize X1.w = W1 at hb9 ⊢
            have HB : Hid (Below w.heap.size w W1 ∧ CellsAt W1 w.heap.size 0 [.int .i64 t.mem, .int .i64 t.s1, .int .i64 t.s2, .int .i64 t.s3, .int .i64 t.tlb, .int .i64 t.c1, .int .i64 t.c2, .int .i64 t.c3, .int .i64 t.c4, .int .i64 t.c5, .int .i64 t.c6, .int .i64 t.c7, .int .i64 t.pad, .int .i64 t.grd, .int .i64 t.maj, .slice pa pn pc, .slice da m dc, .slice (some ⟨b1, o1, none⟩) cn cc, .slice sa sn sc]) := ⟨HBR2.out.1.trans (hb9.mono HBR2.out.1.size), HBR2.out.2.below hb9⟩
            clear hb9
            go_wp2
            go_ret
            exact ⟨ret_bool HT.out.symm, HB.out.1⟩
          · have h1' : decide ((pn : Int) ≤ x2) = false := decide_eq_false h1
            by_cases h2 : (pn : Int) ≤ x3
            · have HT : Hid (q = false) := HNO.out (fun h => by have := (HPP.out.1 h).2.2; omega)
              clear h1
              go_wp2
              have hgr := gr_some wq
              refine region_alike (by kernel_rfl) (by kernel_rfl) ?_
              repeat (go_big_quiet_step (first | (go_at_call 92; exact gr_call (HCO.out _))))
              refine wpQuiet_nil ?_
              intro _ hw'
              obtain ⟨X1, rfl⟩ := hw'
              have hb9 := X1.h
              generalize X1.w = W1 at hb9 ⊢
              have HB : Hid (Below w.heap.size w W1 ∧ CellsAt W1 w.heap.size 0 [.int .i64 t.mem, .int .i64 t.s1, .int .i64 t.s2, .int .i64 t.s3, .int .i64 t.tlb, .int .i64 t.c1, .int .i64 t.c2, .int .i64 t.c3, .int .i64 t.c4, .int .i64 t.c5, .int .i64 t.c6, .int .i64 t.c7, .int .i64 t.pad, .int .i64 t.grd, .int .i64 t.maj, .slice pa pn pc, .slice da m dc, .slice (some ⟨b1, o1, none⟩) cn cc, .slice sa sn sc]) := ⟨HBR2.out.1.trans (hb9.mono HBR2.out.1.size), HBR2.out.2.below hb9⟩
              clear hb9
              go_wp2
              go_ret
              exact ⟨ret_bool HT.out.symm, HB.out.1⟩
            · have h2' : decide ((pn : Int) ≤ x3) = false := decide_eq_false h2
              have HT : Hid _ := HYS.out (HPP.out.2 ⟨by trivial, by omega, by omega⟩)
              clear h1 h2
              go_wp2
              have hgr := gr_some wq
              refine region_alike (by kernel_rfl) (by kernel_rfl) ?_
              repeat (go_big_quiet_step (first | (go_at_call 92; exact gr_call (HCO.out _))))
              refine wpQuiet_nil ?_
              intro _ hw'
              obtain ⟨X1, rfl⟩ := hw'
              have hb9 := X1.h
              generalize X1.w = W1 at hb9 ⊢
              have HB : Hid (Below w.heap.size w W1 ∧ CellsAt W1 w.heap.size 0 [.int .i64 t.mem, .int .i64 t.s1, .int .i64 t.s2, .int .i64 t.s3, .int .i64 t.tlb, .int .i64 t.c1, .int .i64 t.c2, .int .i64 t.c3, .int .i64 t.c4, .int .i64 t.c5, .int .i64 t.c6, .int .i64 t.c7, .int .i64 t.pad, .int .i64 t.grd, .int .i64 t.maj, .slice pa pn pc, .slice da m dc, .slice (some ⟨b1, o1, none⟩) cn cc, .slice sa sn sc]) := ⟨HBR2.out.1.trans (hb9.mono HBR2.out.1.size), HBR2.out.2.below hb9⟩
              clear hb9
              go_wp2
              go_roundw
              case rel => exact ⟨k + 1, by omega, by go_num, HB.out.1, HB.out.2, HT.out⟩
              case measure => simp [intOf]; omega
end Go.Proofs.YtlomcdgfcocmmaaGreatDoor
namespace Go.Proofs.YtlomcdgfcocmmaaGreatDoor
open Go.ChangeShapes Go.WideShapes Go.ChangeAt Go.RowKit Go.Deep Go.Joins
set_option linter.unusedVariables false

theorem free_pos {ss : List slT} {n : Nat} (h : ∀ i, i < n → freeN ss i ≤ (ss.getD i sl0).2.1 ∧ 0 < (ss.getD i sl0).2.2) : ∀ i, i ≤ n → 0 ≤ freeN ss i := by
  intro i
  induction i with
  | zero => intro _; exact Int.le_refl _
  | succ i ih =>
    intro hi
    have h1 := ih (by omega)
    have h2 := h i (by omega)
    show 0 ≤ (ss.getD i sl0).2.1 + (ss.getD i sl0).2.2
    omega
theorem sd_iff {t : Tb} {a : Ad} (hw : TW t a) : Sd t ↔ (HeadP t ∧ PartsP t.ps t.mem ∧ ChansP t a.pn t.ds a.dn t.cs a.cn ∧ SlotsP t a.pn t.ss a.sn) := by
  have hpl := hw.pl
  have hdl := hw.dl
  have hcl := hw.cl
  have hsl := hw.sl
  constructor
  · intro h
    have r0 := h 0 (by omega); have r1 := h 1 (by omega); have r2 := h 2 (by omega); have r3 := h 3 (by omega); have r4 := h 4 (by omega); have r5 := h 5 (by omega); have r6 := h 6 (by omega); have r7 := h 7 (by omega)
    have r8 := h 8 (by omega); have r9 := h 9 (by omega); have r10 := h 10 (by omega); have r11 := h 11 (by omega); have r12 := h 12 (by omega); have r13 := h 13 (by omega); have r14 := h 14 (by omega); have r15 := h 15 (by omega)
    have r16 := h 16 (by omega); have r17 := h 17 (by omega); have r18 := h 18 (by omega); have r19 := h 19 (by omega); have r20 := h 20 (by omega); have r21 := h 21 (by omega); have r22 := h 22 (by omega); have r23 := h 23 (by omega); have r24 := h 24 (by omega)
    clear h
    simp only [R] at r0 r1 r2 r3 r4 r5 r6 r7 r8 r9 r10 r11 r12 r13 r14 r15 r16 r17 r18 r19 r20 r21 r22 r23 r24
    refine ⟨⟨r0.2, r0.1, r1, r2, r3, r4, r5, r6, r7⟩, ⟨r8, fun i hi => ⟨⟨r9 i hi, r11 i hi, r12 i hi, fun j hj => ?_, (r15 i hi).2, (r15 i hi).1⟩, r10 i hi⟩, fun i hi j hj => ?_⟩, ⟨by omega, by omega, fun i hi => ?_, fun i hi => ?_, ?_⟩, ⟨by omega, fun i hi => ?_⟩⟩
    · obtain ⟨k, hk, e⟩ := mem_allW (ps := t.ps) hi hj
      rw [← e]
      exact r13 k hk
    · have := r14 i hi j hj
      unfold ApartP at this
      unfold Meet
      omega
    · have := r17 i (by omega)
      rw [hpl] at this
      omega
    · have := r19 i (by omega)
      rw [hpl] at this
      exact ⟨this.1, this.2.1.2, this.2.2.2⟩
    · rw [← hcl]; exact r20
    · have g1 := r22 i (by omega)
      have g2 := r23 i (by omega)
      have g3 := r24 i (by omega)
      rw [hpl] at g1
      have g4 := free_pos (ss := t.ss) (n := a.sn) (fun j hj => ⟨(r24 j (by omega)).1, by have := r23 j (by omega); omega⟩) i (by omega)
      exact ⟨by omega, ⟨g3.1, by omega⟩, ⟨by omega, by omega⟩, g3.2⟩
  · rintro ⟨hd, hp, hc, hs⟩ i hi
    have hwk : ∀ k, k < (allW t.ps).length → WOk ((allW t.ps).getD k wi0) ∧ ((allW t.ps).getD k wi0).1 + ((allW t.ps).getD k wi0).2.1 ≤ t.mem := fun k hk => by
      have hmem : (allW t.ps).getD k wi0 ∈ allW t.ps := by simp [List.getD, hk]
      obtain ⟨p, hp', j, hj, e⟩ := allW_mem hmem
      rw [e]
      exact (hp.2.1 p hp').1.2.2.2.1 j hj
    match i, hi with
    | 0, _ => exact ⟨hd.2.1, hd.1⟩
    | 1, _ => exact hd.2.2.1
    | 2, _ => exact hd.2.2.2.1
    | 3, _ => exact hd.2.2.2.2.1
    | 4, _ => exact hd.2.2.2.2.2.1
    | 5, _ => exact hd.2.2.2.2.2.2.1
    | 6, _ => exact hd.2.2.2.2.2.2.2.1
    | 7, _ => exact hd.2.2.2.2.2.2.2.2
    | 8, _ => exact hp.1
    | 9, _ => exact fun i hi => (hp.2.1 i hi).1.1
    | 10, _ => exact fun i hi j hj => (hp.2.1 i hi).2 j hj
    | 11, _ => exact fun i hi => (hp.2.1 i hi).1.2.1
    | 12, _ => exact fun i hi => (hp.2.1 i hi).1.2.2.1
    | 13, _ => exact hwk
    | 14, _ => exact fun i hi j hj => ⟨(hwk j (by omega)).1, (hwk i hi).1, by have := hp.2.2 i hi j hj; unfold Meet at this; omega⟩
    | 15, _ => exact fun i hi => ⟨(hp.2.1 i hi).1.2.2.2.2.2, (hp.2.1 i hi).1.2.2.2.2.1⟩
    | 16, _ => show t.ds.length ≤ 8; rw [hdl]; exact hc.1
    | 17, _ => exact fun i hi => by have := hc.2.2.1 i (by omega); rw [hpl]; omega
    | 18, _ => show t.cs.length ≤ 8; rw [hcl]; exact hc.2.1
    | 19, _ =>
      · intro i hi
        have g := hc.2.2.2.1 i (by omega)
        have g2 := g.1
        unfold chOkT chOk at g2
        simp only [Bool.and_eq_true, inr_iff] at g2
        rw [hpl]
        exact ⟨g.1, ⟨g2.1.1, g.2.1⟩, ⟨g2.2.1.1, g.2.2⟩⟩
    | 20, _ => show padV t ≤ t.pad; unfold padV; rw [hcl]; exact hc.2.2.2.2
    | 21, _ => show 1 ≤ t.ss.length ∧ t.ss.length ≤ 16; rw [hsl]; exact hs.1
    | 22, _ => exact fun i hi => by have := (hs.2 i (by omega)).1; rw [hpl]; omega
    | 23, _ => exact fun i hi => by have := (hs.2 i (by omega)).2.2.1; omega
    | 24, _ => exact fun i hi => by have := hs.2 i (by omega); exact ⟨this.2.1.1, this.2.2.2⟩
    | i + 25, hi => exact absurd hi (by omega)
set_option maxRecDepth 40000 in
set_option maxHeartbeats 8000000 in
theorem spec_sound (t : Tb) (a : Ad) (q : Bool) (w : World) (hm : TM 0 w t a) (hw : TW t a) (hs : TS a) (hq : q = true ↔ Sd t) :
    Calls Tryz.prog 32 #[tbV t a] w fun e w' => e = .returned (.bool q) ∧ Below w.heap.size w w' := by
  have HQ : Hid (q = true ↔ (HeadP t ∧ PartsP t.ps t.mem ∧ ChansP t a.pn t.ds a.dn t.cs a.cn ∧ SlotsP t a.pn t.ss a.sn)) := hq.trans (sd_iff hw)
  have HMM : Hid (∀ X, Below w.heap.size w X → TM 0 X t a) := fun X hX => hm.below hX
  have HWW : Hid (TW t a ∧ TS a) := ⟨hw, hs⟩
  clear hq hm hw hs
  obtain ⟨b1, h1⟩ := told (HeadP t)
  obtain ⟨b2, h2⟩ := told (PartsP t.ps t.mem)
  obtain ⟨b3, h3⟩ := told (ChansP t a.pn t.ds a.dn t.cs a.cn)
  obtain ⟨b4, h4⟩ := told (SlotsP t a.pn t.ss a.sn)
  have HN : Hid (b1 = false ∨ b2 = false ∨ b3 = false → q = false) := fun h => not_true HQ.out (fun g => by
    rcases h with h | h | h
    · rw [h1.2 g.1] at h; cases h
    · rw [h2.2 g.2.1] at h; cases h
    · rw [h3.2 g.2.2.1] at h; cases h)
  have HY : Hid (b1 = true → b2 = true → b3 = true → b4 = q) := fun g1 g2 g3 => bool_is HQ.out ⟨fun g4 => ⟨h1.1 g1, h2.1 g2, h3.1 g3, h4.1 g4⟩, fun g => h4.2 g.2.2.2⟩
  have C1 : Hid (∀ X, Below w.heap.size w X → Calls Tryz.prog 61 #[tbV t a] X fun e w' => e = .returned (.bool b1) ∧ Below X.heap.size X w') := fun X hX => spec_head t a b1 X h1
  have C2 : Hid (∀ X, Below w.heap.size w X → Calls Tryz.prog 62 #[tbV t a] X fun e w' => e = .returned (.bool b2) ∧ Below X.heap.size X w') := fun X hX => spec_parts t a b2 X (HMM.out X hX) HWW.out.1 HWW.out.2 h2
  have C3 : Hid (b1 = true → ∀ X, Below w.heap.size w X → Calls Tryz.prog 63 #[tbV t a] X fun e w' => e = .returned (.bool b3) ∧ Below X.heap.size X w') := fun g X hX => spec_chans0 t a.pa a.da a.ca a.sa a.pn a.pc a.dn a.dc a.cn a.cc a.sn a.sc t.ds t.cs b3 X (HMM.out X hX).d.seg (HMM.out X hX).c.seg HWW.out.1.db HWW.out.1.cb HWW.out.1.pb (h1.1 g).2.2.2.2.1 (h1.1 g).2.2.1 h3
  have C4 : Hid (b1 = true → ∀ X, Below w.heap.size w X → Calls Tryz.prog 64 #[tbV t a] X fun e w' => e = .returned (.bool b4) ∧ Below X.heap.size X w') := fun g X hX => spec_slots0 t a.pa a.da a.ca a.sa a.pn a.pc a.dn a.dc a.cn a.cc a.sn a.sc t.ss b4 X (HMM.out X hX).s.seg HWW.out.1.sb HWW.out.1.pb (h1.1 g).2.2.2.2.2.1 (h1.1 g).2.2.2.2.2.2.1 (h1.1 g).2.2.2.2.2.2.2.1 h4
  clear h1 h2 h3 h4 HQ HMM HWW
  have HB0 : Hid (Below w.heap.size w (w.alloc (.cells (tbA t a) 33))) := (Below.refl _ _).alloc (Nat.le_refl _) _
  have HX0 : Hid ((w.alloc (.cells (tbA t a) 33)).heap[w.heap.size]? = some (.cells (tbA t a) 33 (0, 0))) := TBx.new w t a _ rfl
  go_enter Tryz.func32, Tryz.ntmps32
  go_wp2_with (first | (refine wpList_load_rowG rfl 33 (.tmp 1) rfl w.heap.size rfl 33 (tbA t a) (0, 0) _ HX0.out Tryz.underlying33 rfl (by kernel_rfl) ?_) | fail)
  refine Calls.mono (C1.out _ HB0.out) ?_
  rintro e w1 ⟨rfl, hb1⟩
  have HB1 : Hid (Below w.heap.size w w1) := HB0.out.trans (hb1.mono HB0.out.size)
  have HX1 : Hid (w1.heap[w.heap.size]? = some (.cells (tbA t a) 33 (0, 0))) := TBx.below (t := t) (a := a) HX0.out hb1
  clear hb1 HB0 HX0
  cases b1
  · have HT : Hid (q = false) := HN.out (.inl (by trivial))
    go_wp2
    go_ret
    exact ⟨ret_bool HT.out.symm, HB1.out⟩
  have C3' : Hid _ := C3.out (by trivial)
  have C4' : Hid _ := C4.out (by trivial)
  go_wp2_with (first | (refine wpList_load_rowG rfl 33 (.tmp 1) rfl w.heap.size rfl 33 (tbA t a) (0, 0) _ HX1.out Tryz.underlying33 rfl (by kernel_rfl) ?_) | fail)
  refine Calls.mono (C2.out _ HB1.out) ?_
  rintro e w2 ⟨rfl, hb2⟩
  have HB2 : Hid (Below w.heap.size w w2) := HB1.out.trans (hb2.mono HB1.out.size)
  have HX2 : Hid (w2.heap[w.heap.size]? = some (.cells (tbA t a) 33 (0, 0))) := TBx.below (t := t) (a := a) HX1.out hb2
  clear hb2 HB1 HX1
  cases b2
  · have HT : Hid (q = false) := HN.out (.inr (.inl (by trivial)))
    go_wp2
    go_ret
    exact ⟨ret_bool HT.out.symm, HB2.out⟩
  go_wp2_with (first | (refine wpList_load_rowG rfl 33 (.tmp 1) rfl w.heap.size rfl 33 (tbA t a) (0, 0) _ HX2.out Tryz.underlying33 rfl (by kernel_rfl) ?_) | fail)
  refine Calls.mono (C3'.out _ HB2.out) ?_
  rintro e w3 ⟨rfl, hb3⟩
  have HB3 : Hid (Below w.heap.size w w3) := HB2.out.trans (hb3.mono HB2.out.size)
  have HX3 : Hid (w3.heap[w.heap.size]? = some (.cells (tbA t a) 33 (0, 0))) := TBx.below (t := t) (a := a) HX2.out hb3
  clear hb3 HB2 HX2
  cases b3
  · have HT : Hid (q = false) := HN.out (.inr (.inr (by trivial)))
    go_wp2
    go_ret
    exact ⟨ret_bool HT.out.symm, HB3.out⟩
  go_wp2_with (first | (refine wpList_load_rowG rfl 33 (.tmp 1) rfl w.heap.size rfl 33 (tbA t a) (0, 0) _ HX3.out Tryz.underlying33 rfl (by kernel_rfl) ?_) | fail)
  refine Calls.mono (C4'.out _ HB3.out) ?_
  rintro e w4 ⟨rfl, hb4⟩
  have HB4 : Hid (Below w.heap.size w w4) := HB3.out.trans (hb4.mono HB3.out.size)
  have HT : Hid (b4 = q) := HY.out (by trivial) (by trivial) (by trivial)
  clear hb4 HB3 HX3
  rw [HT.out]
  go_wp2
  go_ret
  exact ⟨rfl, HB4.out⟩
end Go.Proofs.YtlomcdgfcocmmaaGreatDoor
