
/-
  Slots that are right: the specification's own function. Conditions: the list lies in memory; pad, guard and major are right.
-/
import Derived.Test.YtofibnmbgfggkaaGreatDoorBas
import Derived.Test.YtofibnmbgfggkaaGreatDoorRul
import Derived.Test.YtofibnmbgfggkaaGreatDoorLrw
import Derived.BigQuiet

namespace Go.Proofs.YtofibnmbgfggkaaGreatDoor
open Go.ChangeShapes Go.WideShapes Go.ChangeAt Go.RowKit Go.Deep Go.Joins
set_option linter.unusedVariables false

def SlotP (t : Tb) (np : Nat) (ss : List slT) (i : Nat) : Prop := (0 ≤ (ss.getD i sl0).1 ∧ (ss.getD i sl0).1 ≤ (np : Int) - 1) ∧ (freeN ss i ≤ (ss.getD i sl0).2.1 ∧ (ss.getD i sl0).2.1 ≤ 5000) ∧ (t.pad + t.grd + 1 ≤ (ss.getD i sl0).2.2 ∧ (ss.getD i sl0).2.2 ≤ 5000) ∧ (ss.getD i sl0).2.1 + (ss.getD i sl0).2.2 ≤ t.maj
def SlotsP (t : Tb) (np : Nat) (ss : List slT) (sn : Nat) : Prop := (1 ≤ sn ∧ sn ≤ 16) ∧ ∀ i, i < sn → SlotP t np ss i
set_option maxRecDepth 40000 in
set_option maxHeartbeats 8000000 in
theorem spec_slots0 (t : Tb) (pa da ca sa : Option Addr) (pn pc dn dc cn cc sn sc : Nat) (ss : List slT) (q : Bool) (w : World) (hs : GSeg 3 w sa sn (slX ss)) (hn : sn ≤ 9223372036854775807) (hpn : pn ≤ 9223372036854775807) (hpd : 1 ≤ t.pad ∧ t.pad ≤ 5000) (hgd : 1 ≤ t.grd ∧ t.grd ≤ 5000) (hmj : 1 ≤ t.maj ∧ t.maj ≤ 5000) (hq : q = true ↔ SlotsP t pn ss sn) :
    Calls Tryz.prog 28 #[.agg #[.int .i64 t.mem, .int .i64 t.s1, .int .i64 t.s2, .int .i64 t.s3, .int .i64 t.tlb, .int .i64 t.c1, .int .i64 t.c2, .int .i64 t.c3, .int .i64 t.c4, .int .i64 t.c5, .int .i64 t.c6, .int .i64 t.c7, .int .i64 t.pad, .int .i64 t.grd, .int .i64 t.maj, .slice pa pn pc, .slice da dn dc, .slice ca cn cc, .slice sa sn sc]] w fun e w' => e = .returned (.bool q) ∧ Below w.heap.size w w' := by
  have HS : Hid (GSeg 3 w sa sn (slX ss)) := hs
  have HQ : Hid (q = true ↔ SlotsP t pn ss sn) := hq
  have HN : Hid (∀ {P : Prop}, P → ¬ SlotsP t pn ss sn → q = false) := fun _ h => not_true hq h
  have HBD : Hid ((1 ≤ t.pad ∧ t.pad ≤ 5000) ∧ (1 ≤ t.grd ∧ t.grd ≤ 5000) ∧ (1 ≤ t.maj ∧ t.maj ≤ 5000)) := ⟨hpd, hgd, hmj⟩
  clear hs hq
  have hwp : IntKind.i64.wrap ((pn : Int) - 1) = (pn : Int) - 1 := by rw [IntKind.wrap_i64]; omega
  have hwg : IntKind.i64.wrap (t.pad + t.grd) = t.pad + t.grd := by rw [IntKind.wrap_i64]; omega
  have hwh : IntKind.i64.wrap (t.pad + t.grd + 1) = t.pad + t.grd + 1 := by rw [IntKind.wrap_i64]; omega
  have hwg' : wrap64 (t.pad + t.grd) = t.pad + t.grd := by unfold wrap64; omega
  have hwh' : wrap64 (t.pad + t.grd + 1) = t.pad + t.grd + 1 := by unfold wrap64; omega
  clear hpd hgd hmj
  have HB0 : Hid (Below w.heap.size w (w.alloc (.cells #[.int .i64 t.mem, .int .i64 t.s1, .int .i64 t.s2, .int .i64 t.s3, .int .i64 t.tlb, .int .i64 t.c1, .int .i64 t.c2, .int .i64 t.c3, .int .i64 t.c4, .int .i64 t.c5, .int .i64 t.c6, .int .i64 t.c7, .int .i64 t.pad, .int .i64 t.grd, .int .i64 t.maj, .slice pa pn pc, .slice da dn dc, .slice ca cn cc, .slice sa sn sc] 40))) := (Below.refl _ _).alloc (Nat.le_refl _) _
  have HK0 : Hid (CellsAt (w.alloc (.cells #[.int .i64 t.mem, .int .i64 t.s1, .int .i64 t.s2, .int .i64 t.s3, .int .i64 t.tlb, .int .i64 t.c1, .int .i64 t.c2, .int .i64 t.c3, .int .i64 t.c4, .int .i64 t.c5, .int .i64 t.c6, .int .i64 t.c7, .int .i64 t.pad, .int .i64 t.grd, .int .i64 t.maj, .slice pa pn pc, .slice da dn dc, .slice ca cn cc, .slice sa sn sc] 40)) w.heap.size 0 [.int .i64 t.mem, .int .i64 t.s1, .int .i64 t.s2, .int .i64 t.s3, .int .i64 t.tlb, .int .i64 t.c1, .int .i64 t.c2, .int .i64 t.c3, .int .i64 t.c4, .int .i64 t.c5, .int .i64 t.c6, .int .i64 t.c7, .int .i64 t.pad, .int .i64 t.grd, .int .i64 t.maj, .slice pa pn pc, .slice da dn dc, .slice ca cn cc, .slice sa sn sc]) := CellsAt.new w [.int .i64 t.mem, .int .i64 t.s1, .int .i64 t.s2, .int .i64 t.s3, .int .i64 t.tlb, .int .i64 t.c1, .int .i64 t.c2, .int .i64 t.c3, .int .i64 t.c4, .int .i64 t.c5, .int .i64 t.c6, .int .i64 t.c7, .int .i64 t.pad, .int .i64 t.grd, .int .i64 t.maj, .slice pa pn pc, .slice da dn dc, .slice ca cn cc, .slice sa sn sc] 40 _ rfl
  obtain ⟨b2, H2⟩ : ∃ b, Hid (inr (sn : Int) 1 16 = b) := ⟨_, rfl⟩
  go_enter Tryz.func28, Tryz.ntmps28
  go_wp2_with fail
  refine (in_any (sn : Int) 1 16 _).mono ?_
  rintro e w1 ⟨rfl, rfl⟩
  rw [H2.out]
  cases b2
  · have HT : Hid (q = false) := HN.out trivial (fun h => by have := h.1; rw [inr_yes (by omega)] at H2; exact absurd H2.out (by simp))
    go_wp2
    go_ret
    exact ⟨ret_bool HT.out.symm, HB0.out⟩
  have HS16 : Hid (1 ≤ sn ∧ sn ≤ 16) := by have := of_inr H2.out; show _ ∧ _; omega
  go_wp2
  go_loopw [3, 4] (fun v i wr => ∃ (m : Nat) (f : Int), m ≤ sn ∧ i = .int .i64 m ∧ v = .int .i64 f ∧ Hid (f = freeN ss m ∧ (0 ≤ f ∧ f ≤ 5000) ∧ Below w.heap.size w wr ∧ CellsAt wr w.heap.size 0 [.int .i64 t.mem, .int .i64 t.s1, .int .i64 t.s2, .int .i64 t.s3, .int .i64 t.tlb, .int .i64 t.c1, .int .i64 t.c2, .int .i64 t.c3, .int .i64 t.c4, .int .i64 t.c5, .int .i64 t.c6, .int .i64 t.c7, .int .i64 t.pad, .int .i64 t.grd, .int .i64 t.maj, .slice pa pn pc, .slice da dn dc, .slice ca cn cc, .slice sa sn sc] ∧ ∀ i, i < m → SlotP t pn ss i)) (fun _ i _ => sn - (intOf i).toNat)
  case atStart => exact ⟨0, 0, by omega, rfl, rfl, rfl, by omega, HB0.out, HK0.out, fun i hi => absurd hi (by omega)⟩
  case round =>
    obtain ⟨m, f, hm, rfl, rfl, HR⟩ := hrel
    have k18 : wr.cell? ⟨w.heap.size, 18, none⟩ = some (.slice sa sn sc) := cell0 HR.out.2.2.2.1 18 rfl
    by_cases hmn : m < sn
    rotate_left
    · obtain rfl : m = sn := by omega
      have HT : Hid (q = true) := HQ.out.2 ⟨HS16.out, HR.out.2.2.2.2⟩
      have HBF : Hid (Below w.heap.size w wr) := HR.out.2.2.1
      clear HR
      go_wp2
      go_ret
      exact ⟨ret_bool HT.out.symm, HBF.out⟩
    have hmn' : (m : Int) < (sn : Int) := by omega
    obtain ⟨b1, o1, rfl, hbl1, p1⟩ := HS.out.at m hmn
    replace p1 := p1.of (w' := wr) (fun j => HR.out.2.2.1.cell (p := ⟨b1, j, none⟩) hbl1)
    obtain ⟨PP, HPP⟩ : ∃ PP : Prop, Hid (PP ↔ SlotP t pn ss m) := ⟨_, Iff.rfl⟩
    have HNO : Hid (¬ PP → q = false) := fun h => HN.out trivial (fun g => h (HPP.out.2 (g.2 m hmn)))
    have HYS : Hid (PP → ∀ i, i < m + 1 → SlotP t pn ss i) := fun h i hi => by
      by_cases e : i = m
      · subst e; exact HPP.out.1 h
      · exact HR.out.2.2.2.2 i (by omega)
    have HFR : Hid (freeN ss (m + 1) = (ss.getD m sl0).2.1 + (ss.getD m sl0).2.2) := rfl
    simp only [SlotP] at HPP
    rw [← HR.out.1] at HPP
    simp only [slX] at p1
    obtain ⟨x, HXI⟩ : ∃ x, Hid (ss.getD m sl0 = x) := ⟨_, rfl⟩
    rw [HXI.out] at p1 HPP HFR
    clear HXI
    obtain ⟨c0, c1, c2⟩ := sl_cells p1
    obtain ⟨x1, x2, x3⟩ := x
    simp only at c0 c1 c2 HPP HFR
    have hf := HR.out.2.1
    have hal : Below wr.heap.size wr (wr.alloc (.cells #[.int .i64 x1, .int .i64 x2, .int .i64 x3] 67)) := (Below.refl _ _).alloc (Nat.le_refl _) _
    have HBV : Hid (Below w.heap.size w (wr.alloc (.cells #[.int .i64 x1, .int .i64 x2, .int .i64 x3] 67)) ∧ CellsAt (wr.alloc (.cells #[.int .i64 x1, .int .i64 x2, .int .i64 x3] 67)) w.heap.size 0 [.int .i64 t.mem, .int .i64 t.s1, .int .i64 t.s2, .int .i64 t.s3, .int .i64 t.tlb, .int .i64 t.c1, .int .i64 t.c2, .int .i64 t.c3, .int .i64 t.c4, .int .i64 t.c5, .int .i64 t.c6, .int .i64 t.c7, .int .i64 t.pad, .int .i64 t.grd, .int .i64 t.maj, .slice pa pn pc, .slice da dn dc, .slice ca cn cc, .slice (some ⟨b1, o1, none⟩) sn sc]) := ⟨HR.out.2.2.1.trans (hal.mono HR.out.2.2.1.size), HR.out.2.2.2.1.below hal⟩
    have k15 : (wr.alloc (.cells #[.int .i64 x1, .int .i64 x2, .int .i64 x3] 67)).cell? ⟨w.heap.size, 15, none⟩ = some (.slice pa pn pc) := cell0 HBV.out.2 15 rfl
    have k12 : (wr.alloc (.cells #[.int .i64 x1, .int .i64 x2, .int .i64 x3] 67)).cell? ⟨w.heap.size, 12, none⟩ = some (.int .i64 t.pad) := cell0 HBV.out.2 12 rfl
    have k13 : (wr.alloc (.cells #[.int .i64 x1, .int .i64 x2, .int .i64 x3] 67)).cell? ⟨w.heap.size, 13, none⟩ = some (.int .i64 t.grd) := cell0 HBV.out.2 13 rfl
    have k14 : (wr.alloc (.cells #[.int .i64 x1, .int .i64 x2, .int .i64 x3] 67)).cell? ⟨w.heap.size, 14, none⟩ = some (.int .i64 t.maj) := cell0 HBV.out.2 14 rfl
    have HF5 : Hid (0 ≤ f ∧ f ≤ 5000) := hf
    clear p1 hbl1 hal HR hf
    obtain ⟨g1, G1⟩ : ∃ b, Hid (inr x1 0 ((pn : Int) - 1) = b) := ⟨_, rfl⟩
    obtain ⟨g2, G2⟩ : ∃ b, Hid (inr x2 f 5000 = b) := ⟨_, rfl⟩
    obtain ⟨g3, G3⟩ : ∃ b, Hid (inr x3 (t.pad + t.grd + 1) 5000 = b) := ⟨_, rfl⟩
    go_wp2_with fail
    refine (in_any x1 0 ((pn : Int) - 1) _).mono ?_
    rintro e w2 ⟨rfl, rfl⟩
    rw [G1.out]
    cases g1
    · have HT : Hid (q = false) := HNO.out (fun h => by rw [inr_yes (HPP.out.1 h).1] at G1; exact absurd G1.out (by simp))
      go_wp2
      go_ret
      exact ⟨ret_bool HT.out.symm, HBV.out.1⟩
    go_wp2_with fail
    refine (in_any x2 f 5000 _).mono ?_
    rintro e w2 ⟨rfl, rfl⟩
    rw [G2.out]
    cases g2
    · have HT : Hid (q = false) := HNO.out (fun h => by rw [inr_yes (HPP.out.1 h).2.1] at G2; exact absurd G2.out (by simp))
      go_wp2
      go_ret
      exact ⟨ret_bool HT.out.symm, HBV.out.1⟩
    go_wp2_with fail
    refine (in_any x3 (t.pad + t.grd + 1) 5000 _).mono ?_
    rintro e w2 ⟨rfl, rfl⟩
    rw [G3.out]
    cases g3
    · have HT : Hid (q = false) := HNO.out (fun h => by rw [inr_yes (HPP.out.1 h).2.2.1] at G3; exact absurd G3.out (by simp))
      go_wp2
      go_ret
      exact ⟨ret_bool HT.out.symm, HBV.out.1⟩
    have h2 := of_inr G2.out
    have h3 := of_inr G3.out
    have hwe : IntKind.i64.wrap (x2 + x3) = x2 + x3 := by have := HF5.out; have := HBD.out; rw [IntKind.wrap_i64]; omega
    have hwe' : wrap64 (x2 + x3) = x2 + x3 := by have := HF5.out; have := HBD.out; unfold wrap64; omega
    have he0 : 0 ≤ x2 + x3 := by have := HF5.out; have := HBD.out; omega
    obtain ⟨ex, HEX⟩ : ∃ e, Hid (x2 + x3 = e) := ⟨_, rfl⟩
    have HP4 : Hid (ex ≤ t.maj ↔ PP) := ⟨fun h => HPP.out.2 ⟨of_inr G1.out, h2, h3, by rw [HEX.out]; exact h⟩, fun h => by rw [← HEX.out]; exact (HPP.out.1 h).2.2.2⟩
    replace hwe := hwe.trans HEX.out
    replace hwe' := hwe'.trans HEX.out
    rw [HEX.out] at he0 HFR
    have HE5 : Hid (ex ≤ t.maj → 0 ≤ ex ∧ ex ≤ 5000) := fun h => ⟨he0, by have := HBD.out; omega⟩
    clear HPP G1 G2 G3 h2 h3 he0 HEX HF5
    by_cases hle : ex ≤ t.maj
    · have HT : Hid _ := HYS.out (HP4.out.1 hle)
      have hgt : ¬ t.maj < ex := by omega
      have HE6 : Hid _ := HE5.out hle
      go_wp2
      go_roundw
      case rel => exact ⟨m + 1, ex, by omega, by go_num, rfl, HFR.out.symm, HE6.out, HBV.out.1, HBV.out.2, HT.out⟩
      case measure => simp [intOf]; omega
    · have HT : Hid (q = false) := HNO.out (fun h => hle (HP4.out.2 h))
      have hgt : t.maj < ex := by omega
      go_wp2
      go_ret
      exact ⟨ret_bool HT.out.symm, HBV.out.1⟩
end Go.Proofs.YtofibnmbgfggkaaGreatDoor
