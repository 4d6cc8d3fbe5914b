
/-
  Ends and devices of a partition, right or not; the specification's own answer. Conditions: the tables are sound, the lists lie in memory.
-/
import Derived.Test.YtknipnenipdgiaaGreatDoorBas
import Derived.Test.YtknipnenipdgiaaGreatDoorEnt
import Derived.Test.YtknipnenipdgiaaGreatDoorPto
import Derived.Test.YtknipnenipdgiaaGreatDoorRul
import Derived.Test.YtknipnenipdgiaaGreatDoorIns
namespace Go.Proofs.YtknipnenipdgiaaGreatDoor
open Go.ChangeShapes Go.WideShapes Go.ChangeAt Go.RowKit Go.Deep Go.Joins
set_option linter.unusedVariables false

def OutsP (t : Tb) (p : Int) (H : Nat → Int) (G : Nat → List Int) (n : Nat) : Prop := ∀ i, i < n → (((t.cs.getD i ch0).2.1 = p → OOk (t.cs.getD i ch0).1 (t.cs.getD i ch0).2.2.2 (H i) (G i).length) ∧ (¬ (t.cs.getD i ch0).2.1 = p → H i = 0 ∧ (G i).length = 0))
def InsP (t : Tb) (p : Int) (G : Nat → List Int) (n : Nat) : Prop := ∀ i, i < n → (((t.cs.getD i ch0).2.2.1 = p → IOk (t.cs.getD i ch0).1 (t.cs.getD i ch0).2.2.2 (G i).length) ∧ (¬ (t.cs.getD i ch0).2.2.1 = p → (G i).length = 0))
def DevsP (t : Tb) (p : Int) (G U : Nat → List Int) (n : Nat) : Prop := ∀ i, i < n → ((t.ds.getD i 0 = p → (G i).length ≤ 8 ∧ (U i).length ≤ 8) ∧ (¬ t.ds.getD i 0 = p → (G i).length = 0 ∧ (U i).length = 0))
def EndsP (t : Tb) (p : Int) (y : Ps) (d : Pd) : Prop := (y.un = t.cs.length ∧ y.jn = t.cs.length) ∧ OutsP t p d.H d.G t.cs.length ∧ InsP t p d.I t.cs.length
def DevP (t : Tb) (p : Int) (y : Ps) (d : Pd) : Prop := y.dn = t.ds.length ∧ DevsP t p d.U d.V t.ds.length
theorem sd_chk {t : Tb} (h : Sd t) {i : Nat} (hi : i < t.cs.length) : chOk (t.cs.getD i ch0).1 (t.cs.getD i ch0).2.1 (t.cs.getD i ch0).2.2.1 (t.cs.getD i ch0).2.2.2 = true := by
  have h19 := h 19 (by omega)
  simp only [R] at h19
  exact (h19 i hi).1
theorem neq_nat' {a b : Nat} (h : ¬ a = b) : ((a : Int) != (b : Int)) = true := by simp; omega
theorem upto_next {P : Nat → Prop} {m : Nat} (h : ∀ i, i < m → P i) (h2 : P m) : ∀ i, i < m + 1 → P i := fun i hi => by
  by_cases e : i = m
  · subst e; exact h2
  · exact h i (by omega)
set_option maxRecDepth 40000 in
set_option maxHeartbeats 16000000 in
theorem spec_ends (t : Tb) (a : Ad) (p : Int) (y : Ps) (d : Pd) (q : Bool) (w : World) (hm : TM 0 w t a) (hw : TW t a) (hs : TS a) (hsd : Sd t) (hps : PSeg w y d) (hf : PFit y d) (hq : q = true ↔ (EndsP t p y d ∧ DevP t p y d)) :
    Calls Tryz.prog 47 #[tbV t a, .int .i64 p, psV y] w fun e w' => e = .returned (.bool q) ∧ Below w.heap.size w w' := by
  have HB0 : Hid (Below w.heap.size w ((w.alloc (.cells (tbA t a) 60)).alloc (.cells (psA y) 73))) := ((Below.refl _ _).alloc (Nat.le_refl _) _).alloc (by simp) _
  have HX0 : Hid (TBx ((w.alloc (.cells (tbA t a) 60)).alloc (.cells (psA y) 73)) w.heap.size t a) := (TBx.new w t a _ rfl).below ((Below.refl _ _).alloc (Nat.le_refl _) _)
  have HK0 : Hid (PBx ((w.alloc (.cells (tbA t a) 60)).alloc (.cells (psA y) 73)) (w.heap.size + 1) 73 y) := PBx.new _ _ y _ (by simp)
  have HLC : t.cs.length = a.cn := hw.cl
  have HLD : t.ds.length = a.dn := hw.dl
  have hcn : a.cn ≤ 1048576 := hs.c
  have hdn : a.dn ≤ 1048576 := hs.d
  have HCC : Hid (∀ X, Below w.heap.size w X → GSeg 4 X a.ca a.cn (chX t.cs)) := fun X hX => (hm.below hX).c.seg
  have HDD : Hid (∀ X, Below w.heap.size w X → GSeg 1 X a.da a.dn (inX t.ds)) := fun X hX => (hm.below hX).d.seg
  have HSD : Hid (Sd t) := hsd
  have HPS : Hid (PSeg w y d) := hps
  have HF : Hid (PFit y d) := hf
  have HQ : Hid (q = true ↔ (EndsP t p y d ∧ DevP t p y d)) := hq
  clear hm hw hs hsd hps hf hq
  have k24 : ((w.alloc (.cells (tbA t a) 60)).alloc (.cells (psA y) 73)).cell? ⟨w.heap.size + 1, 24, none⟩ = some (.slice y.oa y.un y.uc) := HK0.out.cell 24 rfl
  have k25 : ((w.alloc (.cells (tbA t a) 60)).alloc (.cells (psA y) 73)).cell? ⟨w.heap.size + 1, 25, none⟩ = some (.slice y.ia y.jn y.jc) := HK0.out.cell 25 rfl
  have k26 : ((w.alloc (.cells (tbA t a) 60)).alloc (.cells (psA y) 73)).cell? ⟨w.heap.size + 1, 26, none⟩ = some (.slice y.da y.dn y.dc) := HK0.out.cell 26 rfl
  have k16 : ((w.alloc (.cells (tbA t a) 60)).alloc (.cells (psA y) 73)).cell? ⟨w.heap.size, 16, none⟩ = some (.slice a.da a.dn a.dc) := HX0.out.cell 16 rfl
  have k17 : ((w.alloc (.cells (tbA t a) 60)).alloc (.cells (psA y) 73)).cell? ⟨w.heap.size, 17, none⟩ = some (.slice a.ca a.cn a.cc) := HX0.out.cell 17 rfl
  by_cases e1 : y.un = a.cn
  rotate_left
  · have h1 : ((y.un : Int) != (a.cn : Int)) = true := neq_nat' e1
    have HT : Hid (q = false) := not_true HQ.out (fun g => e1 (by rw [g.1.1.1, HLC]))
    clear HQ e1
    go_enter Tryz.func47, Tryz.ntmps47
    go_wp2
    go_ret
    exact ⟨ret_bool HT.out.symm, HB0.out⟩
  have h1 : ((y.un : Int) != (a.cn : Int)) = false := by rw [e1]; simp
  by_cases e2 : y.jn = a.cn
  rotate_left
  · have h2 : ((y.jn : Int) != (a.cn : Int)) = true := neq_nat' e2
    have HT : Hid (q = false) := not_true HQ.out (fun g => e2 (by rw [g.1.1.2, HLC]))
    clear HQ e1 e2
    go_enter Tryz.func47, Tryz.ntmps47
    go_wp2
    go_ret
    exact ⟨ret_bool HT.out.symm, HB0.out⟩
  have h2 : ((y.jn : Int) != (a.cn : Int)) = false := by rw [e2]; simp
  by_cases e3 : y.dn = a.dn
  rotate_left
  · have h3 : ((y.dn : Int) != (a.dn : Int)) = true := neq_nat' e3
    have HT : Hid (q = false) := not_true HQ.out (fun g => e3 (by rw [g.2.1, HLD]))
    clear HQ e1 e2 e3
    go_enter Tryz.func47, Tryz.ntmps47
    go_wp2
    go_ret
    exact ⟨ret_bool HT.out.symm, HB0.out⟩
  have h3 : ((y.dn : Int) != (a.dn : Int)) = false := by rw [e3]; simp
  have HE : Hid (y.un = a.cn ∧ y.jn = a.cn ∧ y.dn = a.dn) := ⟨e1, e2, e3⟩
  have HQ2 : Hid (q = true ↔ ((OutsP t p d.H d.G a.cn ∧ InsP t p d.I a.cn) ∧ DevsP t p d.U d.V a.dn)) := HQ.out.trans ⟨fun g => by have g1 := g.1.2; have g2 := g.2.2; rw [HLC] at g1; rw [HLD] at g2; exact ⟨g1, g2⟩, fun g => by unfold EndsP DevP; rw [HLC, HLD]; exact ⟨⟨⟨e1, e2⟩, g.1⟩, e3, g.2⟩⟩
  clear HQ e1 e2 e3
  go_enter Tryz.func47, Tryz.ntmps47
  go_wp2
  clear k24 k25 k26 k16 k17 h1 h2 h3
  revert HB0 HX0 HK0
  generalize ((w.alloc (.cells (tbA t a) 60)).alloc (.cells (psA y) 73)) = V
  intro HB0 HX0 HKV
  go_loopw [7] (fun i wr => ∃ m : Nat, m ≤ a.cn ∧ i = .int .i64 m ∧ Hid (Below V.heap.size V wr ∧ OutsP t p d.H d.G m ∧ InsP t p d.I m)) (fun i _ => a.cn - (intOf i).toNat)
  case atStart => exact ⟨0, by omega, rfl, Below.refl _ _, fun i hi => absurd hi (by omega), fun i hi => absurd hi (by omega)⟩
  case round =>
    obtain ⟨m, hm, rfl, HR⟩ := hrel
    have HBR : Hid (Below w.heap.size w wr) := HB0.out.trans (HR.out.1.mono HB0.out.size)
    have k17 : wr.cell? ⟨w.heap.size, 17, none⟩ = some (.slice a.ca a.cn a.cc) := (HX0.out.below HR.out.1).cell 17 rfl
    by_cases hmn : m < a.cn
    rotate_left
    · obtain rfl : m = a.cn := by omega
      have HQ3 : Hid (q = true ↔ DevsP t p d.U d.V a.dn) := HQ2.out.trans ⟨fun g => g.2, fun g => ⟨HR.out.2, g⟩⟩
      have HVR : Hid (Below V.heap.size V wr) := HR.out.1
      clear HQ2 HR
      go_wp2
      clear k17
      go_loopw [9] (fun i wx => ∃ m : Nat, m ≤ a.dn ∧ i = .int .i64 m ∧ Hid (Below wr.heap.size wr wx ∧ DevsP t p d.U d.V m)) (fun i _ => a.dn - (intOf i).toNat)
      case atStart => exact ⟨0, by omega, rfl, Below.refl _ _, fun i hi => absurd hi (by omega)⟩
      case round =>
        obtain ⟨m, hm2, rfl, HR⟩ := hrel
        rename World => wx
        have HBX : Hid (Below w.heap.size w wx) := HBR.out.trans (HR.out.1.mono HBR.out.size)
        have HVX : Hid (Below V.heap.size V wx) := HVR.out.trans (HR.out.1.mono HVR.out.size)
        have k16 : wx.cell? ⟨w.heap.size, 16, none⟩ = some (.slice a.da a.dn a.dc) := (HX0.out.below HVX.out).cell 16 rfl
        by_cases hmn : m < a.dn
        rotate_left
        · obtain rfl : m = a.dn := by omega
          have HT : Hid (q = true) := HQ3.out.2 HR.out.2
          go_wp2
          go_ret
          exact ⟨ret_bool HT.out.symm, HBX.out⟩
        have hmn' : (m : Int) < (a.dn : Int) := by omega
        have hmd : m < y.dn := by rw [HE.out.2.2]; exact hmn
        have hmd' : (m : Int) < (y.dn : Int) := by omega
        obtain ⟨b1, o1, hsa, hbl1, p1⟩ := (HDD.out _ HBX.out).at m hmn
        rw [hsa] at k16
        rw [Nat.mul_one] at p1
        simp only [inX] at p1
        have c0 := in_cell p1
        obtain ⟨b2, o2, ai, ci, bi, di, hsd2, hbl2, u0, u1, _⟩ := (HPS.out.below HBX.out).d.at m hmd
        have k26 : wx.cell? ⟨w.heap.size + 1, 26, none⟩ = some (.slice (some ⟨b2, o2, none⟩) y.dn y.dc) := by
          have := (HKV.out.below HVX.out).cell 26 (v := .slice y.da y.dn y.dc) rfl
          rw [hsd2] at this
          exact this
        have HNX : Hid (((t.ds.getD m 0 = p → (d.U m).length ≤ 8 ∧ (d.V m).length ≤ 8) ∧ (¬ t.ds.getD m 0 = p → (d.U m).length = 0 ∧ (d.V m).length = 0)) → DevsP t p d.U d.V (m + 1)) := fun g => upto_next (P := fun i => ((t.ds.getD i 0 = p → (d.U i).length ≤ 8 ∧ (d.V i).length ≤ 8) ∧ (¬ t.ds.getD i 0 = p → (d.U i).length = 0 ∧ (d.V i).length = 0))) HR.out.2 g
        have HNO : Hid (¬ ((t.ds.getD m 0 = p → (d.U m).length ≤ 8 ∧ (d.V m).length ≤ 8) ∧ (¬ t.ds.getD m 0 = p → (d.U m).length = 0 ∧ (d.V m).length = 0)) → q = false) := fun g => not_true HQ3.out (fun g9 => g (g9 m hmn))
        have HXR : Hid (Below wr.heap.size wr wx) := HR.out.1
        clear HR p1 hbl1 hbl2 hsa hsd2
        generalize t.ds.getD m 0 = x1 at c0 HNX HNO
        generalize (d.U m).length = ul at u0 HNX HNO
        generalize (d.V m).length = vl at u1 HNX HNO
        by_cases ef : x1 = p
        · have hef : (x1 == p) = true := eqb_yes ef
          obtain ⟨qd, hqd⟩ := told (ul ≤ 8 ∧ vl ≤ 8)
          have HQD : Hid (qd = true ↔ (ul ≤ 8 ∧ vl ≤ 8)) := hqd
          have HCD : Hid (∀ X, Calls Tryz.prog 127 #[.agg #[.slice ai ul ci, .slice bi vl di]] X fun e w' => e = .returned (.bool qd) ∧ Below X.heap.size X w') := fun X => spec_devok ai bi ul ci vl di qd X hqd
          have HFE : Hid (x1 = p) := ef
          clear hqd ef
          go_wp2_with fail
          refine Calls.mono (HCD.out _) ?_
          rintro e w8 ⟨rfl, hb8⟩
          have HB8 : Hid (Below w.heap.size w w8) := HBX.out.trans (hb8.mono HBX.out.size)
          have HX8 : Hid (Below wr.heap.size wr w8) := HXR.out.trans (hb8.mono HXR.out.size)
          clear hb8 HCD k16 k26 c0 u0 u1
          cases qd
          · have HT : Hid (q = false) := HNO.out (fun g => by have := HQD.out.2 (g.1 HFE.out); cases this)
            clear HNO HNX
            go_wp2
            go_ret
            exact ⟨ret_bool HT.out.symm, HB8.out⟩
          · have HT : Hid _ := HNX.out ⟨fun _ => HQD.out.1 (by first | rfl | trivial), fun g => absurd HFE.out g⟩
            clear HNO HNX
            go_wp2
            go_roundw
            case rel => exact ⟨m + 1, by omega, by go_num, HX8.out, HT.out⟩
            case measure => simp [intOf]; omega
        · have hef : (x1 == p) = false := eqb_no ef
          have HFE : Hid (¬ x1 = p) := ef
          clear ef
          by_cases eu : ul = 0
          rotate_left
          · have heu : ((ul : Int) != 0) = true := neb_yes (by omega)
            have HT : Hid (q = false) := HNO.out (fun g => eu (g.2 HFE.out).1)
            clear HNO HNX
            go_wp2
            go_ret
            exact ⟨ret_bool HT.out.symm, HBX.out⟩
          have heu : ((ul : Int) != 0) = false := neb_no (by omega)
          by_cases ev : vl = 0
          rotate_left
          · have hev : ((vl : Int) != 0) = true := neb_yes (by omega)
            have HT : Hid (q = false) := HNO.out (fun g => ev (g.2 HFE.out).2)
            clear HNO HNX
            go_wp2
            go_ret
            exact ⟨ret_bool HT.out.symm, HBX.out⟩
          have hev : ((vl : Int) != 0) = false := neb_no (by omega)
          have HT : Hid _ := HNX.out ⟨fun g => absurd g HFE.out, fun _ => ⟨eu, ev⟩⟩
          clear HNO HNX
          go_wp2
          go_roundw
          case rel => exact ⟨m + 1, by omega, by go_num, HXR.out, HT.out⟩
          case measure => simp [intOf]; omega
    have hmn' : (m : Int) < (a.cn : Int) := by omega
    have hmu : m < y.un := by rw [HE.out.1]; exact hmn
    have hmj : m < y.jn := by rw [HE.out.2.1]; exact hmn
    have hmu' : (m : Int) < (y.un : Int) := by omega
    have hmj' : (m : Int) < (y.jn : Int) := by omega
    obtain ⟨b1, o1, hsa, hbl1, p1⟩ := (HCC.out _ HBR.out).at m hmn
    rw [hsa] at k17
    have hck := sd_chk HSD.out (i := m) (by rw [HLC]; exact hmn)
    simp only [chX] at p1
    have HNX : Hid ((((t.cs.getD m ch0).2.1 = p → OOk (t.cs.getD m ch0).1 (t.cs.getD m ch0).2.2.2 (d.H m) (d.G m).length) ∧ (¬ (t.cs.getD m ch0).2.1 = p → d.H m = 0 ∧ (d.G m).length = 0)) → (((t.cs.getD m ch0).2.2.1 = p → IOk (t.cs.getD m ch0).1 (t.cs.getD m ch0).2.2.2 (d.I m).length) ∧ (¬ (t.cs.getD m ch0).2.2.1 = p → (d.I m).length = 0)) → OutsP t p d.H d.G (m + 1) ∧ InsP t p d.I (m + 1)) := fun g1 g2 => ⟨upto_next (P := fun i => (((t.cs.getD i ch0).2.1 = p → OOk (t.cs.getD i ch0).1 (t.cs.getD i ch0).2.2.2 (d.H i) (d.G i).length) ∧ (¬ (t.cs.getD i ch0).2.1 = p → d.H i = 0 ∧ (d.G i).length = 0))) HR.out.2.1 g1, upto_next (P := fun i => (((t.cs.getD i ch0).2.2.1 = p → IOk (t.cs.getD i ch0).1 (t.cs.getD i ch0).2.2.2 (d.I i).length) ∧ (¬ (t.cs.getD i ch0).2.2.1 = p → (d.I i).length = 0))) HR.out.2.2 g2⟩
    have HNO : Hid (¬ ((((t.cs.getD m ch0).2.1 = p → OOk (t.cs.getD m ch0).1 (t.cs.getD m ch0).2.2.2 (d.H m) (d.G m).length) ∧ (¬ (t.cs.getD m ch0).2.1 = p → d.H m = 0 ∧ (d.G m).length = 0)) ∧ (((t.cs.getD m ch0).2.2.1 = p → IOk (t.cs.getD m ch0).1 (t.cs.getD m ch0).2.2.2 (d.I m).length) ∧ (¬ (t.cs.getD m ch0).2.2.1 = p → (d.I m).length = 0))) → q = false) := fun g => not_true HQ2.out (fun g9 => g ⟨g9.1.1 m hmn, g9.1.2 m hmn⟩)
    have HVR : Hid (Below V.heap.size V wr) := HR.out.1
    have hgo0 : (d.G m).length ≤ 1048576 := Nat.le_trans (btot_row d.G hmu) (by have := HF.out.zG; omega)
    have hgi0 : (d.I m).length ≤ 1048576 := Nat.le_trans (btot_row d.I hmj) (by have := HF.out.zI; omega)
    obtain ⟨hv, HHV⟩ : ∃ z, Hid (d.H m = z) := ⟨_, rfl⟩
    obtain ⟨go, HGO⟩ : ∃ z, Hid ((d.G m).length = z) := ⟨_, rfl⟩
    obtain ⟨gi, HGI⟩ : ∃ z, Hid ((d.I m).length = z) := ⟨_, rfl⟩
    rw [HHV.out, HGO.out, HGI.out] at HNX HNO
    rw [HGO.out] at hgo0
    rw [HGI.out] at hgi0
    have hgo : go ≤ 1048576 := hgo0
    have hgi : gi ≤ 1048576 := hgi0
    clear HR hgo0 hgi0
    generalize t.cs.getD m ch0 = x at p1 HNX HNO hck
    obtain ⟨c0, c1, c2, c3⟩ := ch_cells p1
    obtain ⟨x1, x2, x3, x4⟩ := x
    simp only at c0 c1 c2 c3 HNX HNO hck
    have HCH : Hid (chOk x1 x2 x3 x4 = true) := hck
    have hbA : Below wr.heap.size wr (wr.alloc (.cells #[.int .i64 x1, .int .i64 x2, .int .i64 x3, .int .i64 x4] 198)) := (Below.refl _ _).alloc (Nat.le_refl _) _
    have HBA : Hid (Below w.heap.size w (wr.alloc (.cells #[.int .i64 x1, .int .i64 x2, .int .i64 x3, .int .i64 x4] 198))) := HBR.out.trans (hbA.mono HBR.out.size)
    have HVA : Hid (Below V.heap.size V (wr.alloc (.cells #[.int .i64 x1, .int .i64 x2, .int .i64 x3, .int .i64 x4] 198))) := HVR.out.trans (hbA.mono HVR.out.size)
    have KCA : Hid (CellsAt (wr.alloc (.cells #[.int .i64 x1, .int .i64 x2, .int .i64 x3, .int .i64 x4] 198)) wr.heap.size 0 [.int .i64 x1, .int .i64 x2, .int .i64 x3, .int .i64 x4]) := CellsAt.new wr [.int .i64 x1, .int .i64 x2, .int .i64 x3, .int .i64 x4] _ _ rfl
    have HBA1 := HBA
    have HVA1 := HVA
    have KCA1 := KCA
    clear p1 hbl1 hsa hck hbA HBR HVR HBA HVA KCA
    have r1 : (wr.alloc (.cells #[.int .i64 x1, .int .i64 x2, .int .i64 x3, .int .i64 x4] 198)).cell? ⟨wr.heap.size, 1, none⟩ = some (.int .i64 x2) := KCA1.out 1 _ rfl
    obtain ⟨b2, o2, ai2, ci2, hso, hbl2, u0, u1, _⟩ := (HPS.out.below HBA1.out).o.at m hmu
    have k24 : (wr.alloc (.cells #[.int .i64 x1, .int .i64 x2, .int .i64 x3, .int .i64 x4] 198)).cell? ⟨w.heap.size + 1, 24, none⟩ = some (.slice (some ⟨b2, o2, none⟩) y.un y.uc) := by
      have := (HKV.out.below HVA1.out).cell 24 (v := .slice y.oa y.un y.uc) rfl
      rw [hso] at this
      exact this
    rw [HHV.out] at u0
    rw [HGO.out] at u1
    by_cases ef : x2 = p
    · have hef : (x2 == p) = true := eqb_yes ef
      obtain ⟨qo, hqo⟩ := told (OOk x1 x4 hv go)
      have r0 : (wr.alloc (.cells #[.int .i64 x1, .int .i64 x2, .int .i64 x3, .int .i64 x4] 198)).cell? ⟨wr.heap.size, 0, none⟩ = some (.int .i64 x1) := KCA1.out 0 _ rfl
      have r2 : (wr.alloc (.cells #[.int .i64 x1, .int .i64 x2, .int .i64 x3, .int .i64 x4] 198)).cell? ⟨wr.heap.size, 2, none⟩ = some (.int .i64 x3) := KCA1.out 2 _ rfl
      have r3 : (wr.alloc (.cells #[.int .i64 x1, .int .i64 x2, .int .i64 x3, .int .i64 x4] 198)).cell? ⟨wr.heap.size, 3, none⟩ = some (.int .i64 x4) := KCA1.out 3 _ rfl
      have HCO : Hid (∀ X : Gr (wr.alloc (.cells #[.int .i64 x1, .int .i64 x2, .int .i64 x3, .int .i64 x4] 198)), Calls Tryz.prog 125 #[crw x1 x2 x3 x4, .agg #[.int .i64 hv, .slice ai2 go ci2]] X.w fun e w' => e = .returned (.bool qo) ∧ Below X.w.heap.size X.w w') := fun X => spec_outok x1 x2 x3 x4 hv ai2 go ci2 qo X.w HCH.out hgo hqo
      have HQO : Hid (qo = true ↔ OOk x1 x4 hv go) := hqo
      have HFE : Hid (x2 = p) := ef
      clear hqo ef
      go_wp2
      have R0 := fun X => gr_cell (W0 := (wr.alloc (.cells #[.int .i64 x1, .int .i64 x2, .int .i64 x3, .int .i64 x4] 198))) r0 X
      have R1 := fun X => gr_cell (W0 := (wr.alloc (.cells #[.int .i64 x1, .int .i64 x2, .int .i64 x3, .int .i64 x4] 198))) r1 X
      have R2 := fun X => gr_cell (W0 := (wr.alloc (.cells #[.int .i64 x1, .int .i64 x2, .int .i64 x3, .int .i64 x4] 198))) r2 X
      have R3 := fun X => gr_cell (W0 := (wr.alloc (.cells #[.int .i64 x1, .int .i64 x2, .int .i64 x3, .int .i64 x4] 198))) r3 X
      have K24 := fun X => gr_cell (W0 := (wr.alloc (.cells #[.int .i64 x1, .int .i64 x2, .int .i64 x3, .int .i64 x4] 198))) k24 X
      have U0 := fun X => gr_cell (W0 := (wr.alloc (.cells #[.int .i64 x1, .int .i64 x2, .int .i64 x3, .int .i64 x4] 198))) u0 X
      have U1 := fun X => gr_cell (W0 := (wr.alloc (.cells #[.int .i64 x1, .int .i64 x2, .int .i64 x3, .int .i64 x4] 198))) u1 X
      have hgr := gr_some (wr.alloc (.cells #[.int .i64 x1, .int .i64 x2, .int .i64 x3, .int .i64 x4] 198))
      refine region_alike (by kernel_rfl) (by kernel_rfl) ?_
      repeat (go_big_quiet_step (first | (go_at_call 125; exact gr_call (HCO.out _))))
      refine wpQuiet_nil ?_
      intro _ hw'
      obtain ⟨X8, rfl⟩ := hw'
      have HVA2 : Hid (Below V.heap.size V X8.w) := HVA1.out.trans (X8.h.mono HVA1.out.size)
      have HBA2 : Hid (Below w.heap.size w X8.w) := HBA1.out.trans (X8.h.mono HBA1.out.size)
      have KCA2 : Hid (CellsAt X8.w wr.heap.size 0 [.int .i64 x1, .int .i64 x2, .int .i64 x3, .int .i64 x4]) := KCA1.out.below X8.h
      revert HVA2 HBA2 KCA2
      generalize X8.w = A2
      intro HVA2 HBA2 KCA2
      clear hgr R0 R1 R2 R3 K24 U0 U1 r0 r1 r2 r3 k24 u0 u1 HCO HVA1 HBA1 KCA1 hbl2 hso c0 c1 c2 c3 k17
      cases qo
      · have HT : Hid (q = false) := HNO.out (fun g => by have := HQO.out.2 (g.1.1 HFE.out); cases this)
        clear HNO HNX
        go_wp2
        go_ret
        exact ⟨ret_bool HT.out.symm, HBA2.out⟩
      have HOO : Hid (OOk x1 x4 hv go) := HQO.out.1 (by first | rfl | trivial)
      clear HQO
      have r2 : A2.cell? ⟨wr.heap.size, 2, none⟩ = some (.int .i64 x3) := KCA2.out 2 _ rfl
      obtain ⟨b3, o3, ai3, ci3, hsi, hbl3, q0, _⟩ := (HPS.out.below HBA2.out).i.at m hmj
      have k25 : A2.cell? ⟨w.heap.size + 1, 25, none⟩ = some (.slice (some ⟨b3, o3, none⟩) y.jn y.jc) := by
        have := (HKV.out.below HVA2.out).cell 25 (v := .slice y.ia y.jn y.jc) rfl
        rw [hsi] at this
        exact this
      by_cases et : x3 = p
      · have het : (x3 == p) = true := eqb_yes et
        obtain ⟨qi, hqi⟩ := told (IOk x1 x4 gi)
        have r0 : A2.cell? ⟨wr.heap.size, 0, none⟩ = some (.int .i64 x1) := KCA2.out 0 _ rfl
        have r1 : A2.cell? ⟨wr.heap.size, 1, none⟩ = some (.int .i64 x2) := KCA2.out 1 _ rfl
        have r3 : A2.cell? ⟨wr.heap.size, 3, none⟩ = some (.int .i64 x4) := KCA2.out 3 _ rfl
        rw [HGI.out] at q0
        have HCI : Hid (∀ X : Gr A2, Calls Tryz.prog 126 #[crw x1 x2 x3 x4, .agg #[.slice ai3 gi ci3]] X.w fun e w' => e = .returned (.bool qi) ∧ Below X.w.heap.size X.w w') := fun X => spec_inok x1 x2 x3 x4 ai3 gi ci3 qi X.w HCH.out hgi hqi
        have HQI : Hid (qi = true ↔ IOk x1 x4 gi) := hqi
        have HTE : Hid (x3 = p) := et
        clear hqi et
        go_wp2
        have R0 := fun X => gr_cell (W0 := A2) r0 X
        have R1 := fun X => gr_cell (W0 := A2) r1 X
        have R2 := fun X => gr_cell (W0 := A2) r2 X
        have R3 := fun X => gr_cell (W0 := A2) r3 X
        have K25 := fun X => gr_cell (W0 := A2) k25 X
        have Q0 := fun X => gr_cell (W0 := A2) q0 X
        have hgr := gr_some A2
        refine region_alike (by kernel_rfl) (by kernel_rfl) ?_
        repeat (go_big_quiet_step (first | (go_at_call 126; exact gr_call (HCI.out _))))
        refine wpQuiet_nil ?_
        intro _ hw'
        obtain ⟨X9, rfl⟩ := hw'
        have HV9 : Hid (Below V.heap.size V X9.w) := HVA2.out.trans (X9.h.mono HVA2.out.size)
        have HB9 : Hid (Below w.heap.size w X9.w) := HBA2.out.trans (X9.h.mono HBA2.out.size)
        generalize X9.w = W9 at HV9 HB9 ⊢
        clear hgr R0 R1 R2 R3 K25 Q0 r0 r1 r2 r3 k25 q0 HCI
        cases qi
        · have HT : Hid (q = false) := HNO.out (fun g => by have := HQI.out.2 (g.2.1 HTE.out); cases this)
          clear HNO HNX
          go_wp2
          go_ret
          exact ⟨ret_bool HT.out.symm, HB9.out⟩
        · have HT : Hid _ := HNX.out ⟨fun _ => HOO.out, fun g => absurd HFE.out g⟩ ⟨fun _ => HQI.out.1 (by first | rfl | trivial), fun g => absurd HTE.out g⟩
          clear HNO HNX
          go_wp2
          go_roundw
          case rel => exact ⟨m + 1, by omega, by go_num, HV9.out, HT.out⟩
          case measure => simp [intOf]; omega
      · have het : (x3 == p) = false := eqb_no et
        rw [HGI.out] at q0
        have HTE : Hid (¬ x3 = p) := et
        clear et
        by_cases eg : gi = 0
        · have heg : ((gi : Int) != 0) = false := neb_no (by omega)
          have HT : Hid _ := HNX.out ⟨fun _ => HOO.out, fun g => absurd HFE.out g⟩ ⟨fun g => absurd g HTE.out, fun _ => eg⟩
          clear HNO HNX
          go_wp2
          go_roundw
          case rel => exact ⟨m + 1, by omega, by go_num, HVA2.out, HT.out⟩
          case measure => simp [intOf]; omega
        · have heg : ((gi : Int) != 0) = true := neb_yes (by omega)
          have HT : Hid (q = false) := HNO.out (fun g => eg (g.2.2 HTE.out))
          clear HNO HNX
          go_wp2
          go_ret
          exact ⟨ret_bool HT.out.symm, HBA2.out⟩
    · have hef : (x2 == p) = false := eqb_no ef
      have HFE : Hid (¬ x2 = p) := ef
      clear ef
      by_cases eh : hv = 0
      rotate_left
      · have heh : (hv != 0) = true := neb_yes eh
        have HT : Hid (q = false) := HNO.out (fun g => eh (g.1.2 HFE.out).1)
        clear HNO HNX
        go_wp2
        go_ret
        exact ⟨ret_bool HT.out.symm, HBA1.out⟩
      have heh : (hv != 0) = false := neb_no eh
      by_cases eo : go = 0
      rotate_left
      · have heo : ((go : Int) != 0) = true := neb_yes (by omega)
        have HT : Hid (q = false) := HNO.out (fun g => eo (g.1.2 HFE.out).2)
        clear HNO HNX
        go_wp2
        go_ret
        exact ⟨ret_bool HT.out.symm, HBA1.out⟩
      have heo : ((go : Int) != 0) = false := neb_no (by omega)
      have HOZ : Hid (hv = 0 ∧ go = 0) := ⟨eh, eo⟩
      clear eh eo
      have r2 : (wr.alloc (.cells #[.int .i64 x1, .int .i64 x2, .int .i64 x3, .int .i64 x4] 198)).cell? ⟨wr.heap.size, 2, none⟩ = some (.int .i64 x3) := KCA1.out 2 _ rfl
      obtain ⟨b3, o3, ai3, ci3, hsi, hbl3, q0, _⟩ := (HPS.out.below HBA1.out).i.at m hmj
      have k25 : (wr.alloc (.cells #[.int .i64 x1, .int .i64 x2, .int .i64 x3, .int .i64 x4] 198)).cell? ⟨w.heap.size + 1, 25, none⟩ = some (.slice (some ⟨b3, o3, none⟩) y.jn y.jc) := by
        have := (HKV.out.below HVA1.out).cell 25 (v := .slice y.ia y.jn y.jc) rfl
        rw [hsi] at this
        exact this
      by_cases et : x3 = p
      · have het : (x3 == p) = true := eqb_yes et
        obtain ⟨qi, hqi⟩ := told (IOk x1 x4 gi)
        have r0 : (wr.alloc (.cells #[.int .i64 x1, .int .i64 x2, .int .i64 x3, .int .i64 x4] 198)).cell? ⟨wr.heap.size, 0, none⟩ = some (.int .i64 x1) := KCA1.out 0 _ rfl
        have r1 : (wr.alloc (.cells #[.int .i64 x1, .int .i64 x2, .int .i64 x3, .int .i64 x4] 198)).cell? ⟨wr.heap.size, 1, none⟩ = some (.int .i64 x2) := KCA1.out 1 _ rfl
        have r3 : (wr.alloc (.cells #[.int .i64 x1, .int .i64 x2, .int .i64 x3, .int .i64 x4] 198)).cell? ⟨wr.heap.size, 3, none⟩ = some (.int .i64 x4) := KCA1.out 3 _ rfl
        rw [HGI.out] at q0
        have HCI : Hid (∀ X : Gr (wr.alloc (.cells #[.int .i64 x1, .int .i64 x2, .int .i64 x3, .int .i64 x4] 198)), Calls Tryz.prog 126 #[crw x1 x2 x3 x4, .agg #[.slice ai3 gi ci3]] X.w fun e w' => e = .returned (.bool qi) ∧ Below X.w.heap.size X.w w') := fun X => spec_inok x1 x2 x3 x4 ai3 gi ci3 qi X.w HCH.out hgi hqi
        have HQI : Hid (qi = true ↔ IOk x1 x4 gi) := hqi
        have HTE : Hid (x3 = p) := et
        clear hqi et
        go_wp2
        have R0 := fun X => gr_cell (W0 := (wr.alloc (.cells #[.int .i64 x1, .int .i64 x2, .int .i64 x3, .int .i64 x4] 198))) r0 X
        have R1 := fun X => gr_cell (W0 := (wr.alloc (.cells #[.int .i64 x1, .int .i64 x2, .int .i64 x3, .int .i64 x4] 198))) r1 X
        have R2 := fun X => gr_cell (W0 := (wr.alloc (.cells #[.int .i64 x1, .int .i64 x2, .int .i64 x3, .int .i64 x4] 198))) r2 X
        have R3 := fun X => gr_cell (W0 := (wr.alloc (.cells #[.int .i64 x1, .int .i64 x2, .int .i64 x3, .int .i64 x4] 198))) r3 X
        have K25 := fun X => gr_cell (W0 := (wr.alloc (.cells #[.int .i64 x1, .int .i64 x2, .int .i64 x3, .int .i64 x4] 198))) k25 X
        have Q0 := fun X => gr_cell (W0 := (wr.alloc (.cells #[.int .i64 x1, .int .i64 x2, .int .i64 x3, .int .i64 x4] 198))) q0 X
        have hgr := gr_some (wr.alloc (.cells #[.int .i64 x1, .int .i64 x2, .int .i64 x3, .int .i64 x4] 198))
        refine region_alike (by kernel_rfl) (by kernel_rfl) ?_
        repeat (go_big_quiet_step (first | (go_at_call 126; exact gr_call (HCI.out _))))
        refine wpQuiet_nil ?_
        intro _ hw'
        obtain ⟨X9, rfl⟩ := hw'
        have HV9 : Hid (Below V.heap.size V X9.w) := HVA1.out.trans (X9.h.mono HVA1.out.size)
        have HB9 : Hid (Below w.heap.size w X9.w) := HBA1.out.trans (X9.h.mono HBA1.out.size)
        generalize X9.w = W9 at HV9 HB9 ⊢
        clear hgr R0 R1 R2 R3 K25 Q0 r0 r1 r2 r3 k25 q0 HCI
        cases qi
        · have HT : Hid (q = false) := HNO.out (fun g => by have := HQI.out.2 (g.2.1 HTE.out); cases this)
          clear HNO HNX
          go_wp2
          go_ret
          exact ⟨ret_bool HT.out.symm, HB9.out⟩
        · have HT : Hid _ := HNX.out ⟨fun g => absurd g HFE.out, fun _ => HOZ.out⟩ ⟨fun _ => HQI.out.1 (by first | rfl | trivial), fun g => absurd HTE.out g⟩
          clear HNO HNX
          go_wp2
          go_roundw
          case rel => exact ⟨m + 1, by omega, by go_num, HV9.out, HT.out⟩
          case measure => simp [intOf]; omega
      · have het : (x3 == p) = false := eqb_no et
        rw [HGI.out] at q0
        have HTE : Hid (¬ x3 = p) := et
        clear et
        by_cases eg : gi = 0
        · have heg : ((gi : Int) != 0) = false := neb_no (by omega)
          have HT : Hid _ := HNX.out ⟨fun g => absurd g HFE.out, fun _ => HOZ.out⟩ ⟨fun g => absurd g HTE.out, fun _ => eg⟩
          clear HNO HNX
          go_wp2
          go_roundw
          case rel => exact ⟨m + 1, by omega, by go_num, HVA1.out, HT.out⟩
          case measure => simp [intOf]; omega
        · have heg : ((gi : Int) != 0) = true := neb_yes (by omega)
          have HT : Hid (q = false) := HNO.out (fun g => eg (g.2.2 HTE.out))
          clear HNO HNX
          go_wp2
          go_ret
          exact ⟨ret_bool HT.out.symm, HBA1.out⟩
end Go.Proofs.YtknipnenipdgiaaGreatDoor
