
/-
  What the program's PrintScript returns: the lines of the commands, one behind the other, where each has one. Conditions: the lists lie in memory; the program's table of extras and the library's table of powers of ten hold what the texts lay.
-/
import Derived.Test.YtmnoghhdkdjnmaaGreatDoorBas
import Derived.Test.YtmnoghhdkdjnmaaGreatDoorScs
import Derived.Test.YtmnoghhdkdjnmaaGreatDoorItoa3
import Derived.Test.YtmnoghhdkdjnmaaGreatDoorBl2
import Derived.Test.YtmnoghhdkdjnmaaGreatDoorRl3
namespace Go.Proofs.YtmnoghhdkdjnmaaGreatDoor
open Go.ChangeShapes Go.WideShapes Go.ChangeAt Go.RowKit Go.Deep Go.Joins
set_option linter.unusedVariables false

/-- The library's table of powers of ten. -/
def LibP (w : World) : Prop := Lib.TabIs Tryz.prog w "internal/strconv.uint64pow10" .u64 Lib.pow10Tab
theorem LibP.below {w w' : World} (h : LibP w) (hb : Below w.heap.size w w') : LibP w' := by
  have gP : Tryz.prog.globalNamed "internal/strconv.uint64pow10" = some 1 := by kernel_rfl
  unfold LibP Lib.TabIs at *
  have hlt : 1 < w.heap.size := World.block_lt_of_cell? w _ (World.var?_cell gP h 0 |>.trans (by rfl))
  simp only [World.var?, gP, Option.bind_some] at h ⊢
  rw [hb.block 1 hlt]
  exact h
theorem bc_len (T : ByteArray) : (Lib.byteCells T.data.toList).length = T.size := by
  rw [Lib.byteCells_length]
  rfl
theorem cells_app (T L : ByteArray) : Lib.byteCells (T ++ L).data.toList = Lib.byteCells T.data.toList ++ Lib.strCells L := by
  rw [Lib.strCells_eq]
  simp [Lib.byteCells]
set_option maxRecDepth 40000 in
set_option maxHeartbeats 8000000 in
theorem impl_ps (t : Tb) (a : Ad) (ca : Option Addr) (cc n : Nat) (xs : List cmT) (s : ByteArray) (q : Bool) (w : World) (hm : TM 0 w t a) (hw : TW t a) (hs : TS a) (he : TabE w) (hcp : a.pn ≤ a.pc) (hlb : LibP w) (hc : GSeg 3 w ca n (cmX xs)) (hn : n ≤ 1048576) (hP : Sr.PS t n xs s q) :
    Calls Tryz.prog 10 #[tbV t a, .slice ca n cc] w fun e w' => e = .returned (.tuple #[.string s, .bool q]) ∧ Below w.heap.size w w' := by
  obtain ⟨qs, hqs⟩ := told (Sd t)
  have HB0 : Hid (Below w.heap.size w (w.alloc (.cells (tbA t a) 43))) := (Below.refl _ _).alloc (Nat.le_refl _) _
  have HX0 : Hid (TBx (w.alloc (.cells (tbA t a) 43)) w.heap.size t a) := TBx.new w t a _ rfl
  have HSP : Hid (Calls Tryz.prog 32 #[tbV t a] (w.alloc (.cells (tbA t a) 43)) fun e w' => e = .returned (.bool qs) ∧ Below (w.alloc (.cells (tbA t a) 43)).heap.size (w.alloc (.cells (tbA t a) 43)) w') := impl_sound t a qs _ (hm.below HB0.out) hw hs (he.below HB0.out) hcp hqs
  have HM : Hid (∀ X, Below w.heap.size w X → PSegL 0 X a.pa a.pn t.ps a.Y ∧ LibP X) := fun X hX => ⟨(hm.below hX).p, hlb.below hX⟩
  have HL : Hid (t.ps.length = a.pn) := hw.pl
  have hpn : a.pn ≤ 1048576 := hs.p
  have HQ : Hid (qs = true ↔ Sd t) := hqs
  have HPS : Hid (Sr.PS t n xs s q) := hP
  have HC : Hid (GSeg 3 w ca n (cmX xs)) := hc
  clear hm hw hs he hcp hlb hqs hP hc
  go_enter Tryz.func10, Tryz.ntmps10
  by_cases h300 : n ≤ 300
  rotate_left
  · have hgt : (300 : Int) < (n : Int) := by omega
    have HT2 : Hid (s = ⟨#[]⟩ ∧ q = false) := by
      rcases HPS.out with ⟨_, h⟩ | ⟨h, _⟩
      · exact h
      · exact absurd h.2 h300
    obtain ⟨rfl, rfl⟩ := HT2.out
    go_wp2
    go_ret2
    exact ⟨rfl, HB0.out⟩
  have hgt : ¬ ((300 : Int) < (n : Int)) := by omega
  go_wp2_with (first | (refine wpList_load_rowG rfl 43 (.tmp 2) rfl w.heap.size rfl 43 (tbA t a) (0, 0) _ HX0.out Tryz.underlying43 rfl (by kernel_rfl) ?_) | (refine wpList_load_row rfl 43 (.tmp 2) rfl w.heap.size rfl 43 (tbA t a) (0, 0) _ HX0.out Tryz.underlying43 rfl (by kernel_rfl) ?_) | fail)
  refine Calls.mono HSP.out ?_
  rintro e w1 ⟨rfl, hb1⟩
  have HB1 : Hid (Below w.heap.size w w1) := HB0.out.trans (hb1.mono HB0.out.size)
  have HX1 : Hid (TBx w1 w.heap.size t a) := HX0.out.below hb1
  clear hb1 HB0 HX0 HSP
  cases qs
  · have HT : Hid (s = ⟨#[]⟩ ∧ q = false) := by
      rcases HPS.out with ⟨_, h⟩ | ⟨h, _⟩
      · exact h
      · have := HQ.out.2 h.1
        cases this
    obtain ⟨rfl, rfl⟩ := HT.out
    go_wp2
    go_ret2
    exact ⟨rfl, HB1.out⟩
  have HT : Hid (Sd t) := HQ.out.1 rfl
  clear HQ
  have HR0 : Hid (s = (Sr.psL t xs n).getD ⟨#[]⟩ ∧ q = (Sr.psL t xs n).isSome) := by
    rcases HPS.out with ⟨h, _⟩ | ⟨_, h⟩
    · exact absurd ⟨HT.out, h300⟩ h
    · exact h
  have HZ : Hid (∀ i, i < t.ps.length → (t.ps.getD i pt0).nm.size ≤ 8) := fun i hi => ((bt_of t HT.out).p i hi).nm
  have HBU : Hid (Bu (w1.alloc (.cells #[.pointer none, .slice none 0 0] 81)) w1.heap.size (.slice none 0 0) (Lib.byteCells (⟨#[]⟩ : ByteArray).data.toList)) := Bu.new w1 _ rfl
  have HBB : Hid (Below w1.heap.size w1 (w1.alloc (.cells #[.pointer none, .slice none 0 0] 81))) := (Below.refl _ _).alloc (Nat.le_refl _) _
  have HN0 : Hid (w.heap.size ≤ w1.heap.size) := HB1.out.size
  clear HPS HT
  go_wp2
  go_loopw [21] (fun i wr => ∃ (j : Nat) (T : ByteArray) (v : Value), j ≤ n ∧ i = .int .i64 j ∧ T.size ≤ 81 * j ∧ Hid (Sr.psL t xs j = some T) ∧ Hid (Below w1.heap.size w1 wr) ∧ Hid (Bu wr w1.heap.size v (Lib.byteCells T.data.toList))) (fun i _ => n - (intOf i).toNat)
  case atStart => exact ⟨0, ⟨#[]⟩, _, by omega, rfl, by decide, rfl, HBB.out, HBU.out⟩
  case round =>
    clear HBB HBU
    obtain ⟨j, T, v, hj, rfl, hT, HPJ, HB2, HBU⟩ := hrel
    have HBW : Hid (Below w.heap.size w wr) := HB1.out.trans (HB2.out.mono HB1.out.size)
    by_cases hjn : j < n
    rotate_left
    · obtain rfl : j = n := by omega
      have hjn' : ¬ ((j : Int) < (j : Int)) := by omega
      have HE : Hid (s = T ∧ q = true) := by
        obtain ⟨h1, h2⟩ := HR0.out
        rw [HPJ.out] at h1 h2
        exact ⟨h1, h2⟩
      obtain ⟨rfl, rfl⟩ := HE.out
      go_wp2_with fail
      refine Calls.mono (Tryz.Builder_String_any w1.heap.size w1.heap.size _ wr HBU.out.is (Nat.le_of_lt HBU.out.lt)) ?_
      rintro e w9 ⟨rfl, hb9⟩
      have HB9 : Hid (Below w.heap.size w w9) := HBW.out.trans (hb9.mono HN0.out)
      clear hb9
      go_wp2
      go_ret2
      exact ⟨rfl, HB9.out⟩
    have hjn' : (j : Int) < (n : Int) := by omega
    obtain ⟨b1, o1, hca, hbl1, p1⟩ := HC.out.at j hjn
    replace p1 := p1.of (w' := wr) (fun i => HBW.out.cell (p := ⟨b1, i, none⟩) hbl1)
    simp only [cmX] at p1
    obtain ⟨x, HX⟩ : ∃ x, Hid (xs.getD j cm0 = x) := ⟨_, rfl⟩
    rw [HX.out] at p1
    have HYE : Hid (∀ l, Sr.lineV t x = some l → Sr.psL t xs (j + 1) = some (T ++ (l ++ Pn.nl)) ∧ l.size ≤ 80) := fun l h => ⟨Sr.psL_yes HPJ.out HX.out h, Sr.line_size HZ.out h⟩
    have HNO : Hid (Sr.lineV t x = none → s = ⟨#[]⟩ ∧ q = false) := fun h => by
      obtain ⟨h1, h2⟩ := HR0.out
      rw [Sr.psL_no HX.out h n hjn] at h1 h2
      exact ⟨h1, h2⟩
    obtain ⟨lo, HLO⟩ : ∃ lo, Hid (Sr.lineV t x = lo) := ⟨_, rfl⟩
    have HCL : Hid (∀ X, Below w.heap.size w X → Calls Tryz.prog 33 #[tbV t a, cmV x] X fun e w' => e = .returned (.tuple #[.string (lo.getD ⟨#[]⟩), .bool lo.isSome]) ∧ Below X.heap.size X w') := fun X hX =>
      cmd_line t a x lo X HLO.out (HM.out X hX).1 HL.out hpn (fun i hi => Nat.le_trans (HZ.out i (by rw [HL.out]; exact hi)) (by decide)) (fun z Y h1 h2 hY => impl_text z Y h1 h2 (HM.out Y (hX.trans (hY.mono hX.size))).2)
    rw [HLO.out] at HYE HNO
    obtain ⟨c0, c1, c2⟩ := cm_cells p1
    obtain ⟨x1, x2, x3⟩ := x
    simp only at c0 c1 c2
    simp only [cmV] at HCL
    have hba : Below wr.heap.size wr (wr.alloc (.cells #[.int .i64 x1, .int .i64 x2, .int .u32 x3] 62)) := (Below.refl _ _).alloc (Nat.le_refl _) _
    have HBA : Hid (Below w.heap.size w (wr.alloc (.cells #[.int .i64 x1, .int .i64 x2, .int .u32 x3] 62))) := HBW.out.trans (hba.mono HBW.out.size)
    have HB3 : Hid (Below w1.heap.size w1 (wr.alloc (.cells #[.int .i64 x1, .int .i64 x2, .int .u32 x3] 62))) := HB2.out.trans (hba.mono HB2.out.size)
    have HXA : Hid (TBx (wr.alloc (.cells #[.int .i64 x1, .int .i64 x2, .int .u32 x3] 62)) w.heap.size t a) := (HX1.out.below HB2.out).below hba
    have HUA : Hid (Bu (wr.alloc (.cells #[.int .i64 x1, .int .i64 x2, .int .u32 x3] 62)) w1.heap.size v (Lib.byteCells T.data.toList)) := HBU.out.below hba
    have HRA : Hid (CellsAt (wr.alloc (.cells #[.int .i64 x1, .int .i64 x2, .int .u32 x3] 62)) wr.heap.size 0 (cmL (x1, x2, x3))) := CellsAt.new wr (cmL (x1, x2, x3)) 62 _ rfl
    have e0 : (wr.alloc (.cells #[.int .i64 x1, .int .i64 x2, .int .u32 x3] 62)).cell? ⟨wr.heap.size, 0, none⟩ = some (.int .i64 x1) := cell0 HRA.out 0 rfl
    have e1 : (wr.alloc (.cells #[.int .i64 x1, .int .i64 x2, .int .u32 x3] 62)).cell? ⟨wr.heap.size, 1, none⟩ = some (.int .i64 x2) := cell0 HRA.out 1 rfl
    have e2 : (wr.alloc (.cells #[.int .i64 x1, .int .i64 x2, .int .u32 x3] 62)).cell? ⟨wr.heap.size, 2, none⟩ = some (.int .u32 x3) := cell0 HRA.out 2 rfl
    rw [hca]
    clear hba HRA p1 hbl1 hca HC HBU HB2 HPJ HLO HX HM
    go_wp2_with (first | (refine wpList_load_row rfl 43 (.tmp 2) rfl w.heap.size rfl 43 (tbA t a) (0, 0) _ HXA.out Tryz.underlying43 rfl (by kernel_rfl) ?_) | fail)
    refine Calls.mono (HCL.out _ HBA.out) ?_
    rintro e w4 ⟨rfl, hb4⟩
    have HB4 : Hid (Below w.heap.size w w4) := HBA.out.trans (hb4.mono HBA.out.size)
    have HB5 : Hid (Below w1.heap.size w1 w4) := HB3.out.trans (hb4.mono HB3.out.size)
    have HU4 : Hid (Bu w4 w1.heap.size v (Lib.byteCells T.data.toList)) := HUA.out.below hb4
    clear hb4 HBA HB3 HXA HUA e0 e1 e2 HCL
    cases lo with
    | none =>
      obtain ⟨hs1, hs2⟩ := HNO.out rfl
      subst hs1 hs2
      clear HYE HNO
      simp only [Option.getD_none, Option.isSome_none]
      go_wp2
      go_ret2
      exact ⟨rfl, HB4.out⟩
    | some l =>
      obtain ⟨hp1, hl80⟩ := HYE.out l rfl
      have HP1 : Hid (Sr.psL t xs (j + 1) = some (T ++ (l ++ Pn.nl))) := hp1
      have HSZ : Hid ((l ++ Pn.nl).size ≤ 81) := by show _ ≤ _; rw [ByteArray.size_append, Pn.nl_size]; omega
      have HWR : Hid (Calls Tryz.prog 34 #[.pointer (some ⟨w1.heap.size, 0, none⟩), .string (l ++ Pn.nl)] w4 fun e w' => e = .returned (.tuple #[.int .i64 (l ++ Pn.nl).size, .nilIface]) ∧ ∃ v', Bu w' w1.heap.size v' (Lib.byteCells (T ++ (l ++ Pn.nl)).data.toList) ∧ Below w1.heap.size w4 w') := (write_told w1.heap.size v _ (l ++ Pn.nl) w4 HU4.out (by rw [bc_len]; have := HSZ.out; omega)).mono fun e w' h => by
        obtain ⟨h1, v', h2, h3, _, _⟩ := h
        exact ⟨h1, v', by rw [cells_app]; exact h2, h3⟩
      clear hp1 HYE HNO HU4
      simp only [Option.getD_some, Option.isSome_some]
      go_wp2_with fail
      refine Calls.mono HWR.out ?_
      rintro e w5 ⟨rfl, v', hbu, hb6⟩
      have HB6 : Hid (Below w1.heap.size w1 w5) := HB5.out.trans hb6
      have HU6 : Hid (Bu w5 w1.heap.size v' (Lib.byteCells (T ++ (l ++ Pn.nl)).data.toList)) := hbu
      clear hb6 hbu HWR HB5 HB4
      go_wp2
      go_roundw
      case rel => exact ⟨j + 1, _, v', by omega, by go_num, by rw [ByteArray.size_append]; have := HSZ.out; omega, HP1.out, HB6.out, HU6.out⟩
      case measure => simp [intOf]; omega
end Go.Proofs.YtmnoghhdkdjnmaaGreatDoor
