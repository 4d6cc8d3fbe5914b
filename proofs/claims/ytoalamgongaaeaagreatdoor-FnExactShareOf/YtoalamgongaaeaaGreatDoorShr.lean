
/-
  The share of a partition: both sides, and the law, walked. Conditions: the lists lie in memory; the program's table of extras holds what the program's text lays.
-/
import Derived.Test.YtoalamgongaaeaaGreatDoorBas
import Derived.Test.YtoalamgongaaeaaGreatDoorLsw
namespace Go.Proofs.YtoalamgongaaeaaGreatDoor
open Go.ChangeShapes Go.WideShapes Go.ChangeAt Go.RowKit Go.Deep Go.Joins
set_option linter.unusedVariables false

/-- What soundness says of slots, in numbers. -/
theorem sd_slots {t : Tb} (h : Sd t) : (1 ≤ t.pad ∧ t.pad ≤ 5000) ∧ (1 ≤ t.grd ∧ t.grd ≤ 5000) ∧ (1 ≤ t.maj ∧ t.maj ≤ 5000) ∧ t.ss.length ≤ 16 ∧ ∀ i, i < t.ss.length → 0 ≤ freeN t.ss i ∧ freeN t.ss i ≤ (t.ss.getD i sl0).2.1 ∧ t.pad + t.grd < (t.ss.getD i sl0).2.2 ∧ (t.ss.getD i sl0).2.1 + (t.ss.getD i sl0).2.2 ≤ t.maj := by
  have h4 : 1 ≤ t.pad ∧ t.pad ≤ 5000 := h 4 (by omega)
  have h5 : 1 ≤ t.grd ∧ t.grd ≤ 5000 := h 5 (by omega)
  have h6 : 1 ≤ t.maj ∧ t.maj ≤ 5000 := h 6 (by omega)
  have h21 := h 21 (by omega)
  have h23 := h 23 (by omega)
  have h24 := h 24 (by omega)
  simp only [R] at h21 h23 h24
  have hf := free_pos (ss := t.ss) (n := t.ss.length) (fun i hi => ⟨(h24 i hi).1, by have := h23 i hi; omega⟩)
  exact ⟨h4, h5, h6, h21.2, fun i hi => ⟨hf i (by omega), (h24 i hi).1, h23 i hi, (h24 i hi).2⟩⟩
def shareN (t : Tb) (x : Int) : Nat → Int
  | 0 => 0
  | i + 1 => shareN t x i + (if (t.ss.getD i sl0).1 = x then (t.ss.getD i sl0).2.2 - (t.pad + t.grd) else 0)
theorem share_yes {t : Tb} {x : Int} {i : Nat} (h : (t.ss.getD i sl0).1 = x) : shareN t x (i + 1) = shareN t x i + ((t.ss.getD i sl0).2.2 - (t.pad + t.grd)) := by
  show _ + (if _ then _ else _) = _
  rw [if_pos h]
theorem share_no {t : Tb} {x : Int} {i : Nat} (h : ¬ (t.ss.getD i sl0).1 = x) : shareN t x (i + 1) = shareN t x i := by
  show _ + (if _ then _ else _) = _
  rw [if_neg h]
  omega
def SR (t : Tb) (x : Int) (r : Int) : Prop := (¬ Sd t ∧ r = 0) ∨ (Sd t ∧ r = shareN t x t.ss.length)
theorem SR.unique {t : Tb} {x r s : Int} (h : SR t x r) (g : SR t x s) : r = s := by
  rcases h with ⟨h, rfl⟩ | ⟨h, h1⟩ <;> rcases g with ⟨g, rfl⟩ | ⟨g, g1⟩
  · rfl
  · exact absurd g h
  · exact absurd h g
  · rw [h1, g1]
set_option maxRecDepth 40000 in
set_option maxHeartbeats 8000000 in
theorem spec_share0 (t : Tb) (pa da ca sa : Option Addr) (pn pc dn dc cn cc n sc : Nat) (Y : Nat → Rw) (x : Int) (w : World) (hm : TM 0 w t ⟨pa, pn, pc, da, dn, dc, ca, cn, cc, sa, n, sc, Y⟩) (hw : TW t ⟨pa, pn, pc, da, dn, dc, ca, cn, cc, sa, n, sc, Y⟩) (hs : TS ⟨pa, pn, pc, da, dn, dc, ca, cn, cc, sa, n, sc, Y⟩) :
    Calls Tryz.prog 49 #[.agg #[.int .i64 t.mem, .int .i64 t.s1, .int .i64 t.s2, .int .i64 t.s3, .int .i64 t.tlb, .int .i64 t.c1, .int .i64 t.c2, .int .i64 t.c3, .int .i64 t.c4, .int .i64 t.c5, .int .i64 t.c6, .int .i64 t.c7, .int .i64 t.pad, .int .i64 t.grd, .int .i64 t.maj, .slice pa pn pc, .slice da dn dc, .slice ca cn cc, .slice sa n sc], .int .i64 x] w fun e w' => (∃ r : Int, e = .returned (.int .i64 r) ∧ SR t x r) ∧ Below w.heap.size w w' := by
  obtain ⟨q, hq⟩ := told (Sd t)
  have HB0 : Hid (Below w.heap.size w (w.alloc (.cells #[.int .i64 t.mem, .int .i64 t.s1, .int .i64 t.s2, .int .i64 t.s3, .int .i64 t.tlb, .int .i64 t.c1, .int .i64 t.c2, .int .i64 t.c3, .int .i64 t.c4, .int .i64 t.c5, .int .i64 t.c6, .int .i64 t.c7, .int .i64 t.pad, .int .i64 t.grd, .int .i64 t.maj, .slice pa pn pc, .slice da dn dc, .slice ca cn cc, .slice sa n sc] 40))) := (Below.refl _ _).alloc (Nat.le_refl _) _
  have HX0 : Hid (TBx (w.alloc (.cells #[.int .i64 t.mem, .int .i64 t.s1, .int .i64 t.s2, .int .i64 t.s3, .int .i64 t.tlb, .int .i64 t.c1, .int .i64 t.c2, .int .i64 t.c3, .int .i64 t.c4, .int .i64 t.c5, .int .i64 t.c6, .int .i64 t.c7, .int .i64 t.pad, .int .i64 t.grd, .int .i64 t.maj, .slice pa pn pc, .slice da dn dc, .slice ca cn cc, .slice sa n sc] 40)) w.heap.size t ⟨pa, pn, pc, da, dn, dc, ca, cn, cc, sa, n, sc, Y⟩) := TBx.new w t ⟨pa, pn, pc, da, dn, dc, ca, cn, cc, sa, n, sc, Y⟩ _ rfl
  have HSP : Hid (Calls Tryz.prog 45 #[.agg #[.int .i64 t.mem, .int .i64 t.s1, .int .i64 t.s2, .int .i64 t.s3, .int .i64 t.tlb, .int .i64 t.c1, .int .i64 t.c2, .int .i64 t.c3, .int .i64 t.c4, .int .i64 t.c5, .int .i64 t.c6, .int .i64 t.c7, .int .i64 t.pad, .int .i64 t.grd, .int .i64 t.maj, .slice pa pn pc, .slice da dn dc, .slice ca cn cc, .slice sa n sc]] (w.alloc (.cells #[.int .i64 t.mem, .int .i64 t.s1, .int .i64 t.s2, .int .i64 t.s3, .int .i64 t.tlb, .int .i64 t.c1, .int .i64 t.c2, .int .i64 t.c3, .int .i64 t.c4, .int .i64 t.c5, .int .i64 t.c6, .int .i64 t.c7, .int .i64 t.pad, .int .i64 t.grd, .int .i64 t.maj, .slice pa pn pc, .slice da dn dc, .slice ca cn cc, .slice sa n sc] 40)) fun e w' => e = .returned (.bool q) ∧ Below (w.alloc (.cells #[.int .i64 t.mem, .int .i64 t.s1, .int .i64 t.s2, .int .i64 t.s3, .int .i64 t.tlb, .int .i64 t.c1, .int .i64 t.c2, .int .i64 t.c3, .int .i64 t.c4, .int .i64 t.c5, .int .i64 t.c6, .int .i64 t.c7, .int .i64 t.pad, .int .i64 t.grd, .int .i64 t.maj, .slice pa pn pc, .slice da dn dc, .slice ca cn cc, .slice sa n sc] 40)).heap.size (w.alloc (.cells #[.int .i64 t.mem, .int .i64 t.s1, .int .i64 t.s2, .int .i64 t.s3, .int .i64 t.tlb, .int .i64 t.c1, .int .i64 t.c2, .int .i64 t.c3, .int .i64 t.c4, .int .i64 t.c5, .int .i64 t.c6, .int .i64 t.c7, .int .i64 t.pad, .int .i64 t.grd, .int .i64 t.maj, .slice pa pn pc, .slice da dn dc, .slice ca cn cc, .slice sa n sc] 40)) w') := spec_sound t ⟨pa, pn, pc, da, dn, dc, ca, cn, cc, sa, n, sc, Y⟩ q _ (hm.below HB0.out) hw hs hq
  have HS : Hid (GSeg 3 w sa n (slX t.ss)) := hm.s.seg
  have HL : Hid (t.ss.length = n) := hw.sl
  have hn : n ≤ 1048576 := hs.s
  have HQ : Hid (q = true ↔ Sd t) := hq
  clear hm hw hs hq
  go_enter Tryz.func49, Tryz.ntmps49
  go_wp2_with (first | (refine wpList_load_row rfl 40 (.tmp 2) rfl w.heap.size rfl 40 #[.int .i64 t.mem, .int .i64 t.s1, .int .i64 t.s2, .int .i64 t.s3, .int .i64 t.tlb, .int .i64 t.c1, .int .i64 t.c2, .int .i64 t.c3, .int .i64 t.c4, .int .i64 t.c5, .int .i64 t.c6, .int .i64 t.c7, .int .i64 t.pad, .int .i64 t.grd, .int .i64 t.maj, .slice pa pn pc, .slice da dn dc, .slice ca cn cc, .slice sa n sc] (0, 0) _ HX0.out Tryz.underlying40 rfl (by kernel_rfl) ?_) | fail)
  refine Calls.mono HSP.out ?_
  rintro e w1 ⟨rfl, hb1⟩
  have HB1 : Hid (Below w.heap.size w w1) := HB0.out.trans (hb1.mono HB0.out.size)
  have HX1 : Hid (TBx w1 w.heap.size t ⟨pa, pn, pc, da, dn, dc, ca, cn, cc, sa, n, sc, Y⟩) := HX0.out.below hb1
  clear hb1 HB0 HX0 HSP
  cases q
  · have HT : Hid (¬ Sd t) := fun h => by have := HQ.out.2 h; cases this
    go_wp2
    go_ret
    exact ⟨⟨_, rfl, .inl ⟨HT.out, rfl⟩⟩, HB1.out⟩
  have HT : Hid (Sd t) := HQ.out.1 rfl
  clear HQ
  obtain ⟨⟨hp1, hp2⟩, ⟨hg1, hg2⟩, _, hn16, hlf⟩ := sd_slots HT.out
  rw [HL.out] at hn16 hlf
  have HLF : Hid (∀ i, i < n → t.pad + t.grd < (t.ss.getD i sl0).2.2 ∧ (t.ss.getD i sl0).2.2 ≤ 5000) := fun i hi => by
    have := hlf i hi
    have := (sd_slots HT.out).2.2.1
    omega
  clear hlf
  go_wp2
  go_loopw [5, 6] (fun v i wr => ∃ (m : Nat) (f : Int), m ≤ n ∧ 0 ≤ f ∧ f ≤ 5000 * m ∧ i = .int .i64 m ∧ v = .int .i64 f ∧ Hid (f = shareN t x m ∧ Below w1.heap.size w1 wr)) (fun _ i _ => n - (intOf i).toNat)
  case atStart => exact ⟨0, 0, by omega, by omega, by omega, rfl, rfl, rfl, Below.refl _ _⟩
  case round =>
    obtain ⟨m, f, hm, hf0, hf1, rfl, rfl, HR⟩ := hrel
    have k18 : wr.cell? ⟨w.heap.size, 18, none⟩ = some (.slice sa n sc) := (HX1.out.below HR.out.2).cell 18 rfl
    have k12 : wr.cell? ⟨w.heap.size, 12, none⟩ = some (.int .i64 t.pad) := (HX1.out.below HR.out.2).cell 12 rfl
    have k13 : wr.cell? ⟨w.heap.size, 13, none⟩ = some (.int .i64 t.grd) := (HX1.out.below HR.out.2).cell 13 rfl
    have HBR : Hid (Below w.heap.size w wr) := HB1.out.trans (HR.out.2.mono HB1.out.size)
    by_cases hmn : m < n
    rotate_left
    · obtain rfl : m = n := by omega
      have HF : Hid (SR t x f) := .inr ⟨HT.out, by rw [HL.out]; exact HR.out.1⟩
      go_wp2
      go_ret
      exact ⟨⟨_, rfl, HF.out⟩, HBR.out⟩
    have hmn' : (m : Int) < (n : Int) := by omega
    obtain ⟨b1, o1, rfl, hbl1, p1⟩ := HS.out.at m hmn
    replace p1 := p1.of (w' := wr) (fun j => HBR.out.cell (p := ⟨b1, j, none⟩) hbl1)
    have hlf := HLF.out m hmn
    have HY : Hid ((t.ss.getD m sl0).1 = x → f + ((t.ss.getD m sl0).2.2 - (t.pad + t.grd)) = shareN t x (m + 1)) := fun h => by rw [share_yes h, HR.out.1]
    have HNO : Hid (¬ (t.ss.getD m sl0).1 = x → f = shareN t x (m + 1)) := fun h => by rw [share_no h]; exact HR.out.1
    have HRB : Hid (Below w1.heap.size w1 wr) := HR.out.2
    simp only [slX] at p1
    generalize t.ss.getD m sl0 = y at p1 hlf HY HNO
    obtain ⟨c0, c1, c2⟩ := sl_cells p1
    obtain ⟨x1, x2, x3⟩ := y
    simp only at c0 c1 c2 hlf HY HNO
    obtain ⟨hl1, hl2⟩ := hlf
    clear p1 hbl1 HR
    by_cases hx : x1 = x
    · have HE : Hid (f + (x3 - (t.pad + t.grd)) = shareN t x (m + 1)) := HY.out hx
      subst hx
      have hw1 : IntKind.i64.wrap (f + x3) = f + x3 := by rw [IntKind.wrap_i64]; omega
      have hw2 : IntKind.i64.wrap (f + x3 - t.pad) = f + x3 - t.pad := by rw [IntKind.wrap_i64]; omega
      have hw3 : IntKind.i64.wrap (f + x3 - t.pad - t.grd) = f + x3 - t.pad - t.grd := by rw [IntKind.wrap_i64]; omega
      have G18 := fun X => gr_cell k18 X
      have G12 := fun X => gr_cell k12 X
      have G13 := fun X => gr_cell k13 X
      have G2 := fun X => gr_cell c2 X
      clear HY HNO
      go_wp2
      have hgr := gr_some wr
      refine region_alike (by kernel_rfl) (by kernel_rfl) ?_
      repeat (go_big_quiet_step (fail))
      refine wpQuiet_nil ?_
      intro _ hw'
      obtain ⟨X1, rfl⟩ := hw'
      have hb9 := X1.h
      generalize X1.w = W2 at hb9 ⊢
      have HRB2 : Hid (Below w1.heap.size w1 W2) := HRB.out.trans (hb9.mono HRB.out.size)
      obtain ⟨fe, HFE⟩ : ∃ fe, Hid (f + x3 - t.pad - t.grd = fe) := ⟨_, rfl⟩
      have HE2 : Hid (fe = shareN t x1 (m + 1)) := by show _ = _; rw [← HE.out, ← HFE.out]; omega
      have hfe0 : 0 ≤ fe := by have := HFE.out; omega
      have hfe1 : fe ≤ 5000 * ((m + 1 : Nat) : Int) := by have := HFE.out; omega
      rw [HFE.out] at hw3
      try rw [hw1]
      try rw [hw2]
      try rw [hw3]
      try rw [HFE.out]
      clear hb9 G18 G12 G13 G2 k18 k12 k13 c0 c1 c2 hw1 hw2 hw3 HFE HE
      go_wp2
      go_roundw
      case rel => exact ⟨m + 1, fe, by omega, hfe0, hfe1, by go_num, rfl, HE2.out, HRB2.out⟩
      case measure => simp [intOf]; omega
    · have HE2 : Hid (f = shareN t x (m + 1)) := HNO.out hx
      clear HY HNO
      go_wp2
      go_roundw
      case rel => exact ⟨m + 1, f, by omega, hf0, by omega, by go_num, rfl, HE2.out, HRB.out⟩
      case measure => simp [intOf]; omega
theorem spec_share (t : Tb) (a : Ad) (x : Int) (w : World) (hm : TM 0 w t a) (hw : TW t a) (hs : TS a) :
    Calls Tryz.prog 49 #[tbV t a, .int .i64 x] w fun e w' => (∃ r : Int, e = .returned (.int .i64 r) ∧ SR t x r) ∧ Below w.heap.size w w' :=
  spec_share0 t a.pa a.da a.ca a.sa a.pn a.pc a.dn a.dc a.cn a.cc a.sn a.sc a.Y x w hm hw hs
set_option maxRecDepth 40000 in
set_option maxHeartbeats 8000000 in
theorem impl_share0 (t : Tb) (pa da ca sa : Option Addr) (pn pc dn dc cn cc n sc : Nat) (Y : Nat → Rw) (x : Int) (w : World) (hm : TM 0 w t ⟨pa, pn, pc, da, dn, dc, ca, cn, cc, sa, n, sc, Y⟩) (hw : TW t ⟨pa, pn, pc, da, dn, dc, ca, cn, cc, sa, n, sc, Y⟩) (hs : TS ⟨pa, pn, pc, da, dn, dc, ca, cn, cc, sa, n, sc, Y⟩) (he : TabE w) (hcp : pn ≤ pc) :
    Calls Tryz.prog 50 #[.agg #[.int .i64 t.mem, .int .i64 t.s1, .int .i64 t.s2, .int .i64 t.s3, .int .i64 t.tlb, .int .i64 t.c1, .int .i64 t.c2, .int .i64 t.c3, .int .i64 t.c4, .int .i64 t.c5, .int .i64 t.c6, .int .i64 t.c7, .int .i64 t.pad, .int .i64 t.grd, .int .i64 t.maj, .slice pa pn pc, .slice da dn dc, .slice ca cn cc, .slice sa n sc], .int .i64 x] w fun e w' => (∃ r : Int, e = .returned (.int .i64 r) ∧ SR t x r) ∧ Below w.heap.size w w' := by
  obtain ⟨q, hq⟩ := told (Sd t)
  have HB0 : Hid (Below w.heap.size w (w.alloc (.cells #[.int .i64 t.mem, .int .i64 t.s1, .int .i64 t.s2, .int .i64 t.s3, .int .i64 t.tlb, .int .i64 t.c1, .int .i64 t.c2, .int .i64 t.c3, .int .i64 t.c4, .int .i64 t.c5, .int .i64 t.c6, .int .i64 t.c7, .int .i64 t.pad, .int .i64 t.grd, .int .i64 t.maj, .slice pa pn pc, .slice da dn dc, .slice ca cn cc, .slice sa n sc] 40))) := (Below.refl _ _).alloc (Nat.le_refl _) _
  have HX0 : Hid (TBx (w.alloc (.cells #[.int .i64 t.mem, .int .i64 t.s1, .int .i64 t.s2, .int .i64 t.s3, .int .i64 t.tlb, .int .i64 t.c1, .int .i64 t.c2, .int .i64 t.c3, .int .i64 t.c4, .int .i64 t.c5, .int .i64 t.c6, .int .i64 t.c7, .int .i64 t.pad, .int .i64 t.grd, .int .i64 t.maj, .slice pa pn pc, .slice da dn dc, .slice ca cn cc, .slice sa n sc] 40)) w.heap.size t ⟨pa, pn, pc, da, dn, dc, ca, cn, cc, sa, n, sc, Y⟩) := TBx.new w t ⟨pa, pn, pc, da, dn, dc, ca, cn, cc, sa, n, sc, Y⟩ _ rfl
  have HSP : Hid (Calls Tryz.prog 46 #[.agg #[.int .i64 t.mem, .int .i64 t.s1, .int .i64 t.s2, .int .i64 t.s3, .int .i64 t.tlb, .int .i64 t.c1, .int .i64 t.c2, .int .i64 t.c3, .int .i64 t.c4, .int .i64 t.c5, .int .i64 t.c6, .int .i64 t.c7, .int .i64 t.pad, .int .i64 t.grd, .int .i64 t.maj, .slice pa pn pc, .slice da dn dc, .slice ca cn cc, .slice sa n sc]] (w.alloc (.cells #[.int .i64 t.mem, .int .i64 t.s1, .int .i64 t.s2, .int .i64 t.s3, .int .i64 t.tlb, .int .i64 t.c1, .int .i64 t.c2, .int .i64 t.c3, .int .i64 t.c4, .int .i64 t.c5, .int .i64 t.c6, .int .i64 t.c7, .int .i64 t.pad, .int .i64 t.grd, .int .i64 t.maj, .slice pa pn pc, .slice da dn dc, .slice ca cn cc, .slice sa n sc] 40)) fun e w' => e = .returned (.bool q) ∧ Below (w.alloc (.cells #[.int .i64 t.mem, .int .i64 t.s1, .int .i64 t.s2, .int .i64 t.s3, .int .i64 t.tlb, .int .i64 t.c1, .int .i64 t.c2, .int .i64 t.c3, .int .i64 t.c4, .int .i64 t.c5, .int .i64 t.c6, .int .i64 t.c7, .int .i64 t.pad, .int .i64 t.grd, .int .i64 t.maj, .slice pa pn pc, .slice da dn dc, .slice ca cn cc, .slice sa n sc] 40)).heap.size (w.alloc (.cells #[.int .i64 t.mem, .int .i64 t.s1, .int .i64 t.s2, .int .i64 t.s3, .int .i64 t.tlb, .int .i64 t.c1, .int .i64 t.c2, .int .i64 t.c3, .int .i64 t.c4, .int .i64 t.c5, .int .i64 t.c6, .int .i64 t.c7, .int .i64 t.pad, .int .i64 t.grd, .int .i64 t.maj, .slice pa pn pc, .slice da dn dc, .slice ca cn cc, .slice sa n sc] 40)) w') := impl_sound t ⟨pa, pn, pc, da, dn, dc, ca, cn, cc, sa, n, sc, Y⟩ q _ (hm.below HB0.out) hw hs (he.below HB0.out) hcp hq
  have HS : Hid (GSeg 3 w sa n (slX t.ss)) := hm.s.seg
  have HL : Hid (t.ss.length = n) := hw.sl
  have hn : n ≤ 1048576 := hs.s
  have HQ : Hid (q = true ↔ Sd t) := hq
  clear hm hw hs hq he hcp
  go_enter Tryz.func50, Tryz.ntmps50
  go_wp2_with (first | (refine wpList_load_row rfl 40 (.tmp 2) rfl w.heap.size rfl 40 #[.int .i64 t.mem, .int .i64 t.s1, .int .i64 t.s2, .int .i64 t.s3, .int .i64 t.tlb, .int .i64 t.c1, .int .i64 t.c2, .int .i64 t.c3, .int .i64 t.c4, .int .i64 t.c5, .int .i64 t.c6, .int .i64 t.c7, .int .i64 t.pad, .int .i64 t.grd, .int .i64 t.maj, .slice pa pn pc, .slice da dn dc, .slice ca cn cc, .slice sa n sc] (0, 0) _ HX0.out Tryz.underlying40 rfl (by kernel_rfl) ?_) | fail)
  refine Calls.mono HSP.out ?_
  rintro e w1 ⟨rfl, hb1⟩
  have HB1 : Hid (Below w.heap.size w w1) := HB0.out.trans (hb1.mono HB0.out.size)
  have HX1 : Hid (TBx w1 w.heap.size t ⟨pa, pn, pc, da, dn, dc, ca, cn, cc, sa, n, sc, Y⟩) := HX0.out.below hb1
  clear hb1 HB0 HX0 HSP
  cases q
  · have HT : Hid (¬ Sd t) := fun h => by have := HQ.out.2 h; cases this
    go_wp2
    go_ret
    exact ⟨⟨_, rfl, .inl ⟨HT.out, rfl⟩⟩, HB1.out⟩
  have HT : Hid (Sd t) := HQ.out.1 rfl
  clear HQ
  obtain ⟨⟨hp1, hp2⟩, ⟨hg1, hg2⟩, _, hn16, hlf⟩ := sd_slots HT.out
  rw [HL.out] at hn16 hlf
  have HLF : Hid (∀ i, i < n → t.pad + t.grd < (t.ss.getD i sl0).2.2 ∧ (t.ss.getD i sl0).2.2 ≤ 5000) := fun i hi => by
    have := hlf i hi
    have := (sd_slots HT.out).2.2.1
    omega
  clear hlf
  obtain ⟨v, HV⟩ : ∃ v, Hid (t.pad + t.grd = v) := ⟨_, rfl⟩
  have HLO : Hid (∀ Z, Calls Tryz.prog 94 #[.agg #[.int .i64 t.mem, .int .i64 t.s1, .int .i64 t.s2, .int .i64 t.s3, .int .i64 t.tlb, .int .i64 t.c1, .int .i64 t.c2, .int .i64 t.c3, .int .i64 t.c4, .int .i64 t.c5, .int .i64 t.c6, .int .i64 t.c7, .int .i64 t.pad, .int .i64 t.grd, .int .i64 t.maj, .slice pa pn pc, .slice da dn dc, .slice ca cn cc, .slice sa n sc]] Z fun e w' => e = .returned (.int .i64 v) ∧ Below Z.heap.size Z w') := fun Z => by rw [← HV.out]; exact lost_any t ⟨pa, pn, pc, da, dn, dc, ca, cn, cc, sa, n, sc, Y⟩ Z ⟨hp1, hp2⟩ ⟨hg1, hg2⟩
  have k18 : w1.cell? ⟨w.heap.size, 18, none⟩ = some (.slice sa n sc) := HX1.out.cell 18 rfl
  go_wp2
  clear k18
  go_loopw [5, 14] (fun v i wr => ∃ (m : Nat) (f : Int), m ≤ n ∧ 0 ≤ f ∧ f ≤ 5000 * m ∧ i = .int .i64 m ∧ v = .int .i64 f ∧ Hid (f = shareN t x m ∧ Below w1.heap.size w1 wr)) (fun _ i _ => n - (intOf i).toNat)
  case atStart => exact ⟨0, 0, by omega, by omega, by omega, rfl, rfl, rfl, Below.refl _ _⟩
  case round =>
    obtain ⟨m, f, hm, hf0, hf1, rfl, rfl, HR⟩ := hrel
    have HBR : Hid (Below w.heap.size w wr) := HB1.out.trans (HR.out.2.mono HB1.out.size)
    by_cases hmn : m < n
    rotate_left
    · obtain rfl : m = n := by omega
      have HF : Hid (SR t x f) := .inr ⟨HT.out, by rw [HL.out]; exact HR.out.1⟩
      go_wp2
      go_ret
      exact ⟨⟨_, rfl, HF.out⟩, HBR.out⟩
    have hmn' : (m : Int) < (n : Int) := by omega
    obtain ⟨b1, o1, rfl, hbl1, p1⟩ := HS.out.at m hmn
    replace p1 := p1.of (w' := wr) (fun j => HBR.out.cell (p := ⟨b1, j, none⟩) hbl1)
    have hlf := HLF.out m hmn
    have HY : Hid ((t.ss.getD m sl0).1 = x → f + ((t.ss.getD m sl0).2.2 - (t.pad + t.grd)) = shareN t x (m + 1)) := fun h => by rw [share_yes h, HR.out.1]
    have HNO : Hid (¬ (t.ss.getD m sl0).1 = x → f = shareN t x (m + 1)) := fun h => by rw [share_no h]; exact HR.out.1
    have HRB : Hid (Below w1.heap.size w1 wr) := HR.out.2
    simp only [slX] at p1
    generalize t.ss.getD m sl0 = y at p1 hlf HY HNO
    obtain ⟨c0, c1, c2⟩ := sl_cells p1
    obtain ⟨x1, x2, x3⟩ := y
    simp only at c0 c1 c2 hlf HY HNO
    obtain ⟨hl1, hl2⟩ := hlf
    rw [HV.out] at hl1 HY
    have hal : Below wr.heap.size wr (wr.alloc (.cells #[.int .i64 x1, .int .i64 x2, .int .i64 x3] 77)) := (Below.refl _ _).alloc (Nat.le_refl _) _
    have HRV : Hid (Below w1.heap.size w1 (wr.alloc (.cells #[.int .i64 x1, .int .i64 x2, .int .i64 x3] 77))) := HRB.out.trans (hal.mono HRB.out.size)
    have HE3 : Hid ((wr.alloc (.cells #[.int .i64 x1, .int .i64 x2, .int .i64 x3] 77)).cell? ⟨wr.heap.size, 2, none⟩ = some (.int .i64 x3)) := cell0 (CellsAt.new wr [.int .i64 x1, .int .i64 x2, .int .i64 x3] 77 _ rfl) 2 rfl
    clear p1 hbl1 HR hal
    by_cases hx : x1 = x
    · have HE : Hid (f + (x3 - v) = shareN t x (m + 1)) := HY.out hx
      subst hx
      have hv := HV.out
      have hw1 : IntKind.i64.wrap (x3 - v) = x3 - v := by rw [IntKind.wrap_i64]; omega
      have hw2 : IntKind.i64.wrap (f + (x3 - v)) = f + (x3 - v) := by rw [IntKind.wrap_i64]; omega
      clear HY HNO hv
      go_wp2
      revert HRV HE3
      generalize (wr.alloc (.cells #[.int .i64 x1, .int .i64 x2, .int .i64 x3] 77)) = V
      intro HRV HE3
      have G2 := fun X => gr_cell HE3.out X
      have HXX : Hid (∀ w', (∃ X : Gr V, w' = X.w) → w'.heap[w.heap.size]? = some (.cells #[.int .i64 t.mem, .int .i64 t.s1, .int .i64 t.s2, .int .i64 t.s3, .int .i64 t.tlb, .int .i64 t.c1, .int .i64 t.c2, .int .i64 t.c3, .int .i64 t.c4, .int .i64 t.c5, .int .i64 t.c6, .int .i64 t.c7, .int .i64 t.pad, .int .i64 t.grd, .int .i64 t.maj, .slice pa pn pc, .slice da dn dc, .slice ca cn cc, .slice (some ⟨b1, o1, none⟩) n sc] 40 (0, 0))) := fun w' hX => by
        obtain ⟨X, rfl⟩ := hX
        exact (HX1.out.below HRV.out).below X.h
      have hgr := gr_some V
      refine region_alike (by kernel_rfl) (by kernel_rfl) ?_
      repeat (first | (refine wpQuiet_load_row rfl 40 (.tmp 2) rfl w.heap.size rfl 40 #[.int .i64 t.mem, .int .i64 t.s1, .int .i64 t.s2, .int .i64 t.s3, .int .i64 t.tlb, .int .i64 t.c1, .int .i64 t.c2, .int .i64 t.c3, .int .i64 t.c4, .int .i64 t.c5, .int .i64 t.c6, .int .i64 t.c7, .int .i64 t.pad, .int .i64 t.grd, .int .i64 t.maj, .slice pa pn pc, .slice da dn dc, .slice ca cn cc, .slice (some ⟨b1, o1, none⟩) n sc] (0, 0) _ HXX.out Tryz.underlying40 rfl (by kernel_rfl) ?_; simp only [Act.put, List.setIfInBounds_toArray, List.set_cons_zero, List.set_cons_succ]) | go_big_quiet_step (first | (go_at_call 94; exact gr_call (HLO.out _))))
      refine wpQuiet_nil ?_
      intro _ hw'
      obtain ⟨X1, rfl⟩ := hw'
      have hb9 := X1.h
      generalize X1.w = W2 at hb9 ⊢
      have HRB2 : Hid (Below w1.heap.size w1 W2) := HRV.out.trans (hb9.mono HRV.out.size)
      obtain ⟨fe, HFE⟩ : ∃ fe, Hid (f + (x3 - v) = fe) := ⟨_, rfl⟩
      have HE2 : Hid (fe = shareN t x1 (m + 1)) := HFE.out.symm.trans HE.out
      have hv := HV.out
      have hfe0 : 0 ≤ fe := by have := HFE.out; omega
      have hfe1 : fe ≤ 5000 * ((m + 1 : Nat) : Int) := by have := HFE.out; omega
      try rw [hw1]
      try rw [hw2]
      try rw [HFE.out]
      clear hb9 G2 c0 c1 c2 hw1 hw2 HFE HE hv HXX HE3 hgr HRV
      go_wp2
      go_roundw
      case rel => exact ⟨m + 1, fe, by omega, hfe0, hfe1, by go_num, rfl, HE2.out, HRB2.out⟩
      case measure => simp [intOf]; omega
    · have HE2 : Hid (f = shareN t x (m + 1)) := HNO.out hx
      clear HY HNO
      go_wp2
      go_roundw
      case rel => exact ⟨m + 1, f, by omega, hf0, by omega, by go_num, rfl, HE2.out, HRV.out⟩
      case measure => simp [intOf]; omega
theorem impl_share (t : Tb) (a : Ad) (x : Int) (w : World) (hm : TM 0 w t a) (hw : TW t a) (hs : TS a) (he : TabE w) (hcp : a.pn ≤ a.pc) :
    Calls Tryz.prog 50 #[tbV t a, .int .i64 x] w fun e w' => (∃ r : Int, e = .returned (.int .i64 r) ∧ SR t x r) ∧ Below w.heap.size w w' :=
  impl_share0 t a.pa a.da a.ca a.sa a.pn a.pc a.dn a.dc a.cn a.cc a.sn a.sc a.Y x w hm hw hs he hcp
set_option maxRecDepth 40000 in
set_option maxHeartbeats 8000000 in
theorem walk_shareof (t : Tb) (a : Ad) (x : Int) (w : World) (hm : TM 0 w t a) (hw : TW t a) (he : TabE w) : Calls Tryz.prog 15 #[tbV t a, .int .i64 x] w fun e w' => e = .returned (.bool true) ∧ Below w.heap.size w w' := by
  have HU : Hid (∀ X, Below w.heap.size w X → TM 0 X t a ∧ TabE X) := fun X hX => ⟨hm.below hX, he.below hX⟩
  have HW : Hid (TW t a) := hw
  have HB0 : Hid (Below w.heap.size w (w.alloc (.cells (tbA t a) 31))) := (Below.refl _ _).alloc (Nat.le_refl _) _
  have HX0 : Hid ((w.alloc (.cells (tbA t a) 31)).heap[w.heap.size]? = some (.cells (tbA t a) 31 (0, 0))) := new_row w _ _ _ rfl
  clear hm hw he
  go_enter Tryz.func15, Tryz.ntmps15
  go_wp2_with (first | (refine wpList_load_row rfl 31 (.tmp 2) rfl w.heap.size rfl 31 (tbA t a) (0, 0) _ HX0.out Tryz.underlying31 rfl (by kernel_rfl) ?_) | fail)
  refine Calls.mono (sz_tab t a _ (HU.out _ HB0.out).1 HW.out) ?_
  rintro e w1 ⟨⟨r, rfl, hr⟩, hb1⟩
  have HB1 : Hid (Below w.heap.size w w1) := HB0.out.trans (hb1.mono HB0.out.size)
  have HX1 : Hid (w1.heap[w.heap.size]? = some (.cells (tbA t a) 31 (0, 0))) := row_below HX0.out hb1
  clear hb1 HB0 HX0
  rcases hr with rfl | ⟨h0, hs⟩
  · go_wp2
    go_ret
    exact ⟨rfl, HB1.out⟩
  have HS : Hid (TS a) := hs
  clear hs
  have hr0 : ¬ (r < 0) := by omega
  go_wp2_with (first | (refine wpList_load_row rfl 31 (.tmp 2) rfl w.heap.size rfl 31 (tbA t a) (0, 0) _ HX1.out Tryz.underlying31 rfl (by kernel_rfl) ?_) | fail)
  refine Calls.mono (copy_tab t a _ (HU.out _ HB1.out).1 HW.out HS.out) ?_
  rintro e w2 ⟨a2, rfl, hb2, hc2⟩
  have HB2 : Hid (Below w.heap.size w w2) := HB1.out.trans (hb2.mono HB1.out.size)
  have HX2 : Hid (w2.heap[w.heap.size]? = some (.cells (tbA t a) 31 (0, 0))) := row_below HX1.out hb2
  have HC2 : Hid (Cpy w2 t a a2) := hc2
  clear hb2 hc2 HB1 HX1
  go_wp2_with fail
  refine Calls.mono (spec_share t a2 x _ HC2.out.m HC2.out.w HC2.out.s) ?_
  rintro e w3 ⟨⟨R1, rfl, hR1⟩, hb3⟩
  have HB3 : Hid (Below w.heap.size w w3) := HB2.out.trans (hb3.mono HB2.out.size)
  have HX3 : Hid (w3.heap[w.heap.size]? = some (.cells (tbA t a) 31 (0, 0))) := row_below HX2.out hb3
  have HR1 : Hid (SR t x R1) := hR1
  clear hb3 HB2 HX2 HC2 hR1
  go_wp2_with (first | (refine wpList_load_row rfl 31 (.tmp 2) rfl w.heap.size rfl 31 (tbA t a) (0, 0) _ HX3.out Tryz.underlying31 rfl (by kernel_rfl) ?_) | fail)
  refine Calls.mono (copy_tab t a _ (HU.out _ HB3.out).1 HW.out HS.out) ?_
  rintro e w4 ⟨a4, rfl, hb4, hc4⟩
  have HB4 : Hid (Below w.heap.size w w4) := HB3.out.trans (hb4.mono HB3.out.size)
  have HX4 : Hid (w4.heap[w.heap.size]? = some (.cells (tbA t a) 31 (0, 0))) := row_below HX3.out hb4
  have HC4 : Hid (Cpy w4 t a a4) := hc4
  clear hb4 hc4 HB3 HX3
  have HN : Hid ((w4.alloc (.cells #[.int .i64 0, .int .i64 0, .int .i64 0, .int .i64 0, .int .i64 0, .int .i64 0, .int .i64 0, .int .i64 0, .int .i64 0, .int .i64 0, .int .i64 0, .int .i64 0, .int .i64 0, .int .i64 0, .int .i64 0, .slice none 0 0, .slice none 0 0, .slice none 0 0, .slice none 0 0] 40)).heap[w4.heap.size]? = some (.cells #[.int .i64 0, .int .i64 0, .int .i64 0, .int .i64 0, .int .i64 0, .int .i64 0, .int .i64 0, .int .i64 0, .int .i64 0, .int .i64 0, .int .i64 0, .int .i64 0, .int .i64 0, .int .i64 0, .int .i64 0, .slice none 0 0, .slice none 0 0, .slice none 0 0, .slice none 0 0] 40 (0, 0))) := new_row w4 _ _ _ rfl
  have hbV : Below w4.heap.size w4 ((w4.alloc (.cells #[.int .i64 0, .int .i64 0, .int .i64 0, .int .i64 0, .int .i64 0, .int .i64 0, .int .i64 0, .int .i64 0, .int .i64 0, .int .i64 0, .int .i64 0, .int .i64 0, .int .i64 0, .int .i64 0, .int .i64 0, .slice none 0 0, .slice none 0 0, .slice none 0 0, .slice none 0 0] 40)).setRow w4.heap.size (tbA t a4)) := below_setRow ((Below.refl _ _).alloc (Nat.le_refl _) _) (Nat.le_refl _) _
  have HXB : Hid (((w4.alloc (.cells #[.int .i64 0, .int .i64 0, .int .i64 0, .int .i64 0, .int .i64 0, .int .i64 0, .int .i64 0, .int .i64 0, .int .i64 0, .int .i64 0, .int .i64 0, .int .i64 0, .int .i64 0, .int .i64 0, .int .i64 0, .slice none 0 0, .slice none 0 0, .slice none 0 0, .slice none 0 0] 40)).setRow w4.heap.size (tbA t a4)).heap[w4.heap.size]? = some (.cells (tbA t a4) 40 (0, 0))) := setRow_heap _ _ _ _ _ _ HN.out
  have HBV : Hid (Below w.heap.size w ((w4.alloc (.cells #[.int .i64 0, .int .i64 0, .int .i64 0, .int .i64 0, .int .i64 0, .int .i64 0, .int .i64 0, .int .i64 0, .int .i64 0, .int .i64 0, .int .i64 0, .int .i64 0, .int .i64 0, .int .i64 0, .int .i64 0, .slice none 0 0, .slice none 0 0, .slice none 0 0, .slice none 0 0] 40)).setRow w4.heap.size (tbA t a4))) := HB4.out.trans (hbV.mono HB4.out.size)
  have HXV : Hid (((w4.alloc (.cells #[.int .i64 0, .int .i64 0, .int .i64 0, .int .i64 0, .int .i64 0, .int .i64 0, .int .i64 0, .int .i64 0, .int .i64 0, .int .i64 0, .int .i64 0, .int .i64 0, .int .i64 0, .int .i64 0, .int .i64 0, .slice none 0 0, .slice none 0 0, .slice none 0 0, .slice none 0 0] 40)).setRow w4.heap.size (tbA t a4)).heap[w.heap.size]? = some (.cells (tbA t a) 31 (0, 0))) := row_below HX4.out hbV
  have HCV : Hid (Cpy ((w4.alloc (.cells #[.int .i64 0, .int .i64 0, .int .i64 0, .int .i64 0, .int .i64 0, .int .i64 0, .int .i64 0, .int .i64 0, .int .i64 0, .int .i64 0, .int .i64 0, .int .i64 0, .int .i64 0, .int .i64 0, .int .i64 0, .slice none 0 0, .slice none 0 0, .slice none 0 0, .slice none 0 0] 40)).setRow w4.heap.size (tbA t a4)) t a a4) := HC4.out.below hbV
  clear hbV HB4 HX4 HC4
  go_wp2_with (first | (refine wpList_store_row rfl 40 (.tmp 7) (.tmp 19) rfl w4.heap.size (tbA t a4) rfl rfl 40 #[.int .i64 0, .int .i64 0, .int .i64 0, .int .i64 0, .int .i64 0, .int .i64 0, .int .i64 0, .int .i64 0, .int .i64 0, .int .i64 0, .int .i64 0, .int .i64 0, .int .i64 0, .int .i64 0, .int .i64 0, .slice none 0 0, .slice none 0 0, .slice none 0 0, .slice none 0 0] HN.out (by kernel_rfl) rfl (by simp [Value.oneCell']) ?_) | (refine wpList_load_row rfl 40 (.tmp 7) rfl w4.heap.size rfl 40 (tbA t a4) (0, 0) _ HXB.out Tryz.underlying40 rfl (by kernel_rfl) ?_) | fail)
  clear HN
  revert HXB HBV HXV HCV
  generalize (w4.alloc (.cells #[.int .i64 0, .int .i64 0, .int .i64 0, .int .i64 0, .int .i64 0, .int .i64 0, .int .i64 0, .int .i64 0, .int .i64 0, .int .i64 0, .int .i64 0, .int .i64 0, .int .i64 0, .int .i64 0, .int .i64 0, .slice none 0 0, .slice none 0 0, .slice none 0 0, .slice none 0 0] 40)).setRow w4.heap.size (tbA t a4) = V
  intro HXB HBV HXV HCV
  obtain ⟨N, hN⟩ : ∃ N, w4.heap.size = N := ⟨_, rfl⟩
  rw [hN] at HXB
  rw [hN]
  clear hN
  refine Calls.mono (impl_share t a4 x _ HCV.out.m HCV.out.w HCV.out.s (HU.out _ HBV.out).2 HCV.out.c) ?_
  rintro e w5 ⟨⟨R2, rfl, hR2⟩, hb5⟩
  obtain rfl : R1 = R2 := SR.unique HR1.out hR2
  have HB5 : Hid (Below w.heap.size w w5) := HBV.out.trans (hb5.mono HBV.out.size)
  have HX5 : Hid (∀ X, Below w5.heap.size w5 X → X.heap[w.heap.size]? = some (.cells (tbA t a) 31 (0, 0))) := fun X hX => row_below (row_below HXV.out hb5) hX
  have HY5 : Hid (∀ X, Below w5.heap.size w5 X → X.heap[N]? = some (.cells (tbA t a4) 40 (0, 0))) := fun X hX => row_below (row_below HXB.out hb5) hX
  have HC5 : Hid (∀ X, Below w5.heap.size w5 X → Cpy X t a a4) := fun X hX => (HCV.out.below hb5).below hX
  clear hb5 HBV HXV HXB HCV HR1 hR2
  go_wp2
  refine wp_region_inv (by kernel_rfl) (by kernel_rfl) (fun A ℓ a' w' => ∃ (x26 x27 x28 x29 x30 : Value), a' = (((((A.put (some 26) x26).put (some 27) x27).put (some 28) x28).put (some 29) x29).put (some 30) x30) ∧ TI t a a4 w5 w' (ℓ 0) (ℓ 1) (ℓ 2) (ℓ 3) (ℓ 4) x26 x27 x28 x29 x30) ?_ ?_ ?_ ?_
  · exact ⟨undef, undef, undef, undef, undef, (by simp only [Act.put, List.setIfInBounds_toArray, List.set_cons_zero, List.set_cons_succ]), ⟨(Below.refl _ _).drew, (fun g => by cases g), (fun g => by cases g), (fun g => by cases g), (fun g => by cases g), (fun g => by cases g)⟩⟩
  · intro ℓ a' w' hI hall
    obtain ⟨x26, x27, x28, x29, x30, rfl, hr⟩ := hI
    have hall' : ∀ i, i < 5 → ℓ i = true := hall
    obtain rfl := hr.f4 (hall' 4 (by omega))
    have HE : Hid (Below w.heap.size w w') := HB5.out.trans (hr.gb.mono HB5.out.size)
    clear hr hall hall'
    simp only [Act.put, List.setIfInBounds_toArray, List.set_cons_zero, List.set_cons_succ]
    go_wp2
    go_ret
    exact ⟨rfl, HE.out⟩
  · intro ℓ a' w' i o hI ho hi hL hdep K hK
    obtain ⟨x26, x27, x28, x29, x30, rfl, hr⟩ := hI
    have hi7 : i < 5 := hi
    have hcs : i = 0 ∨ i = 1 ∨ i = 2 ∨ i = 3 ∨ i = 4 := by omega
    clear hi hi7
    rcases hcs with rfl | rfl | rfl | rfl | rfl
    · replace ho : some ({ dst := some 26, op := .load 40 (.tmp 7), type := 40, pos := "exact.go:5653", after := #[], guard := none } : Oper) = some o := ho
      obtain rfl := Option.some.inj ho
      clear hdep ho
      rw [if_pos (by rfl)]
      try simp only [Act.put, List.setIfInBounds_toArray, List.set_cons_zero, List.set_cons_succ]
      refine wp_load_row (P := Tryz.prog) 40 (.tmp 7) rfl N rfl 40 (tbA t a4) (0, 0) _ (HY5.out _ hr.gb) Tryz.underlying40 rfl (by kernel_rfl) ?_
      exact hK.out _ _ (fun j => if j = 0 then true else ℓ j) ⟨tbV t a4, x27, x28, x29, x30, (by simp only [Act.put, List.setIfInBounds_toArray, List.set_cons_zero, List.set_cons_succ]), ⟨hr.gb, (fun _ => rfl), hr.f1, hr.f2, hr.f3, hr.f4⟩⟩ (if_pos rfl) (fun j hj => if_neg hj)
    · replace ho : some ({ dst := some 27, op := .load 31 (.tmp 2), type := 31, pos := "exact.go:5653", after := #[], guard := none } : Oper) = some o := ho
      obtain rfl := Option.some.inj ho
      clear hdep ho
      rw [if_pos (by rfl)]
      try simp only [Act.put, List.setIfInBounds_toArray, List.set_cons_zero, List.set_cons_succ]
      refine wp_load_row (P := Tryz.prog) 31 (.tmp 2) rfl w.heap.size rfl 31 (tbA t a) (0, 0) _ (HX5.out _ hr.gb) Tryz.underlying31 rfl (by kernel_rfl) ?_
      exact hK.out _ _ (fun j => if j = 1 then true else ℓ j) ⟨x26, tbV t a, x28, x29, x30, (by simp only [Act.put, List.setIfInBounds_toArray, List.set_cons_zero, List.set_cons_succ]), ⟨hr.gb, hr.f0, (fun _ => rfl), hr.f2, hr.f3, hr.f4⟩⟩ (if_pos rfl) (fun j hj => if_neg hj)
    · obtain rfl := Option.some.inj ho
      have g : ℓ 1 = true := hdep { on := 1, ground := Ground.data } (by simp) rfl
      clear hdep ho
      obtain rfl := hr.f1 g
      rw [if_pos (by rfl)]
      try simp only [Act.put, List.setIfInBounds_toArray, List.set_cons_zero, List.set_cons_succ]
      go_simp
      refine Calls.mono (copy_tab t a _ (HU.out _ (HB5.out.trans (hr.gb.mono HB5.out.size))).1 HW.out HS.out) ?_
      rintro e w9 ⟨a9, rfl, hb9, hc9⟩
      have hr9 := hr.below hb9
      exact hK.out _ _ (fun j => if j = 2 then true else ℓ j) ⟨x26, tbV t a, tbV t a9, x29, x30, (by simp only [Act.put, List.setIfInBounds_toArray, List.set_cons_zero, List.set_cons_succ]), ⟨hr9.gb, hr9.f0, hr9.f1, (fun _ => ⟨a9, rfl, hc9⟩), hr9.f3, hr9.f4⟩⟩ (if_pos rfl) (fun j hj => if_neg hj)
    · obtain rfl := Option.some.inj ho
      have g0 : ℓ 0 = true := hdep { on := 0, ground := Ground.data } (by simp) rfl
      have g2 : ℓ 2 = true := hdep { on := 2, ground := Ground.data } (by simp) rfl
      clear hdep ho
      obtain rfl := hr.f0 g0
      obtain ⟨a9, rfl, hc9⟩ := hr.f2 g2
      have hc4 := HC5.out _ hr.gb
      rw [if_pos (by rfl)]
      try simp only [Act.put, List.setIfInBounds_toArray, List.set_cons_zero, List.set_cons_succ]
      go_simp
      refine Calls.mono (eq_tab t a4 a9 _ hc4.m hc9.m hc4.s (hc9.p1.trans hc4.p1.symm) (hc9.p2.trans hc4.p2.symm) (hc9.p3.trans hc4.p3.symm) (hc9.p4.trans hc4.p4.symm)) ?_
      rintro e w9 ⟨rfl, hb9⟩
      have hr9 := hr.below hb9
      exact hK.out _ _ (fun j => if j = 3 then true else ℓ j) ⟨tbV t a4, x27, tbV t a9, .bool true, x30, (by simp only [Act.put, List.setIfInBounds_toArray, List.set_cons_zero, List.set_cons_succ]), ⟨hr9.gb, hr9.f0, hr9.f1, hr9.f2, (fun _ => rfl), hr9.f4⟩⟩ (if_pos rfl) (fun j hj => if_neg hj)
    · obtain rfl := Option.some.inj ho
      have g : ℓ 3 = true := hdep { on := 3, ground := Ground.data } (by simp) rfl
      clear hdep ho
      obtain rfl := hr.f3 g
      rw [if_pos (by rfl)]
      try simp only [Act.put, List.setIfInBounds_toArray, List.set_cons_zero, List.set_cons_succ]
      go_simp
      exact hK.out _ _ (fun j => if j = 4 then true else ℓ j) ⟨x26, x27, x28, .bool true, .bool false, (by simp only [Act.put, List.setIfInBounds_toArray, List.set_cons_zero, List.set_cons_succ]), ⟨hr.gb, hr.f0, hr.f1, hr.f2, hr.f3, (fun _ => rfl)⟩⟩ (if_pos rfl) (fun j hj => if_neg hj)
  · rintro a' w' ℓ ℓ' hℓ hI
    rw [← show ℓ = ℓ' from funext hℓ]
    exact hI
end Go.Proofs.YtoalamgongaaeaaGreatDoor
