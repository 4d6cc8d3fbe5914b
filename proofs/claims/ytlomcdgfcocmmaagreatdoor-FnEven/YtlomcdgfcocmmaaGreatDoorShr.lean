
/-
  The share of a partition: both sides, and the law, walked. Conditions: the lists lie in memory; the program's table of extras holds what the program's text lays.
-/
import Derived.Test.YtlomcdgfcocmmaaGreatDoorBas
import Derived.Test.YtlomcdgfcocmmaaGreatDoorLsw
namespace Go.Proofs.YtlomcdgfcocmmaaGreatDoor
open Go.ChangeShapes Go.WideShapes Go.ChangeAt Go.RowKit Go.Deep Go.Joins
set_option linter.unusedVariables false

/-- What soundness says of slots, in numbers. -/
theorem sd_slots {t : Tb} (h : Sd t) : (1 ≤ t.pad ∧ t.pad ≤ 5000) ∧ (1 ≤ t.grd ∧ t.grd ≤ 5000) ∧ (1 ≤ t.maj ∧ t.maj ≤ 5000) ∧ t.ss.length ≤ 16 ∧ ∀ i, i < t.ss.length → 0 ≤ freeN t.ss i ∧ freeN t.ss i ≤ (t.ss.getD i sl0).2.1 ∧ t.pad + t.grd < (t.ss.getD i sl0).2.2 ∧ (t.ss.getD i sl0).2.1 + (t.ss.getD i sl0).2.2 ≤ t.maj := by
  have h4 : 1 ≤ t.pad ∧ t.pad ≤ 5000 := h 4 (by omega)
  have h5 : 1 ≤ t.grd ∧ t.grd ≤ 5000 := h 5 (by omega)
  have h6 : 1 ≤ t.maj ∧ t.maj ≤ 5000 := h 6 (by omega)
  have h21 := h 21 (by omega)
  have h23 := h 23 (by omega)
  have h24 := h 24 (by omega)
  simp only [R] at h21 h23 h24
  have hf := free_pos (ss := t.ss) (n := t.ss.length) (fun i hi => ⟨(h24 i hi).1, by have := h23 i hi; omega⟩)
  exact ⟨h4, h5, h6, h21.2, fun i hi => ⟨hf i (by omega), (h24 i hi).1, h23 i hi, (h24 i hi).2⟩⟩
def shareN (t : Tb) (x : Int) : Nat → Int
  | 0 => 0
  | i + 1 => shareN t x i + (if (t.ss.getD i sl0).1 = x then (t.ss.getD i sl0).2.2 - (t.pad + t.grd) else 0)
theorem share_yes {t : Tb} {x : Int} {i : Nat} (h : (t.ss.getD i sl0).1 = x) : shareN t x (i + 1) = shareN t x i + ((t.ss.getD i sl0).2.2 - (t.pad + t.grd)) := by
  show _ + (if _ then _ else _) = _
  rw [if_pos h]
theorem share_no {t : Tb} {x : Int} {i : Nat} (h : ¬ (t.ss.getD i sl0).1 = x) : shareN t x (i + 1) = shareN t x i := by
  show _ + (if _ then _ else _) = _
  rw [if_neg h]
  omega
def SR (t : Tb) (x : Int) (r : Int) : Prop := (¬ Sd t ∧ r = 0) ∨ (Sd t ∧ r = shareN t x t.ss.length)
theorem SR.unique {t : Tb} {x r s : Int} (h : SR t x r) (g : SR t x s) : r = s := by
  rcases h with ⟨h, rfl⟩ | ⟨h, h1⟩ <;> rcases g with ⟨g, rfl⟩ | ⟨g, g1⟩
  · rfl
  · exact absurd g h
  · exact absurd h g
  · rw [h1, g1]
set_option maxRecDepth 40000 in
set_option maxHeartbeats 8000000 in
theorem impl_share0 (t : Tb) (pa da ca sa : Option Addr) (pn pc dn dc cn cc n sc : Nat) (Y : Nat → Rw) (x : Int) (w : World) (hm : TM 0 w t ⟨pa, pn, pc, da, dn, dc, ca, cn, cc, sa, n, sc, Y⟩) (hw : TW t ⟨pa, pn, pc, da, dn, dc, ca, cn, cc, sa, n, sc, Y⟩) (hs : TS ⟨pa, pn, pc, da, dn, dc, ca, cn, cc, sa, n, sc, Y⟩) (he : TabE w) (hcp : pn ≤ pc) :
    Calls Tryz.prog 14 #[.agg #[.int .i64 t.mem, .int .i64 t.s1, .int .i64 t.s2, .int .i64 t.s3, .int .i64 t.tlb, .int .i64 t.c1, .int .i64 t.c2, .int .i64 t.c3, .int .i64 t.c4, .int .i64 t.c5, .int .i64 t.c6, .int .i64 t.c7, .int .i64 t.pad, .int .i64 t.grd, .int .i64 t.maj, .slice pa pn pc, .slice da dn dc, .slice ca cn cc, .slice sa n sc], .int .i64 x] w fun e w' => (∃ r : Int, e = .returned (.int .i64 r) ∧ SR t x r) ∧ Below w.heap.size w w' := by
  obtain ⟨q, hq⟩ := told (Sd t)
  have HB0 : Hid (Below w.heap.size w (w.alloc (.cells #[.int .i64 t.mem, .int .i64 t.s1, .int .i64 t.s2, .int .i64 t.s3, .int .i64 t.tlb, .int .i64 t.c1, .int .i64 t.c2, .int .i64 t.c3, .int .i64 t.c4, .int .i64 t.c5, .int .i64 t.c6, .int .i64 t.c7, .int .i64 t.pad, .int .i64 t.grd, .int .i64 t.maj, .slice pa pn pc, .slice da dn dc, .slice ca cn cc, .slice sa n sc] 33))) := (Below.refl _ _).alloc (Nat.le_refl _) _
  have HX0 : Hid (TBx (w.alloc (.cells #[.int .i64 t.mem, .int .i64 t.s1, .int .i64 t.s2, .int .i64 t.s3, .int .i64 t.tlb, .int .i64 t.c1, .int .i64 t.c2, .int .i64 t.c3, .int .i64 t.c4, .int .i64 t.c5, .int .i64 t.c6, .int .i64 t.c7, .int .i64 t.pad, .int .i64 t.grd, .int .i64 t.maj, .slice pa pn pc, .slice da dn dc, .slice ca cn cc, .slice sa n sc] 33)) w.heap.size t ⟨pa, pn, pc, da, dn, dc, ca, cn, cc, sa, n, sc, Y⟩) := TBx.new w t ⟨pa, pn, pc, da, dn, dc, ca, cn, cc, sa, n, sc, Y⟩ _ rfl
  have HSP : Hid (Calls Tryz.prog 13 #[.agg #[.int .i64 t.mem, .int .i64 t.s1, .int .i64 t.s2, .int .i64 t.s3, .int .i64 t.tlb, .int .i64 t.c1, .int .i64 t.c2, .int .i64 t.c3, .int .i64 t.c4, .int .i64 t.c5, .int .i64 t.c6, .int .i64 t.c7, .int .i64 t.pad, .int .i64 t.grd, .int .i64 t.maj, .slice pa pn pc, .slice da dn dc, .slice ca cn cc, .slice sa n sc]] (w.alloc (.cells #[.int .i64 t.mem, .int .i64 t.s1, .int .i64 t.s2, .int .i64 t.s3, .int .i64 t.tlb, .int .i64 t.c1, .int .i64 t.c2, .int .i64 t.c3, .int .i64 t.c4, .int .i64 t.c5, .int .i64 t.c6, .int .i64 t.c7, .int .i64 t.pad, .int .i64 t.grd, .int .i64 t.maj, .slice pa pn pc, .slice da dn dc, .slice ca cn cc, .slice sa n sc] 33)) fun e w' => e = .returned (.bool q) ∧ Below (w.alloc (.cells #[.int .i64 t.mem, .int .i64 t.s1, .int .i64 t.s2, .int .i64 t.s3, .int .i64 t.tlb, .int .i64 t.c1, .int .i64 t.c2, .int .i64 t.c3, .int .i64 t.c4, .int .i64 t.c5, .int .i64 t.c6, .int .i64 t.c7, .int .i64 t.pad, .int .i64 t.grd, .int .i64 t.maj, .slice pa pn pc, .slice da dn dc, .slice ca cn cc, .slice sa n sc] 33)).heap.size (w.alloc (.cells #[.int .i64 t.mem, .int .i64 t.s1, .int .i64 t.s2, .int .i64 t.s3, .int .i64 t.tlb, .int .i64 t.c1, .int .i64 t.c2, .int .i64 t.c3, .int .i64 t.c4, .int .i64 t.c5, .int .i64 t.c6, .int .i64 t.c7, .int .i64 t.pad, .int .i64 t.grd, .int .i64 t.maj, .slice pa pn pc, .slice da dn dc, .slice ca cn cc, .slice sa n sc] 33)) w') := impl_sound t ⟨pa, pn, pc, da, dn, dc, ca, cn, cc, sa, n, sc, Y⟩ q _ (hm.below HB0.out) hw hs (he.below HB0.out) hcp hq
  have HS : Hid (GSeg 3 w sa n (slX t.ss)) := hm.s.seg
  have HL : Hid (t.ss.length = n) := hw.sl
  have hn : n ≤ 1048576 := hs.s
  have HQ : Hid (q = true ↔ Sd t) := hq
  clear hm hw hs hq he hcp
  go_enter Tryz.func14, Tryz.ntmps14
  go_wp2_with (first | (refine wpList_load_row rfl 33 (.tmp 2) rfl w.heap.size rfl 33 #[.int .i64 t.mem, .int .i64 t.s1, .int .i64 t.s2, .int .i64 t.s3, .int .i64 t.tlb, .int .i64 t.c1, .int .i64 t.c2, .int .i64 t.c3, .int .i64 t.c4, .int .i64 t.c5, .int .i64 t.c6, .int .i64 t.c7, .int .i64 t.pad, .int .i64 t.grd, .int .i64 t.maj, .slice pa pn pc, .slice da dn dc, .slice ca cn cc, .slice sa n sc] (0, 0) _ HX0.out Tryz.underlying33 rfl (by kernel_rfl) ?_) | fail)
  refine Calls.mono HSP.out ?_
  rintro e w1 ⟨rfl, hb1⟩
  have HB1 : Hid (Below w.heap.size w w1) := HB0.out.trans (hb1.mono HB0.out.size)
  have HX1 : Hid (TBx w1 w.heap.size t ⟨pa, pn, pc, da, dn, dc, ca, cn, cc, sa, n, sc, Y⟩) := HX0.out.below hb1
  clear hb1 HB0 HX0 HSP
  cases q
  · have HT : Hid (¬ Sd t) := fun h => by have := HQ.out.2 h; cases this
    go_wp2
    go_ret
    exact ⟨⟨_, rfl, .inl ⟨HT.out, rfl⟩⟩, HB1.out⟩
  have HT : Hid (Sd t) := HQ.out.1 rfl
  clear HQ
  obtain ⟨⟨hp1, hp2⟩, ⟨hg1, hg2⟩, _, hn16, hlf⟩ := sd_slots HT.out
  rw [HL.out] at hn16 hlf
  have HLF : Hid (∀ i, i < n → t.pad + t.grd < (t.ss.getD i sl0).2.2 ∧ (t.ss.getD i sl0).2.2 ≤ 5000) := fun i hi => by
    have := hlf i hi
    have := (sd_slots HT.out).2.2.1
    omega
  clear hlf
  obtain ⟨v, HV⟩ : ∃ v, Hid (t.pad + t.grd = v) := ⟨_, rfl⟩
  have HLO : Hid (∀ Z, Calls Tryz.prog 43 #[.agg #[.int .i64 t.mem, .int .i64 t.s1, .int .i64 t.s2, .int .i64 t.s3, .int .i64 t.tlb, .int .i64 t.c1, .int .i64 t.c2, .int .i64 t.c3, .int .i64 t.c4, .int .i64 t.c5, .int .i64 t.c6, .int .i64 t.c7, .int .i64 t.pad, .int .i64 t.grd, .int .i64 t.maj, .slice pa pn pc, .slice da dn dc, .slice ca cn cc, .slice sa n sc]] Z fun e w' => e = .returned (.int .i64 v) ∧ Below Z.heap.size Z w') := fun Z => by rw [← HV.out]; exact lost_any t ⟨pa, pn, pc, da, dn, dc, ca, cn, cc, sa, n, sc, Y⟩ Z ⟨hp1, hp2⟩ ⟨hg1, hg2⟩
  have k18 : w1.cell? ⟨w.heap.size, 18, none⟩ = some (.slice sa n sc) := HX1.out.cell 18 rfl
  go_wp2
  clear k18
  go_loopw [5, 14] (fun v i wr => ∃ (m : Nat) (f : Int), m ≤ n ∧ 0 ≤ f ∧ f ≤ 5000 * m ∧ i = .int .i64 m ∧ v = .int .i64 f ∧ Hid (f = shareN t x m ∧ Below w1.heap.size w1 wr)) (fun _ i _ => n - (intOf i).toNat)
  case atStart => exact ⟨0, 0, by omega, by omega, by omega, rfl, rfl, rfl, Below.refl _ _⟩
  case round =>
    obtain ⟨m, f, hm, hf0, hf1, rfl, rfl, HR⟩ := hrel
    have HBR : Hid (Below w.heap.size w wr) := HB1.out.trans (HR.out.2.mono HB1.out.size)
    by_cases hmn : m < n
    rotate_left
    · obtain rfl : m = n := by omega
      have HF : Hid (SR t x f) := .inr ⟨HT.out, by rw [HL.out]; exact HR.out.1⟩
      go_wp2
      go_ret
      exact ⟨⟨_, rfl, HF.out⟩, HBR.out⟩
    have hmn' : (m : Int) < (n : Int) := by omega
    obtain ⟨b1, o1, rfl, hbl1, p1⟩ := HS.out.at m hmn
    replace p1 := p1.of (w' := wr) (fun j => HBR.out.cell (p := ⟨b1, j, none⟩) hbl1)
    have hlf := HLF.out m hmn
    have HY : Hid ((t.ss.getD m sl0).1 = x → f + ((t.ss.getD m sl0).2.2 - (t.pad + t.grd)) = shareN t x (m + 1)) := fun h => by rw [share_yes h, HR.out.1]
    have HNO : Hid (¬ (t.ss.getD m sl0).1 = x → f = shareN t x (m + 1)) := fun h => by rw [share_no h]; exact HR.out.1
    have HRB : Hid (Below w1.heap.size w1 wr) := HR.out.2
    simp only [slX] at p1
    generalize t.ss.getD m sl0 = y at p1 hlf HY HNO
    obtain ⟨c0, c1, c2⟩ := sl_cells p1
    obtain ⟨x1, x2, x3⟩ := y
    simp only at c0 c1 c2 hlf HY HNO
    obtain ⟨hl1, hl2⟩ := hlf
    rw [HV.out] at hl1 HY
    have hal : Below wr.heap.size wr (wr.alloc (.cells #[.int .i64 x1, .int .i64 x2, .int .i64 x3] 42)) := (Below.refl _ _).alloc (Nat.le_refl _) _
    have HRV : Hid (Below w1.heap.size w1 (wr.alloc (.cells #[.int .i64 x1, .int .i64 x2, .int .i64 x3] 42))) := HRB.out.trans (hal.mono HRB.out.size)
    have HE3 : Hid ((wr.alloc (.cells #[.int .i64 x1, .int .i64 x2, .int .i64 x3] 42)).cell? ⟨wr.heap.size, 2, none⟩ = some (.int .i64 x3)) := cell0 (CellsAt.new wr [.int .i64 x1, .int .i64 x2, .int .i64 x3] 42 _ rfl) 2 rfl
    clear p1 hbl1 HR hal
    by_cases hx : x1 = x
    · have HE : Hid (f + (x3 - v) = shareN t x (m + 1)) := HY.out hx
      subst hx
      have hv := HV.out
      have hw1 : IntKind.i64.wrap (x3 - v) = x3 - v := by rw [IntKind.wrap_i64]; omega
      have hw2 : IntKind.i64.wrap (f + (x3 - v)) = f + (x3 - v) := by rw [IntKind.wrap_i64]; omega
      clear HY HNO hv
      go_wp2
      revert HRV HE3
      generalize (wr.alloc (.cells #[.int .i64 x1, .int .i64 x2, .int .i64 x3] 42)) = V
      intro HRV HE3
      have G2 := fun X => gr_cell HE3.out X
      have HXX : Hid (∀ w', (∃ X : Gr V, w' = X.w) → w'.heap[w.heap.size]? = some (.cells #[.int .i64 t.mem, .int .i64 t.s1, .int .i64 t.s2, .int .i64 t.s3, .int .i64 t.tlb, .int .i64 t.c1, .int .i64 t.c2, .int .i64 t.c3, .int .i64 t.c4, .int .i64 t.c5, .int .i64 t.c6, .int .i64 t.c7, .int .i64 t.pad, .int .i64 t.grd, .int .i64 t.maj, .slice pa pn pc, .slice da dn dc, .slice ca cn cc, .slice (some ⟨b1, o1, none⟩) n sc] 33 (0, 0))) := fun w' hX => by
        obtain ⟨X, rfl⟩ := hX
        exact (HX1.out.below HRV.out).below X.h
      have hgr := gr_some V
      refine region_alike (by kernel_rfl) (by kernel_rfl) ?_
      repeat (first | (refine wpQuiet_load_row rfl 33 (.tmp 2) rfl w.heap.size rfl 33 #[.int .i64 t.mem, .int .i64 t.s1, .int .i64 t.s2, .int .i64 t.s3, .int .i64 t.tlb, .int .i64 t.c1, .int .i64 t.c2, .int .i64 t.c3, .int .i64 t.c4, .int .i64 t.c5, .int .i64 t.c6, .int .i64 t.c7, .int .i64 t.pad, .int .i64 t.grd, .int .i64 t.maj, .slice pa pn pc, .slice da dn dc, .slice ca cn cc, .slice (some ⟨b1, o1, none⟩) n sc] (0, 0) _ HXX.out Tryz.underlying33 rfl (by kernel_rfl) ?_; simp only [Act.put, List.setIfInBounds_toArray, List.set_cons_zero, List.set_cons_succ]) | go_big_quiet_step (first | (go_at_call 43; exact gr_call (HLO.out _))))
      refine wpQuiet_nil ?_
      intro _ hw'
      obtain ⟨X1, rfl⟩ := hw'
      have hb9 := X1.h
      generalize X1.w = W2 at hb9 ⊢
      have HRB2 : Hid (Below w1.heap.size w1 W2) := HRV.out.trans (hb9.mono HRV.out.size)
      obtain ⟨fe, HFE⟩ : ∃ fe, Hid (f + (x3 - v) = fe) := ⟨_, rfl⟩
      have HE2 : Hid (fe = shareN t x1 (m + 1)) := HFE.out.symm.trans HE.out
      have hv := HV.out
      have hfe0 : 0 ≤ fe := by have := HFE.out; omega
      have hfe1 : fe ≤ 5000 * ((m + 1 : Nat) : Int) := by have := HFE.out; omega
      try rw [hw1]
      try rw [hw2]
      try rw [HFE.out]
      clear hb9 G2 c0 c1 c2 hw1 hw2 HFE HE hv HXX HE3 hgr HRV
      go_wp2
      go_roundw
      case rel => exact ⟨m + 1, fe, by omega, hfe0, hfe1, by go_num, rfl, HE2.out, HRB2.out⟩
      case measure => simp [intOf]; omega
    · have HE2 : Hid (f = shareN t x (m + 1)) := HNO.out hx
      clear HY HNO
      go_wp2
      go_roundw
      case rel => exact ⟨m + 1, f, by omega, hf0, by omega, by go_num, rfl, HE2.out, HRV.out⟩
      case measure => simp [intOf]; omega
theorem impl_share (t : Tb) (a : Ad) (x : Int) (w : World) (hm : TM 0 w t a) (hw : TW t a) (hs : TS a) (he : TabE w) (hcp : a.pn ≤ a.pc) :
    Calls Tryz.prog 14 #[tbV t a, .int .i64 x] w fun e w' => (∃ r : Int, e = .returned (.int .i64 r) ∧ SR t x r) ∧ Below w.heap.size w w' :=
  impl_share0 t a.pa a.da a.ca a.sa a.pn a.pc a.dn a.dc a.cn a.cc a.sn a.sc a.Y x w hm hw hs he hcp
end Go.Proofs.YtlomcdgfcocmmaaGreatDoor
