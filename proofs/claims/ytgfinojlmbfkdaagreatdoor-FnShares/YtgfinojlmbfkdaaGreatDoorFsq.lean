/-
  The share of a partition: both sides, and the law, walked. Conditions: the lists lie in memory; the program's table of extras holds what the program's text lays.
  The gap of a major frame: both sides, and the law, walked. Conditions: the lists lie in memory; the program's table of extras holds what the program's text lays.
  The cycles of a frame, in numbers: what partitions may begin steps at, what switches and guards take, and what nobody has. No function of the program in sight; the condition is that the tables are sound.
  What the laws read of the bytes that they are handed: one byte, four as a word, whether there are too many. Conditions: the bytes are at most 1048576 where one is read.
  The law on shares, walked: of all bytes it returns true. Conditions: the bytes are bytes; the program's table of extras holds what the program's text lays.
-/
import Derived.Test.YtgfinojlmbfkdaaGreatDoorBas
import Derived.Test.YtgfinojlmbfkdaaGreatDoorLsw
import Derived.Test.YtgfinojlmbfkdaaGreatDoorTiu
import Derived.Test.YtgfinojlmbfkdaaGreatDoorTis
import Derived.Test.YtgfinojlmbfkdaaGreatDoorProg
import Derived.Deep.QuietTactic
import Derived.BigQuiet
import Derived.Test.YtgfinojlmbfkdaaGreatDoorDtd
import Derived.Test.YtgfinojlmbfkdaaGreatDoorTit
import Derived.Test.YtgfinojlmbfkdaaGreatDoorTiv
import Derived.Test.YtgfinojlmbfkdaaGreatDoorGen
namespace Go.Proofs.YtgfinojlmbfkdaaGreatDoor
open Go.ChangeShapes Go.WideShapes Go.ChangeAt Go.RowKit Go.Deep Go.Joins
set_option linter.unusedVariables false

/-- What soundness says of slots, in numbers. -/
theorem sd_slots {t : Tb} (h : Sd t) : (1 ≤ t.pad ∧ t.pad ≤ 5000) ∧ (1 ≤ t.grd ∧ t.grd ≤ 5000) ∧ (1 ≤ t.maj ∧ t.maj ≤ 5000) ∧ t.ss.length ≤ 16 ∧ ∀ i, i < t.ss.length → 0 ≤ freeN t.ss i ∧ freeN t.ss i ≤ (t.ss.getD i sl0).2.1 ∧ t.pad + t.grd < (t.ss.getD i sl0).2.2 ∧ (t.ss.getD i sl0).2.1 + (t.ss.getD i sl0).2.2 ≤ t.maj := by
  have h4 : 1 ≤ t.pad ∧ t.pad ≤ 5000 := h 4 (by omega)
  have h5 : 1 ≤ t.grd ∧ t.grd ≤ 5000 := h 5 (by omega)
  have h6 : 1 ≤ t.maj ∧ t.maj ≤ 5000 := h 6 (by omega)
  have h21 := h 21 (by omega)
  have h23 := h 23 (by omega)
  have h24 := h 24 (by omega)
  simp only [R] at h21 h23 h24
  have hf := free_pos (ss := t.ss) (n := t.ss.length) (fun i hi => ⟨(h24 i hi).1, by have := h23 i hi; omega⟩)
  exact ⟨h4, h5, h6, h21.2, fun i hi => ⟨hf i (by omega), (h24 i hi).1, h23 i hi, (h24 i hi).2⟩⟩
def shareN (t : Tb) (x : Int) : Nat → Int
  | 0 => 0
  | i + 1 => shareN t x i + (if (t.ss.getD i sl0).1 = x then (t.ss.getD i sl0).2.2 - (t.pad + t.grd) else 0)
theorem share_yes {t : Tb} {x : Int} {i : Nat} (h : (t.ss.getD i sl0).1 = x) : shareN t x (i + 1) = shareN t x i + ((t.ss.getD i sl0).2.2 - (t.pad + t.grd)) := by
  show _ + (if _ then _ else _) = _
  rw [if_pos h]
theorem share_no {t : Tb} {x : Int} {i : Nat} (h : ¬ (t.ss.getD i sl0).1 = x) : shareN t x (i + 1) = shareN t x i := by
  show _ + (if _ then _ else _) = _
  rw [if_neg h]
  omega
def SR (t : Tb) (x : Int) (r : Int) : Prop := (¬ Sd t ∧ r = 0) ∨ (Sd t ∧ r = shareN t x t.ss.length)
theorem SR.unique {t : Tb} {x r s : Int} (h : SR t x r) (g : SR t x s) : r = s := by
  rcases h with ⟨h, rfl⟩ | ⟨h, h1⟩ <;> rcases g with ⟨g, rfl⟩ | ⟨g, g1⟩
  · rfl
  · exact absurd g h
  · exact absurd h g
  · rw [h1, g1]
set_option maxRecDepth 40000 in
set_option maxHeartbeats 8000000 in
theorem impl_share0 (t : Tb) (pa da ca sa : Option Addr) (pn pc dn dc cn cc n sc : Nat) (Y : Nat → Rw) (x : Int) (w : World) (hm : TM 0 w t ⟨pa, pn, pc, da, dn, dc, ca, cn, cc, sa, n, sc, Y⟩) (hw : TW t ⟨pa, pn, pc, da, dn, dc, ca, cn, cc, sa, n, sc, Y⟩) (hs : TS ⟨pa, pn, pc, da, dn, dc, ca, cn, cc, sa, n, sc, Y⟩) (he : TabE w) (hcp : pn ≤ pc) :
    Calls Tryz.prog 27 #[.agg #[.int .i64 t.mem, .int .i64 t.s1, .int .i64 t.s2, .int .i64 t.s3, .int .i64 t.tlb, .int .i64 t.c1, .int .i64 t.c2, .int .i64 t.c3, .int .i64 t.c4, .int .i64 t.c5, .int .i64 t.c6, .int .i64 t.c7, .int .i64 t.pad, .int .i64 t.grd, .int .i64 t.maj, .slice pa pn pc, .slice da dn dc, .slice ca cn cc, .slice sa n sc], .int .i64 x] w fun e w' => (∃ r : Int, e = .returned (.int .i64 r) ∧ SR t x r) ∧ Below w.heap.size w w' := by
  obtain ⟨q, hq⟩ := told (Sd t)
  have HB0 : Hid (Below w.heap.size w (w.alloc (.cells #[.int .i64 t.mem, .int .i64 t.s1, .int .i64 t.s2, .int .i64 t.s3, .int .i64 t.tlb, .int .i64 t.c1, .int .i64 t.c2, .int .i64 t.c3, .int .i64 t.c4, .int .i64 t.c5, .int .i64 t.c6, .int .i64 t.c7, .int .i64 t.pad, .int .i64 t.grd, .int .i64 t.maj, .slice pa pn pc, .slice da dn dc, .slice ca cn cc, .slice sa n sc] 46))) := (Below.refl _ _).alloc (Nat.le_refl _) _
  have HX0 : Hid (TBx (w.alloc (.cells #[.int .i64 t.mem, .int .i64 t.s1, .int .i64 t.s2, .int .i64 t.s3, .int .i64 t.tlb, .int .i64 t.c1, .int .i64 t.c2, .int .i64 t.c3, .int .i64 t.c4, .int .i64 t.c5, .int .i64 t.c6, .int .i64 t.c7, .int .i64 t.pad, .int .i64 t.grd, .int .i64 t.maj, .slice pa pn pc, .slice da dn dc, .slice ca cn cc, .slice sa n sc] 46)) w.heap.size t ⟨pa, pn, pc, da, dn, dc, ca, cn, cc, sa, n, sc, Y⟩) := TBx.new w t ⟨pa, pn, pc, da, dn, dc, ca, cn, cc, sa, n, sc, Y⟩ _ rfl
  have HSP : Hid (Calls Tryz.prog 50 #[.agg #[.int .i64 t.mem, .int .i64 t.s1, .int .i64 t.s2, .int .i64 t.s3, .int .i64 t.tlb, .int .i64 t.c1, .int .i64 t.c2, .int .i64 t.c3, .int .i64 t.c4, .int .i64 t.c5, .int .i64 t.c6, .int .i64 t.c7, .int .i64 t.pad, .int .i64 t.grd, .int .i64 t.maj, .slice pa pn pc, .slice da dn dc, .slice ca cn cc, .slice sa n sc]] (w.alloc (.cells #[.int .i64 t.mem, .int .i64 t.s1, .int .i64 t.s2, .int .i64 t.s3, .int .i64 t.tlb, .int .i64 t.c1, .int .i64 t.c2, .int .i64 t.c3, .int .i64 t.c4, .int .i64 t.c5, .int .i64 t.c6, .int .i64 t.c7, .int .i64 t.pad, .int .i64 t.grd, .int .i64 t.maj, .slice pa pn pc, .slice da dn dc, .slice ca cn cc, .slice sa n sc] 46)) fun e w' => e = .returned (.bool q) ∧ Below (w.alloc (.cells #[.int .i64 t.mem, .int .i64 t.s1, .int .i64 t.s2, .int .i64 t.s3, .int .i64 t.tlb, .int .i64 t.c1, .int .i64 t.c2, .int .i64 t.c3, .int .i64 t.c4, .int .i64 t.c5, .int .i64 t.c6, .int .i64 t.c7, .int .i64 t.pad, .int .i64 t.grd, .int .i64 t.maj, .slice pa pn pc, .slice da dn dc, .slice ca cn cc, .slice sa n sc] 46)).heap.size (w.alloc (.cells #[.int .i64 t.mem, .int .i64 t.s1, .int .i64 t.s2, .int .i64 t.s3, .int .i64 t.tlb, .int .i64 t.c1, .int .i64 t.c2, .int .i64 t.c3, .int .i64 t.c4, .int .i64 t.c5, .int .i64 t.c6, .int .i64 t.c7, .int .i64 t.pad, .int .i64 t.grd, .int .i64 t.maj, .slice pa pn pc, .slice da dn dc, .slice ca cn cc, .slice sa n sc] 46)) w') := impl_sound t ⟨pa, pn, pc, da, dn, dc, ca, cn, cc, sa, n, sc, Y⟩ q _ (hm.below HB0.out) hw hs (he.below HB0.out) hcp hq
  have HS : Hid (GSeg 3 w sa n (slX t.ss)) := hm.s.seg
  have HL : Hid (t.ss.length = n) := hw.sl
  have hn : n ≤ 1048576 := hs.s
  have HQ : Hid (q = true ↔ Sd t) := hq
  clear hm hw hs hq he hcp
  go_enter Tryz.func27, Tryz.ntmps27
  go_wp2_with (first | (refine wpList_load_row rfl 46 (.tmp 2) rfl w.heap.size rfl 46 #[.int .i64 t.mem, .int .i64 t.s1, .int .i64 t.s2, .int .i64 t.s3, .int .i64 t.tlb, .int .i64 t.c1, .int .i64 t.c2, .int .i64 t.c3, .int .i64 t.c4, .int .i64 t.c5, .int .i64 t.c6, .int .i64 t.c7, .int .i64 t.pad, .int .i64 t.grd, .int .i64 t.maj, .slice pa pn pc, .slice da dn dc, .slice ca cn cc, .slice sa n sc] (0, 0) _ HX0.out Tryz.underlying46 rfl (by kernel_rfl) ?_) | fail)
  refine Calls.mono HSP.out ?_
  rintro e w1 ⟨rfl, hb1⟩
  have HB1 : Hid (Below w.heap.size w w1) := HB0.out.trans (hb1.mono HB0.out.size)
  have HX1 : Hid (TBx w1 w.heap.size t ⟨pa, pn, pc, da, dn, dc, ca, cn, cc, sa, n, sc, Y⟩) := HX0.out.below hb1
  clear hb1 HB0 HX0 HSP
  cases q
  · have HT : Hid (¬ Sd t) := fun h => by have := HQ.out.2 h; cases this
    go_wp2
    go_ret
    exact ⟨⟨_, rfl, .inl ⟨HT.out, rfl⟩⟩, HB1.out⟩
  have HT : Hid (Sd t) := HQ.out.1 rfl
  clear HQ
  obtain ⟨⟨hp1, hp2⟩, ⟨hg1, hg2⟩, _, hn16, hlf⟩ := sd_slots HT.out
  rw [HL.out] at hn16 hlf
  have HLF : Hid (∀ i, i < n → t.pad + t.grd < (t.ss.getD i sl0).2.2 ∧ (t.ss.getD i sl0).2.2 ≤ 5000) := fun i hi => by
    have := hlf i hi
    have := (sd_slots HT.out).2.2.1
    omega
  clear hlf
  obtain ⟨v, HV⟩ : ∃ v, Hid (t.pad + t.grd = v) := ⟨_, rfl⟩
  have HLO : Hid (∀ Z, Calls Tryz.prog 80 #[.agg #[.int .i64 t.mem, .int .i64 t.s1, .int .i64 t.s2, .int .i64 t.s3, .int .i64 t.tlb, .int .i64 t.c1, .int .i64 t.c2, .int .i64 t.c3, .int .i64 t.c4, .int .i64 t.c5, .int .i64 t.c6, .int .i64 t.c7, .int .i64 t.pad, .int .i64 t.grd, .int .i64 t.maj, .slice pa pn pc, .slice da dn dc, .slice ca cn cc, .slice sa n sc]] Z fun e w' => e = .returned (.int .i64 v) ∧ Below Z.heap.size Z w') := fun Z => by rw [← HV.out]; exact lost_any t ⟨pa, pn, pc, da, dn, dc, ca, cn, cc, sa, n, sc, Y⟩ Z ⟨hp1, hp2⟩ ⟨hg1, hg2⟩
  have k18 : w1.cell? ⟨w.heap.size, 18, none⟩ = some (.slice sa n sc) := HX1.out.cell 18 rfl
  go_wp2
  clear k18
  go_loopw [5, 14] (fun v i wr => ∃ (m : Nat) (f : Int), m ≤ n ∧ 0 ≤ f ∧ f ≤ 5000 * m ∧ i = .int .i64 m ∧ v = .int .i64 f ∧ Hid (f = shareN t x m ∧ Below w1.heap.size w1 wr)) (fun _ i _ => n - (intOf i).toNat)
  case atStart => exact ⟨0, 0, by omega, by omega, by omega, rfl, rfl, rfl, Below.refl _ _⟩
  case round =>
    obtain ⟨m, f, hm, hf0, hf1, rfl, rfl, HR⟩ := hrel
    have HBR : Hid (Below w.heap.size w wr) := HB1.out.trans (HR.out.2.mono HB1.out.size)
    by_cases hmn : m < n
    rotate_left
    · obtain rfl : m = n := by omega
      have HF : Hid (SR t x f) := .inr ⟨HT.out, by rw [HL.out]; exact HR.out.1⟩
      go_wp2
      go_ret
      exact ⟨⟨_, rfl, HF.out⟩, HBR.out⟩
    have hmn' : (m : Int) < (n : Int) := by omega
    obtain ⟨b1, o1, rfl, hbl1, p1⟩ := HS.out.at m hmn
    replace p1 := p1.of (w' := wr) (fun j => HBR.out.cell (p := ⟨b1, j, none⟩) hbl1)
    have hlf := HLF.out m hmn
    have HY : Hid ((t.ss.getD m sl0).1 = x → f + ((t.ss.getD m sl0).2.2 - (t.pad + t.grd)) = shareN t x (m + 1)) := fun h => by rw [share_yes h, HR.out.1]
    have HNO : Hid (¬ (t.ss.getD m sl0).1 = x → f = shareN t x (m + 1)) := fun h => by rw [share_no h]; exact HR.out.1
    have HRB : Hid (Below w1.heap.size w1 wr) := HR.out.2
    simp only [slX] at p1
    generalize t.ss.getD m sl0 = y at p1 hlf HY HNO
    obtain ⟨c0, c1, c2⟩ := sl_cells p1
    obtain ⟨x1, x2, x3⟩ := y
    simp only at c0 c1 c2 hlf HY HNO
    obtain ⟨hl1, hl2⟩ := hlf
    rw [HV.out] at hl1 HY
    have hal : Below wr.heap.size wr (wr.alloc (.cells #[.int .i64 x1, .int .i64 x2, .int .i64 x3] 72)) := (Below.refl _ _).alloc (Nat.le_refl _) _
    have HRV : Hid (Below w1.heap.size w1 (wr.alloc (.cells #[.int .i64 x1, .int .i64 x2, .int .i64 x3] 72))) := HRB.out.trans (hal.mono HRB.out.size)
    have HE3 : Hid ((wr.alloc (.cells #[.int .i64 x1, .int .i64 x2, .int .i64 x3] 72)).cell? ⟨wr.heap.size, 2, none⟩ = some (.int .i64 x3)) := cell0 (CellsAt.new wr [.int .i64 x1, .int .i64 x2, .int .i64 x3] 72 _ rfl) 2 rfl
    clear p1 hbl1 HR hal
    by_cases hx : x1 = x
    · have HE : Hid (f + (x3 - v) = shareN t x (m + 1)) := HY.out hx
      subst hx
      have hv := HV.out
      have hw1 : IntKind.i64.wrap (x3 - v) = x3 - v := by rw [IntKind.wrap_i64]; omega
      have hw2 : IntKind.i64.wrap (f + (x3 - v)) = f + (x3 - v) := by rw [IntKind.wrap_i64]; omega
      clear HY HNO hv
      go_wp2
      revert HRV HE3
      generalize (wr.alloc (.cells #[.int .i64 x1, .int .i64 x2, .int .i64 x3] 72)) = V
      intro HRV HE3
      have G2 := fun X => gr_cell HE3.out X
      have HXX : Hid (∀ w', (∃ X : Gr V, w' = X.w) → w'.heap[w.heap.size]? = some (.cells #[.int .i64 t.mem, .int .i64 t.s1, .int .i64 t.s2, .int .i64 t.s3, .int .i64 t.tlb, .int .i64 t.c1, .int .i64 t.c2, .int .i64 t.c3, .int .i64 t.c4, .int .i64 t.c5, .int .i64 t.c6, .int .i64 t.c7, .int .i64 t.pad, .int .i64 t.grd, .int .i64 t.maj, .slice pa pn pc, .slice da dn dc, .slice ca cn cc, .slice (some ⟨b1, o1, none⟩) n sc] 46 (0, 0))) := fun w' hX => by
        obtain ⟨X, rfl⟩ := hX
        exact (HX1.out.below HRV.out).below X.h
      have hgr := gr_some V
      refine region_alike (by kernel_rfl) (by kernel_rfl) ?_
      repeat (first | (refine wpQuiet_load_row rfl 46 (.tmp 2) rfl w.heap.size rfl 46 #[.int .i64 t.mem, .int .i64 t.s1, .int .i64 t.s2, .int .i64 t.s3, .int .i64 t.tlb, .int .i64 t.c1, .int .i64 t.c2, .int .i64 t.c3, .int .i64 t.c4, .int .i64 t.c5, .int .i64 t.c6, .int .i64 t.c7, .int .i64 t.pad, .int .i64 t.grd, .int .i64 t.maj, .slice pa pn pc, .slice da dn dc, .slice ca cn cc, .slice (some ⟨b1, o1, none⟩) n sc] (0, 0) _ HXX.out Tryz.underlying46 rfl (by kernel_rfl) ?_; simp only [Act.put, List.setIfInBounds_toArray, List.set_cons_zero, List.set_cons_succ]) | go_big_quiet_step (first | (go_at_call 80; exact gr_call (HLO.out _))))
      refine wpQuiet_nil ?_
      intro _ hw'
      obtain ⟨X1, rfl⟩ := hw'
      have hb9 := X1.h
      generalize X1.w = W2 at hb9 ⊢
      have HRB2 : Hid (Below w1.heap.size w1 W2) := HRV.out.trans (hb9.mono HRV.out.size)
      obtain ⟨fe, HFE⟩ : ∃ fe, Hid (f + (x3 - v) = fe) := ⟨_, rfl⟩
      have HE2 : Hid (fe = shareN t x1 (m + 1)) := HFE.out.symm.trans HE.out
      have hv := HV.out
      have hfe0 : 0 ≤ fe := by have := HFE.out; omega
      have hfe1 : fe ≤ 5000 * ((m + 1 : Nat) : Int) := by have := HFE.out; omega
      try rw [hw1]
      try rw [hw2]
      try rw [HFE.out]
      clear hb9 G2 c0 c1 c2 hw1 hw2 HFE HE hv HXX HE3 hgr HRV
      go_wp2
      go_roundw
      case rel => exact ⟨m + 1, fe, by omega, hfe0, hfe1, by go_num, rfl, HE2.out, HRB2.out⟩
      case measure => simp [intOf]; omega
    · have HE2 : Hid (f = shareN t x (m + 1)) := HNO.out hx
      clear HY HNO
      go_wp2
      go_roundw
      case rel => exact ⟨m + 1, f, by omega, hf0, by omega, by go_num, rfl, HE2.out, HRV.out⟩
      case measure => simp [intOf]; omega
theorem impl_share (t : Tb) (a : Ad) (x : Int) (w : World) (hm : TM 0 w t a) (hw : TW t a) (hs : TS a) (he : TabE w) (hcp : a.pn ≤ a.pc) :
    Calls Tryz.prog 27 #[tbV t a, .int .i64 x] w fun e w' => (∃ r : Int, e = .returned (.int .i64 r) ∧ SR t x r) ∧ Below w.heap.size w w' :=
  impl_share0 t a.pa a.da a.ca a.sa a.pn a.pc a.dn a.dc a.cn a.cc a.sn a.sc a.Y x w hm hw hs he hcp
end Go.Proofs.YtgfinojlmbfkdaaGreatDoor
namespace Go.Proofs.YtgfinojlmbfkdaaGreatDoor
open Go.ChangeShapes Go.WideShapes Go.ChangeAt Go.RowKit Go.Deep Go.Joins
set_option linter.unusedVariables false

/-- What soundness says of slots, in numbers. -/
theorem sd_slots2 {t : Tb} (h : Sd t) : (1 ≤ t.pad ∧ t.pad ≤ 5000) ∧ (1 ≤ t.grd ∧ t.grd ≤ 5000) ∧ (1 ≤ t.maj ∧ t.maj ≤ 5000) ∧ t.ss.length ≤ 16 ∧ ∀ i, i < t.ss.length → 0 ≤ freeN t.ss i ∧ freeN t.ss i ≤ (t.ss.getD i sl0).2.1 ∧ t.pad + t.grd < (t.ss.getD i sl0).2.2 ∧ (t.ss.getD i sl0).2.1 + (t.ss.getD i sl0).2.2 ≤ t.maj := by
  have h4 : 1 ≤ t.pad ∧ t.pad ≤ 5000 := h 4 (by omega)
  have h5 : 1 ≤ t.grd ∧ t.grd ≤ 5000 := h 5 (by omega)
  have h6 : 1 ≤ t.maj ∧ t.maj ≤ 5000 := h 6 (by omega)
  have h21 := h 21 (by omega)
  have h23 := h 23 (by omega)
  have h24 := h 24 (by omega)
  simp only [R] at h21 h23 h24
  have hf := free_pos (ss := t.ss) (n := t.ss.length) (fun i hi => ⟨(h24 i hi).1, by have := h23 i hi; omega⟩)
  exact ⟨h4, h5, h6, h21.2, fun i hi => ⟨hf i (by omega), (h24 i hi).1, h23 i hi, (h24 i hi).2⟩⟩
/-- Whether a cycle lies in one of the first k slots. -/
def insd (ss : List slT) (c : Int) : Nat → Bool
  | 0 => false
  | k + 1 => insd ss c k || (decide ((ss.getD k sl0).2.1 ≤ c) && decide (c < (ss.getD k sl0).2.1 + (ss.getD k sl0).2.2))
/-- How many of the first c cycles lie in none of the first k slots. -/
def gapN (ss : List slT) (k : Nat) : Nat → Int
  | 0 => 0
  | c + 1 => gapN ss k c + (if insd ss (c : Int) k = true then 0 else 1)
def lenN (ss : List slT) : Nat → Int
  | 0 => 0
  | i + 1 => lenN ss i + (ss.getD i sl0).2.2
theorem insd_free {ss : List slT} {n : Nat} (h : ∀ i, i < n → 0 ≤ freeN ss i ∧ freeN ss i ≤ (ss.getD i sl0).2.1 ∧ 0 < (ss.getD i sl0).2.2) : ∀ k, k ≤ n → ∀ c : Int, freeN ss k ≤ c → insd ss c k = false := by
  intro k
  induction k with
  | zero => intro _ _ _; rfl
  | succ k ih =>
    intro hk c hc
    have h1 := h k (by omega)
    have h2 : (ss.getD k sl0).2.1 + (ss.getD k sl0).2.2 ≤ c := hc
    show (insd ss c k || _) = false
    rw [ih (by omega) c (by omega)]
    have : ¬ c < (ss.getD k sl0).2.1 + (ss.getD k sl0).2.2 := by omega
    simp only [decide_eq_false this, Bool.and_false, Bool.or_false]
theorem gap_step {ss : List slT} {n : Nat} (h : ∀ i, i < n → 0 ≤ freeN ss i ∧ freeN ss i ≤ (ss.getD i sl0).2.1 ∧ 0 < (ss.getD i sl0).2.2) (k : Nat) (hk : k < n) : ∀ c : Nat, gapN ss (k + 1) c = gapN ss k c - (if (c : Int) ≤ (ss.getD k sl0).2.1 then 0 else if (c : Int) ≤ (ss.getD k sl0).2.1 + (ss.getD k sl0).2.2 then (c : Int) - (ss.getD k sl0).2.1 else (ss.getD k sl0).2.2) := by
  have h1 := h k hk
  have hfr := insd_free h k (by omega)
  intro c
  induction c with
  | zero =>
    rw [if_pos (by show (0 : Int) ≤ _; omega)]
    rfl
  | succ c ih =>
    have hi : insd ss (c : Int) (k + 1) = (insd ss c k || (decide ((ss.getD k sl0).2.1 ≤ (c : Int)) && decide ((c : Int) < (ss.getD k sl0).2.1 + (ss.getD k sl0).2.2))) := rfl
    show gapN ss (k + 1) c + (if insd ss (c : Int) (k + 1) = true then 0 else 1) = gapN ss k c + (if insd ss (c : Int) k = true then 0 else 1) - _
    rw [ih, hi]
    generalize (ss.getD k sl0).2.1 = s at *
    generalize (ss.getD k sl0).2.2 = l at *
    have hcc : ((c + 1 : Nat) : Int) = (c : Int) + 1 := by omega
    rw [hcc]
    by_cases g1 : s ≤ (c : Int)
    · have hno := hfr c (by omega)
      by_cases g2 : (c : Int) < s + l
      · rw [hno]
        simp only [decide_eq_true g1, decide_eq_true g2, Bool.and_true, Bool.or_true, if_true, Bool.false_eq_true, if_false]
        split <;> split <;> (try split) <;> (try split) <;> omega
      · simp only [decide_eq_false g2, Bool.and_false, Bool.or_false]
        split <;> split <;> (try split) <;> (try split) <;> (try split) <;> omega
    · simp only [decide_eq_false g1, Bool.false_and, Bool.or_false]
      split <;> split <;> (try split) <;> (try split) <;> (try split) <;> omega
theorem gap_all {ss : List slT} {n M : Nat} (h : ∀ i, i < n → 0 ≤ freeN ss i ∧ freeN ss i ≤ (ss.getD i sl0).2.1 ∧ 0 < (ss.getD i sl0).2.2 ∧ (ss.getD i sl0).2.1 + (ss.getD i sl0).2.2 ≤ (M : Int)) : ∀ k, k ≤ n → gapN ss k M = (M : Int) - lenN ss k := by
  intro k
  induction k with
  | zero =>
    intro _
    have : ∀ c : Nat, gapN ss 0 c = (c : Int) := by
      intro c
      induction c with
      | zero => rfl
      | succ c ih =>
        show gapN ss 0 c + (if insd ss (c : Int) 0 = true then 0 else 1) = _
        rw [ih]
        simp only [insd, Bool.false_eq_true, if_false]
        omega
    rw [this]
    show _ = (M : Int) - 0
    omega
  | succ k ih =>
    intro hk
    have h1 := h k (by omega)
    rw [gap_step (n := n) (fun i hi => ⟨(h i hi).1, (h i hi).2.1, (h i hi).2.2.1⟩) k (by omega), ih (by omega)]
    show _ = (M : Int) - (lenN ss k + (ss.getD k sl0).2.2)
    split
    · omega
    · split <;> omega
def GR (t : Tb) (r : Int) : Prop := (¬ Sd t ∧ r = 0) ∨ (Sd t ∧ r = t.maj - lenN t.ss t.ss.length)
theorem GR.unique {t : Tb} {r s : Int} (h : GR t r) (g : GR t s) : r = s := by
  rcases h with ⟨h, rfl⟩ | ⟨h, h1⟩ <;> rcases g with ⟨g, rfl⟩ | ⟨g, g1⟩
  · rfl
  · exact absurd g h
  · exact absurd h g
  · rw [h1, g1]
set_option maxRecDepth 40000 in
set_option maxHeartbeats 8000000 in
theorem impl_gap0 (t : Tb) (pa da ca sa : Option Addr) (pn pc dn dc cn cc n sc : Nat) (Y : Nat → Rw) (w : World) (hm : TM 0 w t ⟨pa, pn, pc, da, dn, dc, ca, cn, cc, sa, n, sc, Y⟩) (hw : TW t ⟨pa, pn, pc, da, dn, dc, ca, cn, cc, sa, n, sc, Y⟩) (hs : TS ⟨pa, pn, pc, da, dn, dc, ca, cn, cc, sa, n, sc, Y⟩) (he : TabE w) (hcp : pn ≤ pc) :
    Calls Tryz.prog 26 #[.agg #[.int .i64 t.mem, .int .i64 t.s1, .int .i64 t.s2, .int .i64 t.s3, .int .i64 t.tlb, .int .i64 t.c1, .int .i64 t.c2, .int .i64 t.c3, .int .i64 t.c4, .int .i64 t.c5, .int .i64 t.c6, .int .i64 t.c7, .int .i64 t.pad, .int .i64 t.grd, .int .i64 t.maj, .slice pa pn pc, .slice da dn dc, .slice ca cn cc, .slice sa n sc]] w fun e w' => (∃ r : Int, e = .returned (.int .i64 r) ∧ GR t r) ∧ Below w.heap.size w w' := by
  obtain ⟨q, hq⟩ := told (Sd t)
  have HB0 : Hid (Below w.heap.size w (w.alloc (.cells #[.int .i64 t.mem, .int .i64 t.s1, .int .i64 t.s2, .int .i64 t.s3, .int .i64 t.tlb, .int .i64 t.c1, .int .i64 t.c2, .int .i64 t.c3, .int .i64 t.c4, .int .i64 t.c5, .int .i64 t.c6, .int .i64 t.c7, .int .i64 t.pad, .int .i64 t.grd, .int .i64 t.maj, .slice pa pn pc, .slice da dn dc, .slice ca cn cc, .slice sa n sc] 46))) := (Below.refl _ _).alloc (Nat.le_refl _) _
  have HX0 : Hid (TBx (w.alloc (.cells #[.int .i64 t.mem, .int .i64 t.s1, .int .i64 t.s2, .int .i64 t.s3, .int .i64 t.tlb, .int .i64 t.c1, .int .i64 t.c2, .int .i64 t.c3, .int .i64 t.c4, .int .i64 t.c5, .int .i64 t.c6, .int .i64 t.c7, .int .i64 t.pad, .int .i64 t.grd, .int .i64 t.maj, .slice pa pn pc, .slice da dn dc, .slice ca cn cc, .slice sa n sc] 46)) w.heap.size t ⟨pa, pn, pc, da, dn, dc, ca, cn, cc, sa, n, sc, Y⟩) := TBx.new w t ⟨pa, pn, pc, da, dn, dc, ca, cn, cc, sa, n, sc, Y⟩ _ rfl
  have HSP : Hid (Calls Tryz.prog 50 #[.agg #[.int .i64 t.mem, .int .i64 t.s1, .int .i64 t.s2, .int .i64 t.s3, .int .i64 t.tlb, .int .i64 t.c1, .int .i64 t.c2, .int .i64 t.c3, .int .i64 t.c4, .int .i64 t.c5, .int .i64 t.c6, .int .i64 t.c7, .int .i64 t.pad, .int .i64 t.grd, .int .i64 t.maj, .slice pa pn pc, .slice da dn dc, .slice ca cn cc, .slice sa n sc]] (w.alloc (.cells #[.int .i64 t.mem, .int .i64 t.s1, .int .i64 t.s2, .int .i64 t.s3, .int .i64 t.tlb, .int .i64 t.c1, .int .i64 t.c2, .int .i64 t.c3, .int .i64 t.c4, .int .i64 t.c5, .int .i64 t.c6, .int .i64 t.c7, .int .i64 t.pad, .int .i64 t.grd, .int .i64 t.maj, .slice pa pn pc, .slice da dn dc, .slice ca cn cc, .slice sa n sc] 46)) fun e w' => e = .returned (.bool q) ∧ Below (w.alloc (.cells #[.int .i64 t.mem, .int .i64 t.s1, .int .i64 t.s2, .int .i64 t.s3, .int .i64 t.tlb, .int .i64 t.c1, .int .i64 t.c2, .int .i64 t.c3, .int .i64 t.c4, .int .i64 t.c5, .int .i64 t.c6, .int .i64 t.c7, .int .i64 t.pad, .int .i64 t.grd, .int .i64 t.maj, .slice pa pn pc, .slice da dn dc, .slice ca cn cc, .slice sa n sc] 46)).heap.size (w.alloc (.cells #[.int .i64 t.mem, .int .i64 t.s1, .int .i64 t.s2, .int .i64 t.s3, .int .i64 t.tlb, .int .i64 t.c1, .int .i64 t.c2, .int .i64 t.c3, .int .i64 t.c4, .int .i64 t.c5, .int .i64 t.c6, .int .i64 t.c7, .int .i64 t.pad, .int .i64 t.grd, .int .i64 t.maj, .slice pa pn pc, .slice da dn dc, .slice ca cn cc, .slice sa n sc] 46)) w') := impl_sound t ⟨pa, pn, pc, da, dn, dc, ca, cn, cc, sa, n, sc, Y⟩ q _ (hm.below HB0.out) hw hs (he.below HB0.out) hcp hq
  have HS : Hid (GSeg 3 w sa n (slX t.ss)) := hm.s.seg
  have HL : Hid (t.ss.length = n) := hw.sl
  have hn : n ≤ 1048576 := hs.s
  have HQ : Hid (q = true ↔ Sd t) := hq
  clear hm hw hs hq he hcp
  go_enter Tryz.func26, Tryz.ntmps26
  go_wp2_with (first | (refine wpList_load_row rfl 46 (.tmp 1) rfl w.heap.size rfl 46 #[.int .i64 t.mem, .int .i64 t.s1, .int .i64 t.s2, .int .i64 t.s3, .int .i64 t.tlb, .int .i64 t.c1, .int .i64 t.c2, .int .i64 t.c3, .int .i64 t.c4, .int .i64 t.c5, .int .i64 t.c6, .int .i64 t.c7, .int .i64 t.pad, .int .i64 t.grd, .int .i64 t.maj, .slice pa pn pc, .slice da dn dc, .slice ca cn cc, .slice sa n sc] (0, 0) _ HX0.out Tryz.underlying46 rfl (by kernel_rfl) ?_) | fail)
  refine Calls.mono HSP.out ?_
  rintro e w1 ⟨rfl, hb1⟩
  have HB1 : Hid (Below w.heap.size w w1) := HB0.out.trans (hb1.mono HB0.out.size)
  have HX1 : Hid (TBx w1 w.heap.size t ⟨pa, pn, pc, da, dn, dc, ca, cn, cc, sa, n, sc, Y⟩) := HX0.out.below hb1
  clear hb1 HB0 HX0 HSP
  cases q
  · have HT : Hid (¬ Sd t) := fun h => by have := HQ.out.2 h; cases this
    go_wp2
    go_ret
    exact ⟨⟨_, rfl, .inl ⟨HT.out, rfl⟩⟩, HB1.out⟩
  have HT : Hid (Sd t) := HQ.out.1 rfl
  clear HQ
  obtain ⟨_, ⟨hg1, hg2⟩, ⟨hj1, hj2⟩, hn16, hlf⟩ := sd_slots2 HT.out
  have hp1 := (sd_slots2 HT.out).1
  rw [HL.out] at hn16 hlf
  have HLF : Hid (∀ i, i < n → 0 < (t.ss.getD i sl0).2.2 ∧ (t.ss.getD i sl0).2.2 ≤ 5000) := fun i hi => by
    have := hlf i hi
    omega
  clear hlf hp1
  have k18 : w1.cell? ⟨w.heap.size, 18, none⟩ = some (.slice sa n sc) := HX1.out.cell 18 rfl
  have k14 : w1.cell? ⟨w.heap.size, 14, none⟩ = some (.int .i64 t.maj) := HX1.out.cell 14 rfl
  go_wp2
  clear k18 k14
  go_loopw [3, 14] (fun v i wr => ∃ (m : Nat) (f : Int), m ≤ n ∧ -5000 * (m : Int) ≤ f ∧ f ≤ 5000 ∧ i = .int .i64 m ∧ v = .int .i64 f ∧ Hid (f = t.maj - lenN t.ss m ∧ Below w1.heap.size w1 wr)) (fun _ i _ => n - (intOf i).toNat)
  case atStart => exact ⟨0, t.maj, by omega, by omega, by omega, rfl, rfl, (show t.maj = t.maj - 0 by omega), Below.refl _ _⟩
  case round =>
    obtain ⟨m, f, hm, hf0, hf1, rfl, rfl, HR⟩ := hrel
    have HBR : Hid (Below w.heap.size w wr) := HB1.out.trans (HR.out.2.mono HB1.out.size)
    by_cases hmn : m < n
    rotate_left
    · obtain rfl : m = n := by omega
      have HF : Hid (GR t f) := .inr ⟨HT.out, by rw [HL.out]; exact HR.out.1⟩
      go_wp2
      go_ret
      exact ⟨⟨_, rfl, HF.out⟩, HBR.out⟩
    have hmn' : (m : Int) < (n : Int) := by omega
    obtain ⟨b1, o1, rfl, hbl1, p1⟩ := HS.out.at m hmn
    replace p1 := p1.of (w' := wr) (fun j => HBR.out.cell (p := ⟨b1, j, none⟩) hbl1)
    have hlf := HLF.out m hmn
    have HY : Hid (f - (t.ss.getD m sl0).2.2 = t.maj - lenN t.ss (m + 1)) := by
      have := HR.out.1
      show _ = t.maj - (lenN t.ss m + (t.ss.getD m sl0).2.2)
      omega
    have HRB : Hid (Below w1.heap.size w1 wr) := HR.out.2
    simp only [slX] at p1
    generalize t.ss.getD m sl0 = y at p1 hlf HY
    obtain ⟨c0, c1, c2⟩ := sl_cells p1
    obtain ⟨x1, x2, x3⟩ := y
    simp only at c0 c1 c2 hlf HY
    obtain ⟨hl1, hl2⟩ := hlf
    have hal : Below wr.heap.size wr (wr.alloc (.cells #[.int .i64 x1, .int .i64 x2, .int .i64 x3] 72)) := (Below.refl _ _).alloc (Nat.le_refl _) _
    have HRV : Hid (Below w1.heap.size w1 (wr.alloc (.cells #[.int .i64 x1, .int .i64 x2, .int .i64 x3] 72))) := HRB.out.trans (hal.mono HRB.out.size)
    clear p1 hbl1 HR hal
    have hw1 : IntKind.i64.wrap (f - x3) = f - x3 := by rw [IntKind.wrap_i64]; omega
    have hfe0 : -5000 * ((m + 1 : Nat) : Int) ≤ f - x3 := by omega
    have hfe1 : f - x3 ≤ 5000 := by omega
    go_wp2
    go_roundw
    case rel => exact ⟨m + 1, f - x3, by omega, hfe0, hfe1, by go_num, rfl, HY.out, HRV.out⟩
    case measure => simp [intOf]; omega
theorem impl_gap (t : Tb) (a : Ad) (w : World) (hm : TM 0 w t a) (hw : TW t a) (hs : TS a) (he : TabE w) (hcp : a.pn ≤ a.pc) :
    Calls Tryz.prog 26 #[tbV t a] w fun e w' => (∃ r : Int, e = .returned (.int .i64 r) ∧ GR t r) ∧ Below w.heap.size w w' :=
  impl_gap0 t a.pa a.da a.ca a.sa a.pn a.pc a.dn a.dc a.cn a.cc a.sn a.sc a.Y w hm hw hs he hcp
end Go.Proofs.YtgfinojlmbfkdaaGreatDoor
namespace Go.Proofs.YtgfinojlmbfkdaaGreatDoor
open Go.ChangeShapes Go.WideShapes Go.ChangeAt Go.RowKit Go.Deep Go.Joins
set_option linter.unusedVariables false

theorem run_share {t : Tb} (h : Tm t) (x : Int) : ∀ k, k ≤ t.ss.length → runN t x t.maj k = shareN t x k := by
  intro k
  induction k with
  | zero => intro _; rfl
  | succ k ih =>
    intro hk
    have h1 := h.st k (by omega)
    have h2 := h.ln k (by omega)
    have h3 := h.en k (by omega)
    have h4 := h.pad1
    have h5 := h.grd1
    show runN t x t.maj k + (if _ then _ else _) = shareN t x k + (if _ then _ else _)
    rw [ih (by omega)]
    by_cases e : (t.ss.getD k sl0).1 = x
    · rw [if_pos e, if_pos e, Int.min_eq_right (by omega), Int.max_eq_left (by omega)]
      omega
    · rw [if_neg e, if_neg e]
theorem frame_cycles {t : Tb} (h : Tm t) {x : Int} (hx : 0 ≤ x) (c : Nat) (d : Nat) (hd : (d : Int) = (c : Int) + t.maj) : numB t x d - numB t x c = shareN t x t.ss.length := by
  rw [← ahead_num h hx d, ← ahead_num h hx c]
  unfold aheadV
  have hm := h.maj1
  have e1 : (d : Int) / t.maj = (c : Int) / t.maj + 1 := by rw [hd]; exact Int.add_ediv_of_dvd_right (Int.dvd_refl _) |>.trans (by rw [Int.ediv_self (by omega)])
  have e2 : (d : Int) % t.maj = (c : Int) % t.maj := by rw [hd]; simp
  rw [e1, e2, Int.add_mul, Int.one_mul]
  have := run_share h x t.ss.length (Nat.le_refl _)
  unfold runV at *
  omega
/-- The shares of the first m partitions, of the first k slots. -/
def sumN (t : Tb) (k : Nat) : Nat → Int
  | 0 => 0
  | m + 1 => sumN t k m + shareN t (m : Int) k
theorem sum_step {t : Tb} (k : Nat) : ∀ m : Nat, sumN t (k + 1) m = sumN t k m + (if 0 ≤ (t.ss.getD k sl0).1 ∧ (t.ss.getD k sl0).1 < (m : Int) then (t.ss.getD k sl0).2.2 - (t.pad + t.grd) else 0) := by
  intro m
  induction m with
  | zero =>
    rw [if_neg (by omega)]
    rfl
  | succ m ih =>
    show sumN t (k + 1) m + (shareN t (m : Int) k + (if _ then _ else _)) = sumN t k m + shareN t (m : Int) k + _
    rw [ih]
    by_cases e : (t.ss.getD k sl0).1 = (m : Int)
    · rw [if_pos e, if_neg (by omega), if_pos (by omega)]
      omega
    · rw [if_neg e]
      by_cases e2 : 0 ≤ (t.ss.getD k sl0).1 ∧ (t.ss.getD k sl0).1 < (m : Int)
      · rw [if_pos e2, if_pos (by omega)]
        omega
      · rw [if_neg e2, if_neg (by omega)]
        omega
theorem sum_all {t : Tb} (h : Tm t) : ∀ k, k ≤ t.ss.length → sumN t k t.ps.length + (k : Int) * (t.pad + t.grd) = lenN t.ss k := by
  intro k
  induction k with
  | zero =>
    intro _
    have : ∀ m, sumN t 0 m = 0 := by
      intro m
      induction m with
      | zero => rfl
      | succ m ih => show sumN t 0 m + 0 = 0; omega
    rw [this]
    show (0 : Int) + ((0 : Nat) : Int) * (t.pad + t.grd) = 0
    simp
  | succ k ih =>
    intro hk
    have h1 := ih (by omega)
    rw [sum_step, if_pos (h.pt k (by omega))]
    show _ = lenN t.ss k + (t.ss.getD k sl0).2.2
    rw [← h1, show ((k + 1 : Nat) : Int) = (k : Int) + 1 by omega, Int.add_mul, Int.one_mul]
    omega
theorem len_maj {t : Tb} (h : Tm t) : ∀ k, k < t.ss.length → lenN t.ss (k + 1) ≤ (t.ss.getD k sl0).2.1 + (t.ss.getD k sl0).2.2 := by
  intro k
  induction k with
  | zero =>
    intro hk
    have := h.st 0 hk
    show (0 : Int) + (t.ss.getD 0 sl0).2.2 ≤ _
    omega
  | succ k ih =>
    intro hk
    have h1 := ih (by omega)
    have h2 := h.od k (k + 1) (by omega) hk
    show lenN t.ss (k + 1) + (t.ss.getD (k + 1) sl0).2.2 ≤ _
    omega
theorem gap_pos {t : Tb} (h : Tm t) : 0 ≤ t.maj - lenN t.ss t.ss.length := by
  have hn := h.n1
  obtain ⟨k, hk⟩ : ∃ k, t.ss.length = k + 1 := ⟨t.ss.length - 1, by omega⟩
  have h1 := len_maj h k (by omega)
  have h2 := h.en k (by omega)
  rw [hk]
  omega
theorem share_none {t : Tb} {x : Int} : ∀ k, (∀ i, i < k → (t.ss.getD i sl0).1 ≠ x) → shareN t x k = 0 := by
  intro k
  induction k with
  | zero => intro _; rfl
  | succ k ih =>
    intro hn
    show shareN t x k + (if _ then _ else _) = 0
    rw [ih (fun i hi => hn i (by omega)), if_neg (hn k (by omega))]
    omega
theorem stL_mono {t : Tb} {x c : Int} {y : Int} {m : Nat} (hy : y ∈ stL t x c m) : ∀ n, m ≤ n → y ∈ stL t x c n := by
  intro n
  induction n with
  | zero => intro h; obtain rfl : m = 0 := by omega
            exact hy
  | succ n ih =>
    intro h
    by_cases e : m = n + 1
    · rw [← e]; exact hy
    · show y ∈ stL t x c n ++ _
      exact List.mem_append.2 (.inl (ih (by omega)))
theorem starts_some {t : Tb} (h : Tm t) {x : Int} {zs : List Int} (hx : 0 ≤ x ∧ x < (t.ps.length : Int)) (hs : Sd t) (hz : startsV t x 0 t.maj zs) (hn : shareN t x t.ss.length ≠ 0) : zs ≠ [] := by
  have hm := h.maj1
  have hm2 := h.maj2
  have hI : (Sd t ∧ IsC 0) ∧ IsC t.maj ∧ 0 ≤ x ∧ x < (t.ps.length : Int) := ⟨⟨hs, by unfold IsC; omega⟩, by unfold IsC; omega, hx.1, hx.2⟩
  rcases hz with ⟨hno, _⟩ | ⟨_, rfl⟩
  · exact absurd hI hno
  · obtain ⟨i, hi, e⟩ : ∃ i, i < t.ss.length ∧ (t.ss.getD i sl0).1 = x := by
      by_cases q : ∃ i, i < t.ss.length ∧ (t.ss.getD i sl0).1 = x
      · exact q
      · exact absurd (share_none t.ss.length (fun i hi e => q ⟨i, hi, e⟩)) hn
    have h1 := h.st i hi
    have h2 := h.en i hi
    have h3 := h.ln i hi
    have h4 := h.pad1
    have h5 := h.grd1
    obtain ⟨s, hs'⟩ : ∃ s : Nat, (t.ss.getD i sl0).2.1 = (s : Int) := ⟨(t.ss.getD i sl0).2.1.toNat, by omega⟩
    have hf : firV t ((0 + (s : Int)) % t.maj) = x := by
      rw [Int.zero_add, Int.emod_eq_of_lt (by omega) (by omega), fir_at h hi hs', e]
    have hin : (0 + (s : Int)) ∈ stL t x 0 (s + 1) := by
      show _ ∈ stL t x 0 s ++ (if _ then _ else _)
      rw [if_pos hf]
      simp
    have := stL_mono hin (t.maj - 0).toNat (by omega)
    intro e0
    rw [e0] at this
    cases this
/-- The sum over all partitions. -/
theorem shares_sum {t : Tb} (h : Tm t) : t.maj - lenN t.ss t.ss.length + (t.ss.length : Int) * (t.pad + t.grd) + sumN t t.ss.length t.ps.length = t.maj := by
  have := sum_all h t.ss.length (Nat.le_refl _)
  omega
end Go.Proofs.YtgfinojlmbfkdaaGreatDoor
namespace Go.Proofs.YtgfinojlmbfkdaaGreatDoor
open Go.ChangeShapes Go.WideShapes Go.ChangeAt Go.RowKit Go.Deep
set_option linter.unusedVariables false

theorem big_no (a : Option Addr) (n cap : Nat) (w : World) (h : n ≤ 1048576) : Calls Tryz.prog 16 #[.slice a n cap] w fun e w' => e = .returned (.bool false) ∧ w' = w := by
  have h2 : ¬ (1048576 : Int) < (n : Int) := by omega
  go_enter Tryz.func16, Tryz.ntmps16
  go_wp2
  go_ret
  exact ⟨rfl, rfl⟩
theorem big_yes (a : Option Addr) (n cap : Nat) (w : World) (h : ¬ n ≤ 1048576) : Calls Tryz.prog 16 #[.slice a n cap] w fun e w' => e = .returned (.bool true) ∧ w' = w := by
  have h2 : (1048576 : Int) < (n : Int) := by omega
  go_enter Tryz.func16, Tryz.ntmps16
  go_wp2
  go_ret
  exact ⟨rfl, rfl⟩
set_option maxHeartbeats 400000 in
theorem at_any (a : Option Addr) (cap n : Nat) (zs : List Int) (i : Nat) (w : World) (hn : n ≤ 1048576) (hl : zs.length = n) (hi : i ≤ 1000) (hs : Seg .u8 w a zs) (hb : ∀ z ∈ zs, (Lit.int .u8 z).wf = true) :
    Calls Tryz.prog 28 #[.slice a n cap, .int .i64 i] w fun e w' => ∃ x : Int, e = .returned (.int .i64 x) ∧ 0 ≤ x ∧ x ≤ 255 ∧ w' = w := by
  by_cases h : i < n
  · obtain ⟨b, off, he, hbl, hc⟩ := hs.at i (by omega)
    have hz := bounds_u8 (hb _ (getD_mem zs i (by omega)))
    obtain ⟨hz0, hz1⟩ := hz
    subst he
    generalize zs.getD i 0 = z at hc hz0 hz1
    clear hs hb hl
    have h2 : (i : Int) < (n : Int) := by omega
    go_enter Tryz.func28, Tryz.ntmps28
    go_wp2
    go_ret
    exact ⟨z, rfl, by omega, by omega, rfl⟩
  · have h2 : ¬ (i : Int) < (n : Int) := by omega
    have HM : Hid (0 ≤ (((i : Int) * 7 + n) % 256) ∧ (((i : Int) * 7 + n) % 256) ≤ 255) := ⟨Int.emod_nonneg _ (by decide), by omega⟩
    clear hs hb hl
    go_enter Tryz.func28, Tryz.ntmps28
    go_wp2
    go_ret
    exact ⟨_, rfl, HM.out.1, HM.out.2, rfl⟩
end Go.Proofs.YtgfinojlmbfkdaaGreatDoor
namespace Go.Proofs.YtgfinojlmbfkdaaGreatDoor
open Go.ChangeShapes Go.WideShapes Go.ChangeAt Go.RowKit Go.Deep Go.Joins
set_option linter.unusedVariables false

theorem share_bound {t : Tb} (h : Tm t) (x : Int) : 0 ≤ shareN t x t.ss.length ∧ shareN t x t.ss.length ≤ 80000 := by
  rw [← run_share h x t.ss.length (Nat.le_refl _)]
  exact runV_bound h h.maj2
theorem sumN_bound {t : Tb} (h : Tm t) : ∀ m : Nat, 0 ≤ sumN t t.ss.length m ∧ sumN t t.ss.length m ≤ 80000 * (m : Int) := by
  intro m
  induction m with
  | zero => exact ⟨Int.le_refl _, Int.le_refl _⟩
  | succ m ih =>
    have := share_bound h (m : Int)
    show 0 ≤ sumN t t.ss.length m + _ ∧ sumN t t.ss.length m + _ ≤ _
    omega
set_option maxRecDepth 40000 in
set_option maxHeartbeats 16000000 in
theorem walk_shares (a : Option Addr) (zs : List Int) (cap n : Nat) (w : World) (hs : Seg .u8 w a zs) (hb : ∀ z ∈ zs, (Lit.int .u8 z).wf = true) (hl : zs.length = n) (he : TabE w) :
    Calls Tryz.prog 5 #[.slice a n cap] w fun e w' => e = .returned (.bool true) ∧ Below w.heap.size w w' := by
  by_cases hn : n ≤ 1048576
  rotate_left
  · have HY : Hid _ := big_yes a n cap w hn
    go_enter Tryz.func5, Tryz.ntmps5
    go_wp2_with fail
    refine Calls.mono HY.out ?_
    rintro e w1 ⟨rfl, rfl⟩
    go_wp2
    go_ret
    exact ⟨rfl, Below.refl _ _⟩
  have HNO : Hid _ := big_no a n cap w hn
  have HDR : Hid _ := draw_tables w a zs cap n hs hb hl hn
  have HAT : Hid (∀ (i : Nat) X, i ≤ 1000 → Below w.heap.size w X → Calls Tryz.prog 28 #[.slice a n cap, .int .i64 i] X fun e w' => ∃ x : Int, e = .returned (.int .i64 x) ∧ 0 ≤ x ∧ x ≤ 255 ∧ w' = X) := fun i X hi hX => at_any a cap n zs i X hn hl hi (hs.below hX) hb
  have HTE : Hid (∀ X, Below w.heap.size w X → TabE X) := fun X hX => he.below hX
  clear hs hb hl he
  go_enter Tryz.func5, Tryz.ntmps5
  go_wp2_with fail
  refine Calls.mono HNO.out ?_
  rintro e w ⟨rfl, rfl⟩
  go_wp2_with fail
  refine Calls.mono HDR.out ?_
  rintro e w1 ⟨⟨t, ad, rfl, hD⟩, hb⟩
  have hT : Tm t := sd_tm hD.d.sd
  have HNR : Hid ((w1.alloc (.cells #[.int .i64 0, .int .i64 0, .int .i64 0, .int .i64 0, .int .i64 0, .int .i64 0, .int .i64 0, .int .i64 0, .int .i64 0, .int .i64 0, .int .i64 0, .int .i64 0, .int .i64 0, .int .i64 0, .int .i64 0, .slice none 0 0, .slice none 0 0, .slice none 0 0, .slice none 0 0] 46)).heap[w1.heap.size]? = some (.cells #[.int .i64 0, .int .i64 0, .int .i64 0, .int .i64 0, .int .i64 0, .int .i64 0, .int .i64 0, .int .i64 0, .int .i64 0, .int .i64 0, .int .i64 0, .int .i64 0, .int .i64 0, .int .i64 0, .int .i64 0, .slice none 0 0, .slice none 0 0, .slice none 0 0, .slice none 0 0] 46 (0, 0))) := new_row w1 _ _ _ rfl
  have hbV : Below w1.heap.size w1 ((w1.alloc (.cells #[.int .i64 0, .int .i64 0, .int .i64 0, .int .i64 0, .int .i64 0, .int .i64 0, .int .i64 0, .int .i64 0, .int .i64 0, .int .i64 0, .int .i64 0, .int .i64 0, .int .i64 0, .int .i64 0, .int .i64 0, .slice none 0 0, .slice none 0 0, .slice none 0 0, .slice none 0 0] 46)).setRow w1.heap.size (tbA t ad)) := below_setRow ((Below.refl _ _).alloc (Nat.le_refl _) _) (Nat.le_refl _) _
  have HX : Hid (∀ X, Below ((w1.alloc (.cells #[.int .i64 0, .int .i64 0, .int .i64 0, .int .i64 0, .int .i64 0, .int .i64 0, .int .i64 0, .int .i64 0, .int .i64 0, .int .i64 0, .int .i64 0, .int .i64 0, .int .i64 0, .int .i64 0, .int .i64 0, .slice none 0 0, .slice none 0 0, .slice none 0 0, .slice none 0 0] 46)).setRow w1.heap.size (tbA t ad)).heap.size ((w1.alloc (.cells #[.int .i64 0, .int .i64 0, .int .i64 0, .int .i64 0, .int .i64 0, .int .i64 0, .int .i64 0, .int .i64 0, .int .i64 0, .int .i64 0, .int .i64 0, .int .i64 0, .int .i64 0, .int .i64 0, .int .i64 0, .slice none 0 0, .slice none 0 0, .slice none 0 0, .slice none 0 0] 46)).setRow w1.heap.size (tbA t ad)) X → X.heap[w1.heap.size]? = some (.cells (tbA t ad) 46 (0, 0))) := fun X hX => row_below (setRow_heap _ _ _ _ _ _ HNR.out) hX
  have HB1 : Hid (Below w.heap.size w ((w1.alloc (.cells #[.int .i64 0, .int .i64 0, .int .i64 0, .int .i64 0, .int .i64 0, .int .i64 0, .int .i64 0, .int .i64 0, .int .i64 0, .int .i64 0, .int .i64 0, .int .i64 0, .int .i64 0, .int .i64 0, .int .i64 0, .slice none 0 0, .slice none 0 0, .slice none 0 0, .slice none 0 0] 46)).setRow w1.heap.size (tbA t ad))) := hb.trans (hbV.mono hb.size)
  have HM : Hid (∀ X, Below ((w1.alloc (.cells #[.int .i64 0, .int .i64 0, .int .i64 0, .int .i64 0, .int .i64 0, .int .i64 0, .int .i64 0, .int .i64 0, .int .i64 0, .int .i64 0, .int .i64 0, .int .i64 0, .int .i64 0, .int .i64 0, .int .i64 0, .slice none 0 0, .slice none 0 0, .slice none 0 0, .slice none 0 0] 46)).setRow w1.heap.size (tbA t ad)).heap.size ((w1.alloc (.cells #[.int .i64 0, .int .i64 0, .int .i64 0, .int .i64 0, .int .i64 0, .int .i64 0, .int .i64 0, .int .i64 0, .int .i64 0, .int .i64 0, .int .i64 0, .int .i64 0, .int .i64 0, .int .i64 0, .int .i64 0, .slice none 0 0, .slice none 0 0, .slice none 0 0, .slice none 0 0] 46)).setRow w1.heap.size (tbA t ad)) X → TM 0 X t ad ∧ TabE X) := fun X hX => ⟨hD.m X (hbV.trans (hX.mono hbV.size)), HTE.out X (HB1.out.trans (hX.mono HB1.out.size))⟩
  have HGA : Hid (∀ X, Below ((w1.alloc (.cells #[.int .i64 0, .int .i64 0, .int .i64 0, .int .i64 0, .int .i64 0, .int .i64 0, .int .i64 0, .int .i64 0, .int .i64 0, .int .i64 0, .int .i64 0, .int .i64 0, .int .i64 0, .int .i64 0, .int .i64 0, .slice none 0 0, .slice none 0 0, .slice none 0 0, .slice none 0 0] 46)).setRow w1.heap.size (tbA t ad)).heap.size ((w1.alloc (.cells #[.int .i64 0, .int .i64 0, .int .i64 0, .int .i64 0, .int .i64 0, .int .i64 0, .int .i64 0, .int .i64 0, .int .i64 0, .int .i64 0, .int .i64 0, .int .i64 0, .int .i64 0, .int .i64 0, .int .i64 0, .slice none 0 0, .slice none 0 0, .slice none 0 0, .slice none 0 0] 46)).setRow w1.heap.size (tbA t ad)) X → Calls Tryz.prog 26 #[tbV t ad] X fun e w' => e = .returned (.int .i64 (t.maj - lenN t.ss t.ss.length)) ∧ Below X.heap.size X w') := fun X hX => (impl_gap t ad X (HM.out X hX).1 hD.w hD.s (HM.out X hX).2 hD.c1).mono fun e w' ⟨⟨r, h1, h2⟩, h3⟩ => by
    rcases h2 with ⟨h2, _⟩ | ⟨_, h2⟩
    · exact absurd hD.d.sd h2
    · exact ⟨by rw [h1, h2], h3⟩
  have HSH : Hid (∀ (x : Int) X, Below ((w1.alloc (.cells #[.int .i64 0, .int .i64 0, .int .i64 0, .int .i64 0, .int .i64 0, .int .i64 0, .int .i64 0, .int .i64 0, .int .i64 0, .int .i64 0, .int .i64 0, .int .i64 0, .int .i64 0, .int .i64 0, .int .i64 0, .slice none 0 0, .slice none 0 0, .slice none 0 0, .slice none 0 0] 46)).setRow w1.heap.size (tbA t ad)).heap.size ((w1.alloc (.cells #[.int .i64 0, .int .i64 0, .int .i64 0, .int .i64 0, .int .i64 0, .int .i64 0, .int .i64 0, .int .i64 0, .int .i64 0, .int .i64 0, .int .i64 0, .int .i64 0, .int .i64 0, .int .i64 0, .int .i64 0, .slice none 0 0, .slice none 0 0, .slice none 0 0, .slice none 0 0] 46)).setRow w1.heap.size (tbA t ad)) X → Calls Tryz.prog 27 #[tbV t ad, .int .i64 x] X fun e w' => e = .returned (.int .i64 (shareN t x t.ss.length)) ∧ Below X.heap.size X w') := fun x X hX => (impl_share t ad x X (HM.out X hX).1 hD.w hD.s (HM.out X hX).2 hD.c1).mono fun e w' ⟨⟨r, h1, h2⟩, h3⟩ => by
    rcases h2 with ⟨h2, _⟩ | ⟨_, h2⟩
    · exact absurd hD.d.sd h2
    · exact ⟨by rw [h1, h2], h3⟩
  have HCY : Hid (∀ (x : Int) (y : Nat) X, 0 ≤ x → x < (ad.pn : Int) → y ≤ 1000 → Below ((w1.alloc (.cells #[.int .i64 0, .int .i64 0, .int .i64 0, .int .i64 0, .int .i64 0, .int .i64 0, .int .i64 0, .int .i64 0, .int .i64 0, .int .i64 0, .int .i64 0, .int .i64 0, .int .i64 0, .int .i64 0, .int .i64 0, .slice none 0 0, .slice none 0 0, .slice none 0 0, .slice none 0 0] 46)).setRow w1.heap.size (tbA t ad)).heap.size ((w1.alloc (.cells #[.int .i64 0, .int .i64 0, .int .i64 0, .int .i64 0, .int .i64 0, .int .i64 0, .int .i64 0, .int .i64 0, .int .i64 0, .int .i64 0, .int .i64 0, .int .i64 0, .int .i64 0, .int .i64 0, .int .i64 0, .slice none 0 0, .slice none 0 0, .slice none 0 0, .slice none 0 0] 46)).setRow w1.heap.size (tbA t ad)) X → Calls Tryz.prog 29 #[tbV t ad, .int .i64 x, .int .i64 (y : Int), .int .i64 ((y : Int) + t.maj)] X fun e w' => e = .returned (.int .i64 (shareN t x t.ss.length)) ∧ Below X.heap.size X w') := fun x y X h0 h1 hy hX => (impl_cyclesof t ad x (y : Int) ((y : Int) + t.maj) X (HM.out X hX).1 hD.w hD.s (HM.out X hX).2 hD.c1 hD.c2).mono fun e w' ⟨⟨r, e1, e2⟩, h3⟩ => by
    have q1 := hT.maj1
    have q2 := hT.maj2
    rcases e2 with ⟨e2, _⟩ | ⟨_, e2⟩
    · exact absurd ⟨⟨hD.d.sd, by unfold IsC; omega⟩, by unfold IsC; omega, by omega, h0, by rw [hD.w.pl]; exact h1⟩ e2
    · refine ⟨?_, h3⟩
      rw [e1, e2, show (y : Int).toNat = y by omega, frame_cycles hT h0 y ((y : Int) + t.maj).toNat (by omega)]
  have HST : Hid (∀ (x : Int) X, 0 ≤ x → x < (ad.pn : Int) → Below ((w1.alloc (.cells #[.int .i64 0, .int .i64 0, .int .i64 0, .int .i64 0, .int .i64 0, .int .i64 0, .int .i64 0, .int .i64 0, .int .i64 0, .int .i64 0, .int .i64 0, .int .i64 0, .int .i64 0, .int .i64 0, .int .i64 0, .slice none 0 0, .slice none 0 0, .slice none 0 0, .slice none 0 0] 46)).setRow w1.heap.size (tbA t ad)).heap.size ((w1.alloc (.cells #[.int .i64 0, .int .i64 0, .int .i64 0, .int .i64 0, .int .i64 0, .int .i64 0, .int .i64 0, .int .i64 0, .int .i64 0, .int .i64 0, .int .i64 0, .int .i64 0, .int .i64 0, .int .i64 0, .int .i64 0, .slice none 0 0, .slice none 0 0, .slice none 0 0, .slice none 0 0] 46)).setRow w1.heap.size (tbA t ad)) X → Calls Tryz.prog 30 #[tbV t ad, .int .i64 x, .int .i64 0, .int .i64 t.maj] X fun e w' => (∃ b m c, e = .returned (.slice b m c) ∧ m ≤ 50000 ∧ (m = 0 → shareN t x t.ss.length = 0)) ∧ Below X.heap.size X w') := fun x X h0 h1 hX => by
    obtain ⟨us, hus, hul⟩ := starts_ex t x 0 t.maj
    refine (impl_starts t ad x 0 t.maj us X (HM.out X hX).1 hD.w hD.s (HM.out X hX).2 hD.c1 hD.c2 hus).mono fun e w' h => ?_
    obtain ⟨a', cap', rfl, hb9, _⟩ := h
    by_cases q : shareN t x t.ss.length = 0
    · exact ⟨⟨_, _, _, rfl, hul, fun _ => q⟩, hb9⟩
    · exact ⟨⟨_, _, _, rfl, hul, fun h => absurd (List.eq_nil_of_length_eq_zero h) (starts_some hT ⟨h0, by rw [hD.w.pl]; exact h1⟩ hD.d.sd hus q)⟩, hb9⟩
  have HBD : Hid (∀ x : Int, 0 ≤ shareN t x t.ss.length ∧ shareN t x t.ss.length ≤ 80000) := share_bound hT
  have HSB : Hid (∀ m : Nat, 0 ≤ sumN t t.ss.length m ∧ sumN t t.ss.length m ≤ 80000 * (m : Int)) := sumN_bound hT
  have HSU : Hid (t.maj - lenN t.ss t.ss.length + (ad.sn : Int) * (t.pad + t.grd) + sumN t t.ss.length ad.pn = t.maj) := by
    have := shares_sum hT
    rw [hD.w.sl, hD.w.pl] at this
    rw [hD.w.sl]
    exact this
  have hg0 := gap_pos hT
  have hpn : ad.pn ≤ 4 := by rw [← hD.w.pl]; exact hD.d.n.2
  have hsn : ad.sn ≤ 16 := by rw [← hD.w.sl]; exact hT.n2
  have hp1 := hT.pad1
  have hp2 := hT.pad2
  have hr1 := hT.grd1
  have hr2 := hT.grd2
  have hm1 := hT.maj1
  have hm2 := hT.maj2
  obtain ⟨g, HG⟩ : ∃ g, Hid (t.maj - lenN t.ss t.ss.length = g) := ⟨_, rfl⟩
  have hl0 : 0 ≤ lenN t.ss t.ss.length := by
    have h1 := sum_all hT t.ss.length (Nat.le_refl _)
    have h2 := (HSB.out t.ps.length).1
    have h3 : 0 ≤ (t.ss.length : Int) * (t.pad + t.grd) := Int.mul_nonneg (by omega) (by omega)
    omega
  rw [HG.out] at HGA HSU hg0
  have hg1 : g ≤ 5000 := by rw [← HG.out]; omega
  obtain ⟨k, HK⟩ : ∃ k, Hid ((ad.sn : Int) * (t.pad + t.grd) = k) := ⟨_, rfl⟩
  have hk : 0 ≤ k ∧ k ≤ 160000 := by
    rw [← HK.out]
    exact ⟨Int.mul_nonneg (by omega) (by omega), Int.le_trans (Int.mul_le_mul (show (ad.sn : Int) ≤ 16 by omega) (show t.pad + t.grd ≤ 10000 by omega) (by omega) (by omega)) (by omega)⟩
  rw [HK.out] at HSU
  have c18 : ((w1.alloc (.cells #[.int .i64 0, .int .i64 0, .int .i64 0, .int .i64 0, .int .i64 0, .int .i64 0, .int .i64 0, .int .i64 0, .int .i64 0, .int .i64 0, .int .i64 0, .int .i64 0, .int .i64 0, .int .i64 0, .int .i64 0, .slice none 0 0, .slice none 0 0, .slice none 0 0, .slice none 0 0] 46)).setRow w1.heap.size (tbA t ad)).cell? ⟨w1.heap.size, 18, none⟩ = some (.slice ad.sa ad.sn ad.sc) := TBx.cell (HX.out _ (Below.refl _ _)) 18 rfl
  have c12 : ((w1.alloc (.cells #[.int .i64 0, .int .i64 0, .int .i64 0, .int .i64 0, .int .i64 0, .int .i64 0, .int .i64 0, .int .i64 0, .int .i64 0, .int .i64 0, .int .i64 0, .int .i64 0, .int .i64 0, .int .i64 0, .int .i64 0, .slice none 0 0, .slice none 0 0, .slice none 0 0, .slice none 0 0] 46)).setRow w1.heap.size (tbA t ad)).cell? ⟨w1.heap.size, 12, none⟩ = some (.int .i64 t.pad) := TBx.cell (HX.out _ (Below.refl _ _)) 12 rfl
  have c13 : ((w1.alloc (.cells #[.int .i64 0, .int .i64 0, .int .i64 0, .int .i64 0, .int .i64 0, .int .i64 0, .int .i64 0, .int .i64 0, .int .i64 0, .int .i64 0, .int .i64 0, .int .i64 0, .int .i64 0, .int .i64 0, .int .i64 0, .slice none 0 0, .slice none 0 0, .slice none 0 0, .slice none 0 0] 46)).setRow w1.heap.size (tbA t ad)).cell? ⟨w1.heap.size, 13, none⟩ = some (.int .i64 t.grd) := TBx.cell (HX.out _ (Below.refl _ _)) 13 rfl
  clear hb hbV hD hT HDR HNO HTE HM hl0
  go_wp2_with (first | (refine wpList_store_row rfl 46 (.tmp 3) (.tmp 11) rfl w1.heap.size (tbA t ad) rfl rfl 46 #[.int .i64 0, .int .i64 0, .int .i64 0, .int .i64 0, .int .i64 0, .int .i64 0, .int .i64 0, .int .i64 0, .int .i64 0, .int .i64 0, .int .i64 0, .int .i64 0, .int .i64 0, .int .i64 0, .int .i64 0, .slice none 0 0, .slice none 0 0, .slice none 0 0, .slice none 0 0] HNR.out (by kernel_rfl) rfl (by simp [Value.oneCell']) ?_) | fail)
  clear HNR
  revert HX HB1 HGA HSH HCY HST c18 c12 c13
  generalize ((w1.alloc (.cells #[.int .i64 0, .int .i64 0, .int .i64 0, .int .i64 0, .int .i64 0, .int .i64 0, .int .i64 0, .int .i64 0, .int .i64 0, .int .i64 0, .int .i64 0, .int .i64 0, .int .i64 0, .int .i64 0, .int .i64 0, .slice none 0 0, .slice none 0 0, .slice none 0 0, .slice none 0 0] 46)).setRow w1.heap.size (tbA t ad)) = V
  generalize w1.heap.size = N
  intro HX HB1 HSH HCY HST HGA c18 c12 c13
  have G18 := fun X => gr_cell c18 X
  have G12 := fun X => gr_cell c12 X
  have G13 := fun X => gr_cell c13 X
  have HXG : Hid (∀ X, (∃ x : Gr V, X = x.w) → X.heap[N]? = some (.cells (tbA t ad) 46 (0, 0))) := fun X ⟨x, e⟩ => by rw [e]; exact HX.out x.w x.h
  have HGG : Hid (∀ x : Gr V, Calls Tryz.prog 26 #[tbV t ad] x.w fun e w' => e = .returned (.int .i64 g) ∧ Below x.w.heap.size x.w w') := fun x => HGA.out x.w x.h
  have hw1 : IntKind.i64.wrap (t.pad + t.grd) = t.pad + t.grd := by rw [IntKind.wrap_i64]; omega
  have hw2 : IntKind.i64.wrap ((ad.sn : Int) * (t.pad + t.grd)) = k := by rw [HK.out, IntKind.wrap_i64]; omega
  have hw3 : IntKind.i64.wrap (g + k) = g + k := by rw [IntKind.wrap_i64]; omega
  have hgr := gr_some V
  refine region_alike (by kernel_rfl) (by kernel_rfl) ?_
  repeat (first | (refine wpQuiet_load_row rfl 46 (.tmp 3) rfl N rfl 46 (tbA t ad) (0, 0) _ HXG.out Tryz.underlying46 rfl (by kernel_rfl) ?_; simp only [Act.put, List.setIfInBounds_toArray, List.set_cons_zero, List.set_cons_succ]) | go_big_quiet_step (first | (go_at_call 26; exact gr_call (HGG.out _))))
  refine wpQuiet_nil ?_
  intro _ hw'
  obtain ⟨X1, rfl⟩ := hw'
  have HBX : Hid (Below V.heap.size V X1.w) := X1.h
  generalize X1.w = w2 at HBX ⊢
  clear G18 G12 G13 hgr HGG HXG
  go_wp2
  go_loopw [4, 5] (fun v4 v5 wr => ∃ (m : Nat) (s : Int), m ≤ ad.pn ∧ 0 ≤ s ∧ s ≤ 1000000 ∧ v5 = .int .i64 (m : Int) ∧ v4 = .int .i64 s ∧ Hid (s = g + k + sumN t t.ss.length m ∧ Below V.heap.size V wr)) (fun _ x _ => ad.pn - (intOf x).toNat)
  case atStart => exact ⟨0, g + k, by omega, by omega, by omega, rfl, rfl, by show g + k = g + k + 0; omega, HBX.out⟩
  case round =>
    obtain ⟨m, s, hm, hs0, hs1, rfl, rfl, HR⟩ := hrel
    have HBR : Hid (Below V.heap.size V wr) := HR.out.2
    have HES : Hid (s = g + k + sumN t t.ss.length m) := HR.out.1
    clear HR
    have k15 : wr.cell? ⟨N, 15, none⟩ = some (.slice ad.pa ad.pn ad.pc) := TBx.cell (HX.out _ HBR.out) 15 rfl
    have k14 : wr.cell? ⟨N, 14, none⟩ = some (.int .i64 t.maj) := TBx.cell (HX.out _ HBR.out) 14 rfl
    by_cases hmn : m < ad.pn
    rotate_left
    · obtain rfl : m = ad.pn := by omega
      have hsm : s = t.maj := by rw [HES.out]; have := HSU.out; omega
      subst hsm
      have hge : decide (0 ≤ g) = true := decide_eq_true hg0
      go_wp2_with (first | (refine wpList_load_rowG rfl 46 (.tmp 3) rfl N rfl 46 (tbA t ad) (0, 0) _ (HX.out _ HBR.out) Tryz.underlying46 rfl (by kernel_rfl) ?_) | fail)
      refine Calls.mono (HGA.out _ HBR.out) ?_
      rintro e w3 ⟨rfl, hb3⟩
      have HE : Hid (Below w.heap.size w w3) := HB1.out.trans ((HBR.out.trans (hb3.mono HBR.out.size)).mono HB1.out.size)
      clear hb3
      go_wp2
      go_ret
      exact ⟨rfl, HE.out⟩
    have hmn' : (m : Int) < (ad.pn : Int) := by omega
    have HCM : Hid _ := HBD.out (m : Int)
    obtain ⟨sh, HSV⟩ : ∃ sh, Hid (shareN t (m : Int) t.ss.length = sh) := ⟨_, rfl⟩
    have HS1 : Hid (∀ X, Below V.heap.size V X → Calls Tryz.prog 27 #[tbV t ad, .int .i64 (m : Int)] X fun e w' => e = .returned (.int .i64 sh) ∧ Below X.heap.size X w') := fun X hX => by rw [← HSV.out]; exact HSH.out (m : Int) X hX
    have HC1 : Hid (∀ (y : Nat) X, y ≤ 1000 → Below V.heap.size V X → Calls Tryz.prog 29 #[tbV t ad, .int .i64 (m : Int), .int .i64 (y : Int), .int .i64 ((y : Int) + t.maj)] X fun e w' => e = .returned (.int .i64 sh) ∧ Below X.heap.size X w') := fun y X hy hX => by rw [← HSV.out]; exact HCY.out (m : Int) y X (by omega) hmn' hy hX
    have HT1 : Hid (∀ X, Below V.heap.size V X → Calls Tryz.prog 30 #[tbV t ad, .int .i64 (m : Int), .int .i64 0, .int .i64 t.maj] X fun e w' => (∃ b m c, e = .returned (.slice b m c) ∧ m ≤ 50000 ∧ (m = 0 → sh = 0)) ∧ Below X.heap.size X w') := fun X hX => by rw [← HSV.out]; exact HST.out (m : Int) X (by omega) hmn' hX
    have hsh := HCM.out
    rw [HSV.out] at hsh
    have HNX : Hid (s + sh = g + k + sumN t t.ss.length (m + 1)) := by
      show s + sh = g + k + (sumN t t.ss.length m + shareN t (m : Int) t.ss.length)
      rw [HSV.out, HES.out]; omega
    have HNB : Hid _ := HSB.out (m + 1)
    clear HCM HSV HES
    obtain ⟨hsh0, hsh1⟩ := hsh
    go_wp2_with (first | (refine wpList_load_row rfl 46 (.tmp 3) rfl N rfl 46 (tbA t ad) (0, 0) _ (HX.out _ HBR.out) Tryz.underlying46 rfl (by kernel_rfl) ?_) | fail)
    refine Calls.mono (HS1.out _ HBR.out) ?_
    rintro e w3 ⟨rfl, hb3⟩
    have HB3 : Hid (Below V.heap.size V w3) := HBR.out.trans (hb3.mono HBR.out.size)
    clear hb3 HBR k15 k14
    go_wp2_with fail
    refine Calls.mono (HAT.out m _ (by omega) (HB1.out.trans (HB3.out.mono HB1.out.size))) ?_
    rintro e w4 ⟨xa, rfl, hxa0, hxa1, rfl⟩
    obtain ⟨xn, rfl⟩ : ∃ xn : Nat, xa = (xn : Int) := ⟨xa.toNat, by omega⟩
    have k14 : w4.cell? ⟨N, 14, none⟩ = some (.int .i64 t.maj) := TBx.cell (HX.out _ HB3.out) 14 rfl
    have hx3 : IntKind.i64.wrap ((xn : Int) * 3) = ((xn * 3 : Nat) : Int) := by rw [IntKind.wrap_i64]; omega
    obtain ⟨fr, HFR⟩ : ∃ fr : Nat, fr = xn * 3 := ⟨_, rfl⟩
    rw [← HFR] at hx3
    have hfr : fr ≤ 1000 := by omega
    have hx4 : IntKind.i64.wrap ((fr : Int) + t.maj) = (fr : Int) + t.maj := by rw [IntKind.wrap_i64]; omega
    clear HFR
    go_wp2_with (first | (refine wpList_load_row rfl 46 (.tmp 3) rfl N rfl 46 (tbA t ad) (0, 0) _ (HX.out _ HB3.out) Tryz.underlying46 rfl (by kernel_rfl) ?_) | fail)
    refine Calls.mono (HC1.out fr _ hfr HB3.out) ?_
    rintro e w5 ⟨rfl, hb5⟩
    have HB5 : Hid (Below V.heap.size V w5) := HB3.out.trans (hb5.mono HB3.out.size)
    clear hb5 HB3 k14 hx3 hx4
    have hne : (sh != sh) = false := by simp
    have k14 : w5.cell? ⟨N, 14, none⟩ = some (.int .i64 t.maj) := TBx.cell (HX.out _ HB5.out) 14 rfl
    go_wp2_with (first | (refine wpList_load_rowG rfl 46 (.tmp 3) rfl N rfl 46 (tbA t ad) (0, 0) _ (HX.out _ HB5.out) Tryz.underlying46 rfl (by kernel_rfl) ?_) | fail)
    refine Calls.mono (HT1.out _ HB5.out) ?_
    rintro e w6 ⟨⟨bS, mS, cS, rfl, hmS, hz⟩, hb6⟩
    have HB6 : Hid (Below V.heap.size V w6) := HB5.out.trans (hb6.mono HB5.out.size)
    clear hb6 HB5 k14
    have hws : IntKind.i64.wrap (s + sh) = s + sh := by rw [IntKind.wrap_i64]; omega
    have hsn2 : s + sh ≤ 1000000 := by
      have h1 := HNX.out
      have h2 := HNB.out.2
      have h3 : ((m + 1 : Nat) : Int) ≤ 4 := by omega
      omega
    by_cases h0 : mS = 0
    · obtain rfl := hz h0
      subst h0
      have he0 : (((0 : Nat) : Int) == 0) = true := by simp
      have hn0 : ((0 : Int) != 0) = false := by simp
      go_wp2
      go_roundw
      case rel => exact ⟨m + 1, s + 0, by omega, by omega, by omega, by go_num, by go_num, HNX.out, HB6.out⟩
      case measure => simp [intOf]; omega
    · have he0 : ((mS : Int) == 0) = false := beq_eq_false_iff_ne.2 (by omega)
      go_wp2
      go_roundw
      case rel => exact ⟨m + 1, s + sh, by omega, by omega, by omega, by go_num, rfl, HNX.out, HB6.out⟩
      case measure => simp [intOf]; omega
end Go.Proofs.YtgfinojlmbfkdaaGreatDoor
