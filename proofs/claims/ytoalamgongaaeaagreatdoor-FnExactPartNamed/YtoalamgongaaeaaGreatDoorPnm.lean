
/-
  The partition of a name: both sides. Conditions: the lists lie in memory, the lengths are at most 1048576; the program's table of extras holds what the program's text lays.
-/
import Derived.Test.YtoalamgongaaeaaGreatDoorBas
import Derived.Test.YtoalamgongaaeaaGreatDoorLsw
import Derived.Test.YtoalamgongaaeaaGreatDoorPev
namespace Go.Proofs.YtoalamgongaaeaaGreatDoor
open Go.ChangeShapes Go.WideShapes Go.ChangeAt Go.RowKit Go.Deep Go.Joins
set_option linter.unusedVariables false

/-- The first of which it holds. -/
def FI (n : Nat) (P : Nat → Bool) (r : Int) : Prop := (r = -1 ∧ ∀ i, i < n → P i = false) ∨ ∃ k : Nat, r = (k : Int) ∧ k < n ∧ P k = true ∧ ∀ i, i < k → P i = false
theorem FI.unique {n : Nat} {P : Nat → Bool} {r s : Int} (h : FI n P r) (g : FI n P s) : r = s := by
  rcases h with ⟨rfl, h⟩ | ⟨k, rfl, hk, h1, h2⟩ <;> rcases g with ⟨rfl, g⟩ | ⟨j, rfl, hj, g1, g2⟩
  · rfl
  · rw [h j hj] at g1; cases g1
  · rw [g k hk] at h1; cases h1
  · rcases Nat.lt_trichotomy k j with c | c | c
    · rw [g2 k c] at h1; cases h1
    · rw [c]
    · rw [h2 j c] at g1; cases g1
/-- The first partition of which it holds, where the tables are sound. -/
def FR (t : Tb) (P : Pt → Bool) (r : Int) : Prop := (¬ Sd t ∧ r = -1) ∨ (Sd t ∧ FI t.ps.length (fun i => P (t.ps.getD i pt0)) r)
theorem FR.unique {t : Tb} {P : Pt → Bool} {r s : Int} (h : FR t P r) (g : FR t P s) : r = s := by
  rcases h with ⟨h, rfl⟩ | ⟨h, h1⟩ <;> rcases g with ⟨g, rfl⟩ | ⟨g, g1⟩
  · rfl
  · exact absurd g h
  · exact absurd h g
  · exact h1.unique g1
set_option maxRecDepth 40000 in
set_option maxHeartbeats 8000000 in
theorem spec_named0 (t : Tb) (pa da ca sa : Option Addr) (n pc dn dc cn cc sn sc : Nat) (Y : Nat → Rw) (nm : ByteArray) (w : World) (hm : TM 0 w t ⟨pa, n, pc, da, dn, dc, ca, cn, cc, sa, sn, sc, Y⟩) (hw : TW t ⟨pa, n, pc, da, dn, dc, ca, cn, cc, sa, sn, sc, Y⟩) (hs : TS ⟨pa, n, pc, da, dn, dc, ca, cn, cc, sa, sn, sc, Y⟩) :
    Calls Tryz.prog 51 #[.agg #[.int .i64 t.mem, .int .i64 t.s1, .int .i64 t.s2, .int .i64 t.s3, .int .i64 t.tlb, .int .i64 t.c1, .int .i64 t.c2, .int .i64 t.c3, .int .i64 t.c4, .int .i64 t.c5, .int .i64 t.c6, .int .i64 t.c7, .int .i64 t.pad, .int .i64 t.grd, .int .i64 t.maj, .slice pa n pc, .slice da dn dc, .slice ca cn cc, .slice sa sn sc], .string nm] w fun e w' => (∃ r : Int, e = .returned (.int .i64 r) ∧ FR t (fun p => strEq p.nm nm) r) ∧ Below w.heap.size w w' := by
  obtain ⟨q, hq⟩ := told (Sd t)
  have HB0 : Hid (Below w.heap.size w (w.alloc (.cells #[.int .i64 t.mem, .int .i64 t.s1, .int .i64 t.s2, .int .i64 t.s3, .int .i64 t.tlb, .int .i64 t.c1, .int .i64 t.c2, .int .i64 t.c3, .int .i64 t.c4, .int .i64 t.c5, .int .i64 t.c6, .int .i64 t.c7, .int .i64 t.pad, .int .i64 t.grd, .int .i64 t.maj, .slice pa n pc, .slice da dn dc, .slice ca cn cc, .slice sa sn sc] 40))) := (Below.refl _ _).alloc (Nat.le_refl _) _
  have HX0 : Hid (TBx (w.alloc (.cells #[.int .i64 t.mem, .int .i64 t.s1, .int .i64 t.s2, .int .i64 t.s3, .int .i64 t.tlb, .int .i64 t.c1, .int .i64 t.c2, .int .i64 t.c3, .int .i64 t.c4, .int .i64 t.c5, .int .i64 t.c6, .int .i64 t.c7, .int .i64 t.pad, .int .i64 t.grd, .int .i64 t.maj, .slice pa n pc, .slice da dn dc, .slice ca cn cc, .slice sa sn sc] 40)) w.heap.size t ⟨pa, n, pc, da, dn, dc, ca, cn, cc, sa, sn, sc, Y⟩) := TBx.new w t ⟨pa, n, pc, da, dn, dc, ca, cn, cc, sa, sn, sc, Y⟩ _ rfl
  have HSP : Hid (Calls Tryz.prog 45 #[.agg #[.int .i64 t.mem, .int .i64 t.s1, .int .i64 t.s2, .int .i64 t.s3, .int .i64 t.tlb, .int .i64 t.c1, .int .i64 t.c2, .int .i64 t.c3, .int .i64 t.c4, .int .i64 t.c5, .int .i64 t.c6, .int .i64 t.c7, .int .i64 t.pad, .int .i64 t.grd, .int .i64 t.maj, .slice pa n pc, .slice da dn dc, .slice ca cn cc, .slice sa sn sc]] (w.alloc (.cells #[.int .i64 t.mem, .int .i64 t.s1, .int .i64 t.s2, .int .i64 t.s3, .int .i64 t.tlb, .int .i64 t.c1, .int .i64 t.c2, .int .i64 t.c3, .int .i64 t.c4, .int .i64 t.c5, .int .i64 t.c6, .int .i64 t.c7, .int .i64 t.pad, .int .i64 t.grd, .int .i64 t.maj, .slice pa n pc, .slice da dn dc, .slice ca cn cc, .slice sa sn sc] 40)) fun e w' => e = .returned (.bool q) ∧ Below (w.alloc (.cells #[.int .i64 t.mem, .int .i64 t.s1, .int .i64 t.s2, .int .i64 t.s3, .int .i64 t.tlb, .int .i64 t.c1, .int .i64 t.c2, .int .i64 t.c3, .int .i64 t.c4, .int .i64 t.c5, .int .i64 t.c6, .int .i64 t.c7, .int .i64 t.pad, .int .i64 t.grd, .int .i64 t.maj, .slice pa n pc, .slice da dn dc, .slice ca cn cc, .slice sa sn sc] 40)).heap.size (w.alloc (.cells #[.int .i64 t.mem, .int .i64 t.s1, .int .i64 t.s2, .int .i64 t.s3, .int .i64 t.tlb, .int .i64 t.c1, .int .i64 t.c2, .int .i64 t.c3, .int .i64 t.c4, .int .i64 t.c5, .int .i64 t.c6, .int .i64 t.c7, .int .i64 t.pad, .int .i64 t.grd, .int .i64 t.maj, .slice pa n pc, .slice da dn dc, .slice ca cn cc, .slice sa sn sc] 40)) w') := spec_sound t ⟨pa, n, pc, da, dn, dc, ca, cn, cc, sa, sn, sc, Y⟩ q _ (hm.below HB0.out) hw hs hq
  have HP : Hid (PSegL 0 w pa n t.ps Y) := hm.p
  have HL : Hid (t.ps.length = n) := hw.pl
  have hn : n ≤ 1048576 := hs.p
  have HQ : Hid (q = true ↔ Sd t) := hq
  clear hm hw hs hq
  go_enter Tryz.func51, Tryz.ntmps51
  go_wp2_with (first | (refine wpList_load_row rfl 40 (.tmp 2) rfl w.heap.size rfl 40 #[.int .i64 t.mem, .int .i64 t.s1, .int .i64 t.s2, .int .i64 t.s3, .int .i64 t.tlb, .int .i64 t.c1, .int .i64 t.c2, .int .i64 t.c3, .int .i64 t.c4, .int .i64 t.c5, .int .i64 t.c6, .int .i64 t.c7, .int .i64 t.pad, .int .i64 t.grd, .int .i64 t.maj, .slice pa n pc, .slice da dn dc, .slice ca cn cc, .slice sa sn sc] (0, 0) _ HX0.out Tryz.underlying40 rfl (by kernel_rfl) ?_) | fail)
  refine Calls.mono HSP.out ?_
  rintro e w1 ⟨rfl, hb1⟩
  have HB1 : Hid (Below w.heap.size w w1) := HB0.out.trans (hb1.mono HB0.out.size)
  have HX1 : Hid (TBx w1 w.heap.size t ⟨pa, n, pc, da, dn, dc, ca, cn, cc, sa, sn, sc, Y⟩) := HX0.out.below hb1
  clear hb1 HB0 HX0 HSP
  cases q
  · have HT : Hid (¬ Sd t) := fun h => by have := HQ.out.2 h; cases this
    go_wp2
    go_ret
    exact ⟨⟨_, rfl, .inl ⟨HT.out, rfl⟩⟩, HB1.out⟩
  have HT : Hid (Sd t) := HQ.out.1 rfl
  clear HQ
  go_wp2
  go_loopw [5] (fun i wr => ∃ m : Nat, m ≤ n ∧ i = .int .i64 m ∧ Hid (Below w1.heap.size w1 wr ∧ ∀ j, j < m → strEq (t.ps.getD j pt0).nm nm = false)) (fun i _ => n - (intOf i).toNat)
  case atStart => exact ⟨0, by omega, rfl, Below.refl _ _, fun i hi => absurd hi (by omega)⟩
  case round =>
    obtain ⟨m, hm, rfl, HR⟩ := hrel
    have k15 : wr.cell? ⟨w.heap.size, 15, none⟩ = some (.slice pa n pc) := (HX1.out.below HR.out.1).cell 15 rfl
    have HBR : Hid (Below w.heap.size w wr) := HB1.out.trans (HR.out.1.mono HB1.out.size)
    by_cases hmn : m < n
    rotate_left
    · obtain rfl : m = n := by omega
      have HF : Hid (FR t (fun p => strEq p.nm nm) (-1)) := .inr ⟨HT.out, .inl ⟨rfl, fun i hi => HR.out.2 i (by rw [← HL.out]; exact hi)⟩⟩
      go_wp2
      go_ret
      exact ⟨⟨_, rfl, HF.out⟩, HBR.out⟩
    have hmn' : (m : Int) < (n : Int) := by omega
    obtain ⟨b1, o1, rfl, hbl1, p1⟩ := HP.out.1.seg.at m hmn
    replace p1 := p1.of (w' := wr) (fun j => HBR.out.cell (p := ⟨b1, j, none⟩) hbl1)
    have c0 : wr.cell? ⟨b1, o1 + m * 5, none⟩ = some (.string (Y m).nm) := (rw_cells p1).1
    have HE : Hid (strEq (Y m).nm nm = strEq (t.ps.getD m pt0).nm nm) := by show _ = _; rw [(HP.out.2 m hmn).nm]
    have HF : Hid (strEq (Y m).nm nm = true → FR t (fun p => strEq p.nm nm) (m : Int)) := fun h => .inr ⟨HT.out, .inr ⟨m, rfl, by rw [HL.out]; exact hmn, HE.out.symm.trans h, HR.out.2⟩⟩
    have HG : Hid (strEq (Y m).nm nm = false → ∀ j, j < m + 1 → strEq (t.ps.getD j pt0).nm nm = false) := fun h j hj => by
      by_cases e : j = m
      · subst e; rw [← HE.out]; exact h
      · exact HR.out.2 j (by omega)
    have HRB : Hid (Below w1.heap.size w1 wr) := HR.out.1
    generalize (Y m).nm = sm at c0 HF HG
    obtain ⟨se, HSE⟩ : ∃ b, Hid (strEq sm nm = b) := ⟨_, rfl⟩
    rw [HSE.out] at HF HG
    have hse : (sm.toList == nm.toList) = se := HSE.out
    clear HR p1 hbl1 HE
    cases se
    · have HG2 : Hid _ := HG.out (by trivial)
      clear HF HG
      go_wp2
      go_roundw
      case rel => exact ⟨m + 1, by omega, by go_num, HRB.out, HG2.out⟩
      case measure => simp [intOf]; omega
    · have HF2 : Hid _ := HF.out (by trivial)
      clear HF HG
      go_wp2
      go_ret
      exact ⟨⟨_, rfl, HF2.out⟩, HBR.out⟩
theorem spec_named (t : Tb) (a : Ad) (nm : ByteArray) (w : World) (hm : TM 0 w t a) (hw : TW t a) (hs : TS a) :
    Calls Tryz.prog 51 #[tbV t a, .string nm] w fun e w' => (∃ r : Int, e = .returned (.int .i64 r) ∧ FR t (fun p => strEq p.nm nm) r) ∧ Below w.heap.size w w' :=
  spec_named0 t a.pa a.da a.ca a.sa a.pn a.pc a.dn a.dc a.cn a.cc a.sn a.sc a.Y nm w hm hw hs
theorem t_named (y : Rw) (nm : ByteArray) (B : Nat) (q : Bool) (w : World) (hc : w.cell? ⟨B, 0, none⟩ = some (.string nm)) (hq : Hid (strEq y.nm nm = q)) : Calls Tryz.prog 132 #[rwV y, .pointer (some ⟨B, 0, none⟩)] w fun e w' => e = .returned (.bool q) ∧ Below w.heap.size w w' := by
  obtain ⟨sm, en, kd, ms, wa, wn, wc⟩ := y
  simp only [rwV] at *
  have HB0 : Hid (Below w.heap.size w (w.alloc (.cells #[.string sm, .int .i64 en, .int .i64 kd, .int .i64 ms, .slice wa wn wc] 90))) := (Below.refl _ _).alloc (Nat.le_refl _) _
  have hc2 : (w.alloc (.cells #[.string sm, .int .i64 en, .int .i64 kd, .int .i64 ms, .slice wa wn wc] 90)).cell? ⟨B, 0, none⟩ = some (.string nm) := kept_cell HB0.out hc
  go_enter Tryz.func132, Tryz.ntmps132
  go_wp2
  go_ret
  exact ⟨ret_bool hq.out, HB0.out⟩
set_option maxRecDepth 20000 in
theorem e_named : ∀ args (v : World), (callFunc 132 args).run Tryz.prog v = .ok (.enter 132 args) v := enters_of Tryz.func132 (by kernel_rfl) rfl
set_option maxRecDepth 40000 in
set_option maxHeartbeats 8000000 in
theorem tab_named (t : Tb) (a : Ad) (nm : ByteArray) (w : World) (hm : TM 0 w t a) (hw : TW t a) :
    Calls Tryz.prog 95 #[tbV t a, .string nm] w fun e w' => (∃ r : Int, e = .returned (.int .i64 r) ∧ ((r = -1 ∧ ∀ i, i < t.ps.length → strEq (t.ps.getD i pt0).nm nm = false) ∨ ∃ k : Nat, r = (k : Int) ∧ k < t.ps.length ∧ strEq (t.ps.getD k pt0).nm nm = true ∧ ∀ i, i < k → strEq (t.ps.getD i pt0).nm nm = false)) ∧ Below w.heap.size w w' := by
  have HB0 : Hid (Below w.heap.size w ((w.alloc (.cells (tbA t a) 40)).alloc (.cells #[.string nm] 9))) := ((Below.refl _ _).alloc (Nat.le_refl _) _).alloc (by simp) _
  have HX0 : Hid (TBx ((w.alloc (.cells (tbA t a) 40)).alloc (.cells #[.string nm] 9)) w.heap.size t a) := (TBx.new w t a _ rfl).below ((Below.refl _ _).alloc (Nat.le_refl _) _)
  have HN0 : Hid (CellsAt ((w.alloc (.cells (tbA t a) 40)).alloc (.cells #[.string nm] 9)) (w.heap.size + 1) 0 [.string nm]) := CellsAt.new _ [.string nm] _ _ (by simp)
  have k15 : ((w.alloc (.cells (tbA t a) 40)).alloc (.cells #[.string nm] 9)).cell? ⟨w.heap.size, 15, none⟩ = some (.slice a.pa a.pn a.pc) := HX0.out.cell 15 rfl
  have hP := hm.p.below HB0.out
  have HL : Hid (t.ps.length = a.pn) := hw.pl
  have HI : Hid (Calls Tryz.prog 97 #[.slice a.pa a.pn a.pc, .func (.func 132) #[] #[.pointer (some ⟨w.heap.size + 1, 0, none⟩)]] ((w.alloc (.cells (tbA t a) 40)).alloc (.cells #[.string nm] 9)) fun e w' => (∃ r : Int, e = .returned (.int .i64 r) ∧ ((r = -1 ∧ ∀ i, i < a.pn → strEq (a.Y i).nm nm = false) ∨ ∃ k : Nat, r = (k : Int) ∧ k < a.pn ∧ strEq (a.Y k).nm nm = true ∧ ∀ i, i < k → strEq (a.Y i).nm nm = false)) ∧ Below ((w.alloc (.cells (tbA t a) 40)).alloc (.cells #[.string nm] 9)).heap.size ((w.alloc (.cells (tbA t a) 40)).alloc (.cells #[.string nm] 9)) w') :=
    part_index a.pa a.pc a.pn a.Y (fun i => strEq (a.Y i).nm nm) 132 #[.pointer (some ⟨w.heap.size + 1, 0, none⟩)] _ hP.1.seg hw.pb e_named (fun i hi X hX => t_named (a.Y i) nm (w.heap.size + 1) _ X (cell0 (HN0.out.below hX) 0 rfl) rfl)
  have HY : Hid (∀ i, i < a.pn → strEq (a.Y i).nm nm = strEq (t.ps.getD i pt0).nm nm) := fun i hi => by rw [(hP.2 i hi).nm]
  clear hm hw hP HN0 HX0
  go_enter Tryz.func95, Tryz.ntmps95
  go_wp2_with fail
  refine Calls.mono HI.out ?_
  rintro e w2 ⟨⟨r, rfl, hr⟩, hb2⟩
  have HB2 : Hid (Below w.heap.size w w2) := HB0.out.trans (hb2.mono HB0.out.size)
  have HF : Hid ((r = -1 ∧ ∀ i, i < t.ps.length → strEq (t.ps.getD i pt0).nm nm = false) ∨ ∃ k : Nat, r = (k : Int) ∧ k < t.ps.length ∧ strEq (t.ps.getD k pt0).nm nm = true ∧ ∀ i, i < k → strEq (t.ps.getD i pt0).nm nm = false) := by
    rcases hr with ⟨rfl, h⟩ | ⟨k, rfl, hk, h1, h2⟩
    · exact .inl ⟨rfl, fun i hi => by rw [HL.out] at hi; exact (HY.out i hi).symm.trans (h i hi)⟩
    · exact .inr ⟨k, rfl, by rw [HL.out]; exact hk, (HY.out k hk).symm.trans h1, fun i hi => (HY.out i (by omega)).symm.trans (h2 i hi)⟩
  clear hr hb2 HI HB0 HY k15
  go_wp2
  go_ret
  exact ⟨⟨_, rfl, HF.out⟩, HB2.out⟩
set_option maxRecDepth 40000 in
set_option maxHeartbeats 8000000 in
theorem impl_named (t : Tb) (a : Ad) (nm : ByteArray) (w : World) (hm : TM 0 w t a) (hw : TW t a) (hs : TS a) (he : TabE w) (hcp : a.pn ≤ a.pc) :
    Calls Tryz.prog 52 #[tbV t a, .string nm] w fun e w' => (∃ r : Int, e = .returned (.int .i64 r) ∧ FR t (fun p => strEq p.nm nm) r) ∧ Below w.heap.size w w' := by
  obtain ⟨q, hq⟩ := told (Sd t)
  have HB0 : Hid (Below w.heap.size w (w.alloc (.cells (tbA t a) 40))) := (Below.refl _ _).alloc (Nat.le_refl _) _
  have HX0 : Hid (TBx (w.alloc (.cells (tbA t a) 40)) w.heap.size t a) := TBx.new w t a _ rfl
  have HSP : Hid (Calls Tryz.prog 46 #[tbV t a] (w.alloc (.cells (tbA t a) 40)) fun e w' => e = .returned (.bool q) ∧ Below (w.alloc (.cells (tbA t a) 40)).heap.size (w.alloc (.cells (tbA t a) 40)) w') := impl_sound t a q _ (hm.below HB0.out) hw hs (he.below HB0.out) hcp hq
  have HI : Hid (∀ X, Below w.heap.size w X → Calls Tryz.prog 95 #[tbV t a, .string nm] X fun e w' => (∃ r : Int, e = .returned (.int .i64 r) ∧ ((r = -1 ∧ ∀ i, i < t.ps.length → strEq (t.ps.getD i pt0).nm nm = false) ∨ ∃ k : Nat, r = (k : Int) ∧ k < t.ps.length ∧ strEq (t.ps.getD k pt0).nm nm = true ∧ ∀ i, i < k → strEq (t.ps.getD i pt0).nm nm = false)) ∧ Below X.heap.size X w') := fun X hX => tab_named t a nm X (hm.below hX) hw
  have HQ : Hid (q = true ↔ Sd t) := hq
  clear hm hw hs hq he hcp
  go_enter Tryz.func52, Tryz.ntmps52
  go_wp2_with (first | (refine wpList_load_row rfl 40 (.tmp 2) rfl w.heap.size rfl 40 (tbA t a) (0, 0) _ HX0.out Tryz.underlying40 rfl (by kernel_rfl) ?_) | fail)
  refine Calls.mono HSP.out ?_
  rintro e w1 ⟨rfl, hb1⟩
  have HB1 : Hid (Below w.heap.size w w1) := HB0.out.trans (hb1.mono HB0.out.size)
  have HX1 : Hid (TBx w1 w.heap.size t a) := HX0.out.below hb1
  clear hb1 HB0 HX0 HSP
  cases q
  · have HT : Hid (¬ Sd t) := fun h => by have := HQ.out.2 h; cases this
    clear HI
    go_wp2
    go_ret
    exact ⟨⟨_, rfl, .inl ⟨HT.out, rfl⟩⟩, HB1.out⟩
  have HT : Hid (Sd t) := HQ.out.1 rfl
  clear HQ
  go_wp2_with (first | (refine wpList_load_row rfl 40 (.tmp 2) rfl w.heap.size rfl 40 (tbA t a) (0, 0) _ HX1.out Tryz.underlying40 rfl (by kernel_rfl) ?_) | fail)
  refine Calls.mono (HI.out _ HB1.out) ?_
  rintro e w2 ⟨⟨r, rfl, hr⟩, hb2⟩
  have HB2 : Hid (Below w.heap.size w w2) := HB1.out.trans (hb2.mono HB1.out.size)
  have HF : Hid (FR t (fun p => strEq p.nm nm) r) := .inr ⟨HT.out, hr⟩
  clear hr hb2 HI HB1 HX1
  go_wp2
  go_ret
  exact ⟨⟨_, rfl, HF.out⟩, HB2.out⟩
set_option maxRecDepth 40000 in
set_option maxHeartbeats 8000000 in
theorem walk_partnamed (t : Tb) (a : Ad) (nm : ByteArray) (w : World) (hm : TM 0 w t a) (hw : TW t a) (he : TabE w) : Calls Tryz.prog 16 #[tbV t a, .string nm] w fun e w' => e = .returned (.bool true) ∧ Below w.heap.size w w' := by
  have HU : Hid (∀ X, Below w.heap.size w X → TM 0 X t a ∧ TabE X) := fun X hX => ⟨hm.below hX, he.below hX⟩
  have HW : Hid (TW t a) := hw
  have HB0 : Hid (Below w.heap.size w (w.alloc (.cells (tbA t a) 31))) := (Below.refl _ _).alloc (Nat.le_refl _) _
  have HX0 : Hid ((w.alloc (.cells (tbA t a) 31)).heap[w.heap.size]? = some (.cells (tbA t a) 31 (0, 0))) := new_row w _ _ _ rfl
  clear hm hw he
  go_enter Tryz.func16, Tryz.ntmps16
  by_cases hnl : (1048576 : Int) < (nm.size : Int)
  · go_wp2
    go_ret
    exact ⟨rfl, HB0.out⟩
  go_wp2_with (first | (refine wpList_load_row rfl 31 (.tmp 2) rfl w.heap.size rfl 31 (tbA t a) (0, 0) _ HX0.out Tryz.underlying31 rfl (by kernel_rfl) ?_) | fail)
  refine Calls.mono (sz_tab t a _ (HU.out _ HB0.out).1 HW.out) ?_
  rintro e w1 ⟨⟨r, rfl, hr⟩, hb1⟩
  have HB1 : Hid (Below w.heap.size w w1) := HB0.out.trans (hb1.mono HB0.out.size)
  have HX1 : Hid (w1.heap[w.heap.size]? = some (.cells (tbA t a) 31 (0, 0))) := row_below HX0.out hb1
  clear hb1 HB0 HX0
  rcases hr with rfl | ⟨h0, hs⟩
  · go_wp2
    go_ret
    exact ⟨rfl, HB1.out⟩
  have HS : Hid (TS a) := hs
  clear hs
  have hr0 : ¬ (r < 0) := by omega
  go_wp2_with (first | (refine wpList_load_row rfl 31 (.tmp 2) rfl w.heap.size rfl 31 (tbA t a) (0, 0) _ HX1.out Tryz.underlying31 rfl (by kernel_rfl) ?_) | fail)
  refine Calls.mono (copy_tab t a _ (HU.out _ HB1.out).1 HW.out HS.out) ?_
  rintro e w2 ⟨a2, rfl, hb2, hc2⟩
  have HB2 : Hid (Below w.heap.size w w2) := HB1.out.trans (hb2.mono HB1.out.size)
  have HX2 : Hid (w2.heap[w.heap.size]? = some (.cells (tbA t a) 31 (0, 0))) := row_below HX1.out hb2
  have HC2 : Hid (Cpy w2 t a a2) := hc2
  clear hb2 hc2 HB1 HX1
  go_wp2_with fail
  refine Calls.mono (spec_named t a2 nm _ HC2.out.m HC2.out.w HC2.out.s) ?_
  rintro e w3 ⟨⟨R1, rfl, hR1⟩, hb3⟩
  have HB3 : Hid (Below w.heap.size w w3) := HB2.out.trans (hb3.mono HB2.out.size)
  have HX3 : Hid (w3.heap[w.heap.size]? = some (.cells (tbA t a) 31 (0, 0))) := row_below HX2.out hb3
  have HR1 : Hid (FR t (fun p => strEq p.nm nm) R1) := hR1
  clear hb3 HB2 HX2 HC2 hR1
  go_wp2_with (first | (refine wpList_load_row rfl 31 (.tmp 2) rfl w.heap.size rfl 31 (tbA t a) (0, 0) _ HX3.out Tryz.underlying31 rfl (by kernel_rfl) ?_) | fail)
  refine Calls.mono (copy_tab t a _ (HU.out _ HB3.out).1 HW.out HS.out) ?_
  rintro e w4 ⟨a4, rfl, hb4, hc4⟩
  have HB4 : Hid (Below w.heap.size w w4) := HB3.out.trans (hb4.mono HB3.out.size)
  have HX4 : Hid (w4.heap[w.heap.size]? = some (.cells (tbA t a) 31 (0, 0))) := row_below HX3.out hb4
  have HC4 : Hid (Cpy w4 t a a4) := hc4
  clear hb4 hc4 HB3 HX3
  have HN : Hid ((w4.alloc (.cells #[.int .i64 0, .int .i64 0, .int .i64 0, .int .i64 0, .int .i64 0, .int .i64 0, .int .i64 0, .int .i64 0, .int .i64 0, .int .i64 0, .int .i64 0, .int .i64 0, .int .i64 0, .int .i64 0, .int .i64 0, .slice none 0 0, .slice none 0 0, .slice none 0 0, .slice none 0 0] 40)).heap[w4.heap.size]? = some (.cells #[.int .i64 0, .int .i64 0, .int .i64 0, .int .i64 0, .int .i64 0, .int .i64 0, .int .i64 0, .int .i64 0, .int .i64 0, .int .i64 0, .int .i64 0, .int .i64 0, .int .i64 0, .int .i64 0, .int .i64 0, .slice none 0 0, .slice none 0 0, .slice none 0 0, .slice none 0 0] 40 (0, 0))) := new_row w4 _ _ _ rfl
  have hbV : Below w4.heap.size w4 ((w4.alloc (.cells #[.int .i64 0, .int .i64 0, .int .i64 0, .int .i64 0, .int .i64 0, .int .i64 0, .int .i64 0, .int .i64 0, .int .i64 0, .int .i64 0, .int .i64 0, .int .i64 0, .int .i64 0, .int .i64 0, .int .i64 0, .slice none 0 0, .slice none 0 0, .slice none 0 0, .slice none 0 0] 40)).setRow w4.heap.size (tbA t a4)) := below_setRow ((Below.refl _ _).alloc (Nat.le_refl _) _) (Nat.le_refl _) _
  have HXB : Hid (((w4.alloc (.cells #[.int .i64 0, .int .i64 0, .int .i64 0, .int .i64 0, .int .i64 0, .int .i64 0, .int .i64 0, .int .i64 0, .int .i64 0, .int .i64 0, .int .i64 0, .int .i64 0, .int .i64 0, .int .i64 0, .int .i64 0, .slice none 0 0, .slice none 0 0, .slice none 0 0, .slice none 0 0] 40)).setRow w4.heap.size (tbA t a4)).heap[w4.heap.size]? = some (.cells (tbA t a4) 40 (0, 0))) := setRow_heap _ _ _ _ _ _ HN.out
  have HBV : Hid (Below w.heap.size w ((w4.alloc (.cells #[.int .i64 0, .int .i64 0, .int .i64 0, .int .i64 0, .int .i64 0, .int .i64 0, .int .i64 0, .int .i64 0, .int .i64 0, .int .i64 0, .int .i64 0, .int .i64 0, .int .i64 0, .int .i64 0, .int .i64 0, .slice none 0 0, .slice none 0 0, .slice none 0 0, .slice none 0 0] 40)).setRow w4.heap.size (tbA t a4))) := HB4.out.trans (hbV.mono HB4.out.size)
  have HXV : Hid (((w4.alloc (.cells #[.int .i64 0, .int .i64 0, .int .i64 0, .int .i64 0, .int .i64 0, .int .i64 0, .int .i64 0, .int .i64 0, .int .i64 0, .int .i64 0, .int .i64 0, .int .i64 0, .int .i64 0, .int .i64 0, .int .i64 0, .slice none 0 0, .slice none 0 0, .slice none 0 0, .slice none 0 0] 40)).setRow w4.heap.size (tbA t a4)).heap[w.heap.size]? = some (.cells (tbA t a) 31 (0, 0))) := row_below HX4.out hbV
  have HCV : Hid (Cpy ((w4.alloc (.cells #[.int .i64 0, .int .i64 0, .int .i64 0, .int .i64 0, .int .i64 0, .int .i64 0, .int .i64 0, .int .i64 0, .int .i64 0, .int .i64 0, .int .i64 0, .int .i64 0, .int .i64 0, .int .i64 0, .int .i64 0, .slice none 0 0, .slice none 0 0, .slice none 0 0, .slice none 0 0] 40)).setRow w4.heap.size (tbA t a4)) t a a4) := HC4.out.below hbV
  clear hbV HB4 HX4 HC4
  go_wp2_with (first | (refine wpList_store_row rfl 40 (.tmp 7) (.tmp 22) rfl w4.heap.size (tbA t a4) rfl rfl 40 #[.int .i64 0, .int .i64 0, .int .i64 0, .int .i64 0, .int .i64 0, .int .i64 0, .int .i64 0, .int .i64 0, .int .i64 0, .int .i64 0, .int .i64 0, .int .i64 0, .int .i64 0, .int .i64 0, .int .i64 0, .slice none 0 0, .slice none 0 0, .slice none 0 0, .slice none 0 0] HN.out (by kernel_rfl) rfl (by simp [Value.oneCell']) ?_) | (refine wpList_load_row rfl 40 (.tmp 7) rfl w4.heap.size rfl 40 (tbA t a4) (0, 0) _ HXB.out Tryz.underlying40 rfl (by kernel_rfl) ?_) | fail)
  clear HN
  revert HXB HBV HXV HCV
  generalize (w4.alloc (.cells #[.int .i64 0, .int .i64 0, .int .i64 0, .int .i64 0, .int .i64 0, .int .i64 0, .int .i64 0, .int .i64 0, .int .i64 0, .int .i64 0, .int .i64 0, .int .i64 0, .int .i64 0, .int .i64 0, .int .i64 0, .slice none 0 0, .slice none 0 0, .slice none 0 0, .slice none 0 0] 40)).setRow w4.heap.size (tbA t a4) = V
  intro HXB HBV HXV HCV
  obtain ⟨N, hN⟩ : ∃ N, w4.heap.size = N := ⟨_, rfl⟩
  rw [hN] at HXB
  rw [hN]
  clear hN
  refine Calls.mono (impl_named t a4 nm _ HCV.out.m HCV.out.w HCV.out.s (HU.out _ HBV.out).2 HCV.out.c) ?_
  rintro e w5 ⟨⟨R2, rfl, hR2⟩, hb5⟩
  obtain rfl : R1 = R2 := FR.unique HR1.out hR2
  have HB5 : Hid (Below w.heap.size w w5) := HBV.out.trans (hb5.mono HBV.out.size)
  have HX5 : Hid (∀ X, Below w5.heap.size w5 X → X.heap[w.heap.size]? = some (.cells (tbA t a) 31 (0, 0))) := fun X hX => row_below (row_below HXV.out hb5) hX
  have HY5 : Hid (∀ X, Below w5.heap.size w5 X → X.heap[N]? = some (.cells (tbA t a4) 40 (0, 0))) := fun X hX => row_below (row_below HXB.out hb5) hX
  have HC5 : Hid (∀ X, Below w5.heap.size w5 X → Cpy X t a a4) := fun X hX => (HCV.out.below hb5).below hX
  clear hb5 HBV HXV HXB HCV HR1 hR2
  go_wp2
  refine wp_region_inv (by kernel_rfl) (by kernel_rfl) (fun A ℓ a' w' => ∃ (x29 x30 x31 x32 x33 : Value), a' = (((((A.put (some 29) x29).put (some 30) x30).put (some 31) x31).put (some 32) x32).put (some 33) x33) ∧ TI t a a4 w5 w' (ℓ 0) (ℓ 1) (ℓ 2) (ℓ 3) (ℓ 4) x29 x30 x31 x32 x33) ?_ ?_ ?_ ?_
  · exact ⟨undef, undef, undef, undef, undef, (by simp only [Act.put, List.setIfInBounds_toArray, List.set_cons_zero, List.set_cons_succ]), ⟨(Below.refl _ _).drew, (fun g => by cases g), (fun g => by cases g), (fun g => by cases g), (fun g => by cases g), (fun g => by cases g)⟩⟩
  · intro ℓ a' w' hI hall
    obtain ⟨x29, x30, x31, x32, x33, rfl, hr⟩ := hI
    have hall' : ∀ i, i < 5 → ℓ i = true := hall
    obtain rfl := hr.f4 (hall' 4 (by omega))
    have HE : Hid (Below w.heap.size w w') := HB5.out.trans (hr.gb.mono HB5.out.size)
    clear hr hall hall'
    simp only [Act.put, List.setIfInBounds_toArray, List.set_cons_zero, List.set_cons_succ]
    go_wp2
    go_ret
    exact ⟨rfl, HE.out⟩
  · intro ℓ a' w' i o hI ho hi hL hdep K hK
    obtain ⟨x29, x30, x31, x32, x33, rfl, hr⟩ := hI
    have hi7 : i < 5 := hi
    have hcs : i = 0 ∨ i = 1 ∨ i = 2 ∨ i = 3 ∨ i = 4 := by omega
    clear hi hi7
    rcases hcs with rfl | rfl | rfl | rfl | rfl
    · replace ho : some ({ dst := some 29, op := .load 40 (.tmp 7), type := 40, pos := "exact.go:5634", after := #[], guard := none } : Oper) = some o := ho
      obtain rfl := Option.some.inj ho
      clear hdep ho
      rw [if_pos (by rfl)]
      try simp only [Act.put, List.setIfInBounds_toArray, List.set_cons_zero, List.set_cons_succ]
      refine wp_load_row (P := Tryz.prog) 40 (.tmp 7) rfl N rfl 40 (tbA t a4) (0, 0) _ (HY5.out _ hr.gb) Tryz.underlying40 rfl (by kernel_rfl) ?_
      exact hK.out _ _ (fun j => if j = 0 then true else ℓ j) ⟨tbV t a4, x30, x31, x32, x33, (by simp only [Act.put, List.setIfInBounds_toArray, List.set_cons_zero, List.set_cons_succ]), ⟨hr.gb, (fun _ => rfl), hr.f1, hr.f2, hr.f3, hr.f4⟩⟩ (if_pos rfl) (fun j hj => if_neg hj)
    · replace ho : some ({ dst := some 30, op := .load 31 (.tmp 2), type := 31, pos := "exact.go:5634", after := #[], guard := none } : Oper) = some o := ho
      obtain rfl := Option.some.inj ho
      clear hdep ho
      rw [if_pos (by rfl)]
      try simp only [Act.put, List.setIfInBounds_toArray, List.set_cons_zero, List.set_cons_succ]
      refine wp_load_row (P := Tryz.prog) 31 (.tmp 2) rfl w.heap.size rfl 31 (tbA t a) (0, 0) _ (HX5.out _ hr.gb) Tryz.underlying31 rfl (by kernel_rfl) ?_
      exact hK.out _ _ (fun j => if j = 1 then true else ℓ j) ⟨x29, tbV t a, x31, x32, x33, (by simp only [Act.put, List.setIfInBounds_toArray, List.set_cons_zero, List.set_cons_succ]), ⟨hr.gb, hr.f0, (fun _ => rfl), hr.f2, hr.f3, hr.f4⟩⟩ (if_pos rfl) (fun j hj => if_neg hj)
    · obtain rfl := Option.some.inj ho
      have g : ℓ 1 = true := hdep { on := 1, ground := Ground.data } (by simp) rfl
      clear hdep ho
      obtain rfl := hr.f1 g
      rw [if_pos (by rfl)]
      try simp only [Act.put, List.setIfInBounds_toArray, List.set_cons_zero, List.set_cons_succ]
      go_simp
      refine Calls.mono (copy_tab t a _ (HU.out _ (HB5.out.trans (hr.gb.mono HB5.out.size))).1 HW.out HS.out) ?_
      rintro e w9 ⟨a9, rfl, hb9, hc9⟩
      have hr9 := hr.below hb9
      exact hK.out _ _ (fun j => if j = 2 then true else ℓ j) ⟨x29, tbV t a, tbV t a9, x32, x33, (by simp only [Act.put, List.setIfInBounds_toArray, List.set_cons_zero, List.set_cons_succ]), ⟨hr9.gb, hr9.f0, hr9.f1, (fun _ => ⟨a9, rfl, hc9⟩), hr9.f3, hr9.f4⟩⟩ (if_pos rfl) (fun j hj => if_neg hj)
    · obtain rfl := Option.some.inj ho
      have g0 : ℓ 0 = true := hdep { on := 0, ground := Ground.data } (by simp) rfl
      have g2 : ℓ 2 = true := hdep { on := 2, ground := Ground.data } (by simp) rfl
      clear hdep ho
      obtain rfl := hr.f0 g0
      obtain ⟨a9, rfl, hc9⟩ := hr.f2 g2
      have hc4 := HC5.out _ hr.gb
      rw [if_pos (by rfl)]
      try simp only [Act.put, List.setIfInBounds_toArray, List.set_cons_zero, List.set_cons_succ]
      go_simp
      refine Calls.mono (eq_tab t a4 a9 _ hc4.m hc9.m hc4.s (hc9.p1.trans hc4.p1.symm) (hc9.p2.trans hc4.p2.symm) (hc9.p3.trans hc4.p3.symm) (hc9.p4.trans hc4.p4.symm)) ?_
      rintro e w9 ⟨rfl, hb9⟩
      have hr9 := hr.below hb9
      exact hK.out _ _ (fun j => if j = 3 then true else ℓ j) ⟨tbV t a4, x30, tbV t a9, .bool true, x33, (by simp only [Act.put, List.setIfInBounds_toArray, List.set_cons_zero, List.set_cons_succ]), ⟨hr9.gb, hr9.f0, hr9.f1, hr9.f2, (fun _ => rfl), hr9.f4⟩⟩ (if_pos rfl) (fun j hj => if_neg hj)
    · obtain rfl := Option.some.inj ho
      have g : ℓ 3 = true := hdep { on := 3, ground := Ground.data } (by simp) rfl
      clear hdep ho
      obtain rfl := hr.f3 g
      rw [if_pos (by rfl)]
      try simp only [Act.put, List.setIfInBounds_toArray, List.set_cons_zero, List.set_cons_succ]
      go_simp
      exact hK.out _ _ (fun j => if j = 4 then true else ℓ j) ⟨x29, x30, x31, .bool true, .bool false, (by simp only [Act.put, List.setIfInBounds_toArray, List.set_cons_zero, List.set_cons_succ]), ⟨hr.gb, hr.f0, hr.f1, hr.f2, hr.f3, (fun _ => rfl)⟩⟩ (if_pos rfl) (fun j hj => if_neg hj)
  · rintro a' w' ℓ ℓ' hℓ hI
    rw [← show ℓ = ℓ' from funext hℓ]
    exact hI
end Go.Proofs.YtoalamgongaaeaaGreatDoor
