
/-
  The image of a partition, right or not: both sides. Conditions: the lists lie in memory and are of at most 1048576 items; the program's table of extras holds what the program's text lays.
-/
import Derived.Test.YtgmhcngdgfhhaaaGreatDoorBas
import Derived.Test.YtgmhcngdgfhhaaaGreatDoorLsw
import Derived.Test.YtgmhcngdgfhhaaaGreatDoorClo6
import Derived.Test.YtgmhcngdgfhhaaaGreatDoorBys
import Derived.Deep.QuietTactic
namespace Go.Proofs.YtgmhcngdgfhhaaaGreatDoor
open Go.ChangeShapes Go.WideShapes Go.ChangeAt Go.RowKit Go.Deep Go.Joins
set_option linter.unusedVariables false

/-- The image fits the partition. -/
def ImFit (t : Tb) (x : Int) (n : Nat) (D : Nat → List Int) : Prop := 0 ≤ x ∧ x < (t.ps.length : Int) ∧ (t.ps.getD x.toNat pt0).ws.length = n ∧ ∀ i, i < n → ((D i).length : Int) = ((t.ps.getD x.toNat pt0).ws.getD i wi0).2.1
theorem tobool {a b : Bool} {p : Prop} (h : a = true ↔ p) (hb : b = a) : b = true ↔ p := by rw [hb]; exact h
theorem neq_nat {a b : Nat} (h : ¬ a = b) : ((a : Int) != (b : Int)) = true := by simp; omega
theorem neq_int {a b : Int} (h : ¬ a = b) : (a != b) = true := by simp [h]
set_option maxRecDepth 40000 in
set_option maxHeartbeats 8000000 in
theorem spec_fits0 (t : Tb) (pa da ca sa : Option Addr) (pn pc dn dc cn cc sn sc : Nat) (Y : Nat → Rw) (x : Int) (ia : Option Addr) (ic n : Nat) (D : Nat → List Int) (q : Bool) (w : World) (hm : TM 0 w t ⟨pa, pn, pc, da, dn, dc, ca, cn, cc, sa, sn, sc, Y⟩) (hw : TW t ⟨pa, pn, pc, da, dn, dc, ca, cn, cc, sa, sn, sc, Y⟩) (hs : TS ⟨pa, pn, pc, da, dn, dc, ca, cn, cc, sa, sn, sc, Y⟩) (hi : BSeg w ia n D) (hn : n ≤ 1048576) (hd : ∀ i, i < n → (D i).length ≤ 1048576) (hq : q = true ↔ ImFit t x n D) :
    Calls Tryz.prog 52 #[.agg #[.int .i64 t.mem, .int .i64 t.s1, .int .i64 t.s2, .int .i64 t.s3, .int .i64 t.tlb, .int .i64 t.c1, .int .i64 t.c2, .int .i64 t.c3, .int .i64 t.c4, .int .i64 t.c5, .int .i64 t.c6, .int .i64 t.c7, .int .i64 t.pad, .int .i64 t.grd, .int .i64 t.maj, .slice pa pn pc, .slice da dn dc, .slice ca cn cc, .slice sa sn sc], .int .i64 x, .slice ia n ic] w fun e w' => e = .returned (.bool q) ∧ Below w.heap.size w w' := by
  have HB0 : Hid (Below w.heap.size w (w.alloc (.cells #[.int .i64 t.mem, .int .i64 t.s1, .int .i64 t.s2, .int .i64 t.s3, .int .i64 t.tlb, .int .i64 t.c1, .int .i64 t.c2, .int .i64 t.c3, .int .i64 t.c4, .int .i64 t.c5, .int .i64 t.c6, .int .i64 t.c7, .int .i64 t.pad, .int .i64 t.grd, .int .i64 t.maj, .slice pa pn pc, .slice da dn dc, .slice ca cn cc, .slice sa sn sc] 44))) := (Below.refl _ _).alloc (Nat.le_refl _) _
  have HX0 : Hid (TBx (w.alloc (.cells #[.int .i64 t.mem, .int .i64 t.s1, .int .i64 t.s2, .int .i64 t.s3, .int .i64 t.tlb, .int .i64 t.c1, .int .i64 t.c2, .int .i64 t.c3, .int .i64 t.c4, .int .i64 t.c5, .int .i64 t.c6, .int .i64 t.c7, .int .i64 t.pad, .int .i64 t.grd, .int .i64 t.maj, .slice pa pn pc, .slice da dn dc, .slice ca cn cc, .slice sa sn sc] 44)) w.heap.size t ⟨pa, pn, pc, da, dn, dc, ca, cn, cc, sa, sn, sc, Y⟩) := TBx.new w t ⟨pa, pn, pc, da, dn, dc, ca, cn, cc, sa, sn, sc, Y⟩ _ rfl
  have HP : Hid (PSegL 0 w pa pn t.ps Y) := hm.p
  have HL : Hid (t.ps.length = pn) := hw.pl
  have hpn : pn ≤ 1048576 := hs.p
  have HWW : Hid (∀ i, i < pn → (Y i).wn ≤ 1048576) := fun i hi => (hs.w i hi).1
  have HI : Hid (BSeg w ia n D) := hi
  have HDD : Hid (∀ i, i < n → (D i).length ≤ 1048576) := hd
  have HQ : Hid (q = true ↔ ImFit t x n D) := hq
  have k15 : (w.alloc (.cells #[.int .i64 t.mem, .int .i64 t.s1, .int .i64 t.s2, .int .i64 t.s3, .int .i64 t.tlb, .int .i64 t.c1, .int .i64 t.c2, .int .i64 t.c3, .int .i64 t.c4, .int .i64 t.c5, .int .i64 t.c6, .int .i64 t.c7, .int .i64 t.pad, .int .i64 t.grd, .int .i64 t.maj, .slice pa pn pc, .slice da dn dc, .slice ca cn cc, .slice sa sn sc] 44)).cell? ⟨w.heap.size, 15, none⟩ = some (.slice pa pn pc) := HX0.out.cell 15 rfl
  have hw1 : IntKind.i64.wrap ((pn : Int) - 1) = (pn : Int) - 1 := by rw [IntKind.wrap_i64]; omega
  clear hm hw hs hi hd hq
  go_enter Tryz.func52, Tryz.ntmps52
  go_wp2_with fail
  refine Calls.mono (in_any x 0 ((pn : Int) - 1) _) ?_
  rintro e w1 ⟨rfl, rfl⟩
  revert HB0 HX0 k15
  generalize (w.alloc (.cells #[.int .i64 t.mem, .int .i64 t.s1, .int .i64 t.s2, .int .i64 t.s3, .int .i64 t.tlb, .int .i64 t.c1, .int .i64 t.c2, .int .i64 t.c3, .int .i64 t.c4, .int .i64 t.c5, .int .i64 t.c6, .int .i64 t.c7, .int .i64 t.pad, .int .i64 t.grd, .int .i64 t.maj, .slice pa pn pc, .slice da dn dc, .slice ca cn cc, .slice sa sn sc] 44)) = V
  intro HB0 HX0 k15
  by_cases hx : 0 ≤ x ∧ x < (pn : Int)
  rotate_left
  · have hin : inr x 0 ((pn : Int) - 1) = false := inr_no (fun h => hx ⟨h.1, by omega⟩)
    have HT : Hid (q = false) := not_true HQ.out (fun h => hx ⟨h.1, by rw [← HL.out]; exact h.2.1⟩)
    rw [hin]
    go_wp2
    go_ret
    exact ⟨ret_bool HT.out.symm, HB0.out⟩
  have hin : inr x 0 ((pn : Int) - 1) = true := inr_yes ⟨hx.1, by omega⟩
  rw [hin]
  obtain ⟨X, rfl⟩ : ∃ X : Nat, x = (X : Int) := ⟨x.toNat, by omega⟩
  have hX : X < pn := by omega
  have hX' : (X : Int) < (pn : Int) := by omega
  obtain ⟨b1, o1, rfl, hbl1, p1⟩ := HP.out.1.seg.at X hX
  replace p1 := p1.of (w' := V) (fun j => HB0.out.cell (p := ⟨b1, j, none⟩) hbl1)
  have c4 : V.cell? ⟨b1, o1 + X * 5 + 4, none⟩ = some (.slice (Y X).wa (Y X).wn (Y X).wc) := (rw_cells p1).2.2.2.2
  have hgd := (HP.out.2 X hX).below HB0.out
  have HQ2 : Hid (q = true ↔ ((t.ps.getD X pt0).ws.length = n ∧ ∀ i, i < n → ((D i).length : Int) = ((t.ps.getD X pt0).ws.getD i wi0).2.1)) := HQ.out.trans ⟨fun h => h.2.2, fun h => ⟨by omega, by rw [HL.out]; exact hX', h⟩⟩
  have hwl := hgd.ln
  have hyn := HWW.out X hX
  have HWS : Hid (GSeg 3 V (Y X).wa (Y X).wn (wiX (t.ps.getD X pt0).ws)) := hgd.sg.seg
  generalize (Y X).wa = ya at c4 HWS
  generalize (Y X).wn = yn at c4 HWS hyn hwl
  generalize (Y X).wc = yc at c4
  generalize (t.ps.getD X pt0).ws = xs at HWS hwl HQ2
  clear p1 hgd HQ hx hin
  by_cases hyy : n = yn
  rotate_left
  · have hne : ((n : Int) != (yn : Int)) = true := neq_nat hyy
    have HT : Hid (q = false) := not_true HQ2.out (fun h => hyy (by rw [← h.1, hwl]))
    go_wp2
    go_ret
    exact ⟨ret_bool HT.out.symm, HB0.out⟩
  subst hyy
  have hne : ((n : Int) != (n : Int)) = false := by simp
  have HQ3 : Hid (q = true ↔ ∀ i, i < n → ((D i).length : Int) = (xs.getD i wi0).2.1) := HQ2.out.trans ⟨fun h => h.2, fun h => ⟨hwl, h⟩⟩
  clear HQ2 hwl
  have HIB : Hid (BSeg V ia n D) := HI.out.below HB0.out
  clear HI HX0 HP HWW
  go_wp2
  go_loopw [7] (fun i wr => ∃ m k : Nat, m ≤ n ∧ i = .int .i64 m ∧ wr = V.drewN k ∧ Hid (∀ j, j < m → ((D j).length : Int) = (xs.getD j wi0).2.1)) (fun i _ => n - (intOf i).toNat)
  case atStart => exact ⟨0, 0, by omega, rfl, rfl, fun i hi => absurd hi (by omega)⟩
  case round =>
    obtain ⟨m, k, hm, rfl, rfl, HR⟩ := hrel
    by_cases hmn : m < n
    rotate_left
    · obtain rfl : m = n := by omega
      have HT : Hid (q = true) := HQ3.out.2 HR.out
      go_wp2
      go_ret
      exact ⟨ret_bool HT.out.symm, below_drewN HB0.out _⟩
    have hmn' : (m : Int) < (n : Int) := by omega
    obtain ⟨b2, o2, ai, ci, rfl, hbl2, r1, _⟩ := HIB.out.at m hmn
    obtain ⟨b3, o3, rfl, hbl3, p3⟩ := HWS.out.at m hmn
    obtain ⟨d0, d1, d2⟩ := wi_cells p3
    have hdl := HDD.out m hmn
    have HY : Hid (((D m).length : Int) = (xs.getD m wi0).2.1 → ∀ j, j < m + 1 → ((D j).length : Int) = (xs.getD j wi0).2.1) := fun h j hj => by
      by_cases e : j = m
      · subst e; exact h
      · exact HR.out j (by omega)
    have HN : Hid (¬ ((D m).length : Int) = (xs.getD m wi0).2.1 → q = false) := fun h => not_true HQ3.out (fun g => h (g m hmn))
    generalize (D m).length = dl at r1 hdl HY HN
    generalize (xs.getD m wi0).2.1 = z2 at d1 HY HN
    clear p3 d0 d2 HR
    by_cases hz : (dl : Int) = z2
    · have hne2 : ((dl : Int) != z2) = false := by simp [hz]
      have HY2 : Hid _ := HY.out hz
      clear HY HN hz
      go_wp2
      go_quiet (fail)
      go_wp2
      go_roundw
      case rel => exact ⟨m + 1, _, by omega, by go_num, rfl, HY2.out⟩
      case measure => simp [intOf]; omega
    · have hne2 : ((dl : Int) != z2) = true := neq_int hz
      have HT : Hid (q = false) := HN.out hz
      clear HY HN hz
      go_wp2
      go_quiet (fail)
      go_wp2
      go_ret
      exact ⟨ret_bool HT.out.symm, below_drewN (below_drewN HB0.out _) _⟩
set_option maxRecDepth 40000 in
set_option maxHeartbeats 8000000 in
theorem impl_image0 (t : Tb) (pa da ca sa : Option Addr) (pn pc dn dc cn cc sn sc : Nat) (Y : Nat → Rw) (x : Int) (ia : Option Addr) (ic n : Nat) (D : Nat → List Int) (q : Bool) (w : World) (hm : TM 0 w t ⟨pa, pn, pc, da, dn, dc, ca, cn, cc, sa, sn, sc, Y⟩) (hw : TW t ⟨pa, pn, pc, da, dn, dc, ca, cn, cc, sa, sn, sc, Y⟩) (hs : TS ⟨pa, pn, pc, da, dn, dc, ca, cn, cc, sa, sn, sc, Y⟩) (hi : BSeg w ia n D) (hn : n ≤ 1048576) (hd : ∀ i, i < n → (D i).length ≤ 1048576) (he : TabE w) (hpc : pn ≤ pc) (hq : q = true ↔ (Sd t ∧ ImFit t x n D)) :
    Calls Tryz.prog 59 #[.agg #[.int .i64 t.mem, .int .i64 t.s1, .int .i64 t.s2, .int .i64 t.s3, .int .i64 t.tlb, .int .i64 t.c1, .int .i64 t.c2, .int .i64 t.c3, .int .i64 t.c4, .int .i64 t.c5, .int .i64 t.c6, .int .i64 t.c7, .int .i64 t.pad, .int .i64 t.grd, .int .i64 t.maj, .slice pa pn pc, .slice da dn dc, .slice ca cn cc, .slice sa sn sc], .int .i64 x, .slice ia n ic] w fun e w' => e = .returned (.bool q) ∧ Below w.heap.size w w' := by
  obtain ⟨q1, hq1⟩ := told (Sd t)
  obtain ⟨q2, hq2⟩ := told (0 ≤ x ∧ x < (pn : Int))
  have HB0 : Hid (Below w.heap.size w (w.alloc (.cells #[.int .i64 t.mem, .int .i64 t.s1, .int .i64 t.s2, .int .i64 t.s3, .int .i64 t.tlb, .int .i64 t.c1, .int .i64 t.c2, .int .i64 t.c3, .int .i64 t.c4, .int .i64 t.c5, .int .i64 t.c6, .int .i64 t.c7, .int .i64 t.pad, .int .i64 t.grd, .int .i64 t.maj, .slice pa pn pc, .slice da dn dc, .slice ca cn cc, .slice sa sn sc] 44))) := (Below.refl _ _).alloc (Nat.le_refl _) _
  have HX0 : Hid (TBx (w.alloc (.cells #[.int .i64 t.mem, .int .i64 t.s1, .int .i64 t.s2, .int .i64 t.s3, .int .i64 t.tlb, .int .i64 t.c1, .int .i64 t.c2, .int .i64 t.c3, .int .i64 t.c4, .int .i64 t.c5, .int .i64 t.c6, .int .i64 t.c7, .int .i64 t.pad, .int .i64 t.grd, .int .i64 t.maj, .slice pa pn pc, .slice da dn dc, .slice ca cn cc, .slice sa sn sc] 44)) w.heap.size t ⟨pa, pn, pc, da, dn, dc, ca, cn, cc, sa, sn, sc, Y⟩) := TBx.new w t ⟨pa, pn, pc, da, dn, dc, ca, cn, cc, sa, sn, sc, Y⟩ _ rfl
  have HP : Hid (PSegL 0 w pa pn t.ps Y) := hm.p
  have HL : Hid (t.ps.length = pn) := hw.pl
  have hpn : pn ≤ 1048576 := hs.p
  have HWW : Hid (∀ i, i < pn → (Y i).wn ≤ 1048576) := fun i hi => (hs.w i hi).1
  have HI : Hid (BSeg w ia n D) := hi
  have HDD : Hid (∀ i, i < n → (D i).length ≤ 1048576) := hd
  have HSP : Hid (Calls Tryz.prog 58 #[.agg #[.int .i64 t.mem, .int .i64 t.s1, .int .i64 t.s2, .int .i64 t.s3, .int .i64 t.tlb, .int .i64 t.c1, .int .i64 t.c2, .int .i64 t.c3, .int .i64 t.c4, .int .i64 t.c5, .int .i64 t.c6, .int .i64 t.c7, .int .i64 t.pad, .int .i64 t.grd, .int .i64 t.maj, .slice pa pn pc, .slice da dn dc, .slice ca cn cc, .slice sa sn sc]] (w.alloc (.cells #[.int .i64 t.mem, .int .i64 t.s1, .int .i64 t.s2, .int .i64 t.s3, .int .i64 t.tlb, .int .i64 t.c1, .int .i64 t.c2, .int .i64 t.c3, .int .i64 t.c4, .int .i64 t.c5, .int .i64 t.c6, .int .i64 t.c7, .int .i64 t.pad, .int .i64 t.grd, .int .i64 t.maj, .slice pa pn pc, .slice da dn dc, .slice ca cn cc, .slice sa sn sc] 44)) fun e w' => e = .returned (.bool q1) ∧ Below (w.alloc (.cells #[.int .i64 t.mem, .int .i64 t.s1, .int .i64 t.s2, .int .i64 t.s3, .int .i64 t.tlb, .int .i64 t.c1, .int .i64 t.c2, .int .i64 t.c3, .int .i64 t.c4, .int .i64 t.c5, .int .i64 t.c6, .int .i64 t.c7, .int .i64 t.pad, .int .i64 t.grd, .int .i64 t.maj, .slice pa pn pc, .slice da dn dc, .slice ca cn cc, .slice sa sn sc] 44)).heap.size (w.alloc (.cells #[.int .i64 t.mem, .int .i64 t.s1, .int .i64 t.s2, .int .i64 t.s3, .int .i64 t.tlb, .int .i64 t.c1, .int .i64 t.c2, .int .i64 t.c3, .int .i64 t.c4, .int .i64 t.c5, .int .i64 t.c6, .int .i64 t.c7, .int .i64 t.pad, .int .i64 t.grd, .int .i64 t.maj, .slice pa pn pc, .slice da dn dc, .slice ca cn cc, .slice sa sn sc] 44)) w') := impl_sound t ⟨pa, pn, pc, da, dn, dc, ca, cn, cc, sa, sn, sc, Y⟩ q1 _ (hm.below HB0.out) hw hs (he.below HB0.out) hpc hq1
  have HHP : Hid (∀ X, Calls Tryz.prog 33 #[.agg #[.int .i64 t.mem, .int .i64 t.s1, .int .i64 t.s2, .int .i64 t.s3, .int .i64 t.tlb, .int .i64 t.c1, .int .i64 t.c2, .int .i64 t.c3, .int .i64 t.c4, .int .i64 t.c5, .int .i64 t.c6, .int .i64 t.c7, .int .i64 t.pad, .int .i64 t.grd, .int .i64 t.maj, .slice pa pn pc, .slice da dn dc, .slice ca cn cc, .slice sa sn sc], .int .i64 x] X fun e w' => e = .returned (.bool q2) ∧ Below X.heap.size X w') := fun X => has_part t ⟨pa, pn, pc, da, dn, dc, ca, cn, cc, sa, sn, sc, Y⟩ x q2 X hw.pb hq2
  have HQ : Hid (q = true ↔ (Sd t ∧ ImFit t x n D)) := hq
  have HQ1 : Hid (q1 = true ↔ Sd t) := hq1
  have HQ2 : Hid (q2 = true ↔ (0 ≤ x ∧ x < (pn : Int))) := hq2
  clear hm hw hs hi hd hq hq1 hq2 he hpc
  go_enter Tryz.func59, Tryz.ntmps59
  go_wp2_with (first | (refine wpList_load_row rfl 44 (.tmp 3) rfl w.heap.size rfl 44 #[.int .i64 t.mem, .int .i64 t.s1, .int .i64 t.s2, .int .i64 t.s3, .int .i64 t.tlb, .int .i64 t.c1, .int .i64 t.c2, .int .i64 t.c3, .int .i64 t.c4, .int .i64 t.c5, .int .i64 t.c6, .int .i64 t.c7, .int .i64 t.pad, .int .i64 t.grd, .int .i64 t.maj, .slice pa pn pc, .slice da dn dc, .slice ca cn cc, .slice sa sn sc] (0, 0) _ HX0.out Tryz.underlying44 rfl (by kernel_rfl) ?_) | fail)
  refine Calls.mono HSP.out ?_
  rintro e w1 ⟨rfl, hb1⟩
  have HB1 : Hid (Below w.heap.size w w1) := HB0.out.trans (hb1.mono HB0.out.size)
  have HX1 : Hid (TBx w1 w.heap.size t ⟨pa, pn, pc, da, dn, dc, ca, cn, cc, sa, sn, sc, Y⟩) := HX0.out.below hb1
  clear hb1 HB0 HX0 HSP
  cases q1
  · have HT : Hid (q = false) := not_true HQ.out (fun h => by have := HQ1.out.2 h.1; cases this)
    go_wp2
    go_ret
    exact ⟨ret_bool HT.out.symm, HB1.out⟩
  go_wp2_with (first | (refine wpList_load_rowG rfl 44 (.tmp 3) rfl w.heap.size rfl 44 #[.int .i64 t.mem, .int .i64 t.s1, .int .i64 t.s2, .int .i64 t.s3, .int .i64 t.tlb, .int .i64 t.c1, .int .i64 t.c2, .int .i64 t.c3, .int .i64 t.c4, .int .i64 t.c5, .int .i64 t.c6, .int .i64 t.c7, .int .i64 t.pad, .int .i64 t.grd, .int .i64 t.maj, .slice pa pn pc, .slice da dn dc, .slice ca cn cc, .slice sa sn sc] (0, 0) _ HX1.out Tryz.underlying44 rfl (by kernel_rfl) ?_) | fail)
  refine Calls.mono (HHP.out _) ?_
  rintro e w2 ⟨rfl, hb2⟩
  have HB2 : Hid (Below w.heap.size w w2) := HB1.out.trans (hb2.mono HB1.out.size)
  have HX2 : Hid (TBx w2 w.heap.size t ⟨pa, pn, pc, da, dn, dc, ca, cn, cc, sa, sn, sc, Y⟩) := HX1.out.below hb2
  clear hb2 HB1 HX1 HHP
  cases q2
  · have HT : Hid (q = false) := not_true HQ.out (fun h => by have := HQ2.out.2 ⟨h.2.1, by rw [← HL.out]; exact h.2.2.1⟩; cases this)
    go_wp2
    go_ret
    exact ⟨ret_bool HT.out.symm, HB2.out⟩
  have hx := HQ2.out.1 (by first | rfl | trivial)
  have HSD : Hid (Sd t) := HQ1.out.1 (by first | rfl | trivial)
  obtain ⟨X, rfl⟩ : ∃ X : Nat, x = (X : Int) := ⟨x.toNat, by omega⟩
  have hX : X < pn := by omega
  have hX' : (X : Int) < (pn : Int) := by omega
  have k15 : w2.cell? ⟨w.heap.size, 15, none⟩ = some (.slice pa pn pc) := HX2.out.cell 15 rfl
  obtain ⟨b1, o1, rfl, hbl1, p1⟩ := HP.out.1.seg.at X hX
  replace p1 := p1.of (w' := w2) (fun j => HB2.out.cell (p := ⟨b1, j, none⟩) hbl1)
  have c4 : w2.cell? ⟨b1, o1 + X * 5 + 4, none⟩ = some (.slice (Y X).wa (Y X).wn (Y X).wc) := (rw_cells p1).2.2.2.2
  have hgd := (HP.out.2 X hX).below HB2.out
  have HQ3 : Hid (q = true ↔ ((t.ps.getD X pt0).ws.length = n ∧ ∀ i, i < n → ((D i).length : Int) = ((t.ps.getD X pt0).ws.getD i wi0).2.1)) := HQ.out.trans ⟨fun h => h.2.2.2, fun h => ⟨HSD.out, by omega, by rw [HL.out]; exact hX', h⟩⟩
  have hwl := hgd.ln
  have hyn := HWW.out X hX
  have HWS : Hid (GSeg 3 w2 (Y X).wa (Y X).wn (wiX (t.ps.getD X pt0).ws)) := hgd.sg.seg
  generalize (Y X).wa = ya at c4 HWS
  generalize (Y X).wn = yn at c4 HWS hyn hwl
  generalize (Y X).wc = yc at c4
  generalize (t.ps.getD X pt0).ws = xs at HWS hwl HQ3
  clear p1 hgd HQ hx HQ1 HQ2 HSD
  by_cases hyy : n = yn
  rotate_left
  · have hne : ((n : Int) != (yn : Int)) = true := neq_nat hyy
    have HT : Hid (q = false) := not_true HQ3.out (fun h => hyy (by rw [← h.1, hwl]))
    go_wp2
    go_ret
    exact ⟨ret_bool HT.out.symm, HB2.out⟩
  subst hyy
  have hne : ((n : Int) != (n : Int)) = false := by simp
  have HQ4 : Hid (q = true ↔ ∀ i, i < n → ((D i).length : Int) = (xs.getD i wi0).2.1) := HQ3.out.trans ⟨fun h => h.2, fun h => ⟨hwl, h⟩⟩
  clear HQ3 hwl
  have HIB : Hid (BSeg w2 ia n D) := HI.out.below HB2.out
  clear HI HX2 HP HWW
  go_wp2
  go_loopw [37] (fun i wr => ∃ m : Nat, m ≤ n ∧ i = .int .i64 m ∧ Hid (Below w2.heap.size w2 wr ∧ ∀ j, j < m → ((D j).length : Int) = (xs.getD j wi0).2.1)) (fun i _ => n - (intOf i).toNat)
  case atStart => exact ⟨0, by omega, rfl, Below.refl _ _, fun i hi => absurd hi (by omega)⟩
  case round =>
    obtain ⟨m, hm, rfl, HR⟩ := hrel
    by_cases hmn : m < n
    rotate_left
    · obtain rfl : m = n := by omega
      have HT : Hid (q = true) := HQ4.out.2 HR.out.2
      have HE : Hid (Below w.heap.size w wr) := HB2.out.trans (HR.out.1.mono HB2.out.size)
      go_wp2
      go_ret
      exact ⟨ret_bool HT.out.symm, HE.out⟩
    have hmn' : (m : Int) < (n : Int) := by omega
    obtain ⟨b2, o2, ai, ci, rfl, hbl2, r1, _⟩ := HIB.out.at m hmn
    obtain ⟨b3, o3, rfl, hbl3, p3⟩ := HWS.out.at m hmn
    replace r1 := (HR.out.1.cell (p := ⟨b2, o2 + m, none⟩) hbl2).trans r1
    replace p3 := p3.of (w' := wr) (fun j => HR.out.1.cell (p := ⟨b3, j, none⟩) hbl3)
    obtain ⟨d0, d1, d2⟩ := wi_cells p3
    have hdl := HDD.out m hmn
    have HY : Hid (((D m).length : Int) = (xs.getD m wi0).2.1 → ∀ j, j < m + 1 → ((D j).length : Int) = (xs.getD j wi0).2.1) := fun h j hj => by
      by_cases e : j = m
      · subst e; exact h
      · exact HR.out.2 j (by omega)
    have HN : Hid (¬ ((D m).length : Int) = (xs.getD m wi0).2.1 → q = false) := fun h => not_true HQ4.out (fun g => h (g m hmn))
    have HRB : Hid (Below w2.heap.size w2 wr) := HR.out.1
    generalize (D m).length = dl at r1 hdl HY HN
    generalize (xs.getD m wi0).1 = z1 at d0
    generalize (xs.getD m wi0).2.1 = z2 at d1 HY HN
    generalize (xs.getD m wi0).2.2 = z3 at d2
    clear p3 HR
    have hal : Below wr.heap.size wr (wr.alloc (.cells #[.int .i64 z1, .int .i64 z2, .int .i64 z3] 124)) := (Below.refl _ _).alloc (Nat.le_refl _) _
    have bX := Bk.new wr #[.int .i64 z1, .int .i64 z2, .int .i64 z3] 124 _ rfl
    have e1 := bX.cell 1 _ rfl
    have r2 : (wr.alloc (.cells #[.int .i64 z1, .int .i64 z2, .int .i64 z3] 124)).cell? ⟨b2, o2 + m, none⟩ = some (.slice ai dl ci) := kept_cell hal r1
    have HBA : Hid (Below w2.heap.size w2 (wr.alloc (.cells #[.int .i64 z1, .int .i64 z2, .int .i64 z3] 124))) := HRB.out.trans (hal.mono HRB.out.size)
    have HBE : Hid (Below w.heap.size w (wr.alloc (.cells #[.int .i64 z1, .int .i64 z2, .int .i64 z3] 124))) := HB2.out.trans (HBA.out.mono HB2.out.size)
    clear bX hal HRB
    by_cases hz : (dl : Int) = z2
    · have hne2 : ((dl : Int) != z2) = false := by simp [hz]
      have HY2 : Hid _ := HY.out hz
      clear HY HN hz
      go_wp2
      go_quiet (fail)
      go_wp2
      go_roundw
      case rel => exact ⟨m + 1, by omega, by go_num, below_drewN HBA.out _, HY2.out⟩
      case measure => simp [intOf]; omega
    · have hne2 : ((dl : Int) != z2) = true := neq_int hz
      have HT : Hid (q = false) := HN.out hz
      clear HY HN hz
      go_wp2
      go_quiet (fail)
      go_wp2
      go_ret
      exact ⟨ret_bool HT.out.symm, below_drewN HBE.out _⟩
theorem impl_image (t : Tb) (a : Ad) (x : Int) (ia : Option Addr) (ic n : Nat) (D : Nat → List Int) (q : Bool) (w : World) (hm : TM 0 w t a) (hw : TW t a) (hs : TS a) (hi : BSeg w ia n D) (hn : n ≤ 1048576) (hd : ∀ i, i < n → (D i).length ≤ 1048576) (he : TabE w) (hpc : a.pn ≤ a.pc) (hq : q = true ↔ (Sd t ∧ ImFit t x n D)) :
    Calls Tryz.prog 59 #[tbV t a, .int .i64 x, .slice ia n ic] w fun e w' => e = .returned (.bool q) ∧ Below w.heap.size w w' :=
  impl_image0 t a.pa a.da a.ca a.sa a.pn a.pc a.dn a.dc a.cn a.cc a.sn a.sc a.Y x ia ic n D q w hm hw hs hi hn hd he hpc hq
end Go.Proofs.YtgmhcngdgfhhaaaGreatDoor
