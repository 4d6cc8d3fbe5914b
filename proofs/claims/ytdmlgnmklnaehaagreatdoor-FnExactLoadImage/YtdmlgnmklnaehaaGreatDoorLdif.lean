
/-
  What the program's LoadImage returns. Conditions: tables and words lie in memory; the program's table of extras lies as the text lays it.
-/
import Derived.Test.YtdmlgnmklnaehaaGreatDoorBas
import Derived.Test.YtdmlgnmklnaehaaGreatDoorLdh
namespace Go.Proofs.YtdmlgnmklnaehaaGreatDoor
open Go.ChangeShapes Go.WideShapes Go.ChangeAt Go.RowKit Go.Deep Go.Joins
set_option linter.unusedVariables false

set_option maxRecDepth 40000 in
set_option maxHeartbeats 16000000 in
theorem impl_ld_f (t : Tb) (a : Ad) (X : Nat) (wa : Option Addr) (wc n : Nat) (zs : List Int) (w : World) (hm : TM 0 w t a) (hw : TW t a) (hs : TS a) (he : TabE w) (hpc : a.pn ≤ a.pc) (hg : Seg .u32 w wa zs) (hl : zs.length = n) (hn : n ≤ 1048576) (hq : Sd t) (hx : X < a.pn) (h256 : n ≤ 256) (xs : List Wn) (en : Int) (yn : Nat) (hxs : (t.ps.getD X pt0).ws = xs) (hent : (t.ps.getD X pt0).en = en) (hyn0 : (a.Y X).wn = yn) (home off : Nat) (HHM : Hid (home < xs.length)) (HAT : Hid (AtP xs xs.length en (home : Int))) (HOF : Hid (en = (xs.getD home wn0).1 + (off : Int) ∧ (off : Int) < (xs.getD home wn0).2.1)) (HFI : Hid (¬ en + 4 * (n : Int) ≤ (xs.getD home wn0).1 + (xs.getD home wn0).2.1)) :
    Calls Tryz.prog 9 #[tbV t a, .int .i64 (X : Int), .slice wa n wc] w (LdAns w 0 (fun _ => []) false) := by
  have HQ1 : true = true ↔ Sd t := ⟨fun _ => hq, fun _ => rfl⟩
  have HQ2 : true = true ↔ (0 ≤ (X : Int) ∧ (X : Int) < (a.pn : Int)) := ⟨fun _ => ⟨by omega, by omega⟩, fun _ => rfl⟩
  have hXl : X < t.ps.length := by rw [hw.pl]; exact hx
  have HWK : Hid (WsOk xs) := by
    show WsOk xs
    rw [← hxs]
    exact sd_wsok hq hXl
  have HGD : Hid (Good 0 w (a.Y X) (t.ps.getD X pt0)) := hm.p.2 X hx
  obtain ⟨b1, o1, hpa, hbl1, p1⟩ := hm.p.1.seg.at X hx
  have HPC : Hid (∀ Y, Below w.heap.size w Y → CellsAt Y b1 (o1 + X * 5) (rwL (a.Y X))) := fun Y hY => p1.of (fun j => hY.cell (p := ⟨b1, j, none⟩) hbl1)
  have HPA : Hid (a.pa = some ⟨b1, o1, none⟩) := hpa
  have HZS : Hid (∀ Y, Below w.heap.size w Y → Seg .u32 Y wa zs) := fun Y hY => hg.below hY
  have HAS : Hid (∀ Y, Below w.heap.size w Y → ASeg Y (a.Y X).wa xs) := fun Y hY => by
    have := (HGD.out.aseg).below hY
    rw [hxs] at this
    exact this
  have HWN : Hid (xs.length = yn) := by
    show _ = _
    rw [← hxs, ← hyn0]
    exact HGD.out.ln
  have HEN : Hid ((a.Y X).en = en) := by
    show _ = _
    rw [← hent]
    exact HGD.out.en
  have HYN : Hid ((a.Y X).wn = yn) := hyn0
  have HYC : Hid (yn ≤ (a.Y X).wc) := by
    show _ ≤ _
    rw [← hyn0]
    exact HGD.out.cp
  have HLN : Hid (zs.length = n) := hl
  have hx' : (X : Int) < (a.pn : Int) := by omega
  have HHP : Hid (∀ V, Calls Tryz.prog 37 #[tbV t a, .int .i64 (X : Int)] V fun e w' => e = .returned (.bool true) ∧ Below V.heap.size V w') := fun V => has_part t a (X : Int) true V hw.pb HQ2
  have HB0 : Hid (Below w.heap.size w (w.alloc (.cells (tbA t a) 43))) := (Below.refl _ _).alloc (Nat.le_refl _) _
  have HX0 : Hid (TBx (w.alloc (.cells (tbA t a) 43)) w.heap.size t a) := TBx.new w t a _ rfl
  have HSP : Hid (Calls Tryz.prog 36 #[tbV t a] (w.alloc (.cells (tbA t a) 43)) fun e w' => e = .returned (.bool true) ∧ Below (w.alloc (.cells (tbA t a) 43)).heap.size (w.alloc (.cells (tbA t a) 43)) w') := impl_sound t a true _ (hm.below HB0.out) hw hs (he.below HB0.out) hpc HQ1
  have hpn : a.pn ≤ 1048576 := hs.p
  have h256' : decide ((256 : Int) < (n : Int)) = false := decide_eq_false (by omega)
  clear HQ1 HQ2 hq hm hw hs he hpc hg hl hpa hbl1 p1 hXl hxs hent hyn0 HGD
  go_enter Tryz.func9, Tryz.ntmps9
  go_wp2_with (first | (refine wpList_load_rowG rfl 43 (.tmp 3) rfl w.heap.size rfl 43 (tbA t a) (0, 0) _ HX0.out Tryz.underlying43 rfl (by kernel_rfl) ?_) | fail)
  refine Calls.mono HSP.out ?_
  rintro e w1 ⟨rfl, hb1⟩
  have HB1 : Hid (Below w.heap.size w w1) := HB0.out.trans (hb1.mono HB0.out.size)
  have HX1 : Hid (TBx w1 w.heap.size t a) := HX0.out.below hb1
  clear hb1 HB0 HX0 HSP
  go_wp2_with (first | (refine wpList_load_rowG rfl 43 (.tmp 3) rfl w.heap.size rfl 43 (tbA t a) (0, 0) _ HX1.out Tryz.underlying43 rfl (by kernel_rfl) ?_) | fail)
  refine Calls.mono (HHP.out _) ?_
  rintro e w2 ⟨rfl, hb2⟩
  have HB2 : Hid (Below w.heap.size w w2) := HB1.out.trans (hb2.mono HB1.out.size)
  have HX2 : Hid (TBx w2 w.heap.size t a) := HX1.out.below hb2
  clear hb2 HB1 HX1 HHP
  have k15 : w2.cell? ⟨w.heap.size, 15, none⟩ = some (.slice (some ⟨b1, o1, none⟩) a.pn a.pc) := by rw [← HPA.out]; exact HX2.out.cell 15 rfl
  obtain ⟨c0, c1, c2, c3, c4⟩ := rw_cells (HPC.out _ HB2.out)
  rw [HEN.out] at c1
  rw [HYN.out] at c4
  generalize (a.Y X).wa = ya at c4 HAS
  generalize (a.Y X).wc = yc at c4 HYC
  generalize (a.Y X).nm = ynm at c0
  generalize (a.Y X).kd = ykd at c2
  generalize (a.Y X).ms = yms at c3
  clear HEN HPC HYN
  have hyn : yn ≤ 4 := by rw [← HWN.out]; exact HWK.out.1
  have HHL : Hid (home < yn) := by show _ < _; rw [← HWN.out]; exact HHM.out
  have hal : Below w2.heap.size w2 (w2.alloc (.cells #[.string ynm, .int .i64 en, .int .i64 ykd, .int .i64 yms, .slice ya yn yc] 78)) := (Below.refl _ _).alloc (Nat.le_refl _) _
  have HBA : Hid (Below w.heap.size w (w2.alloc (.cells #[.string ynm, .int .i64 en, .int .i64 ykd, .int .i64 yms, .slice ya yn yc] 78))) := HB2.out.trans (hal.mono HB2.out.size)
  have HRA : Hid ((w2.alloc (.cells #[.string ynm, .int .i64 en, .int .i64 ykd, .int .i64 yms, .slice ya yn yc] 78)).heap[w2.heap.size]? = some (.cells #[.string ynm, .int .i64 en, .int .i64 ykd, .int .i64 yms, .slice ya yn yc] 78 (0, 0))) := new_row w2 _ _ _ rfl
  clear hal
  go_wp2_with fail
  refine Calls.mono (impl_new ya yc yn en xs _ (HAS.out _ HBA.out) HWN.out (by omega) HYC.out HWK.out) ?_
  rintro e w3 ⟨ra, ma, rc, mc, m0, rfl, hb3, ⟨_, hbr⟩, hm0, hm1⟩
  have HB3 : Hid (Below w.heap.size w w3) := HBA.out.trans (hb3.mono HBA.out.size)
  have HR3 : Hid (w3.heap[w2.heap.size]? = some (.cells #[.string ynm, .int .i64 en, .int .i64 ykd, .int .i64 yms, .slice ya yn yc] 78 (0, 0))) := row_below HRA.out hb3
  have HM0 : Hid (w.heap.size ≤ m0) := Nat.le_trans HBA.out.size hm0
  have HBR : Hid (BRows w3 m0 w3.heap.size ma yn (rows0 xs)) := hbr
  have e1 := row_c HR3.out 1 _ rfl
  have e4 := row_c HR3.out 4 _ rfl
  have hfl : ∀ w, (Instr.field 93 (gst ra 16 rc (en % 4294967296) ma yn mc) 2).run Tryz.prog w = .ok (.slice ma yn mc) w := fun w => by kernel_rfl
  clear hb3 hbr hm0 hm1 HBA HRA k15 c0 c1 c2 c3 c4 HX2 HB2
  go_wp2_with fail
  refine Calls.mono (impl_at ya yc yn xs en (home : Int) yn _ (HAS.out _ HB3.out) HWN.out (by omega) HYC.out HWK.out rfl (by rw [← HWN.out]; exact HAT.out)) ?_
  rintro e w4 ⟨rfl, hb4⟩
  have HB4 : Hid (Below w.heap.size w w4) := HB3.out.trans (hb4.mono HB3.out.size)
  clear hfl
  obtain ⟨Bb, ob, A, C, R, hbb, hbra⟩ := HBR.out.below hb4
  obtain ⟨hma, hB1, hB2, hB3⟩ := hbb (by have := HHL.out; omega)
  subst hma
  have HW34 : Hid (w3.heap.size ≤ w4.heap.size) := hb4.size
  have HR4 : Hid (w4.heap[w2.heap.size]? = some (.cells #[.string ynm, .int .i64 en, .int .i64 ykd, .int .i64 yms, .slice ya yn yc] 78 (0, 0))) := row_below HR3.out hb4
  replace e1 := row_c HR4.out 1 _ rfl
  replace e4 := row_c HR4.out 4 _ rfl
  clear hb4 HR3 HB3 hbb
  obtain ⟨b2, o2, rfl, hbl2, q0, q1, q2⟩ := ASeg.at (HAS.out _ HB4.out) home (by rw [HWN.out]; exact HHL.out)
  obtain ⟨g1, g2, g3, g4, g5, _⟩ := WsOk.at HWK.out (k := home) (by rw [HWN.out]; exact HHL.out)
  have hrl : (rows0 xs home).length = (xs.getD home wn0).2.1.toNat := by unfold rows0; rw [List.length_replicate]
  have rcell := hbra.cell home HHL.out
  have rroom := hbra.room home HHL.out
  have ron := hbra.row home HHL.out
  have HSZ : Hid (Ld.sz xs home = (xs.getD home wn0).2.1.toNat) := rfl
  generalize hY : xs.getD home wn0 = y at q0 q1 q2 g1 g2 g3 g4 g5 HOF HFI hrl HSZ
  obtain ⟨y1, y2, y3⟩ := y
  simp only at q0 q1 q2 g1 g2 g3 g4 g5 HOF HFI hrl HSZ
  obtain ⟨sz, rfl⟩ := Int.eq_ofNat_of_zero_le (show 0 ≤ y2 by omega)
  rw [Int.toNat_natCast] at hrl HSZ
  obtain ⟨oh, hA, hR1, hR2, hR3, _⟩ := ron (by rw [hrl]; omega)
  rw [hA, hrl] at rcell
  rw [hrl] at rroom
  have hof := HOF.out
  have hfi := HFI.out
  have hoff : off < sz := by omega
  obtain ⟨L, hL⟩ : ∃ L, sz - off = L := ⟨_, rfl⟩
  have HLS : Hid (sz - off = L) := hL
  have hsl : ∀ w, (Instr.slice 82 (.slice (some ⟨R home, oh, none⟩) sz (C home)) (some (.int .i64 (off : Int))) none none).run Tryz.prog w = .ok (.slice (some ⟨R home, oh + off, none⟩) L (C home - off)) w := fun w => by
    rw [slice_from (R home) oh off sz (C home) (by omega) (by omega) w, hL]
  have v1 : IntKind.i64.wrap (4 * (n : Int)) = 4 * (n : Int) := by rw [IntKind.wrap_i64]; omega
  have v2 : IntKind.i64.wrap (en - y1) = (off : Int) := by rw [IntKind.wrap_i64]; omega
  have hhl' : (home : Int) < (yn : Int) := by have := HHL.out; omega
  have hfd : decide ((L : Int) < 4 * (n : Int)) = true := decide_eq_true (by omega)
  have HBB : Hid (BRA w4 m0 w3.heap.size Bb ob A C R yn (rows0 xs) ∧ m0 ≤ Bb ∧ Bb < w3.heap.size ∧ Bb < w4.heap.size) := ⟨hbra, hB1, hB2, hB3⟩
  have HOH : Hid (A home = some ⟨R home, oh, none⟩ ∧ m0 ≤ R home ∧ R home < w3.heap.size ∧ R home < w4.heap.size ∧ off < sz ∧ sz ≤ C home) := ⟨hA, hR1, hR2, hR3, hoff, rroom⟩
  generalize C home = Ch at rcell hsl HOH
  generalize R home = Rh at rcell hsl HOH
  clear hbra hB1 hB2 hB3 ron hA hR1 hR2 hR3 hof hfi hY hrl rroom hoff hL hbl2 q1 q2 g1 g2 g3 g4 g5
  go_wp2
  replace q0 := fun X => gr_cell q0 X
  replace rcell := fun X => gr_cell rcell X
  replace e1 := fun X => gr_cell e1 X
  replace e4 := fun X => gr_cell e4 X
  have hgr := gr_some w4
  refine region_alike (by kernel_rfl) (by kernel_rfl) ?_
  repeat (go_big_quiet_step (fail))
  refine wpQuiet_nil ?_
  intro _ hw'
  obtain ⟨X4, rfl⟩ := hw'
  have hb5 := X4.h
  clear hgr q0 rcell e1 e4 v2 hsl HR4
  generalize X4.w = w5 at hb5 ⊢
  have HB5 : Hid (Below w.heap.size w w5) := HB4.out.trans (hb5.mono HB4.out.size)
  have HBB5 : Hid (BRA w5 m0 w3.heap.size Bb ob A C R yn (rows0 xs) ∧ m0 ≤ Bb ∧ Bb < w3.heap.size ∧ Bb < w5.heap.size) := ⟨HBB.out.1.keep hb5 HBB.out.2.2.2, HBB.out.2.1, HBB.out.2.2.1, Nat.lt_of_lt_of_le HBB.out.2.2.2 hb5.size⟩
  have HOH5 : Hid (Rh < w5.heap.size ∧ w3.heap.size ≤ w5.heap.size) := ⟨Nat.lt_of_lt_of_le HOH.out.2.2.2.1 hb5.size, Nat.le_trans HW34.out hb5.size⟩
  clear hb5 HB4 HBB HW34
  go_wp2
  go_ret2
  exact ⟨_, _, rfl, HB5.out.alloc HB5.out.size _, brows_nil _ _ _ _ _⟩
end Go.Proofs.YtdmlgnmklnaehaaGreatDoor
