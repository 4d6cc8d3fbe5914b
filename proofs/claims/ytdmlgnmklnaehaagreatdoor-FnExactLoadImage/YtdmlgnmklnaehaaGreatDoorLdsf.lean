
/-
  What the specification's LoadImage returns. Conditions: tables and words lie in memory.
-/
import Derived.Test.YtdmlgnmklnaehaaGreatDoorBas
import Derived.Test.YtdmlgnmklnaehaaGreatDoorLds
namespace Go.Proofs.YtdmlgnmklnaehaaGreatDoor
open Go.ChangeShapes Go.WideShapes Go.ChangeAt Go.RowKit Go.Deep Go.Joins
set_option linter.unusedVariables false

set_option maxRecDepth 40000 in
set_option maxHeartbeats 16000000 in
theorem spec_ld_f (t : Tb) (a : Ad) (X : Nat) (wa : Option Addr) (wc n : Nat) (zs : List Int) (w : World) (hm : TM 0 w t a) (hw : TW t a) (hs : TS a) (hg : Seg .u32 w wa zs) (hl : zs.length = n) (hn : n ≤ 1048576) (hq : Sd t) (hx : X < a.pn) (h256 : n ≤ 256) (xs : List Wn) (en : Int) (yn : Nat) (hxs : (t.ps.getD X pt0).ws = xs) (hent : (t.ps.getD X pt0).en = en) (hyn0 : (a.Y X).wn = yn) (home off : Nat) (HHM : Hid (home < xs.length)) (HAT : Hid (AtP xs xs.length en (home : Int))) (HOF : Hid (en = (xs.getD home wn0).1 + (off : Int) ∧ (off : Int) < (xs.getD home wn0).2.1)) (HSZ : Hid (∀ i, i < xs.length → True)) (HFI : Hid (¬ en + 4 * (n : Int) ≤ (xs.getD home wn0).1 + (xs.getD home wn0).2.1)) :
    Calls Tryz.prog 6 #[tbV t a, .int .i64 (X : Int), .slice wa n wc] w (LdAns w 0 (fun _ => []) false) := by
  have HQ1 : true = true ↔ Sd t := ⟨fun _ => hq, fun _ => rfl⟩
  have h256' : decide ((256 : Int) < (n : Int)) = false := decide_eq_false (by omega)
  have hXl : X < t.ps.length := by rw [hw.pl]; exact hx
  have HWK : Hid (WsOk xs) := by
    show WsOk xs
    rw [← hxs]
    exact sd_wsok hq hXl
  have HGD : Hid (Good 0 w (a.Y X) (t.ps.getD X pt0)) := hm.p.2 X hx
  obtain ⟨b1, o1, hpa, hbl1, p1⟩ := hm.p.1.seg.at X hx
  have HPC : Hid (∀ Y, Below w.heap.size w Y → CellsAt Y b1 (o1 + X * 5) (rwL (a.Y X))) := fun Y hY => p1.of (fun j => hY.cell (p := ⟨b1, j, none⟩) hbl1)
  have HPA : Hid (a.pa = some ⟨b1, o1, none⟩) := hpa
  have HZS : Hid (∀ Y, Below w.heap.size w Y → Seg .u32 Y wa zs) := fun Y hY => hg.below hY
  have HAS : Hid (∀ Y, Below w.heap.size w Y → ASeg Y (a.Y X).wa xs) := fun Y hY => by
    have := (HGD.out.aseg).below hY
    rw [hxs] at this
    exact this
  have HWN : Hid (xs.length = yn) := by
    show _ = _
    rw [← hxs, ← hyn0]
    exact HGD.out.ln
  have HEN : Hid ((a.Y X).en = en) := by
    show _ = _
    rw [← hent]
    exact HGD.out.en
  have HYN : Hid ((a.Y X).wn = yn) := hyn0
  have HLN : Hid (zs.length = n) := hl
  have hx' : (X : Int) < (a.pn : Int) := by omega
  have HIN : Hid (inr (X : Int) 0 ((a.pn : Int) - 1) = true) := by
    show inr (X : Int) 0 ((a.pn : Int) - 1) = true
    unfold inr
    rw [Bool.and_eq_true, decide_eq_true_eq, decide_eq_true_eq]
    omega
  have HB0 : Hid (Below w.heap.size w ((w.alloc (.cells (tbA t a) 43)).alloc (.cells #[] 82))) := ((Below.refl _ _).alloc (Nat.le_refl _) _).alloc (by simp) _
  have HX0 : Hid (TBx ((w.alloc (.cells (tbA t a) 43)).alloc (.cells #[] 82)) w.heap.size t a) := (TBx.new w t a _ rfl).below ((Below.refl _ _).alloc (Nat.le_refl _) _)
  have HO0 : Hid (((w.alloc (.cells (tbA t a) 43)).alloc (.cells #[] 82)).ownsRow (w.heap.size + 1) 82 1 (.slice (some ⟨w.heap.size + 1, 0, none⟩) 0 0) 0 []) := own_empty (w.alloc (.cells (tbA t a) 43)) _ _ (by simp)
  have HZ0 : Hid (w.heap.size + 1 < ((w.alloc (.cells (tbA t a) 43)).alloc (.cells #[] 82)).heap.size) := by show _ < _; simp
  have HSP : Hid (Calls Tryz.prog 26 #[tbV t a] ((w.alloc (.cells (tbA t a) 43)).alloc (.cells #[] 82)) fun e w' => e = .returned (.bool true) ∧ Below ((w.alloc (.cells (tbA t a) 43)).alloc (.cells #[] 82)).heap.size ((w.alloc (.cells (tbA t a) 43)).alloc (.cells #[] 82)) w') := spec_sound t a true _ (hm.below HB0.out) hw hs HQ1
  have hpn : a.pn ≤ 1048576 := hs.p
  clear HQ1 hq hm hw hs hg hl hpa hbl1 p1 hXl hxs hent hyn0 HGD
  go_enter Tryz.func6, Tryz.ntmps6
  go_wp2_with (first | (refine wpList_load_row rfl 43 (.tmp 3) rfl w.heap.size rfl 43 (tbA t a) (0, 0) _ HX0.out Tryz.underlying43 rfl (by kernel_rfl) ?_) | fail)
  refine Calls.mono HSP.out ?_
  rintro e w1 ⟨rfl, hb1⟩
  have HB1 : Hid (Below w.heap.size w w1) := HB0.out.trans (hb1.mono HB0.out.size)
  have HX1 : Hid (TBx w1 w.heap.size t a) := HX0.out.below hb1
  have HO1 : Hid (w1.ownsRow (w.heap.size + 1) 82 1 (.slice (some ⟨w.heap.size + 1, 0, none⟩) 0 0) 0 []) := ownsRow_below HO0.out hb1
  have HZ1 : Hid (w.heap.size + 1 < w1.heap.size) := Nat.lt_of_lt_of_le HZ0.out hb1.size
  clear hb1 HB0 HX0 HO0 HZ0 HSP
  have k15 : w1.cell? ⟨w.heap.size, 15, none⟩ = some (.slice (some ⟨b1, o1, none⟩) a.pn a.pc) := by rw [← HPA.out]; exact HX1.out.cell 15 rfl
  have c1 : w1.cell? ⟨b1, o1 + X * 5 + 1, none⟩ = some (.int .i64 (a.Y X).en) := (rw_cells (HPC.out _ HB1.out)).2.1
  have c4 : w1.cell? ⟨b1, o1 + X * 5 + 4, none⟩ = some (.slice (a.Y X).wa (a.Y X).wn (a.Y X).wc) := (rw_cells (HPC.out _ HB1.out)).2.2.2.2
  have hw9 : IntKind.i64.wrap ((a.pn : Int) - 1) = (a.pn : Int) - 1 := by rw [IntKind.wrap_i64]; omega
  rw [HYN.out] at c4
  rw [HEN.out] at c1
  generalize (a.Y X).wa = ya at c4 HAS
  generalize (a.Y X).wc = yc at c4
  clear HEN HPC HYN
  have hyn : yn ≤ 4 := by rw [← HWN.out]; exact HWK.out.1
  have HHL : Hid (home < yn) := by show _ < _; rw [← HWN.out]; exact HHM.out
  go_wp2_with fail
  refine Calls.mono (in_any (X : Int) 0 ((a.pn : Int) - 1) _) ?_
  rintro e w2 ⟨rfl, rfl⟩
  rw [HIN.out]
  go_wp2_with fail
  refine Calls.mono (spec_l07at ya yc yn xs en (home : Int) _ (HAS.out _ HB1.out) HWN.out HWK.out (by rw [← HWN.out]; exact HAT.out)) ?_
  rintro e w3 ⟨rfl, hb3⟩
  have HB3 : Hid (Below w.heap.size w w3) := HB1.out.trans (hb3.mono HB1.out.size)
  have HO3 : Hid (w3.ownsRow (w.heap.size + 1) 82 1 (.slice (some ⟨w.heap.size + 1, 0, none⟩) 0 0) 0 []) := ownsRow_below HO1.out hb3
  have HZ3 : Hid (w.heap.size + 1 < w3.heap.size) := Nat.lt_of_lt_of_le HZ1.out hb3.size
  clear hb3 HB1 HX1 HO1 HZ1 k15 c1 c4 hw9
  obtain ⟨b2, o2, rfl, hbl2, q0, q1, q2⟩ := ASeg.at (HAS.out _ HB3.out) home (by rw [HWN.out]; exact HHL.out)
  obtain ⟨g1, g2, g3, g4, g5, _⟩ := WsOk.at HWK.out (k := home) (by rw [HWN.out]; exact HHL.out)
  generalize hY : xs.getD home wn0 = y at q0 q1 q2 g1 g2 g3 g4 g5 HOF HFI
  have HYY : Hid (xs.getD home wn0 = y) := hY
  obtain ⟨y1, y2, y3⟩ := y
  simp only at q0 q1 q2 g1 g2 g3 g4 g5 HOF HFI
  have hof := HOF.out
  have hfi := HFI.out
  have v1 : IntKind.i64.wrap (4 * (n : Int)) = 4 * (n : Int) := by rw [IntKind.wrap_i64]; omega
  have v2 : IntKind.i64.wrap (en + 4 * (n : Int)) = en + 4 * (n : Int) := by rw [IntKind.wrap_i64]; omega
  have v3 : IntKind.i64.wrap (y1 + y2) = y1 + y2 := by rw [IntKind.wrap_i64]; omega
  have hhl' : (home : Int) < (yn : Int) := by have := HHL.out; omega
  have hfd : decide (y1 + y2 < en + 4 * (n : Int)) = true := decide_eq_true (by omega)
  clear hof hfi hY
  go_wp2
  replace q0 := fun X => gr_cell q0 X
  replace q1 := fun X => gr_cell q1 X
  have hgr := gr_some w3
  refine region_alike (by kernel_rfl) (by kernel_rfl) ?_
  repeat (go_big_quiet_step (fail))
  refine wpQuiet_nil ?_
  intro _ hw'
  obtain ⟨X4, rfl⟩ := hw'
  have hb4 := X4.h
  clear hgr q0 q1 q2 v1 v2 v3 hfd
  generalize X4.w = w4 at hb4 ⊢
  have HB4 : Hid (Below w.heap.size w w4) := HB3.out.trans (hb4.mono HB3.out.size)
  have HO4 : Hid (w4.ownsRow (w.heap.size + 1) 82 1 (.slice (some ⟨w.heap.size + 1, 0, none⟩) 0 0) 0 []) := ownsRow_below HO3.out hb4
  have HZ4 : Hid (w.heap.size + 1 < w4.heap.size) := Nat.lt_of_lt_of_le HZ3.out hb4.size
  clear hb4 HB3 HO3 HZ3
  go_wp2
  go_ret2
  exact ⟨_, _, rfl, HB4.out, brows_nil _ _ _ _ _⟩
end Go.Proofs.YtdmlgnmklnaehaaGreatDoor
