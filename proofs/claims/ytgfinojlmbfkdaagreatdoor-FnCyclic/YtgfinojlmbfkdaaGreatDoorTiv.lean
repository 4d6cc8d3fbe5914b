
/-
  The first cycles of a partition's slots: both sides. Conditions: the lists lie in memory; the program's table of extras holds what the program's text lays.
-/
import Derived.Test.YtgfinojlmbfkdaaGreatDoorBas
import Derived.Test.YtgfinojlmbfkdaaGreatDoorTiu
import Derived.Test.YtgfinojlmbfkdaaGreatDoorTit
namespace Go.Proofs.YtgfinojlmbfkdaaGreatDoor
open Go.ChangeShapes Go.WideShapes Go.ChangeAt Go.RowKit Go.Deep Go.Joins
set_option linter.unusedVariables false

set_option maxRecDepth 40000 in
set_option maxHeartbeats 4000000 in
theorem impl_starts (t : Tb) (a : Ad) (x y z : Int) (zs : List Int) (w : World) (hm : TM 0 w t a) (hw : TW t a) (hs : TS a) (he : TabE w) (hcp : a.pn ≤ a.pc) (hcs : a.sn ≤ a.sc) (hzs : startsV t x y z zs) :
    Calls Tryz.prog 30 #[tbV t a, .int .i64 x, .int .i64 y, .int .i64 z] w (LPostI w zs) := by
  obtain ⟨q, hq⟩ := told ((Sd t ∧ IsC y) ∧ IsC z)
  have HB0 : Hid (Below w.heap.size w (w.alloc (.cells (tbA t a) 46))) := (Below.refl _ _).alloc (Nat.le_refl _) _
  have HX0 : Hid (TBx (w.alloc (.cells (tbA t a) 46)) w.heap.size t a) := TBx.new w t a _ rfl
  have hbE : Below (w.alloc (.cells (tbA t a) 46)).heap.size (w.alloc (.cells (tbA t a) 46)) ((w.alloc (.cells (tbA t a) 46)).alloc (.cells #[] 3)) := (Below.refl _ _).alloc (Nat.le_refl _) _
  have HBE : Hid (Below w.heap.size w ((w.alloc (.cells (tbA t a) 46)).alloc (.cells #[] 3))) := HB0.out.trans (hbE.mono HB0.out.size)
  have HXE : Hid (TBx ((w.alloc (.cells (tbA t a) 46)).alloc (.cells #[] 3)) w.heap.size t a) := HX0.out.below hbE
  have HOE : Hid (OwnI ((w.alloc (.cells (tbA t a) 46)).alloc (.cells #[] 3)) (w.heap.size + 1) (.slice (some ⟨w.heap.size + 1, 0, none⟩) 0 0) []) := OwnI.new (w.alloc (.cells (tbA t a) 46)) _ (by simp)
  have hbA : Below ((w.alloc (.cells (tbA t a) 46)).alloc (.cells #[] 3)).heap.size ((w.alloc (.cells (tbA t a) 46)).alloc (.cells #[] 3)) (((w.alloc (.cells (tbA t a) 46)).alloc (.cells #[] 3)).alloc (.cells #[.int .i64 y, .int .i64 z] 3)) := (Below.refl _ _).alloc (Nat.le_refl _) _
  have HBA : Hid (Below w.heap.size w (((w.alloc (.cells (tbA t a) 46)).alloc (.cells #[] 3)).alloc (.cells #[.int .i64 y, .int .i64 z] 3))) := HBE.out.trans (hbA.mono HBE.out.size)
  have HXA : Hid (TBx (((w.alloc (.cells (tbA t a) 46)).alloc (.cells #[] 3)).alloc (.cells #[.int .i64 y, .int .i64 z] 3)) w.heap.size t a) := HXE.out.below hbA
  have HOA : Hid (OwnI (((w.alloc (.cells (tbA t a) 46)).alloc (.cells #[] 3)).alloc (.cells #[.int .i64 y, .int .i64 z] 3)) (w.heap.size + 1) (.slice (some ⟨w.heap.size + 1, 0, none⟩) 0 0) []) := HOE.out.below hbA
  have KA : Hid (GSeg 1 (((w.alloc (.cells (tbA t a) 46)).alloc (.cells #[] 3)).alloc (.cells #[.int .i64 y, .int .i64 z] 3)) (some ⟨w.heap.size + 1 + 1, 0, none⟩) 2 (inX [y, z])) := fun _ => ⟨w.heap.size + 1 + 1, 0, rfl, by simp, fun i hi => by
    have g := CellsAt.new ((w.alloc (.cells (tbA t a) 46)).alloc (.cells #[] 3)) [.int .i64 y, .int .i64 z] 3 (w.heap.size + 1 + 1) (by simp)
    have : i = 0 ∨ i = 1 := by omega
    rcases this with rfl | rfl
    · intro j v hj
      cases j with
      | zero => exact g 0 v hj
      | succ j => simp [inX] at hj
    · intro j v hj
      cases j with
      | zero => exact g 1 v hj
      | succ j => simp [inX] at hj⟩
  have HK : Hid (Calls Tryz.prog 81 #[tbV t a, .slice (some ⟨w.heap.size + 1 + 1, 0, none⟩) 2 2] (((w.alloc (.cells (tbA t a) 46)).alloc (.cells #[] 3)).alloc (.cells #[.int .i64 y, .int .i64 z] 3)) fun e w' => e = .returned (.bool q) ∧ Below (((w.alloc (.cells (tbA t a) 46)).alloc (.cells #[] 3)).alloc (.cells #[.int .i64 y, .int .i64 z] 3)).heap.size (((w.alloc (.cells (tbA t a) 46)).alloc (.cells #[] 3)).alloc (.cells #[.int .i64 y, .int .i64 z] 3)) w') :=
    keeps t a [y, z] 2 2 _ q _ (hm.below HBA.out) hw hs (he.below HBA.out) hcp KA.out (by omega) (hq.trans ⟨fun h => ⟨fun i hi => by
      have : i = 0 ∨ i = 1 := by omega
      rcases this with rfl | rfl
      · exact h.1.2
      · exact h.2, h.1.1⟩, fun h => ⟨⟨h.2, h.1 0 (by omega)⟩, h.1 1 (by omega)⟩⟩)
  have HQ : Hid (q = true ↔ ((Sd t ∧ IsC y) ∧ IsC z)) := hq
  have HZS : Hid (startsV t x y z zs) := hzs
  have HNT : Hid (Sd t → ∀ c : Int, 0 ≤ c → c ≤ 1000000 → ∀ X, Below w.heap.size w X → Calls Tryz.prog 83 #[tbV t a, .int .i64 c] X fun e w' => (∃ (i : Nat) (r : Int), e = .returned (.agg #[.int .i64 (t.ss.getD i sl0).1, .int .i64 r, .int .i64 (t.ss.getD i sl0).2.2]) ∧ TN t c i r) ∧ Below X.heap.size X w') := fun h c h1 h2 X hX => next_turn t a c X (hm.below hX) hw hs hcs (sd_tm h) h1 h2
  clear hm hw hs hq he hcp hcs KA hbA hbE HB0 HX0 hzs HOE
  go_enter Tryz.func30, Tryz.ntmps30
  go_wp2_with (first | (refine wpList_load_row rfl 46 (.tmp 4) rfl w.heap.size rfl 46 (tbA t a) (0, 0) _ HXE.out Tryz.underlying46 rfl (by kernel_rfl) ?_) | fail)
  refine Calls.mono HK.out ?_
  rintro e w1 ⟨rfl, hb1⟩
  have HB1 : Hid (Below w.heap.size w w1) := HBA.out.trans (hb1.mono HBA.out.size)
  have HX1 : Hid (TBx w1 w.heap.size t a) := HXA.out.below hb1
  have HO1 : Hid (OwnI w1 (w.heap.size + 1) (.slice (some ⟨w.heap.size + 1, 0, none⟩) 0 0) []) := HOA.out.below hb1
  clear hb1 HBA HXA HK HOA HBE HXE
  cases q
  · have HT : Hid (zs = []) := by
      rcases HZS.out with ⟨_, h⟩ | ⟨h, _⟩
      · exact h
      · have := HQ.out.2 ⟨h.1, h.2.1⟩; cases this
    clear HQ HNT HX1 HZS
    go_wp2
    go_ret
    obtain ⟨a', cap', e1, h4⟩ := HO1.out.oi
    cases e1
    rw [HT.out]
    exact ⟨_, _, rfl, HB1.out, h4.wide (by omega) (Nat.le_refl _)⟩
  have HT : Hid ((Sd t ∧ IsC y) ∧ IsC z) := HQ.out.1 rfl
  clear HQ
  have HTM : Hid (Tm t) := sd_tm HT.out.1.1
  have hy := HT.out.1.2
  have hz := HT.out.2
  unfold IsC at hy hz
  have HZM : Hid (zs = stM t x y (z - y).toNat) := starts_stM HZS.out HT.out
  clear HZS
  obtain ⟨ii, hii, hz0, hs0, hb0⟩ := infoI3'
  have HII : Hid (Tryz.prog.info? 3 = some ii ∧ ii.zero = some (.int .i64 0) ∧ ii.size = 1 ∧ ii.bytes = 8) := ⟨hii, hz0, hs0, hb0⟩
  clear hii hz0 hs0 hb0
  have HL1 : Hid (w.heap.size + 1 < w1.heap.size) := by
    obtain ⟨a', cap', e1, h4⟩ := HO1.out.oi
    rcases HO1.out.2 with ⟨h0, _⟩ | ⟨g, cap, cur, e, hb, hg, _⟩
    · cases h0
    · cases e
      rcases Nat.lt_or_ge (w.heap.size + 1) w1.heap.size with hlt | hge
      · exact hlt
      · rw [Array.getElem?_eq_none hge] at hg; cases hg
  go_wp2_with (first | (refine wpList_load_row rfl 46 (.tmp 4) rfl w.heap.size rfl 46 (tbA t a) (0, 0) _ HX1.out Tryz.underlying46 rfl (by kernel_rfl) ?_) | fail)
  refine Calls.mono (HNT.out HT.out.1.1 y (by omega) (by omega) _ HB1.out) ?_
  rintro e V1 ⟨⟨i0, r0, rfl, hT0⟩, hb0⟩
  obtain ⟨p10, HP10⟩ : ∃ p, Hid ((t.ss.getD i0 sl0).1 = p) := ⟨_, rfl⟩
  obtain ⟨p30, HP30⟩ : ∃ p, Hid ((t.ss.getD i0 sl0).2.2 = p) := ⟨_, rfl⟩
  rw [HP10.out, HP30.out]
  have hr0 : y ≤ r0 ∧ r0 ≤ 1000000 := ⟨hT0.2.2.1.1, by have := hT0.2.2.2; have := HTM.out.maj2; omega⟩
  have HT0 : Hid (TN t y i0 r0) := hT0
  have hbS : Below V1.heap.size V1 (V1.alloc (.cells #[.int .i64 p10, .int .i64 r0, .int .i64 p30] 72)) := (Below.refl _ _).alloc (Nat.le_refl _) _
  have HBV : Hid (Below w.heap.size w V1) := HB1.out.trans (hb0.mono HB1.out.size)
  have HBS : Hid (Below w.heap.size w (V1.alloc (.cells #[.int .i64 p10, .int .i64 r0, .int .i64 p30] 72))) := HBV.out.trans (hbS.mono HBV.out.size)
  have HXS : Hid (TBx (V1.alloc (.cells #[.int .i64 p10, .int .i64 r0, .int .i64 p30] 72)) w.heap.size t a) := (HX1.out.below hb0).below hbS
  have HOS : Hid (OwnI (V1.alloc (.cells #[.int .i64 p10, .int .i64 r0, .int .i64 p30] 72)) (w.heap.size + 1) (.slice (some ⟨w.heap.size + 1, 0, none⟩) 0 0) []) := (HO1.out.below hb0).below hbS
  have HSS : Hid (SRow (V1.alloc (.cells #[.int .i64 p10, .int .i64 r0, .int .i64 p30] 72)) V1.heap.size #[.int .i64 p10, .int .i64 r0, .int .i64 p30]) := srow_new V1 _ _ rfl
  have HLS : Hid (w.heap.size + 1 < V1.heap.size) := Nat.lt_of_lt_of_le HL1.out hb0.size
  clear hb0 hbS HBV HX1 HO1 HL1 hT0 HB1
  have hmj := HTM.out.maj2
  go_wp2
  revert HBS HXS HOS HSS HLS
  generalize V1.alloc (.cells #[.int .i64 p10, .int .i64 r0, .int .i64 p30] 72) = V0
  generalize V1.heap.size = N0
  intro HBS HXS HOS HSS HLS
  go_loopw [9, 10] (fun v u wr => ∃ (k g cap N : Nat) (d r y1 y3 : Int) (i : Nat), v = .slice (some ⟨g, 0, none⟩) k cap ∧ u = .pointer (some ⟨N, 0, none⟩) ∧ y ≤ d ∧ (d ≤ z ∨ d = y) ∧ d ≤ r ∧ r ≤ 1000000 ∧ Hid (k = (stM t x y (d - y).toNat).length) ∧ Hid ((t.ss.getD i sl0).1 = y1) ∧ Hid (TN t d i r) ∧ Hid (Below w.heap.size w wr) ∧ Hid (TBx wr w.heap.size t a) ∧ Hid (OwnI wr (w.heap.size + 1) (.slice (some ⟨g, 0, none⟩) k cap) (stM t x y (d - y).toNat)) ∧ Hid (SRow wr N #[.int .i64 y1, .int .i64 r, .int .i64 y3]) ∧ Hid (g ≠ N) ∧ Hid (w.heap.size + 1 < N)) (fun _ u wr => (z - curR u wr).toNat)
  case atStart => exact ⟨0, w.heap.size + 1, 0, N0, y, r0, p10, p30, i0, rfl, rfl, by omega, by omega, hr0.1, hr0.2, (by show 0 = _; rw [stM_zero]; rfl), HP10.out, HT0.out, HBS.out, HXS.out, (by show OwnI _ _ _ _; rw [stM_zero]; exact HOS.out), HSS.out, (by have := HLS.out; show _ ≠ _; omega), HLS.out⟩
  case round =>
    clear HBS HXS HOS HSS HLS HT0
    obtain ⟨k, g, cap, N, d, r, y1, y3, i, rfl, rfl, hd1, hd2, hdr, hr6, HKL, HPI, HTN, HBW, HXW, HOW, HSR, HGN, HNN⟩ := hrel
    have q0 : wr.cell? ⟨N, 0, none⟩ = some (.int .i64 y1) := HSR.out.cell 0 rfl
    have q1 : wr.cell? ⟨N, 1, none⟩ = some (.int .i64 r) := HSR.out.cell 1 rfl
    have q2 : wr.cell? ⟨N, 2, none⟩ = some (.int .i64 y3) := HSR.out.cell 2 rfl
    have HCU : Hid (curR (.pointer (some ⟨N, 0, none⟩)) wr = r) := curR_at HSR.out
    have HNW : Hid (w.heap.size + 1 < wr.heap.size) := Nat.lt_trans HNN.out HSR.out.lt
    by_cases hlt : r < z
    rotate_left
    · have HE : Hid (zs = stM t x y (d - y).toNat) := by
        show _ = _
        rw [HZM.out]
        by_cases g1 : d ≤ z
        · exact stM_turn HTM.out HTN.out hd1 z g1 (by omega)
        · rw [show (z - y).toNat = (d - y).toNat by omega]
      clear HKL HTN HXW HSR HGN HNN
      go_wp2
      go_ret
      obtain ⟨a', cap', e1, h4⟩ := HOW.out.oi
      cases e1
      rw [HE.out]
      exact ⟨_, _, rfl, HBW.out, h4.wide (by omega) (Nat.le_refl _)⟩
    have HGW : Hid (g < wr.heap.size) := by
      rcases HOW.out.2 with ⟨h0, _⟩ | ⟨g', cap', cur, e, hb, hg, _⟩
      · cases h0
      · cases e
        rcases Nat.lt_or_ge g wr.heap.size with hl | hge
        · exact hl
        · rw [Array.getElem?_eq_none hge] at hg; cases hg
    have HLM0 : Hid (¬ y1 = x → stM t x y (r + 1 - y).toNat = stM t x y (d - y).toNat) := fun h => stM_miss HTM.out HTN.out hd1 (by rw [HPI.out]; exact h)
    have HLH0 : Hid (y1 = x → stM t x y (r + 1 - y).toNat = stM t x y (d - y).toNat ++ [r]) := fun h => stM_hit HTM.out HTN.out hd1 (by rw [HPI.out]; exact h)
    have hyl : (stM t x y (d - y).toNat).length ≤ 1000000 := by have := stM_len t x y (d - y).toNat; omega
    generalize stM t x y (d - y).toNat = ys at HKL HOW HLM0 HLH0 hyl
    have hkl := HKL.out
    have HGN2 : Hid (g ≠ N) := HGN.out
    have HSL2 : Hid (N < wr.heap.size) := HSR.out.lt
    clear HTN HSR HGN HNN HKL HPI
    subst hkl
    by_cases hx : y1 = x
    rotate_left
    · have HLM : Hid (stM t x y (r + 1 - y).toNat = ys) := HLM0.out hx
      have HKM : Hid (ys.length = (stM t x y (r + 1 - y).toNat).length) := by show _ = _; rw [HLM.out]
      have hbb : (y1 == x) = false := by simpa using hx
      clear HLM0 HLH0
      have hbT : Below wr.heap.size wr (wr.alloc (.cells #[.int .i64 y1, .int .i64 r, .int .i64 y3] 72)) := (Below.refl _ _).alloc (Nat.le_refl _) _
      have HXT : Hid (TBx (wr.alloc (.cells #[.int .i64 y1, .int .i64 r, .int .i64 y3] 72)) w.heap.size t a) := HXW.out.below hbT
      have HBT : Hid (Below w.heap.size w (wr.alloc (.cells #[.int .i64 y1, .int .i64 r, .int .i64 y3] 72))) := HBW.out.trans (hbT.mono HBW.out.size)
      have HST : Hid (SRow (wr.alloc (.cells #[.int .i64 y1, .int .i64 r, .int .i64 y3] 72)) wr.heap.size #[.int .i64 y1, .int .i64 r, .int .i64 y3]) := srow_new wr _ _ rfl
      have HOT : Hid (OwnI (wr.alloc (.cells #[.int .i64 y1, .int .i64 r, .int .i64 y3] 72)) (w.heap.size + 1) (.slice (some ⟨g, 0, none⟩) ys.length cap) ys) := HOW.out.below hbT
      have HGL : Hid (g < wr.heap.size) := HGW.out
      have HNB : Hid (w.heap.size + 1 < wr.heap.size) := HNW.out
      have hw1 : IntKind.i64.wrap (r + 1) = r + 1 := by rw [IntKind.wrap_i64]; omega
      clear hbT HXW HBW HOW HGW HNW
      go_wp2_with (first | (refine wpList_load_row rfl 46 (.tmp 4) rfl w.heap.size rfl 46 (tbA t a) (0, 0) _ HXT.out Tryz.underlying46 rfl (by kernel_rfl) ?_) | fail)
      revert HXT HBT HST HOT HGL HNB
      generalize wr.alloc (.cells #[.int .i64 y1, .int .i64 r, .int .i64 y3] 72) = VT
      generalize wr.heap.size = NT
      intro HXT HBT HST HOT HGL HNB
      refine Calls.mono (HNT.out HT.out.1.1 (r + 1) (by omega) (by omega) _ HBT.out) ?_
      rintro e V2 ⟨⟨i2, r2, rfl, hT2⟩, hb2⟩
      obtain ⟨p12, HP12⟩ : ∃ p, Hid ((t.ss.getD i2 sl0).1 = p) := ⟨_, rfl⟩
      obtain ⟨p32, HP32⟩ : ∃ p, Hid ((t.ss.getD i2 sl0).2.2 = p) := ⟨_, rfl⟩
      rw [HP12.out, HP32.out]
      have HX2 : Hid (TBx V2 w.heap.size t a) := HXT.out.below hb2
      have HB2 : Hid (Below w.heap.size w V2) := HBT.out.trans (hb2.mono HBT.out.size)
      have HS2 : Hid (V2.heap[NT]? = some (.cells #[.int .i64 y1, .int .i64 r, .int .i64 y3] 72 (0, 0))) := HST.out.below hb2
      have HO2 : Hid (OwnI V2 (w.heap.size + 1) (.slice (some ⟨g, 0, none⟩) ys.length cap) ys) := HOT.out.below hb2
      have HT2 : Hid (TN t (r + 1) i2 r2) := hT2
      have hr2 : r + 1 ≤ r2 ∧ r2 ≤ 1000000 := ⟨hT2.2.2.1.1, by have := hT2.2.2.2; omega⟩
      clear hb2 HXT HBT HST HOT hT2
      have HBF : Hid (Below w.heap.size w (V2.setRow NT #[.int .i64 p12, .int .i64 r2, .int .i64 p32])) := below_setRow HB2.out (by have := HNB.out; omega) _
      have HXF : Hid (TBx (V2.setRow NT #[.int .i64 p12, .int .i64 r2, .int .i64 p32]) w.heap.size t a) := (setRow_other V2 NT w.heap.size _ (by have := HNB.out; omega)).trans HX2.out
      have HSF : Hid (SRow (V2.setRow NT #[.int .i64 p12, .int .i64 r2, .int .i64 p32]) NT #[.int .i64 p12, .int .i64 r2, .int .i64 p32]) := setRow_heap _ _ _ _ _ _ HS2.out
      have HOF : Hid (OwnI (V2.setRow NT #[.int .i64 p12, .int .i64 r2, .int .i64 p32]) (w.heap.size + 1) (.slice (some ⟨g, 0, none⟩) ys.length cap) ys) := HO2.out.row _ (fun g' hg => by
        have : g = g' := by simpa [Value.ownBlock] using hg
        have := HGL.out
        omega)
      clear HX2 HB2 HO2
      go_wp2_with (first | (refine wpList_store_row rfl 72 (.tmp 10) (.tmp 30) rfl NT #[.int .i64 p12, .int .i64 r2, .int .i64 p32] rfl rfl 72 #[.int .i64 y1, .int .i64 r, .int .i64 y3] HS2.out (by kernel_rfl) rfl (by simp [Value.oneCell']) ?_) | fail)
      revert HBF HXF HSF HOF
      generalize V2.setRow NT #[.int .i64 p12, .int .i64 r2, .int .i64 p32] = VF
      intro HBF HXF HSF HOF
      have HCR : Hid (curR (.pointer (some ⟨NT, 0, none⟩)) VF = r2) := curR_at HSF.out
      simp only [Act.put]
      go_roundw
      case rel => exact ⟨ys.length, g, cap, NT, r + 1, r2, p12, p32, i2, rfl, rfl, by omega, by omega, hr2.1, hr2.2, HKM.out, HP12.out, HT2.out, HBF.out, HXF.out, (by show OwnI _ _ _ _; rw [HLM.out]; exact HOF.out), HSF.out, (by have := HGL.out; show _ ≠ _; omega), HNB.out⟩
      case measure =>
        rw [HCR.out, HCU.out]
        omega
    · have HLH : Hid (stM t x y (r + 1 - y).toNat = ys ++ [r]) := HLH0.out hx
      have HKH : Hid (ys.length + 1 = (stM t x y (r + 1 - y).toNat).length) := by show _ = _; rw [HLH.out]; simp
      subst hx
      have hal : Below wr.heap.size wr (wr.alloc (.cells #[.int .i64 r] 3)) := (Below.refl _ _).alloc (Nat.le_refl _) _
      have hown2 : (wr.alloc (.cells #[.int .i64 r] 3)).ownsRow (w.heap.size + 1) 3 1 (.slice (some ⟨g, 0, none⟩) ys.length cap) ys.length (ys.map (Value.int .i64)) := OwnI.below HOW.out hal
      have hlow := ownI_low HOW.out
      have HZ : Hid (∀ (gg cap1 : Nat) (w9 : World), w9.ownsRow (w.heap.size + 1) 3 1 (.slice (some ⟨gg, 0, none⟩) (ys.length + 1) cap1) (ys.length + 1) (ys.map (Value.int .i64) ++ [.int .i64 r]) → (wr.alloc (.cells #[.int .i64 r] 3)).grownBy w9 (Value.slice (some ⟨g, 0, none⟩) ys.length cap).ownBlock → OwnI w9 (w.heap.size + 1) (.slice (some ⟨gg, 0, none⟩) (ys.length + 1) cap1) (ys ++ [r]) ∧ Below w.heap.size w w9 ∧ TBx w9 w.heap.size t a ∧ w.heap.size + 1 < w9.heap.size ∧ gg < w9.heap.size ∧ w9.cell? ⟨N, 0, none⟩ = some (.int .i64 y1) ∧ w9.cell? ⟨N, 1, none⟩ = some (.int .i64 r) ∧ w9.cell? ⟨N, 2, none⟩ = some (.int .i64 y3)) := fun gg cap1 w9 h1 h2 => by
        have hbz := HBW.out.trans (hal.mono HBW.out.size)
        have hN : N < (wr.alloc (.cells #[.int .i64 r] 3)).heap.size := Nat.lt_of_lt_of_le HSL2.out hal.size
        have hNb : w9.heap[N]? = (wr.alloc (.cells #[.int .i64 r] 3)).heap[N]? := h2.block N hN (fun e => HGN2.out (Option.some.inj e).symm)
        have hB : w9.heap[w.heap.size]? = (wr.alloc (.cells #[.int .i64 r] 3)).heap[w.heap.size]? := h2.block w.heap.size (Nat.lt_of_lt_of_le (by have := HNW.out; omega) hal.size) (fun e => by have := hlow _ e.symm; omega)
        have hgl : gg < w9.heap.size := by
          rcases h1.2 with ⟨h0, _⟩ | ⟨g', cap', cur, e, hb, hg, _⟩
          · cases h0
          · cases e
            rcases Nat.lt_or_ge gg w9.heap.size with hl | hge
            · exact hl
            · rw [Array.getElem?_eq_none hge] at hg; cases hg
        exact ⟨OwnI.snoc h1, Below.grown hbz h2 hbz.size (fun g' e => by have := hlow g' e; omega), hB.trans (HXW.out.below hal), Nat.lt_of_lt_of_le HNW.out (Nat.le_trans hal.size h2.size), hgl,
          (World.cell?_of_block (a := ⟨N, 0, none⟩) hNb).trans (kept_cell hal q0), (World.cell?_of_block (a := ⟨N, 1, none⟩) hNb).trans (kept_cell hal q1), (World.cell?_of_block (a := ⟨N, 2, none⟩) hNb).trans (kept_cell hal q2)⟩
      have hw1 : IntKind.i64.wrap (r + 1) = r + 1 := by rw [IntKind.wrap_i64]; omega
      have hbs : w.heap.size + 1 ≤ wr.heap.size := by have := HNW.out; omega
      clear hal hlow HXW HBW HOW HGW HNW HGN2 HSL2
      go_wp2_with (first | (at_builtin; (refine wpList_append_lies _ rfl (.tmp 35) (.tmp 38) 27 rfl (w.heap.size + 1) 3 ii (.int .i64 0) 1 8 Tryz.underlying27 HII.out.1 HII.out.2.1 HII.out.2.2.1 HII.out.2.2.2 rfl (by omega) _ _ _ rfl hown2 _ 1 1 [.int .i64 r] rfl rfl (newsI_int _ _ _ (by simp)) (oneI_int _) (by omega) (by unfold maxLen; omega) (by omega) (by simp; omega) _ rfl ?_; intro gg cap1 w9 hown1 hgrow hat hlt1; have HY : Hid _ := HZ.out gg cap1 w9 hown1 hgrow; clear hown1 hgrow hat hlt1; replace q0 : w9.cell? ⟨N, 0, none⟩ = some (.int .i64 y1) := HY.out.2.2.2.2.2.1; replace q1 : w9.cell? ⟨N, 1, none⟩ = some (.int .i64 r) := HY.out.2.2.2.2.2.2.1; replace q2 : w9.cell? ⟨N, 2, none⟩ = some (.int .i64 y3) := HY.out.2.2.2.2.2.2.2; have HXT : Hid (TBx (w9.alloc (.cells #[.int .i64 y1, .int .i64 r, .int .i64 y3] 72)) w.heap.size t a) := TBx.below HY.out.2.2.1 ((Below.refl _ _).alloc (Nat.le_refl _) _))) | (refine wpList_load_row rfl 46 (.tmp 4) rfl w.heap.size rfl 46 (tbA t a) (0, 0) _ HXT.out Tryz.underlying46 rfl (by kernel_rfl) ?_) | fail)
      have HOW : Hid (OwnI w9 (w.heap.size + 1) (.slice (some ⟨gg, 0, none⟩) (ys.length + 1) cap1) (ys ++ [r])) := HY.out.1
      have HBW : Hid (Below w.heap.size w w9) := HY.out.2.1
      have HXW : Hid (TBx w9 w.heap.size t a) := HY.out.2.2.1
      have HNW : Hid (w.heap.size + 1 < w9.heap.size) := HY.out.2.2.2.1
      have HGW : Hid (gg < w9.heap.size) := HY.out.2.2.2.2.1
      clear HY HZ hown2
      have hbT : Below w9.heap.size w9 (w9.alloc (.cells #[.int .i64 y1, .int .i64 r, .int .i64 y3] 72)) := (Below.refl _ _).alloc (Nat.le_refl _) _
      have HBT : Hid (Below w.heap.size w (w9.alloc (.cells #[.int .i64 y1, .int .i64 r, .int .i64 y3] 72))) := HBW.out.trans (hbT.mono HBW.out.size)
      have HST : Hid (SRow (w9.alloc (.cells #[.int .i64 y1, .int .i64 r, .int .i64 y3] 72)) w9.heap.size #[.int .i64 y1, .int .i64 r, .int .i64 y3]) := srow_new w9 _ _ rfl
      have HOT : Hid (OwnI (w9.alloc (.cells #[.int .i64 y1, .int .i64 r, .int .i64 y3] 72)) (w.heap.size + 1) (.slice (some ⟨gg, 0, none⟩) (ys.length + 1) cap1) (ys ++ [r])) := HOW.out.below hbT
      have HGL : Hid (gg < w9.heap.size) := HGW.out
      have HNB : Hid (w.heap.size + 1 < w9.heap.size) := HNW.out
      have hw1 : IntKind.i64.wrap (r + 1) = r + 1 := by rw [IntKind.wrap_i64]; omega
      clear hbT HXW HBW HOW HGW HNW
      revert HXT HBT HST HOT HGL HNB
      generalize w9.alloc (.cells #[.int .i64 y1, .int .i64 r, .int .i64 y3] 72) = VT
      generalize w9.heap.size = NT
      intro HXT HBT HST HOT HGL HNB
      refine Calls.mono (HNT.out HT.out.1.1 (r + 1) (by omega) (by omega) _ HBT.out) ?_
      rintro e V2 ⟨⟨i2, r2, rfl, hT2⟩, hb2⟩
      obtain ⟨p12, HP12⟩ : ∃ p, Hid ((t.ss.getD i2 sl0).1 = p) := ⟨_, rfl⟩
      obtain ⟨p32, HP32⟩ : ∃ p, Hid ((t.ss.getD i2 sl0).2.2 = p) := ⟨_, rfl⟩
      rw [HP12.out, HP32.out]
      have HX2 : Hid (TBx V2 w.heap.size t a) := HXT.out.below hb2
      have HB2 : Hid (Below w.heap.size w V2) := HBT.out.trans (hb2.mono HBT.out.size)
      have HS2 : Hid (V2.heap[NT]? = some (.cells #[.int .i64 y1, .int .i64 r, .int .i64 y3] 72 (0, 0))) := HST.out.below hb2
      have HO2 : Hid (OwnI V2 (w.heap.size + 1) (.slice (some ⟨gg, 0, none⟩) (ys.length + 1) cap1) (ys ++ [r])) := HOT.out.below hb2
      have HT2 : Hid (TN t (r + 1) i2 r2) := hT2
      have hr2 : r + 1 ≤ r2 ∧ r2 ≤ 1000000 := ⟨hT2.2.2.1.1, by have := hT2.2.2.2; omega⟩
      clear hb2 HXT HBT HST HOT hT2
      have HBF : Hid (Below w.heap.size w (V2.setRow NT #[.int .i64 p12, .int .i64 r2, .int .i64 p32])) := below_setRow HB2.out (by have := HNB.out; omega) _
      have HXF : Hid (TBx (V2.setRow NT #[.int .i64 p12, .int .i64 r2, .int .i64 p32]) w.heap.size t a) := (setRow_other V2 NT w.heap.size _ (by have := HNB.out; omega)).trans HX2.out
      have HSF : Hid (SRow (V2.setRow NT #[.int .i64 p12, .int .i64 r2, .int .i64 p32]) NT #[.int .i64 p12, .int .i64 r2, .int .i64 p32]) := setRow_heap _ _ _ _ _ _ HS2.out
      have HOF : Hid (OwnI (V2.setRow NT #[.int .i64 p12, .int .i64 r2, .int .i64 p32]) (w.heap.size + 1) (.slice (some ⟨gg, 0, none⟩) (ys.length + 1) cap1) (ys ++ [r])) := HO2.out.row _ (fun g' hg => by
        have : gg = g' := by simpa [Value.ownBlock] using hg
        have := HGL.out
        omega)
      clear HX2 HB2 HO2
      go_wp2_with (first | (refine wpList_store_row rfl 72 (.tmp 10) (.tmp 30) rfl NT #[.int .i64 p12, .int .i64 r2, .int .i64 p32] rfl rfl 72 #[.int .i64 y1, .int .i64 r, .int .i64 y3] HS2.out (by kernel_rfl) rfl (by simp [Value.oneCell']) ?_) | fail)
      revert HBF HXF HSF HOF
      generalize V2.setRow NT #[.int .i64 p12, .int .i64 r2, .int .i64 p32] = VF
      intro HBF HXF HSF HOF
      have HCR : Hid (curR (.pointer (some ⟨NT, 0, none⟩)) VF = r2) := curR_at HSF.out
      simp only [Act.put]
      go_roundw
      case rel => exact ⟨ys.length + 1, gg, cap1, NT, r + 1, r2, p12, p32, i2, rfl, rfl, by omega, by omega, hr2.1, hr2.2, HKH.out, HP12.out, HT2.out, HBF.out, HXF.out, (by show OwnI _ _ _ _; rw [HLH.out]; exact HOF.out), HSF.out, (by have := HGL.out; show _ ≠ _; omega), HNB.out⟩
      case measure =>
        rw [HCR.out, HCU.out]
        omega
end Go.Proofs.YtgfinojlmbfkdaaGreatDoor
