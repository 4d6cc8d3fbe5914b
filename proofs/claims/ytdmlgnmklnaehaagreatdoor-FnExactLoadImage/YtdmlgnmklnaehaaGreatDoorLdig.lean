
/-
  What the program's LoadImage returns. Conditions: tables and words lie in memory; the program's table of extras lies as the text lays it.
-/
import Derived.Test.YtdmlgnmklnaehaaGreatDoorBas
import Derived.Test.YtdmlgnmklnaehaaGreatDoorLdh
namespace Go.Proofs.YtdmlgnmklnaehaaGreatDoor
open Go.ChangeShapes Go.WideShapes Go.ChangeAt Go.RowKit Go.Deep Go.Joins
set_option linter.unusedVariables false

structure LdR (W0 : World) (Rh p L k k4 c : Nat) (zq : Int) (w' : World) (b0 b1 b2 b3 b4 b5 b6 : Bool) (x73 x74 x75 x76 x77 x78 x79 : Value) : Prop where
  cs : b6 = true → b0 = true ∧ b1 = true ∧ b2 = true ∧ b3 = true ∧ b4 = true ∧ b5 = true
  d3 : b3 = true → b0 = true ∧ b2 = true
  d2 : b2 = true → b1 = true
  d5 : b5 = true → b4 = true
  gb : b6 = false → Below W0.heap.size W0 w'
  f0 : b0 = true → x73 = .slice (some ⟨Rh, p, none⟩) L c
  f1 : b1 = true → x74 = .int .i64 (k : Int)
  f2 : b2 = true → x75 = .int .i64 (k4 : Int)
  f3 : b3 = true → x76 = .slice (some ⟨Rh, p + k4, none⟩) (L - k4) (c - k4)
  f4 : b4 = true → x77 = .int .u32 zq
  f5 : b5 = true → ∃ N, x78 = .slice (some ⟨N, 0, none⟩) 4 4 ∧ W0.heap.size ≤ N ∧ (b6 = false → Own .u8 w' N (Wd.bytes zq))
  f6 : b6 = true → x79 = .int .i64 4 ∧ ∃ w8, Below W0.heap.size W0 w8 ∧ w' = w8.setCells Rh (p + k4) ((Wd.bytes zq).map (Value.int .u8))
set_option maxRecDepth 40000 in
set_option maxHeartbeats 16000000 in
theorem impl_ld_g (t : Tb) (a : Ad) (X : Nat) (wa : Option Addr) (wc n : Nat) (zs : List Int) (w : World) (hm : TM 0 w t a) (hw : TW t a) (hs : TS a) (he : TabE w) (hpc : a.pn ≤ a.pc) (hg : Seg .u32 w wa zs) (hl : zs.length = n) (hn : n ≤ 1048576) (hq : Sd t) (hx : X < a.pn) (h256 : n ≤ 256) (xs : List Wn) (en : Int) (yn : Nat) (hxs : (t.ps.getD X pt0).ws = xs) (hent : (t.ps.getD X pt0).en = en) (hyn0 : (a.Y X).wn = yn) (home off : Nat) (HHM : Hid (home < xs.length)) (HAT : Hid (AtP xs xs.length en (home : Int))) (HOF : Hid (en = (xs.getD home wn0).1 + (off : Int) ∧ (off : Int) < (xs.getD home wn0).2.1)) (HFI : Hid (en + 4 * (n : Int) ≤ (xs.getD home wn0).1 + (xs.getD home wn0).2.1)) (HZW : Hid (∀ z ∈ zs, 0 ≤ z ∧ z ≤ 4294967295)) :
    Calls Tryz.prog 9 #[tbV t a, .int .i64 (X : Int), .slice wa n wc] w (LdAns w yn (Ld.rowL xs home off n zs) true) := by
  have HQ1 : true = true ↔ Sd t := ⟨fun _ => hq, fun _ => rfl⟩
  have HQ2 : true = true ↔ (0 ≤ (X : Int) ∧ (X : Int) < (a.pn : Int)) := ⟨fun _ => ⟨by omega, by omega⟩, fun _ => rfl⟩
  have hXl : X < t.ps.length := by rw [hw.pl]; exact hx
  have HWK : Hid (WsOk xs) := by
    show WsOk xs
    rw [← hxs]
    exact sd_wsok hq hXl
  have HGD : Hid (Good 0 w (a.Y X) (t.ps.getD X pt0)) := hm.p.2 X hx
  obtain ⟨b1, o1, hpa, hbl1, p1⟩ := hm.p.1.seg.at X hx
  have HPC : Hid (∀ Y, Below w.heap.size w Y → CellsAt Y b1 (o1 + X * 5) (rwL (a.Y X))) := fun Y hY => p1.of (fun j => hY.cell (p := ⟨b1, j, none⟩) hbl1)
  have HPA : Hid (a.pa = some ⟨b1, o1, none⟩) := hpa
  have HZS : Hid (∀ Y, Below w.heap.size w Y → Seg .u32 Y wa zs) := fun Y hY => hg.below hY
  have HAS : Hid (∀ Y, Below w.heap.size w Y → ASeg Y (a.Y X).wa xs) := fun Y hY => by
    have := (HGD.out.aseg).below hY
    rw [hxs] at this
    exact this
  have HWN : Hid (xs.length = yn) := by
    show _ = _
    rw [← hxs, ← hyn0]
    exact HGD.out.ln
  have HEN : Hid ((a.Y X).en = en) := by
    show _ = _
    rw [← hent]
    exact HGD.out.en
  have HYN : Hid ((a.Y X).wn = yn) := hyn0
  have HYC : Hid (yn ≤ (a.Y X).wc) := by
    show _ ≤ _
    rw [← hyn0]
    exact HGD.out.cp
  have HLN : Hid (zs.length = n) := hl
  have hx' : (X : Int) < (a.pn : Int) := by omega
  have HHP : Hid (∀ V, Calls Tryz.prog 37 #[tbV t a, .int .i64 (X : Int)] V fun e w' => e = .returned (.bool true) ∧ Below V.heap.size V w') := fun V => has_part t a (X : Int) true V hw.pb HQ2
  have HB0 : Hid (Below w.heap.size w (w.alloc (.cells (tbA t a) 43))) := (Below.refl _ _).alloc (Nat.le_refl _) _
  have HX0 : Hid (TBx (w.alloc (.cells (tbA t a) 43)) w.heap.size t a) := TBx.new w t a _ rfl
  have HSP : Hid (Calls Tryz.prog 36 #[tbV t a] (w.alloc (.cells (tbA t a) 43)) fun e w' => e = .returned (.bool true) ∧ Below (w.alloc (.cells (tbA t a) 43)).heap.size (w.alloc (.cells (tbA t a) 43)) w') := impl_sound t a true _ (hm.below HB0.out) hw hs (he.below HB0.out) hpc HQ1
  have hpn : a.pn ≤ 1048576 := hs.p
  have h256' : decide ((256 : Int) < (n : Int)) = false := decide_eq_false (by omega)
  clear HQ1 HQ2 hq hm hw hs he hpc hg hl hpa hbl1 p1 hXl hxs hent hyn0 HGD
  go_enter Tryz.func9, Tryz.ntmps9
  go_wp2_with (first | (refine wpList_load_rowG rfl 43 (.tmp 3) rfl w.heap.size rfl 43 (tbA t a) (0, 0) _ HX0.out Tryz.underlying43 rfl (by kernel_rfl) ?_) | fail)
  refine Calls.mono HSP.out ?_
  rintro e w1 ⟨rfl, hb1⟩
  have HB1 : Hid (Below w.heap.size w w1) := HB0.out.trans (hb1.mono HB0.out.size)
  have HX1 : Hid (TBx w1 w.heap.size t a) := HX0.out.below hb1
  clear hb1 HB0 HX0 HSP
  go_wp2_with (first | (refine wpList_load_rowG rfl 43 (.tmp 3) rfl w.heap.size rfl 43 (tbA t a) (0, 0) _ HX1.out Tryz.underlying43 rfl (by kernel_rfl) ?_) | fail)
  refine Calls.mono (HHP.out _) ?_
  rintro e w2 ⟨rfl, hb2⟩
  have HB2 : Hid (Below w.heap.size w w2) := HB1.out.trans (hb2.mono HB1.out.size)
  have HX2 : Hid (TBx w2 w.heap.size t a) := HX1.out.below hb2
  clear hb2 HB1 HX1 HHP
  have k15 : w2.cell? ⟨w.heap.size, 15, none⟩ = some (.slice (some ⟨b1, o1, none⟩) a.pn a.pc) := by rw [← HPA.out]; exact HX2.out.cell 15 rfl
  obtain ⟨c0, c1, c2, c3, c4⟩ := rw_cells (HPC.out _ HB2.out)
  rw [HEN.out] at c1
  rw [HYN.out] at c4
  generalize (a.Y X).wa = ya at c4 HAS
  generalize (a.Y X).wc = yc at c4 HYC
  generalize (a.Y X).nm = ynm at c0
  generalize (a.Y X).kd = ykd at c2
  generalize (a.Y X).ms = yms at c3
  clear HEN HPC HYN
  have hyn : yn ≤ 4 := by rw [← HWN.out]; exact HWK.out.1
  have HHL : Hid (home < yn) := by show _ < _; rw [← HWN.out]; exact HHM.out
  have hal : Below w2.heap.size w2 (w2.alloc (.cells #[.string ynm, .int .i64 en, .int .i64 ykd, .int .i64 yms, .slice ya yn yc] 78)) := (Below.refl _ _).alloc (Nat.le_refl _) _
  have HBA : Hid (Below w.heap.size w (w2.alloc (.cells #[.string ynm, .int .i64 en, .int .i64 ykd, .int .i64 yms, .slice ya yn yc] 78))) := HB2.out.trans (hal.mono HB2.out.size)
  have HRA : Hid ((w2.alloc (.cells #[.string ynm, .int .i64 en, .int .i64 ykd, .int .i64 yms, .slice ya yn yc] 78)).heap[w2.heap.size]? = some (.cells #[.string ynm, .int .i64 en, .int .i64 ykd, .int .i64 yms, .slice ya yn yc] 78 (0, 0))) := new_row w2 _ _ _ rfl
  clear hal
  go_wp2_with fail
  refine Calls.mono (impl_new ya yc yn en xs _ (HAS.out _ HBA.out) HWN.out (by omega) HYC.out HWK.out) ?_
  rintro e w3 ⟨ra, ma, rc, mc, m0, rfl, hb3, ⟨_, hbr⟩, hm0, hm1⟩
  have HB3 : Hid (Below w.heap.size w w3) := HBA.out.trans (hb3.mono HBA.out.size)
  have HR3 : Hid (w3.heap[w2.heap.size]? = some (.cells #[.string ynm, .int .i64 en, .int .i64 ykd, .int .i64 yms, .slice ya yn yc] 78 (0, 0))) := row_below HRA.out hb3
  have HM0 : Hid (w.heap.size ≤ m0) := Nat.le_trans HBA.out.size hm0
  have HBR : Hid (BRows w3 m0 w3.heap.size ma yn (rows0 xs)) := hbr
  have e1 := row_c HR3.out 1 _ rfl
  have e4 := row_c HR3.out 4 _ rfl
  have hfl : ∀ w, (Instr.field 93 (gst ra 16 rc (en % 4294967296) ma yn mc) 2).run Tryz.prog w = .ok (.slice ma yn mc) w := fun w => by kernel_rfl
  clear hb3 hbr hm0 hm1 HBA HRA k15 c0 c1 c2 c3 c4 HX2 HB2
  go_wp2_with fail
  refine Calls.mono (impl_at ya yc yn xs en (home : Int) yn _ (HAS.out _ HB3.out) HWN.out (by omega) HYC.out HWK.out rfl (by rw [← HWN.out]; exact HAT.out)) ?_
  rintro e w4 ⟨rfl, hb4⟩
  have HB4 : Hid (Below w.heap.size w w4) := HB3.out.trans (hb4.mono HB3.out.size)
  clear hfl
  obtain ⟨Bb, ob, A, C, R, hbb, hbra⟩ := HBR.out.below hb4
  obtain ⟨hma, hB1, hB2, hB3⟩ := hbb (by have := HHL.out; omega)
  subst hma
  have HW34 : Hid (w3.heap.size ≤ w4.heap.size) := hb4.size
  have HR4 : Hid (w4.heap[w2.heap.size]? = some (.cells #[.string ynm, .int .i64 en, .int .i64 ykd, .int .i64 yms, .slice ya yn yc] 78 (0, 0))) := row_below HR3.out hb4
  replace e1 := row_c HR4.out 1 _ rfl
  replace e4 := row_c HR4.out 4 _ rfl
  clear hb4 HR3 HB3 hbb
  obtain ⟨b2, o2, rfl, hbl2, q0, q1, q2⟩ := ASeg.at (HAS.out _ HB4.out) home (by rw [HWN.out]; exact HHL.out)
  obtain ⟨g1, g2, g3, g4, g5, _⟩ := WsOk.at HWK.out (k := home) (by rw [HWN.out]; exact HHL.out)
  have hrl : (rows0 xs home).length = (xs.getD home wn0).2.1.toNat := by unfold rows0; rw [List.length_replicate]
  have rcell := hbra.cell home HHL.out
  have rroom := hbra.room home HHL.out
  have ron := hbra.row home HHL.out
  have HSZ : Hid (Ld.sz xs home = (xs.getD home wn0).2.1.toNat) := rfl
  generalize hY : xs.getD home wn0 = y at q0 q1 q2 g1 g2 g3 g4 g5 HOF HFI hrl HSZ
  obtain ⟨y1, y2, y3⟩ := y
  simp only at q0 q1 q2 g1 g2 g3 g4 g5 HOF HFI hrl HSZ
  obtain ⟨sz, rfl⟩ := Int.eq_ofNat_of_zero_le (show 0 ≤ y2 by omega)
  rw [Int.toNat_natCast] at hrl HSZ
  obtain ⟨oh, hA, hR1, hR2, hR3, _⟩ := ron (by rw [hrl]; omega)
  rw [hA, hrl] at rcell
  rw [hrl] at rroom
  have hof := HOF.out
  have hfi := HFI.out
  have hoff : off < sz := by omega
  obtain ⟨L, hL⟩ : ∃ L, sz - off = L := ⟨_, rfl⟩
  have HLS : Hid (sz - off = L) := hL
  have hsl : ∀ w, (Instr.slice 82 (.slice (some ⟨R home, oh, none⟩) sz (C home)) (some (.int .i64 (off : Int))) none none).run Tryz.prog w = .ok (.slice (some ⟨R home, oh + off, none⟩) L (C home - off)) w := fun w => by
    rw [slice_from (R home) oh off sz (C home) (by omega) (by omega) w, hL]
  have v1 : IntKind.i64.wrap (4 * (n : Int)) = 4 * (n : Int) := by rw [IntKind.wrap_i64]; omega
  have v2 : IntKind.i64.wrap (en - y1) = (off : Int) := by rw [IntKind.wrap_i64]; omega
  have hhl' : (home : Int) < (yn : Int) := by have := HHL.out; omega
  have hfd : decide ((L : Int) < 4 * (n : Int)) = false := decide_eq_false (by omega)
  have HBB : Hid (BRA w4 m0 w3.heap.size Bb ob A C R yn (rows0 xs) ∧ m0 ≤ Bb ∧ Bb < w3.heap.size ∧ Bb < w4.heap.size) := ⟨hbra, hB1, hB2, hB3⟩
  have HOH : Hid (A home = some ⟨R home, oh, none⟩ ∧ m0 ≤ R home ∧ R home < w3.heap.size ∧ R home < w4.heap.size ∧ off < sz ∧ sz ≤ C home) := ⟨hA, hR1, hR2, hR3, hoff, rroom⟩
  generalize C home = Ch at rcell hsl HOH
  have HRE0 : Hid (R home = R home) := rfl
  obtain ⟨Rh, hRh⟩ : ∃ Rh, R home = Rh := ⟨_, rfl⟩
  have HRE : Hid (R home = Rh) := hRh
  rw [hRh] at rcell hsl HOH
  clear hRh HRE0
  clear hbra hB1 hB2 hB3 ron hA hR1 hR2 hR3 hof hfi hY hrl rroom hoff hL hbl2 q1 q2 g1 g2 g3 g4 g5
  go_wp2
  replace q0 := fun X => gr_cell q0 X
  replace rcell := fun X => gr_cell rcell X
  replace e1 := fun X => gr_cell e1 X
  replace e4 := fun X => gr_cell e4 X
  have hgr := gr_some w4
  refine region_alike (by kernel_rfl) (by kernel_rfl) ?_
  repeat (go_big_quiet_step (fail))
  refine wpQuiet_nil ?_
  intro _ hw'
  obtain ⟨X4, rfl⟩ := hw'
  have hb5 := X4.h
  clear hgr q0 rcell e1 e4 v2 hsl HR4
  generalize X4.w = w5 at hb5 ⊢
  have HB5 : Hid (Below w.heap.size w w5) := HB4.out.trans (hb5.mono HB4.out.size)
  have HBB5 : Hid (BRA w5 m0 w3.heap.size Bb ob A C R yn (rows0 xs) ∧ m0 ≤ Bb ∧ Bb < w3.heap.size ∧ Bb < w5.heap.size) := ⟨HBB.out.1.keep hb5 HBB.out.2.2.2, HBB.out.2.1, HBB.out.2.2.1, Nat.lt_of_lt_of_le HBB.out.2.2.2 hb5.size⟩
  have HOH5 : Hid (Rh < w5.heap.size ∧ w3.heap.size ≤ w5.heap.size) := ⟨Nat.lt_of_lt_of_le HOH.out.2.2.2.1 hb5.size, Nat.le_trans HW34.out hb5.size⟩
  clear hb5 HB4 HBB HW34
  have HFIT : Hid (4 * n ≤ L) := by
    show _ ≤ _
    have h1 := of_decide_eq_false hfd
    omega
  clear HFI HOF
  go_wp2
  go_loopw [68] (fun i wr => ∃ k : Nat, k ≤ n ∧ i = .int .i64 k ∧ Hid ((w5.heap.size ≤ wr.heap.size ∧ Below w.heap.size w wr) ∧ BRA wr m0 w3.heap.size Bb ob A C R yn (Ld.rowL xs home off k zs))) (fun i _ => n - (intOf i).toNat)
  case atStart => exact ⟨0, by omega, rfl, ⟨⟨Nat.le_refl _, HB5.out⟩, HBB5.out.1.congr (fun i hi => (Ld.rowL_zero xs home off zs i).symm)⟩⟩
  case round =>
    obtain ⟨k, hk, rfl, HU⟩ := hrel
    by_cases hkn : k < n
    · have hkn' : (k : Int) < (n : Int) := by omega
      obtain ⟨b7, o7, rfl, hbl7, z7⟩ := (HZS.out _ HU.out.1.2).at k (by rw [HLN.out]; exact hkn)
      have HZR : Hid (0 ≤ zs.getD k 0 ∧ zs.getD k 0 ≤ 4294967295) := HZW.out _ (getD_mem zs k (by rw [HLN.out]; exact hkn))
      obtain ⟨zq, hzq⟩ : ∃ zq, zs.getD k 0 = zq := ⟨_, rfl⟩
      rw [hzq] at z7 HZR
      have HZQ : Hid (zs.getD k 0 = zq) := hzq
      have HKL : Hid (4 * k + 4 ≤ L) := by show _ ≤ _; have := HFIT.out; omega
      have HRON : Hid (ON .u8 wr m0 w3.heap.size (some ⟨Rh, oh, none⟩) (Ld.rowL xs home off k zs home) Rh) := by
        have h1 := HU.out.2.row home HHL.out
        rw [HOH.out.1, HRE.out] at h1
        exact h1
      obtain ⟨k4, hk4⟩ : ∃ k4 : Nat, 4 * k = k4 := ⟨_, rfl⟩
      have HK4 : Hid (4 * k = k4) := hk4
      have HW4 : Hid (IntKind.i64.wrap (4 * (k : Int)) = (k4 : Int)) := by show _ = _; rw [IntKind.wrap_i64]; omega
      have HSL : Hid (∀ w, (Instr.slice 82 (.slice (some ⟨Rh, oh + off, none⟩) L (Ch - off)) (some (.int .i64 (k4 : Int))) none none).run Tryz.prog w = .ok (.slice (some ⟨Rh, oh + off + k4, none⟩) (L - k4) (Ch - off - k4)) w) := fun w =>
        slice_from Rh (oh + off) k4 L (Ch - off) (by have := HKL.out; have := HK4.out; omega) (by have := HKL.out; have := HK4.out; have := HLS.out; have := HOH.out.2.2.2.2; omega) w
      clear hk4
      clear hzq hbl7 hfd v1
      go_wp2
      refine wp_region_inv (by kernel_rfl) (by kernel_rfl) (fun A9 ℓ a' w' => ∃ (x73 x74 x75 x76 x77 x78 x79 : Value), a' = (((((((A9.put (some 73) x73).put (some 74) x74).put (some 75) x75).put (some 76) x76).put (some 77) x77).put (some 78) x78).put (some 79) x79) ∧ LdR wr Rh (oh + off) L k k4 (Ch - off) zq w' (ℓ 0) (ℓ 1) (ℓ 2) (ℓ 3) (ℓ 4) (ℓ 5) (ℓ 6) x73 x74 x75 x76 x77 x78 x79) ?_ ?_ ?_ ?_
      · exact ⟨u73, u74, u75, u76, u77, u78, u79, (by simp only [Act.put, List.setIfInBounds_toArray, List.set_cons_zero, List.set_cons_succ]), ⟨(fun g => by cases g), (fun g => by cases g), (fun g => by cases g), (fun g => by cases g), (fun _ => (Below.refl _ _).drew), (fun g => by cases g), (fun g => by cases g), (fun g => by cases g), (fun g => by cases g), (fun g => by cases g), (fun g => by cases g), (fun g => by cases g)⟩⟩
      · intro ℓ a' w' hI hall
        obtain ⟨x73, x74, x75, x76, x77, x78, x79, rfl, hr⟩ := hI
        have hall' : ∀ i, i < 7 → ℓ i = true := hall
        obtain rfl := hr.f0 (hall' 0 (by decide))
        obtain rfl := hr.f1 (hall' 1 (by decide))
        obtain rfl := hr.f2 (hall' 2 (by decide))
        obtain rfl := hr.f3 (hall' 3 (by decide))
        obtain rfl := hr.f4 (hall' 4 (by decide))
        obtain ⟨N9, rfl, _, _⟩ := hr.f5 (hall' 5 (by decide))
        obtain ⟨rfl, w8, hb8, hw8⟩ := hr.f6 (hall' 6 (by decide))
        clear hall hall' hr
        simp only [Act.put, List.setIfInBounds_toArray, List.set_cons_zero, List.set_cons_succ]
        rw [← HK4.out] at hw8
        have HB8 : Hid (Below wr.heap.size wr w8) := hb8
        have HBR8 : Hid (BRA w8 m0 w3.heap.size Bb ob A C R yn (Ld.rowL xs home off k zs)) := HU.out.2.keep hb8 (Nat.lt_of_lt_of_le HBB5.out.2.2.2 HU.out.1.1)
        have HON8 := on_copy (bs := Wd.bytes zq) (p := off + 4 * k) (HRON.out.below hb8) (by rw [Ld.rowL_len, HSZ.out]; show off + 4 * k + 4 ≤ sz; have := HKL.out; have := HLS.out; omega) (by rw [Ld.rowL_len, HSZ.out]; have := HOH.out.2.2.2.2.1; omega)
        have hstep := Ld.rowL_step xs home off k zs (by rw [HSZ.out]; have := HKL.out; have := HLS.out; omega)
        rw [HZQ.out] at hstep
        have e44 : (Wd.bytes zq).length = 4 := rfl
        rw [e44, ← hstep, ← Nat.add_assoc] at HON8
        have HBT : Hid (Betw Rh (Rh + 1) w8 (w8.setCells Rh (oh + off + 4 * k) ((Wd.bytes zq).map (Value.int .u8)))) := betw_setCells _ _ _ _
        have HBN : Hid (BRA w' m0 w3.heap.size Bb ob A C R yn (Ld.rowL xs home off (k + 1) zs)) := by
          show BRA _ _ _ _ _ _ _ _ _ _
          rw [hw8]
          have h1 := BRA.put HBR8.out home HHL.out (Nat.lt_of_lt_of_le (Nat.lt_of_lt_of_le HBB5.out.2.2.2 HU.out.1.1) hb8.size) (Ld.rowL xs home off (k + 1) zs home) (by rw [Ld.rowL_len, Ld.rowL_len]) (by rw [HRE.out]; exact HBT.out) (by rw [HOH.out.1, HRE.out]; exact HON8) (by rw [Ld.rowL_len, HSZ.out]; have := HOH.out.2.2.2.2.1; omega)
          refine h1.congr (fun i hi => ?_)
          by_cases e : i = home
          · subst e; rw [if_pos rfl]
          · rw [if_neg e]; exact Ld.rowL_other xs home off k (k + 1) zs i e
        have HBW : Hid (Below w.heap.size w w' ∧ w5.heap.size ≤ w'.heap.size) := by
          have h1 : Below w.heap.size w w8 := HU.out.1.2.trans (hb8.mono HU.out.1.2.size)
          rw [hw8]
          refine ⟨h1.trans (HBT.out.below (by have := HOH.out.2.1; have := HM0.out; omega) h1.size), ?_⟩
          rw [size_setCells]
          exact Nat.le_trans HU.out.1.1 hb8.size
        clear hb8 hw8 hstep HON8
        go_wp2
        go_roundw
        case rel => exact ⟨k + 1, by omega, by go_num, ⟨⟨HBW.out.2, HBW.out.1⟩, HBN.out⟩⟩
        case measure => simp [intOf]; omega
      · intro ℓ a' w' i o hI ho hi hL hdep K hK
        obtain ⟨x73, x74, x75, x76, x77, x78, x79, rfl, hr⟩ := hI
        have hi7 : i < 7 := hi
        have hcs : i = 0 ∨ i = 1 ∨ i = 2 ∨ i = 3 ∨ i = 4 ∨ i = 5 ∨ i = 6 := by omega
        clear hi hi7
        rcases hcs with rfl | rfl | rfl | rfl | rfl | rfl | rfl
        · revert hK
          obtain rfl := Option.some.inj ho
          clear hdep ho
          have hl6 : ℓ 6 = false := by
            cases h7 : ℓ 6
            · rfl
            · have := (hr.cs h7).1; rw [this] at hL; cases hL
          have hgb := hr.gb hl6
          intro hK
          rw [if_pos (by rfl)]
          try simp only [Act.put, List.setIfInBounds_toArray, List.set_cons_zero, List.set_cons_succ]
          go_simp
          exact hK.out _ _ (fun j => if j = 0 then true else ℓ j) ⟨(.slice (some ⟨Rh, oh + off, none⟩) L (Ch - off)), x74, x75, x76, x77, x78, x79, (by simp only [Act.put, List.setIfInBounds_toArray, List.set_cons_zero, List.set_cons_succ]), ⟨(fun g => by have g2 : ℓ 6 = true := g; rw [hl6] at g2; cases g2), (fun g => ⟨rfl, (hr.d3 g).2⟩), hr.d2, hr.d5, (fun _ => hgb), (fun _ => rfl), hr.f1, hr.f2, hr.f3, hr.f4, hr.f5, (fun g => by have g2 : ℓ 6 = true := g; rw [hl6] at g2; cases g2)⟩⟩ (if_pos rfl) (fun j hj => if_neg hj)
        · revert hK
          obtain rfl := Option.some.inj ho
          clear hdep ho
          have hl6 : ℓ 6 = false := by
            cases h7 : ℓ 6
            · rfl
            · have := (hr.cs h7).2.1; rw [this] at hL; cases hL
          have hgb := hr.gb hl6
          intro hK
          rw [if_pos (by rfl)]
          try simp only [Act.put, List.setIfInBounds_toArray, List.set_cons_zero, List.set_cons_succ]
          go_simp
          exact hK.out _ _ (fun j => if j = 1 then true else ℓ j) ⟨x73, (.int .i64 (k : Int)), x75, x76, x77, x78, x79, (by simp only [Act.put, List.setIfInBounds_toArray, List.set_cons_zero, List.set_cons_succ]), ⟨(fun g => by have g2 : ℓ 6 = true := g; rw [hl6] at g2; cases g2), hr.d3, (fun _ => rfl), hr.d5, (fun _ => hgb), hr.f0, (fun _ => rfl), hr.f2, hr.f3, hr.f4, hr.f5, (fun g => by have g2 : ℓ 6 = true := g; rw [hl6] at g2; cases g2)⟩⟩ (if_pos rfl) (fun j hj => if_neg hj)
        · revert hK
          obtain rfl := Option.some.inj ho
          have g1 : ℓ 1 = true := hdep { on := 1, ground := Ground.data } (by simp) rfl
          clear hdep ho
          have hl6 : ℓ 6 = false := by
            cases h7 : ℓ 6
            · rfl
            · have := (hr.cs h7).2.2.1; rw [this] at hL; cases hL
          have hgb := hr.gb hl6
          obtain rfl := hr.f1 g1
          intro hK
          rw [if_pos (by rfl)]
          try simp only [Act.put, List.setIfInBounds_toArray, List.set_cons_zero, List.set_cons_succ]
          have hw4k := HW4.out
          go_simp
          exact hK.out _ _ (fun j => if j = 2 then true else ℓ j) ⟨x73, (.int .i64 (k : Int)), (.int .i64 (k4 : Int)), x76, x77, x78, x79, (by simp only [Act.put, List.setIfInBounds_toArray, List.set_cons_zero, List.set_cons_succ]), ⟨(fun g => by have g2 : ℓ 6 = true := g; rw [hl6] at g2; cases g2), (fun g => ⟨(hr.d3 g).1, rfl⟩), (fun _ => g1), hr.d5, (fun _ => hgb), hr.f0, hr.f1, (fun _ => rfl), hr.f3, hr.f4, hr.f5, (fun g => by have g2 : ℓ 6 = true := g; rw [hl6] at g2; cases g2)⟩⟩ (if_pos rfl) (fun j hj => if_neg hj)
        · revert hK
          obtain rfl := Option.some.inj ho
          have g0 : ℓ 0 = true := hdep { on := 0, ground := Ground.data } (by simp) rfl
          have g2 : ℓ 2 = true := hdep { on := 2, ground := Ground.data } (by simp) rfl
          clear hdep ho
          have hl6 : ℓ 6 = false := by
            cases h7 : ℓ 6
            · rfl
            · have := (hr.cs h7).2.2.2.1; rw [this] at hL; cases hL
          have hgb := hr.gb hl6
          obtain rfl := hr.f0 g0
          obtain rfl := hr.f2 g2
          intro hK
          rw [if_pos (by rfl)]
          try simp only [Act.put, List.setIfInBounds_toArray, List.set_cons_zero, List.set_cons_succ]
          have hsl9 := HSL.out w'
          go_simp
          exact hK.out _ _ (fun j => if j = 3 then true else ℓ j) ⟨(.slice (some ⟨Rh, oh + off, none⟩) L (Ch - off)), x74, (.int .i64 (k4 : Int)), (.slice (some ⟨Rh, oh + off + k4, none⟩) (L - k4) (Ch - off - k4)), x77, x78, x79, (by simp only [Act.put, List.setIfInBounds_toArray, List.set_cons_zero, List.set_cons_succ]), ⟨(fun g => by have g2 : ℓ 6 = true := g; rw [hl6] at g2; cases g2), (fun _ => ⟨g0, g2⟩), hr.d2, hr.d5, (fun _ => hgb), hr.f0, hr.f1, hr.f2, (fun _ => rfl), hr.f4, hr.f5, (fun g => by have g2 : ℓ 6 = true := g; rw [hl6] at g2; cases g2)⟩⟩ (if_pos rfl) (fun j hj => if_neg hj)
        · revert hK
          obtain rfl := Option.some.inj ho
          clear hdep ho
          have hl6 : ℓ 6 = false := by
            cases h7 : ℓ 6
            · rfl
            · have := (hr.cs h7).2.2.2.2.1; rw [this] at hL; cases hL
          have hgb := hr.gb hl6
          intro hK
          rw [if_pos (by rfl)]
          try simp only [Act.put, List.setIfInBounds_toArray, List.set_cons_zero, List.set_cons_succ]
          go_simp
          exact hK.out _ _ (fun j => if j = 4 then true else ℓ j) ⟨x73, x74, x75, x76, (.int .u32 zq), x78, x79, (by simp only [Act.put, List.setIfInBounds_toArray, List.set_cons_zero, List.set_cons_succ]), ⟨(fun g => by have g2 : ℓ 6 = true := g; rw [hl6] at g2; cases g2), hr.d3, hr.d2, (fun _ => rfl), (fun _ => hgb), hr.f0, hr.f1, hr.f2, hr.f3, (fun _ => rfl), hr.f5, (fun g => by have g2 : ℓ 6 = true := g; rw [hl6] at g2; cases g2)⟩⟩ (if_pos rfl) (fun j hj => if_neg hj)
        · revert hK
          obtain rfl := Option.some.inj ho
          have g4 : ℓ 4 = true := hdep { on := 4, ground := Ground.data } (by simp) rfl
          clear hdep ho
          have hl6 : ℓ 6 = false := by
            cases h7 : ℓ 6
            · rfl
            · have := (hr.cs h7).2.2.2.2.2; rw [this] at hL; cases hL
          have hgb := hr.gb hl6
          obtain rfl := hr.f4 g4
          intro hK
          rw [if_pos (by rfl)]
          try simp only [Act.put, List.setIfInBounds_toArray, List.set_cons_zero, List.set_cons_succ]
          go_simp
          go_at_call 40
          refine Calls.mono (impl_bytes zq _ HZR.out.1 HZR.out.2) ?_
          rintro e w9 ⟨rfl, hb9, hs9, ho9⟩
          exact hK.out _ _ (fun j => if j = 5 then true else ℓ j) ⟨x73, x74, x75, x76, (.int .u32 zq), (.slice (some ⟨w'.heap.size, 0, none⟩) 4 4), x79, (by simp only [Act.put, List.setIfInBounds_toArray, List.set_cons_zero, List.set_cons_succ]), ⟨(fun g => by have g2 : ℓ 6 = true := g; rw [hl6] at g2; cases g2), hr.d3, hr.d2, (fun _ => g4), (fun _ => hgb.trans (hb9.mono hgb.size)), hr.f0, hr.f1, hr.f2, hr.f3, hr.f4, (fun _ => ⟨w'.heap.size, rfl, hgb.size, fun _ => ho9⟩), (fun g => by have g2 : ℓ 6 = true := g; rw [hl6] at g2; cases g2)⟩⟩ (if_pos rfl) (fun j hj => if_neg hj)
        · replace ho : some ({ dst := some 79, op := .call { callee := .builtin .copy, args := #[.tmp 76, .tmp 78], argTypes := #[82, 82] }, type := 3, pos := "l22_report.go:154", after := #[{ on := 3, ground := .data }, { on := 5, ground := .data }, { on := 5, ground := .chain }], guard := none } : Oper) = some o := ho
          revert hK
          obtain rfl := Option.some.inj ho
          have g3 : ℓ 3 = true := hdep { on := 3, ground := Ground.data } (by simp) rfl
          have g5 : ℓ 5 = true := hdep { on := 5, ground := Ground.data } (by simp) rfl
          clear hdep ho
          have hgb := hr.gb hL
          obtain rfl := hr.f3 g3
          obtain ⟨N9, rfl, hN9, how⟩ := hr.f5 g5
          have how := how hL
          intro hK
          have ron := HRON.out.below hgb
          obtain ⟨oh9, e9, _, _, _, hrc, hrf⟩ := ron (by rw [Ld.rowL_len, HSZ.out]; have := HOH.out.2.2.2.2.1; omega)
          cases e9
          have hlen9 : (Ld.rowL xs home off k zs home).length = sz := by rw [Ld.rowL_len, HSZ.out]
          have hrun := copy_bytes w' Rh (oh + off + k4) (L - k4) (Ch - off - k4) N9 zq (by have := HKL.out; have := HK4.out; omega) how
            (fun j hj => ⟨_, by
              have := hrc (off + k4 + j) (by rw [hlen9]; have := HKL.out; have := HLS.out; have := HK4.out; omega)
              rw [show oh + off + k4 + j = oh + (off + k4 + j) by omega]
              exact this⟩) hrf
          try simp only [Act.put, List.setIfInBounds_toArray, List.set_cons_zero, List.set_cons_succ]
          rw [if_pos (by exact wanted_of rfl)]
          refine step_copy_wp (.tmp 76) (.tmp 78) 82 82 rfl (.slice (some ⟨Rh, oh + off + k4, none⟩) (L - k4) (Ch - off - k4)) (.slice (some ⟨N9, 0, none⟩) 4 4) (.int .i64 4) (w'.setCells Rh (oh + off + k4) ((Wd.bytes zq).map (Value.int .u8))) (by rfl) (by rfl) (by exact hrun) ?_
          try simp only [Act.put, List.setIfInBounds_toArray, List.set_cons_zero, List.set_cons_succ]
          exact hK.out _ _ (fun j => if j = 6 then true else ℓ j) ⟨x73, x74, x75, (.slice (some ⟨Rh, oh + off + k4, none⟩) (L - k4) (Ch - off - k4)), x77, (.slice (some ⟨N9, 0, none⟩) 4 4), (.int .i64 4), (by simp only [Act.put, List.setIfInBounds_toArray, List.set_cons_zero, List.set_cons_succ]), ⟨(fun _ => ⟨(hr.d3 g3).1, hr.d2 (hr.d3 g3).2, (hr.d3 g3).2, g3, hr.d5 g5, g5⟩), hr.d3, hr.d2, hr.d5, (fun g => by cases g), hr.f0, hr.f1, hr.f2, hr.f3, hr.f4, (fun g => ⟨N9, rfl, hN9, (fun g => by cases g)⟩), (fun _ => ⟨rfl, w', hgb, rfl⟩)⟩⟩ (if_pos rfl) (fun j hj => if_neg hj)
      · rintro a' w' ℓ ℓ' hℓ hI
        rw [← show ℓ = ℓ' from funext hℓ]
        exact hI
    · obtain rfl : k = n := by omega
      have HZ : Hid (Below w.heap.size w wr ∧ BRows wr w.heap.size wr.heap.size (some ⟨Bb, ob, none⟩) yn (Ld.rowL xs home off k zs)) := ⟨HU.out.1.2, BRows.wide ⟨Bb, ob, A, C, R, fun _ => ⟨rfl, HBB5.out.2.1, HBB5.out.2.2.1, Nat.lt_of_lt_of_le HBB5.out.2.2.2 HU.out.1.1⟩, HU.out.2⟩ HM0.out (Nat.le_trans HOH5.out.2 HU.out.1.1)⟩
      go_wp2
      go_ret2
      exact ⟨_, _, rfl, HZ.out.1, HZ.out.2⟩
end Go.Proofs.YtdmlgnmklnaehaaGreatDoor
