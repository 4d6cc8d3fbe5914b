
/-
  What the specification's LoadImage returns. Conditions: tables and words lie in memory.
-/
import Derived.Test.YtdmlgnmklnaehaaGreatDoorBas
import Derived.Test.YtdmlgnmklnaehaaGreatDoorLds
namespace Go.Proofs.YtdmlgnmklnaehaaGreatDoor
open Go.ChangeShapes Go.WideShapes Go.ChangeAt Go.RowKit Go.Deep Go.Joins
set_option linter.unusedVariables false

set_option maxRecDepth 40000 in
set_option maxHeartbeats 16000000 in
theorem spec_ld_g (t : Tb) (a : Ad) (X : Nat) (wa : Option Addr) (wc n : Nat) (zs : List Int) (w : World) (hm : TM 0 w t a) (hw : TW t a) (hs : TS a) (hg : Seg .u32 w wa zs) (hl : zs.length = n) (hn : n ≤ 1048576) (hq : Sd t) (hx : X < a.pn) (h256 : n ≤ 256) (xs : List Wn) (en : Int) (yn : Nat) (hxs : (t.ps.getD X pt0).ws = xs) (hent : (t.ps.getD X pt0).en = en) (hyn0 : (a.Y X).wn = yn) (home off : Nat) (HHM : Hid (home < xs.length)) (HAT : Hid (AtP xs xs.length en (home : Int))) (HOF : Hid (en = (xs.getD home wn0).1 + (off : Int) ∧ (off : Int) < (xs.getD home wn0).2.1)) (HSZ : Hid (∀ i, i < xs.length → True)) (HZW : Hid (∀ z ∈ zs, 0 ≤ z ∧ z ≤ 4294967295)) (HFI : Hid (en + 4 * (n : Int) ≤ (xs.getD home wn0).1 + (xs.getD home wn0).2.1)) :
    Calls Tryz.prog 6 #[tbV t a, .int .i64 (X : Int), .slice wa n wc] w (LdAns w yn (Ld.rowL xs home off n zs) true) := by
  have HQ1 : true = true ↔ Sd t := ⟨fun _ => hq, fun _ => rfl⟩
  have h256' : decide ((256 : Int) < (n : Int)) = false := decide_eq_false (by omega)
  have hXl : X < t.ps.length := by rw [hw.pl]; exact hx
  have HWK : Hid (WsOk xs) := by
    show WsOk xs
    rw [← hxs]
    exact sd_wsok hq hXl
  have HGD : Hid (Good 0 w (a.Y X) (t.ps.getD X pt0)) := hm.p.2 X hx
  obtain ⟨b1, o1, hpa, hbl1, p1⟩ := hm.p.1.seg.at X hx
  have HPC : Hid (∀ Y, Below w.heap.size w Y → CellsAt Y b1 (o1 + X * 5) (rwL (a.Y X))) := fun Y hY => p1.of (fun j => hY.cell (p := ⟨b1, j, none⟩) hbl1)
  have HPA : Hid (a.pa = some ⟨b1, o1, none⟩) := hpa
  have HZS : Hid (∀ Y, Below w.heap.size w Y → Seg .u32 Y wa zs) := fun Y hY => hg.below hY
  have HAS : Hid (∀ Y, Below w.heap.size w Y → ASeg Y (a.Y X).wa xs) := fun Y hY => by
    have := (HGD.out.aseg).below hY
    rw [hxs] at this
    exact this
  have HWN : Hid (xs.length = yn) := by
    show _ = _
    rw [← hxs, ← hyn0]
    exact HGD.out.ln
  have HEN : Hid ((a.Y X).en = en) := by
    show _ = _
    rw [← hent]
    exact HGD.out.en
  have HYN : Hid ((a.Y X).wn = yn) := hyn0
  have HLN : Hid (zs.length = n) := hl
  have hx' : (X : Int) < (a.pn : Int) := by omega
  have HIN : Hid (inr (X : Int) 0 ((a.pn : Int) - 1) = true) := by
    show inr (X : Int) 0 ((a.pn : Int) - 1) = true
    unfold inr
    rw [Bool.and_eq_true, decide_eq_true_eq, decide_eq_true_eq]
    omega
  have HB0 : Hid (Below w.heap.size w ((w.alloc (.cells (tbA t a) 43)).alloc (.cells #[] 82))) := ((Below.refl _ _).alloc (Nat.le_refl _) _).alloc (by simp) _
  have HX0 : Hid (TBx ((w.alloc (.cells (tbA t a) 43)).alloc (.cells #[] 82)) w.heap.size t a) := (TBx.new w t a _ rfl).below ((Below.refl _ _).alloc (Nat.le_refl _) _)
  have HO0 : Hid (((w.alloc (.cells (tbA t a) 43)).alloc (.cells #[] 82)).ownsRow (w.heap.size + 1) 82 1 (.slice (some ⟨w.heap.size + 1, 0, none⟩) 0 0) 0 []) := own_empty (w.alloc (.cells (tbA t a) 43)) _ _ (by simp)
  have HZ0 : Hid (w.heap.size + 1 < ((w.alloc (.cells (tbA t a) 43)).alloc (.cells #[] 82)).heap.size) := by show _ < _; simp
  have HSP : Hid (Calls Tryz.prog 26 #[tbV t a] ((w.alloc (.cells (tbA t a) 43)).alloc (.cells #[] 82)) fun e w' => e = .returned (.bool true) ∧ Below ((w.alloc (.cells (tbA t a) 43)).alloc (.cells #[] 82)).heap.size ((w.alloc (.cells (tbA t a) 43)).alloc (.cells #[] 82)) w') := spec_sound t a true _ (hm.below HB0.out) hw hs HQ1
  have hpn : a.pn ≤ 1048576 := hs.p
  clear HQ1 hq hm hw hs hg hl hpa hbl1 p1 hXl hxs hent hyn0 HGD
  go_enter Tryz.func6, Tryz.ntmps6
  go_wp2_with (first | (refine wpList_load_row rfl 43 (.tmp 3) rfl w.heap.size rfl 43 (tbA t a) (0, 0) _ HX0.out Tryz.underlying43 rfl (by kernel_rfl) ?_) | fail)
  refine Calls.mono HSP.out ?_
  rintro e w1 ⟨rfl, hb1⟩
  have HB1 : Hid (Below w.heap.size w w1) := HB0.out.trans (hb1.mono HB0.out.size)
  have HX1 : Hid (TBx w1 w.heap.size t a) := HX0.out.below hb1
  have HO1 : Hid (w1.ownsRow (w.heap.size + 1) 82 1 (.slice (some ⟨w.heap.size + 1, 0, none⟩) 0 0) 0 []) := ownsRow_below HO0.out hb1
  have HZ1 : Hid (w.heap.size + 1 < w1.heap.size) := Nat.lt_of_lt_of_le HZ0.out hb1.size
  clear hb1 HB0 HX0 HO0 HZ0 HSP
  have k15 : w1.cell? ⟨w.heap.size, 15, none⟩ = some (.slice (some ⟨b1, o1, none⟩) a.pn a.pc) := by rw [← HPA.out]; exact HX1.out.cell 15 rfl
  have c1 : w1.cell? ⟨b1, o1 + X * 5 + 1, none⟩ = some (.int .i64 (a.Y X).en) := (rw_cells (HPC.out _ HB1.out)).2.1
  have c4 : w1.cell? ⟨b1, o1 + X * 5 + 4, none⟩ = some (.slice (a.Y X).wa (a.Y X).wn (a.Y X).wc) := (rw_cells (HPC.out _ HB1.out)).2.2.2.2
  have hw9 : IntKind.i64.wrap ((a.pn : Int) - 1) = (a.pn : Int) - 1 := by rw [IntKind.wrap_i64]; omega
  rw [HYN.out] at c4
  rw [HEN.out] at c1
  generalize (a.Y X).wa = ya at c4 HAS
  generalize (a.Y X).wc = yc at c4
  clear HEN HPC HYN
  have hyn : yn ≤ 4 := by rw [← HWN.out]; exact HWK.out.1
  have HHL : Hid (home < yn) := by show _ < _; rw [← HWN.out]; exact HHM.out
  go_wp2_with fail
  refine Calls.mono (in_any (X : Int) 0 ((a.pn : Int) - 1) _) ?_
  rintro e w2 ⟨rfl, rfl⟩
  rw [HIN.out]
  go_wp2_with fail
  refine Calls.mono (spec_l07at ya yc yn xs en (home : Int) _ (HAS.out _ HB1.out) HWN.out HWK.out (by rw [← HWN.out]; exact HAT.out)) ?_
  rintro e w3 ⟨rfl, hb3⟩
  have HB3 : Hid (Below w.heap.size w w3) := HB1.out.trans (hb3.mono HB1.out.size)
  have HO3 : Hid (w3.ownsRow (w.heap.size + 1) 82 1 (.slice (some ⟨w.heap.size + 1, 0, none⟩) 0 0) 0 []) := ownsRow_below HO1.out hb3
  have HZ3 : Hid (w.heap.size + 1 < w3.heap.size) := Nat.lt_of_lt_of_le HZ1.out hb3.size
  clear hb3 HB1 HX1 HO1 HZ1 k15 c1 c4 hw9
  obtain ⟨b2, o2, rfl, hbl2, q0, q1, q2⟩ := ASeg.at (HAS.out _ HB3.out) home (by rw [HWN.out]; exact HHL.out)
  obtain ⟨g1, g2, g3, g4, g5, _⟩ := WsOk.at HWK.out (k := home) (by rw [HWN.out]; exact HHL.out)
  generalize hY : xs.getD home wn0 = y at q0 q1 q2 g1 g2 g3 g4 g5 HOF HFI
  have HYY : Hid (xs.getD home wn0 = y) := hY
  obtain ⟨y1, y2, y3⟩ := y
  simp only at q0 q1 q2 g1 g2 g3 g4 g5 HOF HFI
  have hof := HOF.out
  have hfi := HFI.out
  have v1 : IntKind.i64.wrap (4 * (n : Int)) = 4 * (n : Int) := by rw [IntKind.wrap_i64]; omega
  have v2 : IntKind.i64.wrap (en + 4 * (n : Int)) = en + 4 * (n : Int) := by rw [IntKind.wrap_i64]; omega
  have v3 : IntKind.i64.wrap (y1 + y2) = y1 + y2 := by rw [IntKind.wrap_i64]; omega
  have hhl' : (home : Int) < (yn : Int) := by have := HHL.out; omega
  have hfd : decide (y1 + y2 < en + 4 * (n : Int)) = false := decide_eq_false (by omega)
  clear hof hfi hY
  go_wp2
  replace q0 := fun X => gr_cell q0 X
  replace q1 := fun X => gr_cell q1 X
  have hgr := gr_some w3
  refine region_alike (by kernel_rfl) (by kernel_rfl) ?_
  repeat (go_big_quiet_step (fail))
  refine wpQuiet_nil ?_
  intro _ hw'
  obtain ⟨X4, rfl⟩ := hw'
  have hb4 := X4.h
  clear hgr q0 q1 q2 v1 v2 v3 hfd
  generalize X4.w = w4 at hb4 ⊢
  have HB4 : Hid (Below w.heap.size w w4) := HB3.out.trans (hb4.mono HB3.out.size)
  have HO4 : Hid (w4.ownsRow (w.heap.size + 1) 82 1 (.slice (some ⟨w.heap.size + 1, 0, none⟩) 0 0) 0 []) := ownsRow_below HO3.out hb4
  have HZ4 : Hid (w.heap.size + 1 < w4.heap.size) := Nat.lt_of_lt_of_le HZ3.out hb4.size
  clear hb4 HB3 HO3 HZ3
  have HLS0 : Hid (LS w w4 (w.heap.size + 1) 0 (Ld.rowL xs home off n zs) (.slice (some ⟨w.heap.size + 1, 0, none⟩) 0 0) (w.heap.size + 1 + 1) (fun _ => none) (fun _ => 0) (fun _ => 0)) := LS.start w w4 _ _ HB4.out HO4.out HZ4.out (by omega)
  obtain ⟨iR, hI⟩ := infoR'
  have HI : Hid _ := hI
  obtain ⟨iB, hL⟩ := infoB'
  have HLb : Hid _ := hL
  obtain ⟨T, HT⟩ : ∃ T, Hid (w.heap.size + 1 = T) := ⟨_, rfl⟩
  rw [HT.out] at HLS0 ⊢
  have HENT : Hid (en = y1 + (off : Int) ∧ 0 ≤ y1 ∧ y1 + y2 ≤ 2048 ∧ en + 4 * (n : Int) ≤ y1 + y2) := ⟨HOF.out.1, g1, g5, HFI.out⟩
  have v4 : IntKind.i64.wrap (4 * (n : Int)) = 4 * (n : Int) := by rw [IntKind.wrap_i64]; omega
  clear hI hL HB4 HO4 HZ4 g1 g2 g3 g4 g5 hbl2 HOF HFI
  go_wp2
  go_loopw [8, 12] (fun v i wq => ∃ k : Nat, k ≤ yn ∧ i = .int .i64 k ∧ Hid (∃ m A C R, LS w wq T k (Ld.rowL xs home off n zs) v m A C R)) (fun _ i _ => yn - (intOf i).toNat)
  case atStart => exact ⟨0, by omega, rfl, _, _, _, _, HLS0.out⟩
  case round =>
    obtain ⟨k, hk, rfl, HU⟩ := hrel
    rename World => wq
    obtain ⟨m, A, C, R, hnl⟩ := HU.out
    obtain ⟨av, cv, rfl⟩ := hnl.rows.form
    clear HLS0 HU
    by_cases hkn : k < yn
    · have hkn' : (k : Int) < (yn : Int) := by omega
      obtain ⟨b3, o3, e3, hbl3, p0, p1, p2⟩ := ASeg.at (HAS.out _ (Below.refl _ w)) k (by rw [HWN.out]; exact hkn)
      obtain ⟨rfl, rfl⟩ : b2 = b3 ∧ o2 = o3 := by cases e3; exact ⟨rfl, rfl⟩
      obtain ⟨g1, g2, g3, g4, g5, _⟩ := WsOk.at HWK.out (k := k) (by rw [HWN.out]; exact hkn)
      have hSK : Ld.sz xs k = (xs.getD k wn0).2.1.toNat := rfl
      have HHH : Hid (k = home → (xs.getD k wn0).1 = y1 ∧ (xs.getD k wn0).2.1 = y2) := fun e => by rw [e, HYY.out]; exact ⟨rfl, rfl⟩
      generalize xs.getD k wn0 = u at p0 p1 p2 g1 g2 g3 g4 g5 hSK HHH
      obtain ⟨u1, u2, u3⟩ := u
      simp only at p0 p1 p2 g1 g2 g3 g4 g5 hSK HHH
      obtain ⟨sz, rfl⟩ := Int.eq_ofNat_of_zero_le (show 0 ≤ u2 by omega)
      rw [Int.toNat_natCast] at hSK
      have HSK : Hid (Ld.sz xs k = sz) := hSK
      have hsz : sz ≤ 2048 := by omega
      have hu1 : 0 ≤ u1 := g1
      have hu2 : u1 + (sz : Int) ≤ 2048 := g5
      have HP0 : Hid (∀ X, Below w.heap.size w X → X.cell? ⟨b2, o2 + k * 3, none⟩ = some (.int .i64 u1)) := fun X hX => (hX.cell (p := ⟨b2, o2 + k * 3, none⟩) hbl3).trans p0
      have HP1 : Hid (∀ X, Below w.heap.size w X → X.cell? ⟨b2, o2 + k * 3 + 1, none⟩ = some (.int .i64 (sz : Int))) := fun X hX => (hX.cell (p := ⟨b2, o2 + k * 3 + 1, none⟩) hbl3).trans p1
      have HNS : Hid (LS w wq T k (Ld.rowL xs home off n zs) (.slice av k cv) m A C R) := hnl
      have HI0 : Hid (Below wq.heap.size wq (wq.alloc (.cells #[] 5)) ∧ (wq.alloc (.cells #[] 5)).ownsRow wq.heap.size 5 1 (.slice (some ⟨wq.heap.size, 0, none⟩) 0 0) 0 (((Ld.rowL xs home off n zs k).take 0).map (Value.int .u8))) := ⟨(Below.refl _ _).alloc (Nat.le_refl _) _, own_empty wq 5 wq.heap.size rfl⟩
      clear hnl hSK hbl3 p0 p1 p2 g1 g2 g3 g4 g5 e3
      go_wp2
      go_loopw [13, 14] (fun l i wj => ∃ (j g8 c8 : Nat), j ≤ sz ∧ i = .int .i64 j ∧ l = .slice (some ⟨g8, 0, none⟩) j c8 ∧ Hid (Below wq.heap.size wq wj ∧ wj.ownsRow wq.heap.size 5 1 (.slice (some ⟨g8, 0, none⟩) j c8) j (((Ld.rowL xs home off n zs k).take j).map (Value.int .u8)))) (fun _ i _ => sz - (intOf i).toNat)
      case atStart => exact ⟨0, _, _, by omega, rfl, rfl, HI0.out⟩
      case round =>
        obtain ⟨j, g8, c8, hj, rfl, rfl, HJ8⟩ := hrel
        rename World => wj
        clear HI0
        have hbj := HJ8.out.1
        have HBX : Hid (Below w.heap.size w wj) := HNS.out.bel.trans (hbj.mono HNS.out.bel.size)
        have q0 := HP0.out _ HBX.out
        have q1 := HP1.out _ HBX.out
        by_cases hjs : j < sz
        · have hjs' : (j : Int) < (sz : Int) := by omega
          have hwA : IntKind.i64.wrap (u1 + (j : Int)) = u1 + (j : Int) := by rw [IntKind.wrap_i64]; omega
          have hen := HENT.out
          by_cases hkh : k = home
          · have HKH : Hid (k = home) := hkh
            have hih : ((k : Int) == (home : Int)) = true := by simp [hkh]
            obtain ⟨h71, h72⟩ := HHH.out hkh
            subst h71
            clear hkh
            by_cases hof : off ≤ j
            · by_cases hup : j < off + 4 * n
              · obtain ⟨d, hd⟩ : ∃ d : Nat, j = off + d := ⟨j - off, by omega⟩
                have HD : Hid (j = off + d) := hd
                have hdn : d < 4 * n := by omega
                have hwB : IntKind.i64.wrap (u1 + (j : Int) - en) = (d : Int) := by rw [IntKind.wrap_i64]; omega
                obtain ⟨q, hq⟩ : ∃ q, d / 4 = q := ⟨_, rfl⟩
                obtain ⟨r, hr⟩ : ∃ r, d % 4 = r := ⟨_, rfl⟩
                have hge : decide (0 ≤ (d : Int)) = true := decide_eq_true (by omega)
                have hls : decide ((d : Int) < 4 * (n : Int)) = true := decide_eq_true (by omega)
                have hdv : IntKind.i64.wrap (Int.tdiv (d : Int) 4) = (q : Int) := by rw [Int.tdiv_eq_ediv_of_nonneg (by omega), IntKind.wrap_i64]; omega
                have hdv2 : IntKind.i64.wrap ((d : Int) / 4) = (q : Int) := by rw [IntKind.wrap_i64]; omega
                have hdv3 : (d : Int) / 4 = (q : Int) := by omega
                have hdv4 : IntKind.i64.wrap (q : Int) = (q : Int) := by rw [IntKind.wrap_i64]; omega
                have hmd : Int.tmod (d : Int) 4 = (r : Int) := by rw [Int.tmod_eq_emod_of_nonneg (by omega)]; omega
                have hmd2 : (d : Int) % 4 = (r : Int) := by omega
                have hmd3 : IntKind.i64.wrap (r : Int) = (r : Int) := by rw [IntKind.wrap_i64]; omega
                have HQR : Hid (d / 4 = q ∧ d % 4 = r) := ⟨hq, hr⟩
                have hd4 : q < n := by omega
                have hd4' : (q : Int) < (n : Int) := by omega
                have hr4 : r < 4 := by omega
                have hr4' : (r : Int) < 4 := by omega
                clear hq hr
                obtain ⟨b7, o7, rfl, hbl7, z7⟩ := (HZS.out _ HBX.out).at q (by rw [HLN.out]; exact hd4)
                have HZR : Hid (0 ≤ zs.getD q 0 ∧ zs.getD q 0 ≤ 4294967295) := HZW.out _ (getD_mem zs q (by rw [HLN.out]; exact hd4))
                have HBYT : Hid (Ld.byteL home off n zs k j = (Wd.bytes (zs.getD q 0)).getD r 0) := by
                  unfold Hid Ld.byteL Ld.bt
                  rw [if_pos ⟨HKH.out, by omega, by omega⟩, show j - off = d by omega, HQR.out.1, HQR.out.2]
                have HTS : Hid ((Ld.rowL xs home off n zs k).take (j + 1) = (Ld.rowL xs home off n zs k).take j ++ [(Wd.bytes (zs.getD q 0)).getD r 0]) := by
                  have := Ld.rowL_snoc xs home off n zs k j (by rw [HSK.out]; exact hjs)
                  rw [HBYT.out] at this
                  exact this
                have HBW : Hid (∀ Y : World, Own .u8 Y wj.heap.size (Wd.bytes (zs.getD q 0)) → Y.cell? ⟨wj.heap.size, r, none⟩ = some (.int .u8 ((Wd.bytes (zs.getD q 0)).getD r 0))) := fun Y hY => hY.cell r (by show r < 4; omega)
                generalize (Wd.bytes (zs.getD q 0)).getD r 0 = bb at HTS HBW HBYT
                generalize zs.getD q 0 = zq at z7 HZR HBW
                clear hd hbl7 HBYT hen h72
                go_wp2_with fail
                refine Calls.mono (spec_bytes _ _ HZR.out.1 HZR.out.2) ?_
                rintro e w8 ⟨rfl, hb8, hs8, ho8⟩
                have e8 := HBW.out _ ho8
                have hal : Below w8.heap.size w8 (w8.alloc (.cells #[.int .u8 bb] 5)) := (Below.refl _ _).alloc (Nat.le_refl _) _
                have HB8 : Hid (Below wq.heap.size wq w8) := hbj.trans (hb8.mono hbj.size)
                have HO8 : Hid _ := ownsRow_below (ownsRow_below HJ8.out.2 hb8) hal
                have HBJ : Hid (Below wq.heap.size wq (w8.alloc (.cells #[.int .u8 bb] 5))) := HB8.out.trans (hal.mono HB8.out.size)
                clear hbj hal hb8 hs8 ho8 HB8 z7
                go_wp2_with (at_builtin; (refine wpList_append_lies _ rfl (.tmp 107) (.tmp 118) 82 rfl wq.heap.size 5 iB (.int .u8 0) 1 1 Tryz.underlying82 HLb.out.1 HLb.out.2.1 HLb.out.2.2.1 HLb.out.2.2.2 rfl (by omega) _ _ _ rfl HO8.out _ 1 1 [.int .u8 bb] rfl rfl (news_at _ _ _ _ (by simp)) (one_num _ _) (by omega) (by unfold maxLen; omega) (by omega) HBJ.out.size _ rfl ?_; intro g9 cap9 w9 hown9 hgrow9 hat9 hlt9; have HY : Hid (Below wq.heap.size wq w9 ∧ w9.ownsRow wq.heap.size 5 1 (.slice (some ⟨g9, 0, none⟩) (j + 1) cap9) (j + 1) (((Ld.rowL xs home off n zs k).take (j + 1)).map (Value.int .u8))) := ⟨HBJ.out.trans (grown_below hgrow9 (own_low HO8.out) HBJ.out.size), by rw [← take_map_snoc _ _ _ HTS.out]; exact hown9⟩; clear hown9 hgrow9 hat9 hlt9))
                go_roundw
                case rel => exact ⟨j + 1, _, _, by omega, by go_num, rfl, HY⟩
                case measure => simp [intOf]; omega
              · obtain ⟨dl, hdl⟩ : ∃ dl, u1 + (j : Int) - en = dl := ⟨_, rfl⟩
                have hwB : IntKind.i64.wrap (u1 + (j : Int) - en) = dl := by rw [IntKind.wrap_i64]; omega
                have hge0 : 0 ≤ dl := by omega
                have hls0 : ¬ dl < 4 * (n : Int) := by omega
                have hge : decide (0 ≤ dl) = true := decide_eq_true hge0
                have hls : decide (dl < 4 * (n : Int)) = false := decide_eq_false hls0
                have HBYT : Hid (Ld.byteL home off n zs k j = 0) := by unfold Hid Ld.byteL; rw [if_neg]; rintro ⟨e1, e2, e3⟩; omega
                clear hen h72 hdl
                have HTS : Hid ((Ld.rowL xs home off n zs k).take (j + 1) = (Ld.rowL xs home off n zs k).take j ++ [0]) := by
                  have := Ld.rowL_snoc xs home off n zs k j (by rw [HSK.out]; exact hjs)
                  rw [HBYT.out] at this
                  exact this
                have hal : Below wj.heap.size wj (wj.alloc (.cells #[.int .u8 0] 5)) := (Below.refl _ _).alloc (Nat.le_refl _) _
                have HO8 : Hid _ := ownsRow_below HJ8.out.2 hal
                have HBJ : Hid (Below wq.heap.size wq (wj.alloc (.cells #[.int .u8 0] 5))) := hbj.trans (hal.mono hbj.size)
                clear hbj hal
                go_wp2_with (at_builtin; (refine wpList_append_lies _ rfl (.tmp 120) (.tmp 121) 82 rfl wq.heap.size 5 iB (.int .u8 0) 1 1 Tryz.underlying82 HLb.out.1 HLb.out.2.1 HLb.out.2.2.1 HLb.out.2.2.2 rfl (by omega) _ _ _ rfl HO8.out _ 1 1 [.int .u8 0] rfl rfl (news_at _ _ _ _ (by simp)) (one_num _ _) (by omega) (by unfold maxLen; omega) (by omega) HBJ.out.size _ rfl ?_; intro g9 cap9 w9 hown9 hgrow9 hat9 hlt9; have HY : Hid (Below wq.heap.size wq w9 ∧ w9.ownsRow wq.heap.size 5 1 (.slice (some ⟨g9, 0, none⟩) (j + 1) cap9) (j + 1) (((Ld.rowL xs home off n zs k).take (j + 1)).map (Value.int .u8))) := ⟨HBJ.out.trans (grown_below hgrow9 (own_low HO8.out) HBJ.out.size), by rw [← take_map_snoc _ _ _ HTS.out]; exact hown9⟩; clear hown9 hgrow9 hat9 hlt9))
                go_roundw
                case rel => exact ⟨j + 1, _, _, by omega, by go_num, rfl, HY⟩
                case measure => simp [intOf]; omega
            · obtain ⟨dl, hdl⟩ : ∃ dl, u1 + (j : Int) - en = dl := ⟨_, rfl⟩
              have hwB : IntKind.i64.wrap (u1 + (j : Int) - en) = dl := by rw [IntKind.wrap_i64]; omega
              have hge0 : ¬ 0 ≤ dl := by omega
              have hge : decide (0 ≤ dl) = false := decide_eq_false hge0
              have HBYT : Hid (Ld.byteL home off n zs k j = 0) := by unfold Hid Ld.byteL; rw [if_neg]; rintro ⟨e1, e2, e3⟩; omega
              clear hen h72 hdl
              have HTS : Hid ((Ld.rowL xs home off n zs k).take (j + 1) = (Ld.rowL xs home off n zs k).take j ++ [0]) := by
                have := Ld.rowL_snoc xs home off n zs k j (by rw [HSK.out]; exact hjs)
                rw [HBYT.out] at this
                exact this
              have hal : Below wj.heap.size wj (wj.alloc (.cells #[.int .u8 0] 5)) := (Below.refl _ _).alloc (Nat.le_refl _) _
              have HO8 : Hid _ := ownsRow_below HJ8.out.2 hal
              have HBJ : Hid (Below wq.heap.size wq (wj.alloc (.cells #[.int .u8 0] 5))) := hbj.trans (hal.mono hbj.size)
              clear hbj hal
              go_wp2_with (at_builtin; (refine wpList_append_lies _ rfl (.tmp 120) (.tmp 121) 82 rfl wq.heap.size 5 iB (.int .u8 0) 1 1 Tryz.underlying82 HLb.out.1 HLb.out.2.1 HLb.out.2.2.1 HLb.out.2.2.2 rfl (by omega) _ _ _ rfl HO8.out _ 1 1 [.int .u8 0] rfl rfl (news_at _ _ _ _ (by simp)) (one_num _ _) (by omega) (by unfold maxLen; omega) (by omega) HBJ.out.size _ rfl ?_; intro g9 cap9 w9 hown9 hgrow9 hat9 hlt9; have HY : Hid (Below wq.heap.size wq w9 ∧ w9.ownsRow wq.heap.size 5 1 (.slice (some ⟨g9, 0, none⟩) (j + 1) cap9) (j + 1) (((Ld.rowL xs home off n zs k).take (j + 1)).map (Value.int .u8))) := ⟨HBJ.out.trans (grown_below hgrow9 (own_low HO8.out) HBJ.out.size), by rw [← take_map_snoc _ _ _ HTS.out]; exact hown9⟩; clear hown9 hgrow9 hat9 hlt9))
              go_roundw
              case rel => exact ⟨j + 1, _, _, by omega, by go_num, rfl, HY⟩
              case measure => simp [intOf]; omega
          · obtain ⟨dl, hdl⟩ : ∃ dl, u1 + (j : Int) - en = dl := ⟨_, rfl⟩
            have hwB : IntKind.i64.wrap (u1 + (j : Int) - en) = dl := by rw [IntKind.wrap_i64]; omega
            have hih : ((k : Int) == (home : Int)) = false := by rw [beq_eq_false_iff_ne]; omega
            have HBYT : Hid (Ld.byteL home off n zs k j = 0) := by unfold Hid Ld.byteL; rw [if_neg]; rintro ⟨e1, e2, e3⟩; omega
            clear hen hdl
            have HTS : Hid ((Ld.rowL xs home off n zs k).take (j + 1) = (Ld.rowL xs home off n zs k).take j ++ [0]) := by
              have := Ld.rowL_snoc xs home off n zs k j (by rw [HSK.out]; exact hjs)
              rw [HBYT.out] at this
              exact this
            have hal : Below wj.heap.size wj (wj.alloc (.cells #[.int .u8 0] 5)) := (Below.refl _ _).alloc (Nat.le_refl _) _
            have HO8 : Hid _ := ownsRow_below HJ8.out.2 hal
            have HBJ : Hid (Below wq.heap.size wq (wj.alloc (.cells #[.int .u8 0] 5))) := hbj.trans (hal.mono hbj.size)
            clear hbj hal
            go_wp2_with (at_builtin; (refine wpList_append_lies _ rfl (.tmp 120) (.tmp 121) 82 rfl wq.heap.size 5 iB (.int .u8 0) 1 1 Tryz.underlying82 HLb.out.1 HLb.out.2.1 HLb.out.2.2.1 HLb.out.2.2.2 rfl (by omega) _ _ _ rfl HO8.out _ 1 1 [.int .u8 0] rfl rfl (news_at _ _ _ _ (by simp)) (one_num _ _) (by omega) (by unfold maxLen; omega) (by omega) HBJ.out.size _ rfl ?_; intro g9 cap9 w9 hown9 hgrow9 hat9 hlt9; have HY : Hid (Below wq.heap.size wq w9 ∧ w9.ownsRow wq.heap.size 5 1 (.slice (some ⟨g9, 0, none⟩) (j + 1) cap9) (j + 1) (((Ld.rowL xs home off n zs k).take (j + 1)).map (Value.int .u8))) := ⟨HBJ.out.trans (grown_below hgrow9 (own_low HO8.out) HBJ.out.size), by rw [← take_map_snoc _ _ _ HTS.out]; exact hown9⟩; clear hown9 hgrow9 hat9 hlt9))
            go_roundw
            case rel => exact ⟨j + 1, _, _, by omega, by go_num, rfl, HY⟩
            case measure => simp [intOf]; omega
        · obtain rfl : j = sz := by omega
          have htk : (Ld.rowL xs home off n zs k).take j = Ld.rowL xs home off n zs k := List.take_of_length_le (by rw [Ld.rowL_len, HSK.out]; exact Nat.le_refl _)
          have hjl : (Ld.rowL xs home off n zs k).length = j := by rw [Ld.rowL_len, HSK.out]
          have hj8 := HJ8.out.2
          rw [htk] at hj8
          obtain ⟨g', c', e', hc', hon'⟩ := on_of_owns (k := .u8) (zs := Ld.rowL xs home off n zs k) (by rw [hjl]; exact hj8) (fun e => by cases e)
          rw [hjl] at e' hc'
          cases e'
          have hal : Below wj.heap.size wj (wj.alloc (.cells #[.slice (some ⟨g8, 0, none⟩) j c8] 82)) := (Below.refl _ _).alloc (Nat.le_refl _) _
          have hbq := hbj.trans (hal.mono hbj.size)
          have HNS2 : Hid (LS w (wj.alloc (.cells #[.slice (some ⟨g8, 0, none⟩) j c8] 82)) T k (Ld.rowL xs home off n zs) (.slice av k cv) m A C R) := HNS.out.below hbq
          have HRW : Hid (ON .u8 (wj.alloc (.cells #[.slice (some ⟨g8, 0, none⟩) j c8] 82)) wq.heap.size (wj.alloc (.cells #[.slice (some ⟨g8, 0, none⟩) j c8] 82)).heap.size (some ⟨g8, 0, none⟩) (Ld.rowL xs home off n zs k) g8) := (hon'.below hal).wide (Nat.le_refl _) hal.size
          have HOWN : Hid _ := HNS2.out.rows.own
          have HSZ2 : Hid (T ≤ (wj.alloc (.cells #[.slice (some ⟨g8, 0, none⟩) j c8] 82)).heap.size) := HNS2.out.top
          have HLN2 : Hid ((Ld.rowL xs home off n zs k).length = j ∧ m ≤ wq.heap.size ∧ T ≤ wq.heap.size) := ⟨hjl, HNS.out.rows.mle, HNS.out.top⟩
          have HCP : Hid (j ≤ c8) := hc'
          clear hal hbq hbj hon' htk hjl hj8 hc'
          go_wp2_with (at_builtin; (refine wpList_append_lies _ rfl (.tmp 123) (.tmp 125) 34 rfl T 82 iR (.slice none 0 0) 1 24 Tryz.underlying34 HI.out.1 HI.out.2.1 HI.out.2.2.1 HI.out.2.2.2 rfl (by omega) _ _ _ rfl HOWN.out _ 1 1 [.slice (some ⟨g8, 0, none⟩) j c8] rfl rfl (news_at _ _ _ _ (by simp)) (one_slice _ _ _) (by omega) (by unfold maxLen; omega) (by omega) HSZ2.out _ rfl ?_; intro g9 cap9 w9 hown9 hgrow9 hat9 hlt9; have HPU : Hid _ := LS.push HNS2.out (some ⟨g8, 0, none⟩) c8 g8 g9 cap9 (ON.wide HRW.out HLN2.out.2.2 (Nat.le_refl _)) (fun h => Nat.le_trans HLN2.out.2.1 (ON.range HRW.out h).1) (by rw [HLN2.out.1]; exact HCP.out) (by rw [HLN2.out.1]; exact hown9) hgrow9 hat9 hlt9; clear hown9 hgrow9 hat9 hlt9))
          obtain ⟨m', A', C', R', HZ⟩ := HPU.out
          go_roundw
          case rel => exact ⟨k + 1, by omega, by go_num, _, _, _, _, HZ⟩
          case measure => simp [intOf]; omega
    · obtain rfl : k = yn := by omega
      obtain ⟨a', c', e', hrows⟩ := hnl.rows.rows
      cases e'
      have HZ : Hid (BRows wq T m av k (Ld.rowL xs home off n zs) ∧ Below w.heap.size w wq ∧ m ≤ wq.heap.size ∧ w.heap.size ≤ T) := ⟨hrows, hnl.bel, hnl.rows.mle, Nat.le_of_lt hnl.lt⟩
      clear hrows hnl
      go_wp2
      go_ret2
      exact ⟨_, _, rfl, HZ.out.2.1, HZ.out.1.wide HZ.out.2.2.2 HZ.out.2.2.1⟩
end Go.Proofs.YtdmlgnmklnaehaaGreatDoor
