
/-
  The commands of a script: the law, walked. Conditions: the lists lie in memory; the program's table of extras holds what the program's text lays; the library's variable MaxLen holds a number.
-/
import Derived.Test.YtmnoghhdkdjnmaaGreatDoorBas
import Derived.Test.YtmnoghhdkdjnmaaGreatDoorLsw
import Derived.Test.YtmnoghhdkdjnmaaGreatDoorPsf
import Derived.Test.YtmnoghhdkdjnmaaGreatDoorMkt
namespace Go.Proofs.YtmnoghhdkdjnmaaGreatDoor
open Go.ChangeShapes Go.WideShapes Go.ChangeAt Go.RowKit Go.Deep Go.Joins
set_option linter.unusedVariables false

theorem sz_tab2 (t : Tb) (a : Ad) (w : World) (hm : TM 0 w t a) (hw : TW t a) :
    Calls Tryz.prog 5 #[tbV t a, .int .i64 1048576] w fun e w' => (∃ r : Int, e = .returned (.int .i64 r) ∧ (r = -1 ∨ (0 ≤ r ∧ r ≤ 1048576 ∧ TS a))) ∧ Below w.heap.size w w' := by
  have HM : Hid (TM 0 w t a) := hm
  have HW : Hid (TW t a) := hw
  clear hm hw
  have HB0 : Hid (Below w.heap.size w (w.alloc (.cells (tbA t a) 31))) := (Below.refl _ _).alloc (Nat.le_refl _) _
  have KB0 : Hid (Bk (w.alloc (.cells (tbA t a) 31)) w.heap.size (tbA t a)) := Bk.new w _ _ _ rfl
  have h8 := HW.out.db
  have h9 := HW.out.cb
  have h10 := HW.out.sb
  have HZ : Hid (∀ X, Below w.heap.size w X → Calls Tryz.prog 18 #[.slice a.pa a.pn a.pc, .int .i64 ((1048576 : Nat) : Int)] X fun e w' => (∃ r : Int, e = .returned (.int .i64 r) ∧ (r = -1 ∨ ∃ d : Nat, r = (d : Int) ∧ d ≤ 1048576 ∧ a.pn ≤ 1048576 ∧ ∀ i, i < a.pn → (a.Y i).wn ≤ 1048576 ∧ (a.Y i).nm.size ≤ 1048576)) ∧ Below X.heap.size X w') := fun X hX => sz_parts a.pa a.pc a.pn 1048576 a.Y X (HM.out.p.below hX).1.seg HW.out.pb (Nat.le_refl _) HW.out.wb
  go_enter Tryz.func5, Tryz.ntmps5
  go_wp2_with fail
  refine (HZ.out _ HB0.out).mono ?_
  rintro e1 w1 ⟨⟨r, rfl, hr⟩, hb1⟩
  have HB1 : Hid (Below w.heap.size w w1) := HB0.out.trans (hb1.mono HB0.out.size)
  have KB1 : Hid (Bk w1 w.heap.size (tbA t a)) := KB0.out.below hb1
  clear hb1 HB0 KB0 HZ
  rcases hr with rfl | ⟨D, rfl, hD, hp, hww⟩
  · go_wp2
    go_ret
    exact ⟨⟨_, rfl, .inl rfl⟩, HB1.out⟩
  have HP : Hid (a.pn ≤ 1048576 ∧ ∀ i, i < a.pn → (a.Y i).wn ≤ 1048576 ∧ (a.Y i).nm.size ≤ 1048576) := ⟨hp, hww⟩
  clear hp hww
  have hd0 : ¬ ((D : Int) < 0) := by omega
  have k16 : w1.cell? ⟨w.heap.size, 16, none⟩ = some (.slice a.da a.dn a.dc) := KB1.out.cell 16 _ rfl
  have k17 : w1.cell? ⟨w.heap.size, 17, none⟩ = some (.slice a.ca a.cn a.cc) := KB1.out.cell 17 _ rfl
  have k18 : w1.cell? ⟨w.heap.size, 18, none⟩ = some (.slice a.sa a.sn a.sc) := KB1.out.cell 18 _ rfl
  go_wp2_with fail
  refine (in_sz a.da a.dc a.dn D _ h8 hD).mono ?_
  rintro e2 w2 ⟨⟨r, rfl, hr⟩, rfl⟩
  rcases hr with rfl | ⟨hr, hd⟩
  · go_wp2
    go_ret
    exact ⟨⟨_, rfl, .inl rfl⟩, HB1.out⟩
  obtain ⟨E, hE⟩ : ∃ E : Nat, D - a.dn = E := ⟨_, rfl⟩
  rw [hE] at hr
  subst hr
  have hE2 : E ≤ 1048576 := by omega
  have he0 : ¬ ((E : Int) < 0) := by omega
  have HD : Hid (a.dn ≤ 1048576) := by show _ ≤ _; omega
  clear hE hd
  go_wp2_with fail
  refine (ch_sz a.ca a.cc a.cn E _ h9 hE2).mono ?_
  rintro e2 w2 ⟨⟨r, rfl, hr⟩, rfl⟩
  rcases hr with rfl | ⟨hr, hd⟩
  · go_wp2
    go_ret
    exact ⟨⟨_, rfl, .inl rfl⟩, HB1.out⟩
  obtain ⟨G, hG⟩ : ∃ G : Nat, E - a.cn = G := ⟨_, rfl⟩
  rw [hG] at hr
  subst hr
  have hG2 : G ≤ 1048576 := by omega
  have hg0 : ¬ ((G : Int) < 0) := by omega
  have HC : Hid (a.cn ≤ 1048576) := by show _ ≤ _; omega
  clear hG hd
  go_wp2_with fail
  refine (sl_sz a.sa a.sc a.sn G _ h10 hG2).mono ?_
  rintro e2 w2 ⟨⟨r, rfl, hr⟩, rfl⟩
  rcases hr with rfl | ⟨hr, hd⟩
  · go_wp2
    go_ret
    exact ⟨⟨_, rfl, .inl rfl⟩, HB1.out⟩
  obtain ⟨J, hJ⟩ : ∃ J : Nat, G - a.sn = J := ⟨_, rfl⟩
  rw [hJ] at hr
  subst hr
  have hj0 : ¬ ((J : Int) < 0) := by omega
  have HS : Hid (a.sn ≤ 1048576) := by show _ ≤ _; omega
  have hJ2 : J ≤ 1048576 := by omega
  clear hJ hd
  go_wp2
  go_ret
  exact ⟨⟨_, rfl, .inr ⟨by omega, by omega, HP.out.1, HD.out, HC.out, HS.out, HP.out.2⟩⟩, HB1.out⟩
set_option maxRecDepth 40000 in
set_option maxHeartbeats 4000000 in
theorem mk_tab2 (t : Tb) (a : Ad) (lo hi : Nat) (w : World) (hT : WT lo hi w a) (hs : TS a) (hhi : hi ≤ w.heap.size) :
    Calls Tryz.prog 15 #[tbV t a, .int .i64 1] w fun e w' => (∃ r : Int, e = .returned (.int .i64 r) ∧ 0 ≤ r ∧ r ≤ 7000000000000) ∧ Mk lo hi w w' := by
  have HHI : Hid (hi ≤ w.heap.size) := hhi
  have HP : Hid (WP lo hi w a.pa a.pn a.Y) := hT.p
  have HD : Hid (WR 1 lo hi w a.da a.dn) := hT.d
  have HCH : Hid (WR 4 lo hi w a.ca a.cn) := hT.c
  have HSL : Hid (WR 3 lo hi w a.sa a.sn) := hT.s
  clear hhi hT
  have h1 := hs.p
  have h2 := hs.d
  have h3 := hs.c
  have h4 := hs.s
  have HWN : Hid (∀ i, i < a.pn → (a.Y i).wn ≤ 1048576) := fun i hi => (hs.w i hi).1
  have HB0 : Hid (Below w.heap.size w (w.alloc (.cells (tbA t a) 43))) := (Below.refl _ _).alloc (Nat.le_refl _) _
  have KB0 : Hid (Bk (w.alloc (.cells (tbA t a) 43)) w.heap.size (tbA t a)) := Bk.new w _ _ _ rfl
  have HP0 : Hid (WP lo hi (w.alloc (.cells (tbA t a) 43)) a.pa a.pn a.Y) := ⟨HP.out.r.below HB0.out, fun b off e i hi => kept_cell HB0.out (HP.out.g b off e i hi), fun b off e i hi => (HP.out.v b off e i hi).below HB0.out⟩
  have k15 : (w.alloc (.cells (tbA t a) 43)).cell? ⟨w.heap.size, 15, none⟩ = some (.slice a.pa a.pn a.pc) := KB0.out.cell 15 _ rfl
  have M0 : Hid (Mk lo hi w (w.alloc (.cells (tbA t a) 43))) := (Mk.refl _ _ _).below HB0.out
  clear hs HP
  go_enter Tryz.func15, Tryz.ntmps15
  go_wp2_with fail
  refine Calls.mono (mk_parts lo hi a.pc a.pn 1 a.pa a.Y _ HP0.out h1 HWN.out (by omega) (by omega)) ?_
  rintro e w1 ⟨⟨r1, rfl, hr10, hr11⟩, hmk1⟩
  have M1 : Hid (Mk lo hi w w1) := M0.out.trans hmk1
  have hbl1 : w1.heap[w.heap.size]? = (w.alloc (.cells (tbA t a) 43)).heap[w.heap.size]? := hmk1.b.block _ KB0.out.lt (.inr HHI.out)
  have HK1 : Hid (∀ i v, (tbA t a)[i]? = some v → w1.cell? ⟨w.heap.size, i, none⟩ = some v) := fun i v hv => (World.cell?_of_block (a := ⟨w.heap.size, i, none⟩) hbl1).trans (KB0.out.cell i v hv)
  have HL1 : Hid (w.heap.size < w1.heap.size) := Nat.lt_of_lt_of_le KB0.out.lt hmk1.b.size
  have k16 : w1.cell? ⟨w.heap.size, 16, none⟩ = some (.slice a.da a.dn a.dc) := HK1.out 16 _ rfl
  clear hmk1 hbl1 HB0 KB0 HP0 k15 M0
  go_wp2_with fail
  refine Calls.mono (mk_ints lo hi a.dc a.dn r1 a.da _ (HD.out.mk M1.out) h2 hr10 (by omega)) ?_
  rintro e w2 ⟨rfl, hmk2⟩
  have M2 : Hid (Mk lo hi w w2) := M1.out.trans hmk2
  have hbl2 : w2.heap[w.heap.size]? = w1.heap[w.heap.size]? := hmk2.b.block _ HL1.out (.inr HHI.out)
  have HK2 : Hid (∀ i v, (tbA t a)[i]? = some v → w2.cell? ⟨w.heap.size, i, none⟩ = some v) := fun i v hv => (World.cell?_of_block (a := ⟨w.heap.size, i, none⟩) hbl2).trans (HK1.out i v hv)
  have HL2 : Hid (w.heap.size < w2.heap.size) := Nat.lt_of_lt_of_le HL1.out hmk2.b.size
  have k17 : w2.cell? ⟨w.heap.size, 17, none⟩ = some (.slice a.ca a.cn a.cc) := HK2.out 17 _ rfl
  clear hmk2 hbl2 HK1 HL1 k16 M1
  obtain ⟨r2, hr2⟩ : ∃ r, r1 + 1 * (a.dn : Int) = r := ⟨_, rfl⟩
  have hr20 : 0 ≤ r2 ∧ r2 ≤ 5000000000000 := by omega
  rw [hr2]
  clear hr2
  go_wp2_with fail
  refine Calls.mono (mk_chans lo hi a.cc a.cn r2 a.ca _ (HCH.out.mk M2.out) h3 hr20.1 (by omega)) ?_
  rintro e w3 ⟨rfl, hmk3⟩
  have M3 : Hid (Mk lo hi w w3) := M2.out.trans hmk3
  have hbl3 : w3.heap[w.heap.size]? = w2.heap[w.heap.size]? := hmk3.b.block _ HL2.out (.inr HHI.out)
  have k18 : w3.cell? ⟨w.heap.size, 18, none⟩ = some (.slice a.sa a.sn a.sc) := (World.cell?_of_block (a := ⟨w.heap.size, 18, none⟩) hbl3).trans (HK2.out 18 _ rfl)
  clear hmk3 hbl3 HK2 HL2 k17 M2
  obtain ⟨r3, hr3⟩ : ∃ r, r2 + 4 * (a.cn : Int) = r := ⟨_, rfl⟩
  have hr30 : 0 ≤ r3 ∧ r3 ≤ 6000000000000 := by omega
  rw [hr3]
  clear hr3
  go_wp2_with fail
  refine Calls.mono (mk_slots lo hi a.sc a.sn r3 a.sa _ (HSL.out.mk M3.out) h4 hr30.1 (by omega)) ?_
  rintro e w4 ⟨rfl, hmk4⟩
  have M4 : Hid (Mk lo hi w w4) := M3.out.trans hmk4
  clear hmk4 M3 k18
  go_wp2
  go_ret
  exact ⟨⟨_, rfl, by omega, by omega⟩, M4.out⟩
theorem copy_own (t : Tb) (a : Ad) (w : World) (hm : TM 0 w t a) (hw : TW t a) (hs : TS a) : Calls Tryz.prog 8 #[tbV t a] w fun e w' => ∃ a', e = .returned (tbV t a') ∧ Below w.heap.size w w' ∧ TM w.heap.size w' t a' ∧ Cpy w' t a a' :=
  (to_tab t a w hm hs).mono fun e w' ⟨a', he, hb, hm', e4, c4⟩ => by
    obtain ⟨h1, h2⟩ := ad_carry hm hm' hw hs e4
    exact ⟨a', he, hb, hm', ⟨hm'.wide (Nat.zero_le _), h1, h2, by rw [c4.1, e4.1]; exact Nat.le_refl _, by rw [c4.2.2.2, e4.2.2.2]; exact Nat.le_refl _, e4.1, e4.2.1, e4.2.2.1, e4.2.2.2⟩⟩
theorem tabE_pos {w : World} (h : TabE w) : 0 < w.heap.size := Nat.lt_of_le_of_lt (Nat.zero_le _) (World.block_lt_of_cell? w _ (h 0 (by omega)))
set_option maxRecDepth 40000 in
set_option maxHeartbeats 8000000 in
theorem walk_parsescript (t : Tb) (a : Ad) (tx : ByteArray) (w : World) (hm : TM 0 w t a) (hw : TW t a) (he : TabE w) (hlx : TabM w) (htz : tx.size ≤ 9223372036854775807) : Calls Tryz.prog 4 #[tbV t a, .string tx] w fun e w' => e = .returned (.bool true) ∧ Below w.heap.size w w' := by
  have HU : Hid (∀ X, Below w.heap.size w X → TM 0 X t a ∧ TabE X) := fun X hX => ⟨hm.below hX, he.below hX⟩
  have HW : Hid (TW t a) := hw
  obtain ⟨ys, cd, ln, hzs, hyl⟩ := Sr.PQ.ex t tx
  have HZS : Hid (Sr.PQ t tx ys cd ln) := hzs
  clear hzs
  have HPOS : Hid (0 < w.heap.size) := tabE_pos he
  have HTM : Hid (∀ X, Below w.heap.size w X → TabM X) := fun X hX => hlx.below hX
  have HB0 : Hid (Below w.heap.size w (w.alloc (.cells (tbA t a) 31))) := (Below.refl _ _).alloc (Nat.le_refl _) _
  have HX0 : Hid ((w.alloc (.cells (tbA t a) 31)).heap[w.heap.size]? = some (.cells (tbA t a) 31 (0, 0))) := new_row w _ _ _ rfl
  clear hm hw he hlx
  go_enter Tryz.func4, Tryz.ntmps4
  by_cases htx : tx.size ≤ 1048576
  rotate_left
  · have hgt : (1048576 : Int) < (tx.size : Int) := by omega
    go_wp2
    go_ret
    exact ⟨rfl, HB0.out⟩
  have hgt : ¬ ((1048576 : Int) < (tx.size : Int)) := by omega
  go_wp2_with (first | (refine wpList_load_row rfl 31 (.tmp 2) rfl w.heap.size rfl 31 (tbA t a) (0, 0) _ HX0.out Tryz.underlying31 rfl (by kernel_rfl) ?_) | fail)
  refine Calls.mono (sz_tab2 t a _ (HU.out _ HB0.out).1 HW.out) ?_
  rintro e w1 ⟨⟨r, rfl, hr⟩, hb1⟩
  have HB1 : Hid (Below w.heap.size w w1) := HB0.out.trans (hb1.mono HB0.out.size)
  have HX1 : Hid (w1.heap[w.heap.size]? = some (.cells (tbA t a) 31 (0, 0))) := row_below HX0.out hb1
  clear hb1 HB0 HX0
  rcases hr with rfl | ⟨h0, h1, hs⟩
  · go_wp2
    go_ret
    exact ⟨rfl, HB1.out⟩
  have HS : Hid (TS a) := hs
  clear hs
  have hr0 : ¬ (r < 0) := by omega
  go_wp2_with (first | (refine wpList_load_row rfl 31 (.tmp 2) rfl w.heap.size rfl 31 (tbA t a) (0, 0) _ HX1.out Tryz.underlying31 rfl (by kernel_rfl) ?_) | fail)
  refine Calls.mono (copy_tab t a _ (HU.out _ HB1.out).1 HW.out HS.out) ?_
  rintro e w2 ⟨a2, rfl, hb2, hc2⟩
  have HB2 : Hid (Below w.heap.size w w2) := HB1.out.trans (hb2.mono HB1.out.size)
  have HX2 : Hid (w2.heap[w.heap.size]? = some (.cells (tbA t a) 31 (0, 0))) := row_below HX1.out hb2
  have HC2 : Hid (Cpy w2 t a a2) := hc2
  clear hb2 hc2 HB1 HX1 h0 h1 hr0
  go_wp2_with fail
  refine Calls.mono (spec_pq t a2 tx ys cd ln _ HC2.out.m HC2.out.w HC2.out.s htx HZS.out) ?_
  rintro e w3 ⟨A1, c1, rfl, hb3, hA1⟩
  have HB3 : Hid (Below w.heap.size w w3) := HB2.out.trans (hb3.mono HB2.out.size)
  have HX3 : Hid (w3.heap[w.heap.size]? = some (.cells (tbA t a) 31 (0, 0))) := row_below HX2.out hb3
  have HL3 : Hid (w.heap.size ≤ w2.heap.size) := HB2.out.size
  have HA3 : Hid (OC w3 w2.heap.size w3.heap.size A1 ys.length (cmX ys)) := hA1
  clear hb3 HB2 HX2 HC2 hA1
  go_wp2_with (first | (refine wpList_load_row rfl 31 (.tmp 2) rfl w.heap.size rfl 31 (tbA t a) (0, 0) _ HX3.out Tryz.underlying31 rfl (by kernel_rfl) ?_) | fail)
  refine Calls.mono (copy_own t a _ (HU.out _ HB3.out).1 HW.out HS.out) ?_
  rintro e w4 ⟨a4, rfl, hb4, hm4, hc4⟩
  have HB4 : Hid (Below w.heap.size w w4) := HB3.out.trans (hb4.mono HB3.out.size)
  have HX4 : Hid (w4.heap[w.heap.size]? = some (.cells (tbA t a) 31 (0, 0))) := row_below HX3.out hb4
  have HC4 : Hid (Cpy w4 t a a4) := hc4
  have HM4 : Hid (WT w3.heap.size w4.heap.size w4 a4) := hm4.wt (Nat.lt_of_lt_of_le HPOS.out HB3.out.size)
  have HA4 : Hid (OC w4 w2.heap.size w3.heap.size A1 ys.length (cmX ys)) := HA3.out.below hb4
  have HLO : Hid (w.heap.size < w3.heap.size ∧ w3.heap.size ≤ w4.heap.size) := ⟨(Array.getElem?_eq_some_iff.1 HX3.out).1, hb4.size⟩
  clear hb4 hc4 HB3 HX3 hm4 HA3
  have HN : Hid ((w4.alloc (.cells #[.int .i64 0, .int .i64 0, .int .i64 0, .int .i64 0, .int .i64 0, .int .i64 0, .int .i64 0, .int .i64 0, .int .i64 0, .int .i64 0, .int .i64 0, .int .i64 0, .int .i64 0, .int .i64 0, .int .i64 0, .slice none 0 0, .slice none 0 0, .slice none 0 0, .slice none 0 0] 43)).heap[w4.heap.size]? = some (.cells #[.int .i64 0, .int .i64 0, .int .i64 0, .int .i64 0, .int .i64 0, .int .i64 0, .int .i64 0, .int .i64 0, .int .i64 0, .int .i64 0, .int .i64 0, .int .i64 0, .int .i64 0, .int .i64 0, .int .i64 0, .slice none 0 0, .slice none 0 0, .slice none 0 0, .slice none 0 0] 43 (0, 0))) := new_row w4 _ _ _ rfl
  have hbV : Below w4.heap.size w4 ((w4.alloc (.cells #[.int .i64 0, .int .i64 0, .int .i64 0, .int .i64 0, .int .i64 0, .int .i64 0, .int .i64 0, .int .i64 0, .int .i64 0, .int .i64 0, .int .i64 0, .int .i64 0, .int .i64 0, .int .i64 0, .int .i64 0, .slice none 0 0, .slice none 0 0, .slice none 0 0, .slice none 0 0] 43)).setRow w4.heap.size (tbA t a4)) := below_setRow ((Below.refl _ _).alloc (Nat.le_refl _) _) (Nat.le_refl _) _
  have HXB : Hid (((w4.alloc (.cells #[.int .i64 0, .int .i64 0, .int .i64 0, .int .i64 0, .int .i64 0, .int .i64 0, .int .i64 0, .int .i64 0, .int .i64 0, .int .i64 0, .int .i64 0, .int .i64 0, .int .i64 0, .int .i64 0, .int .i64 0, .slice none 0 0, .slice none 0 0, .slice none 0 0, .slice none 0 0] 43)).setRow w4.heap.size (tbA t a4)).heap[w4.heap.size]? = some (.cells (tbA t a4) 43 (0, 0))) := setRow_heap _ _ _ _ _ _ HN.out
  have HBV : Hid (Below w.heap.size w ((w4.alloc (.cells #[.int .i64 0, .int .i64 0, .int .i64 0, .int .i64 0, .int .i64 0, .int .i64 0, .int .i64 0, .int .i64 0, .int .i64 0, .int .i64 0, .int .i64 0, .int .i64 0, .int .i64 0, .int .i64 0, .int .i64 0, .slice none 0 0, .slice none 0 0, .slice none 0 0, .slice none 0 0] 43)).setRow w4.heap.size (tbA t a4))) := HB4.out.trans (hbV.mono HB4.out.size)
  have HXV : Hid (((w4.alloc (.cells #[.int .i64 0, .int .i64 0, .int .i64 0, .int .i64 0, .int .i64 0, .int .i64 0, .int .i64 0, .int .i64 0, .int .i64 0, .int .i64 0, .int .i64 0, .int .i64 0, .int .i64 0, .int .i64 0, .int .i64 0, .slice none 0 0, .slice none 0 0, .slice none 0 0, .slice none 0 0] 43)).setRow w4.heap.size (tbA t a4)).heap[w.heap.size]? = some (.cells (tbA t a) 31 (0, 0))) := row_below HX4.out hbV
  have HCV : Hid (Cpy ((w4.alloc (.cells #[.int .i64 0, .int .i64 0, .int .i64 0, .int .i64 0, .int .i64 0, .int .i64 0, .int .i64 0, .int .i64 0, .int .i64 0, .int .i64 0, .int .i64 0, .int .i64 0, .int .i64 0, .int .i64 0, .int .i64 0, .slice none 0 0, .slice none 0 0, .slice none 0 0, .slice none 0 0] 43)).setRow w4.heap.size (tbA t a4)) t a a4) := HC4.out.below hbV
  have HMV : Hid (WT w3.heap.size w4.heap.size ((w4.alloc (.cells #[.int .i64 0, .int .i64 0, .int .i64 0, .int .i64 0, .int .i64 0, .int .i64 0, .int .i64 0, .int .i64 0, .int .i64 0, .int .i64 0, .int .i64 0, .int .i64 0, .int .i64 0, .int .i64 0, .int .i64 0, .slice none 0 0, .slice none 0 0, .slice none 0 0, .slice none 0 0] 43)).setRow w4.heap.size (tbA t a4)) a4) := HM4.out.below hbV
  have HAV : Hid (OC ((w4.alloc (.cells #[.int .i64 0, .int .i64 0, .int .i64 0, .int .i64 0, .int .i64 0, .int .i64 0, .int .i64 0, .int .i64 0, .int .i64 0, .int .i64 0, .int .i64 0, .int .i64 0, .int .i64 0, .int .i64 0, .int .i64 0, .slice none 0 0, .slice none 0 0, .slice none 0 0, .slice none 0 0] 43)).setRow w4.heap.size (tbA t a4)) w2.heap.size w3.heap.size A1 ys.length (cmX ys)) := HA4.out.below hbV
  have HLV : Hid (w4.heap.size < ((w4.alloc (.cells #[.int .i64 0, .int .i64 0, .int .i64 0, .int .i64 0, .int .i64 0, .int .i64 0, .int .i64 0, .int .i64 0, .int .i64 0, .int .i64 0, .int .i64 0, .int .i64 0, .int .i64 0, .int .i64 0, .int .i64 0, .slice none 0 0, .slice none 0 0, .slice none 0 0, .slice none 0 0] 43)).setRow w4.heap.size (tbA t a4)).heap.size) := (Array.getElem?_eq_some_iff.1 HXB.out).1
  clear hbV HB4 HX4 HC4 HM4 HA4
  go_wp2_with (first | (refine wpList_store_row rfl 43 (.tmp 9) (.tmp 36) rfl w4.heap.size (tbA t a4) rfl rfl 43 #[.int .i64 0, .int .i64 0, .int .i64 0, .int .i64 0, .int .i64 0, .int .i64 0, .int .i64 0, .int .i64 0, .int .i64 0, .int .i64 0, .int .i64 0, .int .i64 0, .int .i64 0, .int .i64 0, .int .i64 0, .slice none 0 0, .slice none 0 0, .slice none 0 0, .slice none 0 0] HN.out (by kernel_rfl) rfl (by simp [Value.oneCell']) ?_) | (refine wpList_load_row rfl 43 (.tmp 9) rfl w4.heap.size rfl 43 (tbA t a4) (0, 0) _ HXB.out Tryz.underlying43 rfl (by kernel_rfl) ?_) | fail)
  clear HN
  revert HXB HBV HXV HCV HMV HAV HLV HLO
  generalize (w4.alloc (.cells #[.int .i64 0, .int .i64 0, .int .i64 0, .int .i64 0, .int .i64 0, .int .i64 0, .int .i64 0, .int .i64 0, .int .i64 0, .int .i64 0, .int .i64 0, .int .i64 0, .int .i64 0, .int .i64 0, .int .i64 0, .slice none 0 0, .slice none 0 0, .slice none 0 0, .slice none 0 0] 43)).setRow w4.heap.size (tbA t a4) = V
  generalize w4.heap.size = N
  generalize w3.heap.size = L3
  generalize w2.heap.size = L2 at HL3
  intro HLO HXB HBV HXV HCV HMV HAV HLV
  refine Calls.mono (impl_pq t a4 tx ys cd ln _ HCV.out.m HCV.out.w HCV.out.s (HU.out _ HBV.out).2 HCV.out.c (HTM.out _ HBV.out) htx HZS.out) ?_
  rintro e w5 ⟨A2, c2, rfl, hb5, hA2⟩
  have HB5 : Hid (Below w.heap.size w w5) := HBV.out.trans (hb5.mono HBV.out.size)
  have HX5 : Hid (w5.heap[w.heap.size]? = some (.cells (tbA t a) 31 (0, 0))) := row_below HXV.out hb5
  have HY5 : Hid (w5.heap[N]? = some (.cells (tbA t a4) 43 (0, 0))) := row_below HXB.out hb5
  have HC5 : Hid (Cpy w5 t a a4) := HCV.out.below hb5
  have HM5 : Hid (WT L3 N w5 a4) := HMV.out.below hb5
  have HA5 : Hid (OC w5 L2 L3 A1 ys.length (cmX ys)) := HAV.out.below hb5
  have HD5 : Hid (OC w5 V.heap.size w5.heap.size A2 ys.length (cmX ys)) := hA2
  have HL5 : Hid (N < V.heap.size ∧ V.heap.size ≤ w5.heap.size) := ⟨HLV.out, hb5.size⟩
  clear hb5 HBV HXV HXB HCV HMV HAV hA2 HLV
  generalize V.heap.size = LV at HD5 HL5
  obtain ⟨H5, HH5⟩ : ∃ h, Hid (w5.heap.size = h) := ⟨_, rfl⟩
  rw [HH5.out] at HD5 HL5
  have hnc : (cd != cd) = false := by simp
  have hnl : (ln != ln) = false := by simp
  have HH5' : Hid (H5 ≤ w5.heap.size) := Nat.le_of_eq HH5.out.symm
  clear HH5
  go_wp2_with fail
  refine Calls.mono (cm_eqs A2 A1 c2 c1 ys.length ys _ HD5.out.2 HA5.out.2 (by omega)) ?_
  rintro e w6 ⟨rfl, hb6⟩
  have HB6 : Hid (Below w.heap.size w w6) := HB5.out.trans (hb6.mono HB5.out.size)
  have HX6 : Hid (∀ X, Below w6.heap.size w6 X → X.heap[w.heap.size]? = some (.cells (tbA t a) 31 (0, 0))) := fun X hX => row_below (row_below HX5.out hb6) hX
  have HY6 : Hid (∀ X, Below w6.heap.size w6 X → X.heap[N]? = some (.cells (tbA t a4) 43 (0, 0))) := fun X hX => row_below (row_below HY5.out hb6) hX
  have HC6 : Hid (∀ X, Below w6.heap.size w6 X → Cpy X t a a4) := fun X hX => (HC5.out.below hb6).below hX
  have HM6 : Hid (∀ X, Below w6.heap.size w6 X → WT L3 N X a4) := fun X hX => (HM5.out.below hb6).below hX
  have HA6 : Hid (∀ X, Below w6.heap.size w6 X → OC X L2 L3 A1 ys.length (cmX ys)) := fun X hX => (HA5.out.below hb6).below hX
  have HD6 : Hid (∀ X, Below w6.heap.size w6 X → OC X LV H5 A2 ys.length (cmX ys)) := fun X hX => (HD5.out.below hb6).below hX
  have HH6 : Hid (H5 ≤ w6.heap.size) := Nat.le_trans HH5'.out hb6.size
  clear hb6 HB5 HX5 HY5 HC5 HM5 HA5 HD5 HH5'
  go_wp2
  refine wp_region_inv (by kernel_rfl) (by kernel_rfl) (fun A ℓ a' w' => ∃ (x58 x59 x60 x61 x62 : Value), a' = (((((A.put (some 58) x58).put (some 59) x59).put (some 60) x60).put (some 61) x61).put (some 62) x62) ∧ TI t a a4 w6 w' (ℓ 0) (ℓ 1) (ℓ 2) (ℓ 3) (ℓ 4) x58 x59 x60 x61 x62) ?_ ?_ ?_ ?_
  · exact ⟨undef, undef, undef, undef, undef, (by simp only [Act.put, List.setIfInBounds_toArray, List.set_cons_zero, List.set_cons_succ]), ⟨(Below.refl _ _).drew, (fun g => by cases g), (fun g => by cases g), (fun g => by cases g), (fun g => by cases g), (fun g => by cases g)⟩⟩
  · intro ℓ a' w' hI hall
    obtain ⟨x58, x59, x60, x61, x62, rfl, hr⟩ := hI
    have hall' : ∀ i, i < 5 → ℓ i = true := hall
    obtain rfl := hr.f4 (hall' 4 (by omega))
    have HB7 : Hid (Below w.heap.size w w') := HB6.out.trans (hr.gb.mono HB6.out.size)
    have HX7 : Hid (w'.heap[w.heap.size]? = some (.cells (tbA t a) 31 (0, 0))) := HX6.out _ hr.gb
    have HY7 : Hid (w'.heap[N]? = some (.cells (tbA t a4) 43 (0, 0))) := HY6.out _ hr.gb
    have HC7 : Hid (Cpy w' t a a4) := HC6.out _ hr.gb
    have HM7 : Hid (WT L3 N w' a4) := HM6.out _ hr.gb
    have HA7 : Hid (OC w' L2 L3 A1 ys.length (cmX ys)) := HA6.out _ hr.gb
    have HD7 : Hid (OC w' LV H5 A2 ys.length (cmX ys)) := HD6.out _ hr.gb
    have HH7 : Hid (H5 ≤ w'.heap.size) := Nat.le_trans HH6.out hr.gb.size
    clear hr hall hall' HX6 HY6 HC6 HM6 HA6 HD6 HH6 HB6
    simp only [Act.put, List.setIfInBounds_toArray, List.set_cons_zero, List.set_cons_succ]
    go_wp2_with (first | (refine wpList_load_row rfl 43 (.tmp 9) rfl N rfl 43 (tbA t a4) (0, 0) _ HY7.out Tryz.underlying43 rfl (by kernel_rfl) ?_) | fail)
    refine Calls.mono (mk_tab2 t a4 L3 N _ HM7.out HC7.out.s (by have := HLO.out; have := HL5.out; have := HH7.out; omega)) ?_
    rintro e w8 ⟨⟨rk, rfl, hrk, hrk2⟩, hmk⟩
    have HB8 : Hid (Below w.heap.size w w8) := HB7.out.trans (hmk.low (by have := HLO.out; omega) HB7.out.size)
    have HX8 : Hid (w8.heap[w.heap.size]? = some (.cells (tbA t a) 31 (0, 0))) := (hmk.b.block _ (by have := HLO.out; have := HL5.out; have := HH7.out; omega) (.inl (by have := HLO.out; omega))).trans HX7.out
    have HA8 : Hid (OC w8 L2 L3 A1 ys.length (cmX ys)) := HA7.out.mk hmk (.inl (Nat.le_refl _))
    have HD8 : Hid (OC w8 LV H5 A2 ys.length (cmX ys)) := HD7.out.mk hmk (.inr (by have := HL5.out; omega))
    have HH8 : Hid (H5 ≤ w8.heap.size) := Nat.le_trans HH7.out hmk.b.size
    clear hmk HB7 HX7 HY7 HC7 HM7 HA7 HD7 HH7
    have hrk0 : ¬ (rk < 0) := by omega
    go_wp2_with fail
    refine Calls.mono (cm_eqs A2 A1 c2 c1 ys.length ys _ HD8.out.2 HA8.out.2 (by omega)) ?_
    rintro e w9 ⟨rfl, hb9⟩
    have HB9 : Hid (Below w.heap.size w w9) := HB8.out.trans (hb9.mono HB8.out.size)
    have HX9 : Hid (w9.heap[w.heap.size]? = some (.cells (tbA t a) 31 (0, 0))) := row_below HX8.out hb9
    have HA9 : Hid (OC w9 L2 L3 A1 ys.length (cmX ys)) := HA8.out.below hb9
    have HD9 : Hid (OC w9 LV H5 A2 ys.length (cmX ys)) := HD8.out.below hb9
    have HH9 : Hid (H5 ≤ w9.heap.size) := Nat.le_trans HH8.out hb9.size
    clear hb9 HB8 HX8 HA8 HD8 HH8
    go_wp2_with fail
    refine Calls.mono (mark_cmds LV H5 c2 ys.length 1 A2 _ HD9.out.1 (by omega) (by omega) (by omega)) ?_
    rintro e v1 ⟨rfl, hmk, hgm⟩
    have KB1 : Hid (Below w.heap.size w v1) := HB9.out.trans (hmk.low (by have := HLO.out; have := HL5.out; have := HH9.out; omega) HB9.out.size)
    have KX1 : Hid (v1.heap[w.heap.size]? = some (.cells (tbA t a) 31 (0, 0))) := (hmk.b.block _ (by have := HLO.out; have := HL5.out; have := HH9.out; omega) (.inl (by have := HLO.out; have := HL5.out; have := HH9.out; omega))).trans HX9.out
    have KA1 : Hid (OC v1 L2 L3 A1 ys.length (cmX ys)) := HA9.out.mk hmk (.inl (by have := HLO.out; have := HL5.out; omega))
    have KD1 : Hid (GSeg 3 v1 A2 ys.length (fun i => cmL (mkC 1 i))) := hgm
    clear hmk hgm HB9 HX9 HA9 HD9 HH9
    obtain ⟨q, HQ⟩ : ∃ q : Int, Hid (1 + 3 * (ys.length : Int) = q) := ⟨_, rfl⟩
    have hq0 : ¬ (q < 0) := by have := HQ.out; omega
    rw [HQ.out]
    go_wp2_with fail
    refine Calls.mono (held_cmds A2 c2 ys.length 1 _ KD1.out (by omega) (by omega) (by omega)) ?_
    rintro e v2 ⟨rfl, hv2⟩
    rw [HQ.out]
    obtain rfl : v2 = v1 := hv2
    go_wp2_with (first | (refine wpList_load_row rfl 31 (.tmp 2) rfl w.heap.size rfl 31 (tbA t a) (0, 0) _ KX1.out Tryz.underlying31 rfl (by kernel_rfl) ?_) | fail)
    refine Calls.mono (copy_tab t a _ (HU.out _ KB1.out).1 HW.out HS.out) ?_
    rintro e v3 ⟨a8, rfl, hb8, hc8⟩
    have KB3 : Hid (Below w.heap.size w v3) := KB1.out.trans (hb8.mono KB1.out.size)
    have KA3 : Hid (OC v3 L2 L3 A1 ys.length (cmX ys)) := KA1.out.below hb8
    have KD3 : Hid (GSeg 3 v3 A2 ys.length (fun i => cmL (mkC 1 i))) := KD1.out.below hb8
    have KC3 : Hid (Cpy v3 t a a8) := hc8
    clear hb8 hc8 KB1 KX1 KA1 KD1
    go_wp2_with fail
    refine Calls.mono (impl_pq t a8 tx ys cd ln _ KC3.out.m KC3.out.w KC3.out.s (HU.out _ KB3.out).2 KC3.out.c (HTM.out _ KB3.out) htx HZS.out) ?_
    rintro e v4 ⟨A3, c3, rfl, hb9, hA3⟩
    have KB4 : Hid (Below w.heap.size w v4) := KB3.out.trans (hb9.mono KB3.out.size)
    have KA4 : Hid (OC v4 L2 L3 A1 ys.length (cmX ys)) := KA3.out.below hb9
    have KD4 : Hid (GSeg 3 v4 A2 ys.length (fun i => cmL (mkC 1 i))) := KD3.out.below hb9
    have KE4 : Hid (GSeg 3 v4 A3 ys.length (cmX ys)) := hA3.2
    clear hb9 hA3 KB3 KA3 KD3 KC3
    go_wp2_with fail
    refine Calls.mono (cm_eqs A3 A1 c3 c1 ys.length ys _ KE4.out KA4.out.2 (by omega)) ?_
    rintro e v5 ⟨rfl, hb10⟩
    have KB5 : Hid (Below w.heap.size w v5) := KB4.out.trans (hb10.mono KB4.out.size)
    have KD5 : Hid (GSeg 3 v5 A2 ys.length (fun i => cmL (mkC 1 i))) := KD4.out.below hb10
    clear hb10 KB4 KA4 KD4 KE4
    go_wp2_with fail
    refine Calls.mono (held_cmds A2 c2 ys.length 1 _ KD5.out (by omega) (by omega) (by omega)) ?_
    rintro e v6 ⟨rfl, hv6⟩
    rw [HQ.out]
    obtain rfl : v6 = v5 := hv6
    go_wp2
    go_ret
    exact ⟨rfl, KB5.out⟩
  · intro ℓ a' w' i o hI ho hi hL hdep K hK
    obtain ⟨x58, x59, x60, x61, x62, rfl, hr⟩ := hI
    have hi7 : i < 5 := hi
    have hcs : i = 0 ∨ i = 1 ∨ i = 2 ∨ i = 3 ∨ i = 4 := by omega
    clear hi hi7
    rcases hcs with rfl | rfl | rfl | rfl | rfl
    · replace ho : some ({ dst := some 58, op := .load 43 (.tmp 9), type := 43, pos := "exact.go:6897", after := #[], guard := none } : Oper) = some o := ho
      obtain rfl := Option.some.inj ho
      clear hdep ho
      rw [if_pos (by rfl)]
      try simp only [Act.put, List.setIfInBounds_toArray, List.set_cons_zero, List.set_cons_succ]
      refine wp_load_row (P := Tryz.prog) 43 (.tmp 9) rfl N rfl 43 (tbA t a4) (0, 0) _ (HY6.out _ hr.gb) Tryz.underlying43 rfl (by kernel_rfl) ?_
      exact hK.out _ _ (fun j => if j = 0 then true else ℓ j) ⟨tbV t a4, x59, x60, x61, x62, (by simp only [Act.put, List.setIfInBounds_toArray, List.set_cons_zero, List.set_cons_succ]), ⟨hr.gb, (fun _ => rfl), hr.f1, hr.f2, hr.f3, hr.f4⟩⟩ (if_pos rfl) (fun j hj => if_neg hj)
    · replace ho : some ({ dst := some 59, op := .load 31 (.tmp 2), type := 31, pos := "exact.go:6897", after := #[], guard := none } : Oper) = some o := ho
      obtain rfl := Option.some.inj ho
      clear hdep ho
      rw [if_pos (by rfl)]
      try simp only [Act.put, List.setIfInBounds_toArray, List.set_cons_zero, List.set_cons_succ]
      refine wp_load_row (P := Tryz.prog) 31 (.tmp 2) rfl w.heap.size rfl 31 (tbA t a) (0, 0) _ (HX6.out _ hr.gb) Tryz.underlying31 rfl (by kernel_rfl) ?_
      exact hK.out _ _ (fun j => if j = 1 then true else ℓ j) ⟨x58, tbV t a, x60, x61, x62, (by simp only [Act.put, List.setIfInBounds_toArray, List.set_cons_zero, List.set_cons_succ]), ⟨hr.gb, hr.f0, (fun _ => rfl), hr.f2, hr.f3, hr.f4⟩⟩ (if_pos rfl) (fun j hj => if_neg hj)
    · obtain rfl := Option.some.inj ho
      have g : ℓ 1 = true := hdep { on := 1, ground := Ground.data } (by simp) rfl
      clear hdep ho
      obtain rfl := hr.f1 g
      rw [if_pos (by rfl)]
      try simp only [Act.put, List.setIfInBounds_toArray, List.set_cons_zero, List.set_cons_succ]
      go_simp
      refine Calls.mono (copy_tab t a _ (HU.out _ (HB6.out.trans (hr.gb.mono HB6.out.size))).1 HW.out HS.out) ?_
      rintro e w9 ⟨a9, rfl, hb9, hc9⟩
      have hr9 := hr.below hb9
      exact hK.out _ _ (fun j => if j = 2 then true else ℓ j) ⟨x58, tbV t a, tbV t a9, x61, x62, (by simp only [Act.put, List.setIfInBounds_toArray, List.set_cons_zero, List.set_cons_succ]), ⟨hr9.gb, hr9.f0, hr9.f1, (fun _ => ⟨a9, rfl, hc9⟩), hr9.f3, hr9.f4⟩⟩ (if_pos rfl) (fun j hj => if_neg hj)
    · obtain rfl := Option.some.inj ho
      have g0 : ℓ 0 = true := hdep { on := 0, ground := Ground.data } (by simp) rfl
      have g2 : ℓ 2 = true := hdep { on := 2, ground := Ground.data } (by simp) rfl
      clear hdep ho
      obtain rfl := hr.f0 g0
      obtain ⟨a9, rfl, hc9⟩ := hr.f2 g2
      have hc4 := HC6.out _ hr.gb
      rw [if_pos (by rfl)]
      try simp only [Act.put, List.setIfInBounds_toArray, List.set_cons_zero, List.set_cons_succ]
      go_simp
      refine Calls.mono (eq_tab t a4 a9 _ hc4.m hc9.m hc4.s (hc9.p1.trans hc4.p1.symm) (hc9.p2.trans hc4.p2.symm) (hc9.p3.trans hc4.p3.symm) (hc9.p4.trans hc4.p4.symm)) ?_
      rintro e w9 ⟨rfl, hb9⟩
      have hr9 := hr.below hb9
      exact hK.out _ _ (fun j => if j = 3 then true else ℓ j) ⟨tbV t a4, x59, tbV t a9, .bool true, x62, (by simp only [Act.put, List.setIfInBounds_toArray, List.set_cons_zero, List.set_cons_succ]), ⟨hr9.gb, hr9.f0, hr9.f1, hr9.f2, (fun _ => rfl), hr9.f4⟩⟩ (if_pos rfl) (fun j hj => if_neg hj)
    · obtain rfl := Option.some.inj ho
      have g : ℓ 3 = true := hdep { on := 3, ground := Ground.data } (by simp) rfl
      clear hdep ho
      obtain rfl := hr.f3 g
      rw [if_pos (by rfl)]
      try simp only [Act.put, List.setIfInBounds_toArray, List.set_cons_zero, List.set_cons_succ]
      go_simp
      exact hK.out _ _ (fun j => if j = 4 then true else ℓ j) ⟨x58, x59, x60, .bool true, .bool false, (by simp only [Act.put, List.setIfInBounds_toArray, List.set_cons_zero, List.set_cons_succ]), ⟨hr.gb, hr.f0, hr.f1, hr.f2, hr.f3, (fun _ => rfl)⟩⟩ (if_pos rfl) (fun j hj => if_neg hj)
  · rintro a' w' ℓ ℓ' hℓ hI
    rw [← show ℓ = ℓ' from funext hℓ]
    exact hI
end Go.Proofs.YtmnoghhdkdjnmaaGreatDoor
