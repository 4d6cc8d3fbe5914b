
/-
  The text of a script: the law, walked. Conditions: the lists lie in memory; the program's table of extras and the library's table of powers of ten hold what the texts lay.
-/
import Derived.Test.YtmnoghhdkdjnmaaGreatDoorBas
import Derived.Test.YtmnoghhdkdjnmaaGreatDoorLsw
import Derived.Test.YtmnoghhdkdjnmaaGreatDoorSci
namespace Go.Proofs.YtmnoghhdkdjnmaaGreatDoor
open Go.ChangeShapes Go.WideShapes Go.ChangeAt Go.RowKit Go.Deep Go.Joins
set_option linter.unusedVariables false

set_option maxRecDepth 20000 in
set_option maxHeartbeats 4000000 in
theorem sz_tab2 (t : Tb) (a : Ad) (w : World) (hm : TM 0 w t a) (hw : TW t a) :
    Calls Tryz.prog 5 #[tbV t a, .int .i64 1048576] w fun e w' => (∃ r : Int, e = .returned (.int .i64 r) ∧ (r = -1 ∨ (0 ≤ r ∧ r ≤ 1048576 ∧ TS a))) ∧ Below w.heap.size w w' := by
  have HM : Hid (TM 0 w t a) := hm
  have HW : Hid (TW t a) := hw
  clear hm hw
  have HB0 : Hid (Below w.heap.size w (w.alloc (.cells (tbA t a) 31))) := (Below.refl _ _).alloc (Nat.le_refl _) _
  have KB0 : Hid (Bk (w.alloc (.cells (tbA t a) 31)) w.heap.size (tbA t a)) := Bk.new w _ _ _ rfl
  have h8 := HW.out.db
  have h9 := HW.out.cb
  have h10 := HW.out.sb
  have HZ : Hid (∀ X, Below w.heap.size w X → Calls Tryz.prog 18 #[.slice a.pa a.pn a.pc, .int .i64 ((1048576 : Nat) : Int)] X fun e w' => (∃ r : Int, e = .returned (.int .i64 r) ∧ (r = -1 ∨ ∃ d : Nat, r = (d : Int) ∧ d ≤ 1048576 ∧ a.pn ≤ 1048576 ∧ ∀ i, i < a.pn → (a.Y i).wn ≤ 1048576 ∧ (a.Y i).nm.size ≤ 1048576)) ∧ Below X.heap.size X w') := fun X hX => sz_parts a.pa a.pc a.pn 1048576 a.Y X (HM.out.p.below hX).1.seg HW.out.pb (Nat.le_refl _) HW.out.wb
  go_enter Tryz.func5, Tryz.ntmps5
  go_wp2_with fail
  refine (HZ.out _ HB0.out).mono ?_
  rintro e1 w1 ⟨⟨r, rfl, hr⟩, hb1⟩
  have HB1 : Hid (Below w.heap.size w w1) := HB0.out.trans (hb1.mono HB0.out.size)
  have KB1 : Hid (Bk w1 w.heap.size (tbA t a)) := KB0.out.below hb1
  clear hb1 HB0 KB0 HZ
  rcases hr with rfl | ⟨D, rfl, hD, hp, hww⟩
  · go_wp2
    go_ret
    exact ⟨⟨_, rfl, .inl rfl⟩, HB1.out⟩
  have HP : Hid (a.pn ≤ 1048576 ∧ ∀ i, i < a.pn → (a.Y i).wn ≤ 1048576 ∧ (a.Y i).nm.size ≤ 1048576) := ⟨hp, hww⟩
  clear hp hww
  have hd0 : ¬ ((D : Int) < 0) := by omega
  have k16 : w1.cell? ⟨w.heap.size, 16, none⟩ = some (.slice a.da a.dn a.dc) := KB1.out.cell 16 _ rfl
  have k17 : w1.cell? ⟨w.heap.size, 17, none⟩ = some (.slice a.ca a.cn a.cc) := KB1.out.cell 17 _ rfl
  have k18 : w1.cell? ⟨w.heap.size, 18, none⟩ = some (.slice a.sa a.sn a.sc) := KB1.out.cell 18 _ rfl
  go_wp2_with fail
  refine (in_sz a.da a.dc a.dn D _ h8 hD).mono ?_
  rintro e2 w2 ⟨⟨r, rfl, hr⟩, rfl⟩
  rcases hr with rfl | ⟨hr, hd⟩
  · go_wp2
    go_ret
    exact ⟨⟨_, rfl, .inl rfl⟩, HB1.out⟩
  obtain ⟨E, hE⟩ : ∃ E : Nat, D - a.dn = E := ⟨_, rfl⟩
  rw [hE] at hr
  subst hr
  have hE2 : E ≤ 1048576 := by omega
  have he0 : ¬ ((E : Int) < 0) := by omega
  have HD : Hid (a.dn ≤ 1048576) := by show _ ≤ _; omega
  clear hE hd
  go_wp2_with fail
  refine (ch_sz a.ca a.cc a.cn E _ h9 hE2).mono ?_
  rintro e2 w2 ⟨⟨r, rfl, hr⟩, rfl⟩
  rcases hr with rfl | ⟨hr, hd⟩
  · go_wp2
    go_ret
    exact ⟨⟨_, rfl, .inl rfl⟩, HB1.out⟩
  obtain ⟨G, hG⟩ : ∃ G : Nat, E - a.cn = G := ⟨_, rfl⟩
  rw [hG] at hr
  subst hr
  have hG2 : G ≤ 1048576 := by omega
  have hg0 : ¬ ((G : Int) < 0) := by omega
  have HC : Hid (a.cn ≤ 1048576) := by show _ ≤ _; omega
  clear hG hd
  go_wp2_with fail
  refine (sl_sz a.sa a.sc a.sn G _ h10 hG2).mono ?_
  rintro e2 w2 ⟨⟨r, rfl, hr⟩, rfl⟩
  rcases hr with rfl | ⟨hr, hd⟩
  · go_wp2
    go_ret
    exact ⟨⟨_, rfl, .inl rfl⟩, HB1.out⟩
  obtain ⟨J, hJ⟩ : ∃ J : Nat, G - a.sn = J := ⟨_, rfl⟩
  rw [hJ] at hr
  subst hr
  have hj0 : ¬ ((J : Int) < 0) := by omega
  have HS : Hid (a.sn ≤ 1048576) := by show _ ≤ _; omega
  have hJ2 : J ≤ 1048576 := by omega
  clear hJ hd
  go_wp2
  go_ret
  exact ⟨⟨_, rfl, .inr ⟨by omega, by omega, HP.out.1, HD.out, HC.out, HS.out, HP.out.2⟩⟩, HB1.out⟩
set_option maxRecDepth 40000 in
set_option maxHeartbeats 8000000 in
theorem walk_printscript (t : Tb) (a : Ad) (ca : Option Addr) (cca nx : Nat) (xs : List cmT) (w : World) (hm : TM 0 w t a) (hw : TW t a) (he : TabE w) (hlb : LibP w) (hx : GSeg 3 w ca nx (cmX xs)) (hnx : nx ≤ 9223372036854775807) : Calls Tryz.prog 3 #[tbV t a, .slice ca nx cca] w fun e w' => e = .returned (.bool true) ∧ Below w.heap.size w w' := by
  have HU : Hid (∀ X, Below w.heap.size w X → TM 0 X t a ∧ TabE X) := fun X hX => ⟨hm.below hX, he.below hX⟩
  have HW : Hid (TW t a) := hw
  obtain ⟨sa, qa, hq⟩ := Sr.PS.ex t nx xs
  have HQ : Hid (Sr.PS t nx xs sa qa) := hq
  have HIN : Hid (∀ X, Below w.heap.size w X → GSeg 3 X ca nx (cmX xs)) := fun X hX => hx.below hX
  have HLB : Hid (∀ X, Below w.heap.size w X → LibP X) := fun X hX => hlb.below hX
  have HB0 : Hid (Below w.heap.size w (w.alloc (.cells (tbA t a) 31))) := (Below.refl _ _).alloc (Nat.le_refl _) _
  have HX0 : Hid ((w.alloc (.cells (tbA t a) 31)).heap[w.heap.size]? = some (.cells (tbA t a) 31 (0, 0))) := new_row w _ _ _ rfl
  clear hm hw he hx hq hlb
  go_enter Tryz.func3, Tryz.ntmps3
  go_wp2_with (first | (refine wpList_load_row rfl 31 (.tmp 2) rfl w.heap.size rfl 31 (tbA t a) (0, 0) _ HX0.out Tryz.underlying31 rfl (by kernel_rfl) ?_) | fail)
  refine Calls.mono (sz_tab2 t a _ (HU.out _ HB0.out).1 HW.out) ?_
  rintro e w1 ⟨⟨r, rfl, hr⟩, hb1⟩
  have HB1 : Hid (Below w.heap.size w w1) := HB0.out.trans (hb1.mono HB0.out.size)
  have HX1 : Hid (w1.heap[w.heap.size]? = some (.cells (tbA t a) 31 (0, 0))) := row_below HX0.out hb1
  clear hb1 HB0 HX0
  rcases hr with rfl | ⟨h0, h1, hs⟩
  · go_wp2
    go_ret
    exact ⟨rfl, HB1.out⟩
  have HS : Hid (TS a) := hs
  clear hs
  obtain ⟨L2, rfl⟩ : ∃ L : Nat, r = (L : Int) := ⟨r.toNat, by omega⟩
  have hL2 : L2 ≤ 1048576 := by omega
  have hr2 : ¬ ((L2 : Int) < 0) := by omega
  clear h0 h1
  go_wp2_with fail
  refine Calls.mono (cm_sz ca cca nx L2 _ hnx hL2) ?_
  rintro e wz2 ⟨⟨r, rfl, hr⟩, hwz2⟩
  subst hwz2
  clear hr2
  rcases hr with rfl | ⟨hrr, hx2⟩
  · go_wp2
    go_ret
    exact ⟨rfl, HB1.out⟩
  have hx3 : nx ≤ 1048576 := by omega
  have hr9 : ¬ (r < 0) := by omega
  clear hrr hnx
  have HTX : Hid (∀ X, Below w.heap.size w X → Calls Tryz.prog 9 #[.slice ca nx cca] X fun e w' => ∃ a', e = .returned (.slice a' nx nx) ∧ Below X.heap.size X w' ∧ GSeg 3 w' a' nx (cmX xs)) := fun X hX => (cm_tos ca cca nx xs X (HIN.out X hX) hx3).mono fun e w' ⟨h1, h2, h3⟩ => ⟨_, h1, h2, h3.seg⟩
  have HTT : Hid (∀ X, Below w.heap.size w X → Calls Tryz.prog 8 #[tbV t a] X fun e w' => ∃ a', e = .returned (tbV t a') ∧ Below X.heap.size X w' ∧ Cpy w' t a a') := fun X hX => copy_tab t a X (HU.out X hX).1 HW.out HS.out
  clear HIN
  go_wp2_with (first | (refine wpList_load_row rfl 31 (.tmp 2) rfl w.heap.size rfl 31 (tbA t a) (0, 0) _ HX1.out Tryz.underlying31 rfl (by kernel_rfl) ?_) | fail)
  refine Calls.mono (HTT.out _ HB1.out) ?_
  rintro e v2 ⟨t1, rfl, hbk, hcc⟩
  replace HX1 : Hid (v2.heap[w.heap.size]? = some (.cells (tbA t a) 31 (0, 0))) := row_below HX1.out hbk
  replace HB1 : Hid (Below w.heap.size w v2) := HB1.out.trans (hbk.mono HB1.out.size)
  have HC1 : Hid (Cpy v2 t a t1) := hcc
  clear hbk hcc
  go_wp2_with fail
  refine Calls.mono (HTX.out _ HB1.out) ?_
  rintro e v3 ⟨p2, rfl, hbk, hcc⟩
  replace HX1 : Hid (v3.heap[w.heap.size]? = some (.cells (tbA t a) 31 (0, 0))) := row_below HX1.out hbk
  replace HC1 : Hid (Cpy v3 t a t1) := HC1.out.below hbk
  replace HB1 : Hid (Below w.heap.size w v3) := HB1.out.trans (hbk.mono HB1.out.size)
  have HA2 : Hid (GSeg 3 v3 p2 nx (cmX xs)) := hcc
  clear hbk hcc
  go_wp2_with fail
  refine Calls.mono (spec_ps t t1 p2 nx nx xs sa qa _ HC1.out.m HC1.out.w HC1.out.s HA2.out hx3 HQ.out) ?_
  rintro e v4 ⟨rfl, hbk⟩
  replace HX1 : Hid (v4.heap[w.heap.size]? = some (.cells (tbA t a) 31 (0, 0))) := row_below HX1.out hbk
  replace HC1 : Hid (Cpy v4 t a t1) := HC1.out.below hbk
  replace HA2 : Hid (GSeg 3 v4 p2 nx (cmX xs)) := HA2.out.below hbk
  replace HB1 : Hid (Below w.heap.size w v4) := HB1.out.trans (hbk.mono HB1.out.size)
  clear hbk
  clear HC1 HA2
  go_wp2_with (first | (refine wpList_load_row rfl 31 (.tmp 2) rfl w.heap.size rfl 31 (tbA t a) (0, 0) _ HX1.out Tryz.underlying31 rfl (by kernel_rfl) ?_) | fail)
  refine Calls.mono (HTT.out _ HB1.out) ?_
  rintro e w4 ⟨a4, rfl, hb4, hc4⟩
  have HB4 : Hid (Below w.heap.size w w4) := HB1.out.trans (hb4.mono HB1.out.size)
  have HX4 : Hid (w4.heap[w.heap.size]? = some (.cells (tbA t a) 31 (0, 0))) := row_below HX1.out hb4
  have HC4 : Hid (Cpy w4 t a a4) := hc4
  clear hb4 hc4 HB1 HX1
  have HN : Hid ((w4.alloc (.cells #[.int .i64 0, .int .i64 0, .int .i64 0, .int .i64 0, .int .i64 0, .int .i64 0, .int .i64 0, .int .i64 0, .int .i64 0, .int .i64 0, .int .i64 0, .int .i64 0, .int .i64 0, .int .i64 0, .int .i64 0, .slice none 0 0, .slice none 0 0, .slice none 0 0, .slice none 0 0] 43)).heap[w4.heap.size]? = some (.cells #[.int .i64 0, .int .i64 0, .int .i64 0, .int .i64 0, .int .i64 0, .int .i64 0, .int .i64 0, .int .i64 0, .int .i64 0, .int .i64 0, .int .i64 0, .int .i64 0, .int .i64 0, .int .i64 0, .int .i64 0, .slice none 0 0, .slice none 0 0, .slice none 0 0, .slice none 0 0] 43 (0, 0))) := new_row w4 _ _ _ rfl
  have hbV : Below w4.heap.size w4 ((w4.alloc (.cells #[.int .i64 0, .int .i64 0, .int .i64 0, .int .i64 0, .int .i64 0, .int .i64 0, .int .i64 0, .int .i64 0, .int .i64 0, .int .i64 0, .int .i64 0, .int .i64 0, .int .i64 0, .int .i64 0, .int .i64 0, .slice none 0 0, .slice none 0 0, .slice none 0 0, .slice none 0 0] 43)).setRow w4.heap.size (tbA t a4)) := below_setRow ((Below.refl _ _).alloc (Nat.le_refl _) _) (Nat.le_refl _) _
  have HXB : Hid (((w4.alloc (.cells #[.int .i64 0, .int .i64 0, .int .i64 0, .int .i64 0, .int .i64 0, .int .i64 0, .int .i64 0, .int .i64 0, .int .i64 0, .int .i64 0, .int .i64 0, .int .i64 0, .int .i64 0, .int .i64 0, .int .i64 0, .slice none 0 0, .slice none 0 0, .slice none 0 0, .slice none 0 0] 43)).setRow w4.heap.size (tbA t a4)).heap[w4.heap.size]? = some (.cells (tbA t a4) 43 (0, 0))) := setRow_heap _ _ _ _ _ _ HN.out
  have HBV : Hid (Below w.heap.size w ((w4.alloc (.cells #[.int .i64 0, .int .i64 0, .int .i64 0, .int .i64 0, .int .i64 0, .int .i64 0, .int .i64 0, .int .i64 0, .int .i64 0, .int .i64 0, .int .i64 0, .int .i64 0, .int .i64 0, .int .i64 0, .int .i64 0, .slice none 0 0, .slice none 0 0, .slice none 0 0, .slice none 0 0] 43)).setRow w4.heap.size (tbA t a4))) := HB4.out.trans (hbV.mono HB4.out.size)
  have HXV : Hid (((w4.alloc (.cells #[.int .i64 0, .int .i64 0, .int .i64 0, .int .i64 0, .int .i64 0, .int .i64 0, .int .i64 0, .int .i64 0, .int .i64 0, .int .i64 0, .int .i64 0, .int .i64 0, .int .i64 0, .int .i64 0, .int .i64 0, .slice none 0 0, .slice none 0 0, .slice none 0 0, .slice none 0 0] 43)).setRow w4.heap.size (tbA t a4)).heap[w.heap.size]? = some (.cells (tbA t a) 31 (0, 0))) := row_below HX4.out hbV
  have HCV : Hid (Cpy ((w4.alloc (.cells #[.int .i64 0, .int .i64 0, .int .i64 0, .int .i64 0, .int .i64 0, .int .i64 0, .int .i64 0, .int .i64 0, .int .i64 0, .int .i64 0, .int .i64 0, .int .i64 0, .int .i64 0, .int .i64 0, .int .i64 0, .slice none 0 0, .slice none 0 0, .slice none 0 0, .slice none 0 0] 43)).setRow w4.heap.size (tbA t a4)) t a a4) := HC4.out.below hbV
  clear hbV HB4 HX4 HC4
  go_wp2_with (first | (refine wpList_store_row rfl 43 (.tmp 8) (.tmp 31) rfl w4.heap.size (tbA t a4) rfl rfl 43 #[.int .i64 0, .int .i64 0, .int .i64 0, .int .i64 0, .int .i64 0, .int .i64 0, .int .i64 0, .int .i64 0, .int .i64 0, .int .i64 0, .int .i64 0, .int .i64 0, .int .i64 0, .int .i64 0, .int .i64 0, .slice none 0 0, .slice none 0 0, .slice none 0 0, .slice none 0 0] HN.out (by kernel_rfl) rfl (by simp [Value.oneCell']) ?_) | fail)
  clear HN
  revert HXB HBV HXV HCV
  generalize (w4.alloc (.cells #[.int .i64 0, .int .i64 0, .int .i64 0, .int .i64 0, .int .i64 0, .int .i64 0, .int .i64 0, .int .i64 0, .int .i64 0, .int .i64 0, .int .i64 0, .int .i64 0, .int .i64 0, .int .i64 0, .int .i64 0, .slice none 0 0, .slice none 0 0, .slice none 0 0, .slice none 0 0] 43)).setRow w4.heap.size (tbA t a4) = V
  generalize w4.heap.size = BN
  intro HY1 HB1 HX1 HC1
  refine Calls.mono (HTX.out _ HB1.out) ?_
  rintro e v5 ⟨x3, rfl, hbk, hcc⟩
  replace HX1 : Hid (v5.heap[w.heap.size]? = some (.cells (tbA t a) 31 (0, 0))) := row_below HX1.out hbk
  replace HY1 : Hid (v5.heap[BN]? = some (.cells (tbA t a4) 43 (0, 0))) := row_below HY1.out hbk
  replace HC1 : Hid (Cpy v5 t a a4) := HC1.out.below hbk
  replace HB1 : Hid (Below w.heap.size w v5) := HB1.out.trans (hbk.mono HB1.out.size)
  have HA2 : Hid (GSeg 3 v5 x3 nx (cmX xs)) := hcc
  clear hbk hcc
  go_wp2_with (first | (refine wpList_load_row rfl 43 (.tmp 8) rfl BN rfl 43 (tbA t a4) (0, 0) _ HY1.out Tryz.underlying43 rfl (by kernel_rfl) ?_) | fail)
  refine Calls.mono (impl_ps t a4 x3 nx nx xs sa qa _ HC1.out.m HC1.out.w HC1.out.s (HU.out _ HB1.out).2 HC1.out.c (HLB.out _ HB1.out) HA2.out hx3 HQ.out) ?_
  rintro e v6 ⟨rfl, hbk⟩
  replace HX1 : Hid (v6.heap[w.heap.size]? = some (.cells (tbA t a) 31 (0, 0))) := row_below HX1.out hbk
  replace HY1 : Hid (v6.heap[BN]? = some (.cells (tbA t a4) 43 (0, 0))) := row_below HY1.out hbk
  replace HC1 : Hid (Cpy v6 t a a4) := HC1.out.below hbk
  replace HA2 : Hid (GSeg 3 v6 x3 nx (cmX xs)) := HA2.out.below hbk
  replace HB1 : Hid (Below w.heap.size w v6) := HB1.out.trans (hbk.mono HB1.out.size)
  clear hbk
  have hnn : (qa != qa) = false := by simp
  have HB6 : Hid (Below w.heap.size w v6) := HB1.out
  have HX6 : Hid (∀ X, Below v6.heap.size v6 X → X.heap[w.heap.size]? = some (.cells (tbA t a) 31 (0, 0))) := fun X hX => row_below HX1.out hX
  have HY6 : Hid (∀ X, Below v6.heap.size v6 X → X.heap[BN]? = some (.cells (tbA t a4) 43 (0, 0))) := fun X hX => row_below HY1.out hX
  have HC6 : Hid (∀ X, Below v6.heap.size v6 X → Cpy X t a a4) := fun X hX => HC1.out.below hX
  have HD6 : Hid (∀ X, Below v6.heap.size v6 X → GSeg 3 X x3 nx (cmX xs)) := fun X hX => HA2.out.below hX
  clear HB1 HX1 HY1 HC1 HA2
  go_wp2
  refine wp_region_inv (by kernel_rfl) (by kernel_rfl) (fun A ℓ a' w' => ∃ (x48 x49 x50 x51 x52 : Value), a' = (((((A.put (some 48) x48).put (some 49) x49).put (some 50) x50).put (some 51) x51).put (some 52) x52) ∧ TI t a a4 v6 w' (ℓ 0) (ℓ 1) (ℓ 2) (ℓ 3) (ℓ 4) x48 x49 x50 x51 x52) ?_ ?_ ?_ ?_
  · exact ⟨undef, undef, undef, undef, undef, (by simp only [Act.put, List.setIfInBounds_toArray, List.set_cons_zero, List.set_cons_succ]), ⟨(Below.refl _ _).drew, (fun g => by cases g), (fun g => by cases g), (fun g => by cases g), (fun g => by cases g), (fun g => by cases g)⟩⟩
  · intro ℓ a' w' hI hall
    obtain ⟨x48, x49, x50, x51, x52, rfl, hr⟩ := hI
    have hall' : ∀ i, i < 5 → ℓ i = true := hall
    obtain rfl := hr.f4 (hall' 4 (by omega))
    have HB1 : Hid (Below w.heap.size w w') := HB6.out.trans (hr.gb.mono HB6.out.size)
    have HA2 : Hid (GSeg 3 w' x3 nx (cmX xs)) := HD6.out _ hr.gb
    clear hr hall hall' HX6 HY6 HC6 HD6 HB6
    simp only [Act.put, List.setIfInBounds_toArray, List.set_cons_zero, List.set_cons_succ]
    go_wp2_with fail
    refine Calls.mono (HTX.out _ HB1.out) ?_
    rintro e v7 ⟨y9, rfl, hbk, hcc⟩
    replace HA2 : Hid (GSeg 3 v7 x3 nx (cmX xs)) := HA2.out.below hbk
    replace HB1 : Hid (Below w.heap.size w v7) := HB1.out.trans (hbk.mono HB1.out.size)
    have HZ9 : Hid (GSeg 3 v7 y9 nx (cmX xs)) := hcc
    clear hbk hcc
    go_wp2_with fail
    refine Calls.mono (cm_eqs x3 y9 nx nx nx xs _ HA2.out HZ9.out hx3) ?_
    rintro e v8 ⟨rfl, hbk⟩
    replace HA2 : Hid (GSeg 3 v8 x3 nx (cmX xs)) := HA2.out.below hbk
    replace HZ9 : Hid (GSeg 3 v8 y9 nx (cmX xs)) := HZ9.out.below hbk
    replace HB1 : Hid (Below w.heap.size w v8) := HB1.out.trans (hbk.mono HB1.out.size)
    clear hbk
    clear HZ9
    go_wp2
    go_ret
    exact ⟨rfl, HB1.out⟩
  · intro ℓ a' w' i o hI ho hi hL hdep K hK
    obtain ⟨x48, x49, x50, x51, x52, rfl, hr⟩ := hI
    have hi7 : i < 5 := hi
    have hcs : i = 0 ∨ i = 1 ∨ i = 2 ∨ i = 3 ∨ i = 4 := by omega
    clear hi hi7
    rcases hcs with rfl | rfl | rfl | rfl | rfl
    · replace ho : some ({ dst := some 48, op := .load 43 (.tmp 8), type := 43, pos := "exact.go:6948", after := #[], guard := none } : Oper) = some o := ho
      obtain rfl := Option.some.inj ho
      clear hdep ho
      rw [if_pos (by rfl)]
      try simp only [Act.put, List.setIfInBounds_toArray, List.set_cons_zero, List.set_cons_succ]
      refine wp_load_row (P := Tryz.prog) 43 (.tmp 8) rfl BN rfl 43 (tbA t a4) (0, 0) _ (HY6.out _ hr.gb) Tryz.underlying43 rfl (by kernel_rfl) ?_
      exact hK.out _ _ (fun j => if j = 0 then true else ℓ j) ⟨tbV t a4, x49, x50, x51, x52, (by simp only [Act.put, List.setIfInBounds_toArray, List.set_cons_zero, List.set_cons_succ]), ⟨hr.gb, (fun _ => rfl), hr.f1, hr.f2, hr.f3, hr.f4⟩⟩ (if_pos rfl) (fun j hj => if_neg hj)
    · replace ho : some ({ dst := some 49, op := .load 31 (.tmp 2), type := 31, pos := "exact.go:6948", after := #[], guard := none } : Oper) = some o := ho
      obtain rfl := Option.some.inj ho
      clear hdep ho
      rw [if_pos (by rfl)]
      try simp only [Act.put, List.setIfInBounds_toArray, List.set_cons_zero, List.set_cons_succ]
      refine wp_load_row (P := Tryz.prog) 31 (.tmp 2) rfl w.heap.size rfl 31 (tbA t a) (0, 0) _ (HX6.out _ hr.gb) Tryz.underlying31 rfl (by kernel_rfl) ?_
      exact hK.out _ _ (fun j => if j = 1 then true else ℓ j) ⟨x48, tbV t a, x50, x51, x52, (by simp only [Act.put, List.setIfInBounds_toArray, List.set_cons_zero, List.set_cons_succ]), ⟨hr.gb, hr.f0, (fun _ => rfl), hr.f2, hr.f3, hr.f4⟩⟩ (if_pos rfl) (fun j hj => if_neg hj)
    · obtain rfl := Option.some.inj ho
      have g : ℓ 1 = true := hdep { on := 1, ground := Ground.data } (by simp) rfl
      clear hdep ho
      obtain rfl := hr.f1 g
      rw [if_pos (by rfl)]
      try simp only [Act.put, List.setIfInBounds_toArray, List.set_cons_zero, List.set_cons_succ]
      go_simp
      refine Calls.mono (copy_tab t a _ (HU.out _ (HB6.out.trans (hr.gb.mono HB6.out.size))).1 HW.out HS.out) ?_
      rintro e w9 ⟨a9, rfl, hb9, hc9⟩
      have hr9 := hr.below hb9
      exact hK.out _ _ (fun j => if j = 2 then true else ℓ j) ⟨x48, tbV t a, tbV t a9, x51, x52, (by simp only [Act.put, List.setIfInBounds_toArray, List.set_cons_zero, List.set_cons_succ]), ⟨hr9.gb, hr9.f0, hr9.f1, (fun _ => ⟨a9, rfl, hc9⟩), hr9.f3, hr9.f4⟩⟩ (if_pos rfl) (fun j hj => if_neg hj)
    · obtain rfl := Option.some.inj ho
      have g0 : ℓ 0 = true := hdep { on := 0, ground := Ground.data } (by simp) rfl
      have g2 : ℓ 2 = true := hdep { on := 2, ground := Ground.data } (by simp) rfl
      clear hdep ho
      obtain rfl := hr.f0 g0
      obtain ⟨a9, rfl, hc9⟩ := hr.f2 g2
      have hc4 := HC6.out _ hr.gb
      rw [if_pos (by rfl)]
      try simp only [Act.put, List.setIfInBounds_toArray, List.set_cons_zero, List.set_cons_succ]
      go_simp
      refine Calls.mono (eq_tab t a4 a9 _ hc4.m hc9.m hc4.s (hc9.p1.trans hc4.p1.symm) (hc9.p2.trans hc4.p2.symm) (hc9.p3.trans hc4.p3.symm) (hc9.p4.trans hc4.p4.symm)) ?_
      rintro e w9 ⟨rfl, hb9⟩
      have hr9 := hr.below hb9
      exact hK.out _ _ (fun j => if j = 3 then true else ℓ j) ⟨tbV t a4, x49, tbV t a9, .bool true, x52, (by simp only [Act.put, List.setIfInBounds_toArray, List.set_cons_zero, List.set_cons_succ]), ⟨hr9.gb, hr9.f0, hr9.f1, hr9.f2, (fun _ => rfl), hr9.f4⟩⟩ (if_pos rfl) (fun j hj => if_neg hj)
    · obtain rfl := Option.some.inj ho
      have g : ℓ 3 = true := hdep { on := 3, ground := Ground.data } (by simp) rfl
      clear hdep ho
      obtain rfl := hr.f3 g
      rw [if_pos (by rfl)]
      try simp only [Act.put, List.setIfInBounds_toArray, List.set_cons_zero, List.set_cons_succ]
      go_simp
      exact hK.out _ _ (fun j => if j = 4 then true else ℓ j) ⟨x48, x49, x50, .bool true, .bool false, (by simp only [Act.put, List.setIfInBounds_toArray, List.set_cons_zero, List.set_cons_succ]), ⟨hr.gb, hr.f0, hr.f1, hr.f2, hr.f3, (fun _ => rfl)⟩⟩ (if_pos rfl) (fun j hj => if_neg hj)
  · rintro a' w' ℓ ℓ' hℓ hI
    rw [← show ℓ = ℓ' from funext hℓ]
    exact hI
end Go.Proofs.YtmnoghhdkdjnmaaGreatDoor
