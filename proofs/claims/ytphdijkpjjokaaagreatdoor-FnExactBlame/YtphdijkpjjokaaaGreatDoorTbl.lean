
/-
  The law on Blame, walked. Conditions: the lists lie in memory; the program's table of extras holds what the program's text lays.
-/
import Derived.Test.YtphdijkpjjokaaaGreatDoorBas
import Derived.Test.YtphdijkpjjokaaaGreatDoorBli
import Derived.Test.YtphdijkpjjokaaaGreatDoorLsw
namespace Go.Proofs.YtphdijkpjjokaaaGreatDoor
open Go.ChangeShapes Go.WideShapes Go.ChangeAt Go.RowKit Go.Deep Go.Joins
set_option linter.unusedVariables false

set_option maxRecDepth 20000 in
set_option maxHeartbeats 4000000 in
theorem sz_tab2 (t : Tb) (a : Ad) (w : World) (hm : TM 0 w t a) (hw : TW t a) :
    Calls Tryz.prog 6 #[tbV t a, .int .i64 1048576] w fun e w' => (∃ r : Int, e = .returned (.int .i64 r) ∧ (r = -1 ∨ (0 ≤ r ∧ r ≤ 1048576 ∧ TS a))) ∧ Below w.heap.size w w' := by
  have HM : Hid (TM 0 w t a) := hm
  have HW : Hid (TW t a) := hw
  clear hm hw
  have HB0 : Hid (Below w.heap.size w (w.alloc (.cells (tbA t a) 31))) := (Below.refl _ _).alloc (Nat.le_refl _) _
  have KB0 : Hid (Bk (w.alloc (.cells (tbA t a) 31)) w.heap.size (tbA t a)) := Bk.new w _ _ _ rfl
  have h8 := HW.out.db
  have h9 := HW.out.cb
  have h10 := HW.out.sb
  have HZ : Hid (∀ X, Below w.heap.size w X → Calls Tryz.prog 21 #[.slice a.pa a.pn a.pc, .int .i64 ((1048576 : Nat) : Int)] X fun e w' => (∃ r : Int, e = .returned (.int .i64 r) ∧ (r = -1 ∨ ∃ d : Nat, r = (d : Int) ∧ d ≤ 1048576 ∧ a.pn ≤ 1048576 ∧ ∀ i, i < a.pn → (a.Y i).wn ≤ 1048576 ∧ (a.Y i).nm.size ≤ 1048576)) ∧ Below X.heap.size X w') := fun X hX => sz_parts a.pa a.pc a.pn 1048576 a.Y X (HM.out.p.below hX).1.seg HW.out.pb (Nat.le_refl _) HW.out.wb
  go_enter Tryz.func6, Tryz.ntmps6
  go_wp2_with fail
  refine (HZ.out _ HB0.out).mono ?_
  rintro e1 w1 ⟨⟨r, rfl, hr⟩, hb1⟩
  have HB1 : Hid (Below w.heap.size w w1) := HB0.out.trans (hb1.mono HB0.out.size)
  have KB1 : Hid (Bk w1 w.heap.size (tbA t a)) := KB0.out.below hb1
  clear hb1 HB0 KB0 HZ
  rcases hr with rfl | ⟨D, rfl, hD, hp, hww⟩
  · go_wp2
    go_ret
    exact ⟨⟨_, rfl, .inl rfl⟩, HB1.out⟩
  have HP : Hid (a.pn ≤ 1048576 ∧ ∀ i, i < a.pn → (a.Y i).wn ≤ 1048576 ∧ (a.Y i).nm.size ≤ 1048576) := ⟨hp, hww⟩
  clear hp hww
  have hd0 : ¬ ((D : Int) < 0) := by omega
  have k16 : w1.cell? ⟨w.heap.size, 16, none⟩ = some (.slice a.da a.dn a.dc) := KB1.out.cell 16 _ rfl
  have k17 : w1.cell? ⟨w.heap.size, 17, none⟩ = some (.slice a.ca a.cn a.cc) := KB1.out.cell 17 _ rfl
  have k18 : w1.cell? ⟨w.heap.size, 18, none⟩ = some (.slice a.sa a.sn a.sc) := KB1.out.cell 18 _ rfl
  go_wp2_with fail
  refine (in_sz a.da a.dc a.dn D _ h8 hD).mono ?_
  rintro e2 w2 ⟨⟨r, rfl, hr⟩, rfl⟩
  rcases hr with rfl | ⟨hr, hd⟩
  · go_wp2
    go_ret
    exact ⟨⟨_, rfl, .inl rfl⟩, HB1.out⟩
  obtain ⟨E, hE⟩ : ∃ E : Nat, D - a.dn = E := ⟨_, rfl⟩
  rw [hE] at hr
  subst hr
  have hE2 : E ≤ 1048576 := by omega
  have he0 : ¬ ((E : Int) < 0) := by omega
  have HD : Hid (a.dn ≤ 1048576) := by show _ ≤ _; omega
  clear hE hd
  go_wp2_with fail
  refine (ch_sz a.ca a.cc a.cn E _ h9 hE2).mono ?_
  rintro e2 w2 ⟨⟨r, rfl, hr⟩, rfl⟩
  rcases hr with rfl | ⟨hr, hd⟩
  · go_wp2
    go_ret
    exact ⟨⟨_, rfl, .inl rfl⟩, HB1.out⟩
  obtain ⟨G, hG⟩ : ∃ G : Nat, E - a.cn = G := ⟨_, rfl⟩
  rw [hG] at hr
  subst hr
  have hG2 : G ≤ 1048576 := by omega
  have hg0 : ¬ ((G : Int) < 0) := by omega
  have HC : Hid (a.cn ≤ 1048576) := by show _ ≤ _; omega
  clear hG hd
  go_wp2_with fail
  refine (sl_sz a.sa a.sc a.sn G _ h10 hG2).mono ?_
  rintro e2 w2 ⟨⟨r, rfl, hr⟩, rfl⟩
  rcases hr with rfl | ⟨hr, hd⟩
  · go_wp2
    go_ret
    exact ⟨⟨_, rfl, .inl rfl⟩, HB1.out⟩
  obtain ⟨J, hJ⟩ : ∃ J : Nat, G - a.sn = J := ⟨_, rfl⟩
  rw [hJ] at hr
  subst hr
  have hj0 : ¬ ((J : Int) < 0) := by omega
  have HS : Hid (a.sn ≤ 1048576) := by show _ ≤ _; omega
  have hJ2 : J ≤ 1048576 := by omega
  clear hJ hd
  go_wp2
  go_ret
  exact ⟨⟨_, rfl, .inr ⟨by omega, by omega, HP.out.1, HD.out, HC.out, HS.out, HP.out.2⟩⟩, HB1.out⟩
set_option maxRecDepth 40000 in
set_option maxHeartbeats 16000000 in
theorem walk_blame (t : Tb) (a : Ad) (ia : Option Addr) (ic n : Nat) (xs : List saT) (w : World) (hm : TM 0 w t a) (hw : TW t a) (he : TabE w) (hi : GSeg 4 w ia n (saX xs)) (hl : xs.length = n) (hn : n ≤ 9223372036854775807) : Calls Tryz.prog 5 #[tbV t a, .slice ia n ic] w fun e w' => e = .returned (.bool true) ∧ Below w.heap.size w w' := by
  obtain ⟨q, HQ⟩ : ∃ q : Int, Hid (blmV t xs = q) := ⟨_, rfl⟩
  have HU : Hid (∀ X, Below w.heap.size w X → TM 0 X t a ∧ TabE X) := fun X hX => ⟨hm.below hX, he.below hX⟩
  have HW : Hid (TW t a) := hw
  have HI : Hid (∀ X, Below w.heap.size w X → GSeg 4 X ia n (saX xs)) := fun X hX => hi.below hX
  have HB0 : Hid (Below w.heap.size w (w.alloc (.cells (tbA t a) 31))) := (Below.refl _ _).alloc (Nat.le_refl _) _
  have HX0 : Hid ((w.alloc (.cells (tbA t a) 31)).heap[w.heap.size]? = some (.cells (tbA t a) 31 (0, 0))) := new_row w _ _ _ rfl
  clear hm hw he hi
  go_enter Tryz.func5, Tryz.ntmps5
  go_wp2_with (first | (refine wpList_load_row rfl 31 (.tmp 2) rfl w.heap.size rfl 31 (tbA t a) (0, 0) _ HX0.out Tryz.underlying31 rfl (by kernel_rfl) ?_) | fail)
  refine Calls.mono (sz_tab2 t a _ (HU.out _ HB0.out).1 HW.out) ?_
  rintro e w1 ⟨⟨r, rfl, hr⟩, hb⟩
  have HB1 : Hid (Below w.heap.size w w1) := HB0.out.trans (hb.mono HB0.out.size)
  have HX1 : Hid (w1.heap[w.heap.size]? = some (.cells (tbA t a) 31 (0, 0))) := row_below HX0.out hb
  clear hb HB0 HX0
  rcases hr with rfl | ⟨h0, h1, hs⟩
  · go_wp2
    go_ret
    exact ⟨rfl, HB1.out⟩
  have HS : Hid (TS a) := hs
  clear hs
  obtain ⟨L, rfl⟩ : ∃ L : Nat, r = (L : Int) := ⟨r.toNat, by omega⟩
  have hL : L ≤ 1048576 := by omega
  have hr0 : ¬ ((L : Int) < 0) := by omega
  go_wp2_with fail
  refine Calls.mono (sa_sz ia ic n L _ hn hL) ?_
  rintro e w2 ⟨⟨r, rfl, hr⟩, rfl⟩
  clear h0 h1 hr0
  rcases hr with hr | ⟨h0, hn2⟩
  · go_wp2
    go_ret
    exact ⟨rfl, HB1.out⟩
  have hr0 : ¬ (r < 0) := by omega
  have hn3 : n ≤ 1048576 := by omega
  have HTC : Hid (∀ X, Below w.heap.size w X → Calls Tryz.prog 17 #[.slice ia n ic] X fun e w' => ∃ a', e = .returned (.slice a' n n) ∧ Below X.heap.size X w' ∧ GSeg 4 w' a' n (saX xs)) := fun X hX => (sa_tos ia ic n xs X (HI.out X hX) hn3).mono fun e w' ⟨h1, h2, h3⟩ => ⟨_, h1, h2, h3.seg⟩
  have HTT : Hid (∀ X, Below w.heap.size w X → Calls Tryz.prog 8 #[tbV t a] X fun e w' => ∃ a', e = .returned (tbV t a') ∧ Below X.heap.size X w' ∧ Cpy w' t a a') := fun X hX => copy_tab t a X (HU.out X hX).1 HW.out HS.out
  have HSP : Hid (∀ (X : World) a2 a3, Cpy X t a a2 → GSeg 4 X a3 n (saX xs) → Calls Tryz.prog 19 #[tbV t a2, .slice a3 n n] X fun e w' => e = .returned (.int .i64 q) ∧ Below X.heap.size X w') := fun X a2 a3 hq1 hq2 => by subst hl; rw [← HQ.out]; exact spec_blame t a2 a3 _ xs X hq1.m hq1.w hq1.s hq2 hn3
  have HIM : Hid (∀ (X : World) a2 a3, Below w.heap.size w X → Cpy X t a a2 → GSeg 4 X a3 n (saX xs) → Calls Tryz.prog 20 #[tbV t a2, .slice a3 n n] X fun e w' => e = .returned (.int .i64 q) ∧ Below X.heap.size X w') := fun X a2 a3 hXB hq1 hq2 => by subst hl; rw [← HQ.out]; exact impl_blame t a2 a3 _ xs X hq1.m hq1.w hq1.s (HU.out X hXB).2 hq1.c hq1.c2 hq2 hn3
  have HEC : Hid (∀ (X : World) a2 a3, GSeg 4 X a2 n (saX xs) → GSeg 4 X a3 n (saX xs) → Calls Tryz.prog 10 #[.slice a2 n n, .slice a3 n n] X fun e w' => e = .returned (.bool true) ∧ Below X.heap.size X w') := fun X a2 a3 h1 h2 => sa_eqs a2 a3 n n n xs X h1 h2 hn3
  clear hn hn2 h0 hL HQ
  go_wp2_with (first | (refine wpList_load_row rfl 31 (.tmp 2) rfl w.heap.size rfl 31 (tbA t a) (0, 0) _ HX1.out Tryz.underlying31 rfl (by kernel_rfl) ?_) | fail)
  refine Calls.mono (HTT.out _ HB1.out) ?_
  rintro e w2 ⟨a2, rfl, hb, hc2⟩
  have HB2 : Hid (Below w.heap.size w w2) := HB1.out.trans (hb.mono HB1.out.size)
  have HX2 : Hid (w2.heap[w.heap.size]? = some (.cells (tbA t a) 31 (0, 0))) := row_below HX1.out hb
  have HC2 : Hid (Cpy w2 t a a2) := hc2
  clear hb hc2 HB1 HX1
  go_wp2_with fail
  refine Calls.mono (HTC.out _ HB2.out) ?_
  rintro e w3 ⟨a3, rfl, hb, hc3⟩
  have HB3 : Hid (Below w.heap.size w w3) := HB2.out.trans (hb.mono HB2.out.size)
  have HX3 : Hid (w3.heap[w.heap.size]? = some (.cells (tbA t a) 31 (0, 0))) := row_below HX2.out hb
  have HC3 : Hid (Cpy w3 t a a2) := HC2.out.below hb
  have HD3 : Hid (GSeg 4 w3 a3 n (saX xs)) := hc3
  clear hb hc3 HB2 HX2 HC2
  go_wp2_with fail
  refine Calls.mono (HSP.out _ a2 a3 HC3.out HD3.out) ?_
  rintro e w4 ⟨rfl, hb⟩
  have HB4 : Hid (Below w.heap.size w w4) := HB3.out.trans (hb.mono HB3.out.size)
  have HX4 : Hid (w4.heap[w.heap.size]? = some (.cells (tbA t a) 31 (0, 0))) := row_below HX3.out hb
  clear hb HB3 HX3 HC3 HD3 HSP
  go_wp2_with (first | (refine wpList_load_row rfl 31 (.tmp 2) rfl w.heap.size rfl 31 (tbA t a) (0, 0) _ HX4.out Tryz.underlying31 rfl (by kernel_rfl) ?_) | fail)
  refine Calls.mono (HTT.out _ HB4.out) ?_
  rintro e w5 ⟨a4, rfl, hb, hc4⟩
  have HNR : Hid ((w5.alloc (.cells #[.int .i64 0, .int .i64 0, .int .i64 0, .int .i64 0, .int .i64 0, .int .i64 0, .int .i64 0, .int .i64 0, .int .i64 0, .int .i64 0, .int .i64 0, .int .i64 0, .int .i64 0, .int .i64 0, .int .i64 0, .slice none 0 0, .slice none 0 0, .slice none 0 0, .slice none 0 0] 41)).heap[w5.heap.size]? = some (.cells #[.int .i64 0, .int .i64 0, .int .i64 0, .int .i64 0, .int .i64 0, .int .i64 0, .int .i64 0, .int .i64 0, .int .i64 0, .int .i64 0, .int .i64 0, .int .i64 0, .int .i64 0, .int .i64 0, .int .i64 0, .slice none 0 0, .slice none 0 0, .slice none 0 0, .slice none 0 0] 41 (0, 0))) := new_row w5 _ _ _ rfl
  have hbV : Below w5.heap.size w5 ((w5.alloc (.cells #[.int .i64 0, .int .i64 0, .int .i64 0, .int .i64 0, .int .i64 0, .int .i64 0, .int .i64 0, .int .i64 0, .int .i64 0, .int .i64 0, .int .i64 0, .int .i64 0, .int .i64 0, .int .i64 0, .int .i64 0, .slice none 0 0, .slice none 0 0, .slice none 0 0, .slice none 0 0] 41)).setRow w5.heap.size (tbA t a4)) := below_setRow ((Below.refl _ _).alloc (Nat.le_refl _) _) (Nat.le_refl _) _
  have HXB : Hid (((w5.alloc (.cells #[.int .i64 0, .int .i64 0, .int .i64 0, .int .i64 0, .int .i64 0, .int .i64 0, .int .i64 0, .int .i64 0, .int .i64 0, .int .i64 0, .int .i64 0, .int .i64 0, .int .i64 0, .int .i64 0, .int .i64 0, .slice none 0 0, .slice none 0 0, .slice none 0 0, .slice none 0 0] 41)).setRow w5.heap.size (tbA t a4)).heap[w5.heap.size]? = some (.cells (tbA t a4) 41 (0, 0))) := setRow_heap _ _ _ _ _ _ HNR.out
  have hb2 := hb.trans (hbV.mono hb.size)
  have HB5 : Hid (Below w.heap.size w ((w5.alloc (.cells #[.int .i64 0, .int .i64 0, .int .i64 0, .int .i64 0, .int .i64 0, .int .i64 0, .int .i64 0, .int .i64 0, .int .i64 0, .int .i64 0, .int .i64 0, .int .i64 0, .int .i64 0, .int .i64 0, .int .i64 0, .slice none 0 0, .slice none 0 0, .slice none 0 0, .slice none 0 0] 41)).setRow w5.heap.size (tbA t a4))) := HB4.out.trans (hb2.mono HB4.out.size)
  have HX5 : Hid (((w5.alloc (.cells #[.int .i64 0, .int .i64 0, .int .i64 0, .int .i64 0, .int .i64 0, .int .i64 0, .int .i64 0, .int .i64 0, .int .i64 0, .int .i64 0, .int .i64 0, .int .i64 0, .int .i64 0, .int .i64 0, .int .i64 0, .slice none 0 0, .slice none 0 0, .slice none 0 0, .slice none 0 0] 41)).setRow w5.heap.size (tbA t a4)).heap[w.heap.size]? = some (.cells (tbA t a) 31 (0, 0))) := row_below HX4.out hb2
  have HC5 : Hid (Cpy ((w5.alloc (.cells #[.int .i64 0, .int .i64 0, .int .i64 0, .int .i64 0, .int .i64 0, .int .i64 0, .int .i64 0, .int .i64 0, .int .i64 0, .int .i64 0, .int .i64 0, .int .i64 0, .int .i64 0, .int .i64 0, .int .i64 0, .slice none 0 0, .slice none 0 0, .slice none 0 0, .slice none 0 0] 41)).setRow w5.heap.size (tbA t a4)) t a a4) := hc4.below hbV
  clear hb hb2 hbV hc4 HB4 HX4
  go_wp2_with (first | (refine wpList_store_row rfl 41 (.tmp 7) (.tmp 26) rfl w5.heap.size (tbA t a4) rfl rfl 41 #[.int .i64 0, .int .i64 0, .int .i64 0, .int .i64 0, .int .i64 0, .int .i64 0, .int .i64 0, .int .i64 0, .int .i64 0, .int .i64 0, .int .i64 0, .int .i64 0, .int .i64 0, .int .i64 0, .int .i64 0, .slice none 0 0, .slice none 0 0, .slice none 0 0, .slice none 0 0] HNR.out (by kernel_rfl) rfl (by simp [Value.oneCell']) ?_) | fail)
  clear HNR
  revert HXB HB5 HX5 HC5
  generalize ((w5.alloc (.cells #[.int .i64 0, .int .i64 0, .int .i64 0, .int .i64 0, .int .i64 0, .int .i64 0, .int .i64 0, .int .i64 0, .int .i64 0, .int .i64 0, .int .i64 0, .int .i64 0, .int .i64 0, .int .i64 0, .int .i64 0, .slice none 0 0, .slice none 0 0, .slice none 0 0, .slice none 0 0] 41)).setRow w5.heap.size (tbA t a4)) = V5
  intro HXB HB5 HX5 HC5
  obtain ⟨N, hN⟩ : ∃ N, w5.heap.size = N := ⟨_, rfl⟩
  rw [hN] at HXB
  rw [hN]
  clear hN
  refine Calls.mono (HTC.out _ HB5.out) ?_
  rintro e w6 ⟨a5, rfl, hb, hc5⟩
  have HB6 : Hid (Below w.heap.size w w6) := HB5.out.trans (hb.mono HB5.out.size)
  have HX6 : Hid (w6.heap[w.heap.size]? = some (.cells (tbA t a) 31 (0, 0))) := row_below HX5.out hb
  have HY6 : Hid (w6.heap[N]? = some (.cells (tbA t a4) 41 (0, 0))) := row_below HXB.out hb
  have HC6 : Hid (Cpy w6 t a a4) := HC5.out.below hb
  have HR6 : Hid (GSeg 4 w6 a5 n (saX xs)) := hc5
  clear hb hc5 HB5 HX5 HXB HC5
  go_wp2_with (first | (refine wpList_load_row rfl 41 (.tmp 7) rfl N rfl 41 (tbA t a4) (0, 0) _ HY6.out Tryz.underlying41 rfl (by kernel_rfl) ?_) | fail)
  refine Calls.mono (HIM.out _ a4 a5 HB6.out HC6.out HR6.out) ?_
  rintro e w7 ⟨rfl, hb⟩
  have HB7 : Hid (Below w.heap.size w w7) := HB6.out.trans (hb.mono HB6.out.size)
  have HX7 : Hid (∀ X, Below w7.heap.size w7 X → X.heap[w.heap.size]? = some (.cells (tbA t a) 31 (0, 0))) := fun X hX => row_below (row_below HX6.out hb) hX
  have HY7 : Hid (∀ X, Below w7.heap.size w7 X → X.heap[N]? = some (.cells (tbA t a4) 41 (0, 0))) := fun X hX => row_below (row_below HY6.out hb) hX
  have HC7 : Hid (∀ X, Below w7.heap.size w7 X → Cpy X t a a4) := fun X hX => (HC6.out.below hb).below hX
  have HR7 : Hid (GSeg 4 w7 a5 n (saX xs)) := HR6.out.below hb
  clear hb HB6 HX6 HY6 HC6 HR6 HIM
  have hqq : (q != q) = false := by simp
  go_wp2
  refine wp_region_inv (by kernel_rfl) (by kernel_rfl) (fun A ℓ a' w' => ∃ (x39 x40 x41 x42 x43 : Value), a' = (((((A.put (some 35) x39).put (some 36) x40).put (some 37) x41).put (some 38) x42).put (some 39) x43) ∧ TI t a a4 w7 w' (ℓ 0) (ℓ 1) (ℓ 2) (ℓ 3) (ℓ 4) x39 x40 x41 x42 x43) ?_ ?_ ?_ ?_
  · exact ⟨undef, undef, undef, undef, undef, (by simp only [Act.put, List.setIfInBounds_toArray, List.set_cons_zero, List.set_cons_succ]), ⟨(Below.refl _ _).drew, (fun g => by cases g), (fun g => by cases g), (fun g => by cases g), (fun g => by cases g), (fun g => by cases g)⟩⟩
  · intro ℓ a' w8 hI hall
    obtain ⟨x39, x40, x41, x42, x43, rfl, hr⟩ := hI
    have hall' : ∀ i, i < 5 → ℓ i = true := hall
    obtain rfl := hr.f4 (hall' 4 (by omega))
    have hb := hr.gb
    clear hr hall hall'
    simp only [Act.put, List.setIfInBounds_toArray, List.set_cons_zero, List.set_cons_succ]
    have HB8 : Hid (Below w.heap.size w w8) := HB7.out.trans (hb.mono HB7.out.size)
    have HR8 : Hid (GSeg 4 w8 a5 n (saX xs)) := HR7.out.below hb
    clear hb HB7 HR7 HX7 HY7 HC7
    go_wp2_with fail
    refine Calls.mono (HTC.out _ HB8.out) ?_
    rintro e w9 ⟨a6, rfl, hb, hc6⟩
    have HB9 : Hid (Below w.heap.size w w9) := HB8.out.trans (hb.mono HB8.out.size)
    have HR9 : Hid (GSeg 4 w9 a5 n (saX xs)) := HR8.out.below hb
    have HD9 : Hid (GSeg 4 w9 a6 n (saX xs)) := hc6
    clear hb hc6 HB8 HR8
    go_wp2_with fail
    refine Calls.mono (HEC.out _ a5 a6 HR9.out HD9.out) ?_
    rintro e w10 ⟨rfl, hb⟩
    have HE : Hid (Below w.heap.size w w10) := HB9.out.trans (hb.mono HB9.out.size)
    clear hb HB9 HR9 HD9
    go_wp2
    go_ret
    exact ⟨rfl, HE.out⟩
  · intro ℓ a' w' i o hI ho hi hL hdep K hK
    obtain ⟨x39, x40, x41, x42, x43, rfl, hr⟩ := hI
    have hi7 : i < 5 := hi
    have hcs : i = 0 ∨ i = 1 ∨ i = 2 ∨ i = 3 ∨ i = 4 := by omega
    clear hi hi7
    rcases hcs with rfl | rfl | rfl | rfl | rfl
    · replace ho : some ({ dst := some 35, op := .load 41 (.tmp 7), type := 41, pos := "exact.go:7407", after := #[], guard := none } : Oper) = some o := ho
      obtain rfl := Option.some.inj ho
      clear hdep ho
      rw [if_pos (by rfl)]
      try simp only [Act.put, List.setIfInBounds_toArray, List.set_cons_zero, List.set_cons_succ]
      refine wp_load_row (P := Tryz.prog) 41 (.tmp 7) rfl N rfl 41 (tbA t a4) (0, 0) _ (HY7.out _ hr.gb) Tryz.underlying41 rfl (by kernel_rfl) ?_
      exact hK.out _ _ (fun j => if j = 0 then true else ℓ j) ⟨tbV t a4, x40, x41, x42, x43, (by simp only [Act.put, List.setIfInBounds_toArray, List.set_cons_zero, List.set_cons_succ]), ⟨hr.gb, (fun _ => rfl), hr.f1, hr.f2, hr.f3, hr.f4⟩⟩ (if_pos rfl) (fun j hj => if_neg hj)
    · replace ho : some ({ dst := some 36, op := .load 31 (.tmp 2), type := 31, pos := "exact.go:7407", after := #[], guard := none } : Oper) = some o := ho
      obtain rfl := Option.some.inj ho
      clear hdep ho
      rw [if_pos (by rfl)]
      try simp only [Act.put, List.setIfInBounds_toArray, List.set_cons_zero, List.set_cons_succ]
      refine wp_load_row (P := Tryz.prog) 31 (.tmp 2) rfl w.heap.size rfl 31 (tbA t a) (0, 0) _ (HX7.out _ hr.gb) Tryz.underlying31 rfl (by kernel_rfl) ?_
      exact hK.out _ _ (fun j => if j = 1 then true else ℓ j) ⟨x39, tbV t a, x41, x42, x43, (by simp only [Act.put, List.setIfInBounds_toArray, List.set_cons_zero, List.set_cons_succ]), ⟨hr.gb, hr.f0, (fun _ => rfl), hr.f2, hr.f3, hr.f4⟩⟩ (if_pos rfl) (fun j hj => if_neg hj)
    · obtain rfl := Option.some.inj ho
      have g : ℓ 1 = true := hdep { on := 1, ground := Ground.data } (by simp) rfl
      clear hdep ho
      obtain rfl := hr.f1 g
      rw [if_pos (by rfl)]
      try simp only [Act.put, List.setIfInBounds_toArray, List.set_cons_zero, List.set_cons_succ]
      go_simp
      refine Calls.mono (HTT.out _ (HB7.out.trans (hr.gb.mono HB7.out.size))) ?_
      rintro e w9 ⟨a9, rfl, hb9, hc9⟩
      have hr9 := hr.below hb9
      exact hK.out _ _ (fun j => if j = 2 then true else ℓ j) ⟨x39, tbV t a, tbV t a9, x42, x43, (by simp only [Act.put, List.setIfInBounds_toArray, List.set_cons_zero, List.set_cons_succ]), ⟨hr9.gb, hr9.f0, hr9.f1, (fun _ => ⟨a9, rfl, hc9⟩), hr9.f3, hr9.f4⟩⟩ (if_pos rfl) (fun j hj => if_neg hj)
    · obtain rfl := Option.some.inj ho
      have g0 : ℓ 0 = true := hdep { on := 0, ground := Ground.data } (by simp) rfl
      have g2 : ℓ 2 = true := hdep { on := 2, ground := Ground.data } (by simp) rfl
      clear hdep ho
      obtain rfl := hr.f0 g0
      obtain ⟨a9, rfl, hc9⟩ := hr.f2 g2
      have hc4 := HC7.out _ hr.gb
      rw [if_pos (by rfl)]
      try simp only [Act.put, List.setIfInBounds_toArray, List.set_cons_zero, List.set_cons_succ]
      go_simp
      refine Calls.mono (eq_tab t a4 a9 _ hc4.m hc9.m hc4.s (hc9.p1.trans hc4.p1.symm) (hc9.p2.trans hc4.p2.symm) (hc9.p3.trans hc4.p3.symm) (hc9.p4.trans hc4.p4.symm)) ?_
      rintro e w9 ⟨rfl, hb9⟩
      have hr9 := hr.below hb9
      exact hK.out _ _ (fun j => if j = 3 then true else ℓ j) ⟨tbV t a4, x40, tbV t a9, .bool true, x43, (by simp only [Act.put, List.setIfInBounds_toArray, List.set_cons_zero, List.set_cons_succ]), ⟨hr9.gb, hr9.f0, hr9.f1, hr9.f2, (fun _ => rfl), hr9.f4⟩⟩ (if_pos rfl) (fun j hj => if_neg hj)
    · obtain rfl := Option.some.inj ho
      have g : ℓ 3 = true := hdep { on := 3, ground := Ground.data } (by simp) rfl
      clear hdep ho
      obtain rfl := hr.f3 g
      rw [if_pos (by rfl)]
      try simp only [Act.put, List.setIfInBounds_toArray, List.set_cons_zero, List.set_cons_succ]
      go_simp
      exact hK.out _ _ (fun j => if j = 4 then true else ℓ j) ⟨x39, x40, x41, .bool true, .bool false, (by simp only [Act.put, List.setIfInBounds_toArray, List.set_cons_zero, List.set_cons_succ]), ⟨hr.gb, hr.f0, hr.f1, hr.f2, hr.f3, (fun _ => rfl)⟩⟩ (if_pos rfl) (fun j hj => if_neg hj)
  · rintro a' w' ℓ ℓ' hℓ hI
    rw [← show ℓ = ℓ' from funext hℓ]
    exact hI
end Go.Proofs.YtphdijkpjjokaaaGreatDoor
