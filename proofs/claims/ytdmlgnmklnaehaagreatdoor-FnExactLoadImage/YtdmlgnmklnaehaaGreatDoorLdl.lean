
/-
  An image laid from words: the law, walked. Conditions: the lists lie in memory; the words are words; the program's table of extras holds what the program's text lays.
-/
import Derived.Test.YtdmlgnmklnaehaaGreatDoorBas
import Derived.Test.YtdmlgnmklnaehaaGreatDoorLdq
import Derived.Test.YtdmlgnmklnaehaaGreatDoorMkt
namespace Go.Proofs.YtdmlgnmklnaehaaGreatDoor
open Go.ChangeShapes Go.WideShapes Go.ChangeAt Go.RowKit Go.Deep Go.Joins
set_option linter.unusedVariables false

set_option maxRecDepth 40000 in
set_option maxHeartbeats 4000000 in
theorem mk_tab2 (t : Tb) (a : Ad) (lo hi : Nat) (w : World) (hT : WT lo hi w a) (hs : TS a) (hhi : hi ≤ w.heap.size) :
    Calls Tryz.prog 13 #[tbV t a, .int .i64 1] w fun e w' => (∃ r : Int, e = .returned (.int .i64 r) ∧ 0 ≤ r ∧ r ≤ 7000000000000) ∧ Mk lo hi w w' := by
  have HHI : Hid (hi ≤ w.heap.size) := hhi
  have HP : Hid (WP lo hi w a.pa a.pn a.Y) := hT.p
  have HD : Hid (WR 1 lo hi w a.da a.dn) := hT.d
  have HCH : Hid (WR 4 lo hi w a.ca a.cn) := hT.c
  have HSL : Hid (WR 3 lo hi w a.sa a.sn) := hT.s
  clear hhi hT
  have h1 := hs.p
  have h2 := hs.d
  have h3 := hs.c
  have h4 := hs.s
  have HWN : Hid (∀ i, i < a.pn → (a.Y i).wn ≤ 1048576) := fun i hi => (hs.w i hi).1
  have HB0 : Hid (Below w.heap.size w (w.alloc (.cells (tbA t a) 43))) := (Below.refl _ _).alloc (Nat.le_refl _) _
  have KB0 : Hid (Bk (w.alloc (.cells (tbA t a) 43)) w.heap.size (tbA t a)) := Bk.new w _ _ _ rfl
  have HP0 : Hid (WP lo hi (w.alloc (.cells (tbA t a) 43)) a.pa a.pn a.Y) := ⟨HP.out.r.below HB0.out, fun b off e i hi => kept_cell HB0.out (HP.out.g b off e i hi), fun b off e i hi => (HP.out.v b off e i hi).below HB0.out⟩
  have k15 : (w.alloc (.cells (tbA t a) 43)).cell? ⟨w.heap.size, 15, none⟩ = some (.slice a.pa a.pn a.pc) := KB0.out.cell 15 _ rfl
  have M0 : Hid (Mk lo hi w (w.alloc (.cells (tbA t a) 43))) := (Mk.refl _ _ _).below HB0.out
  clear hs HP
  go_enter Tryz.func13, Tryz.ntmps13
  go_wp2_with fail
  refine Calls.mono (mk_parts lo hi a.pc a.pn 1 a.pa a.Y _ HP0.out h1 HWN.out (by omega) (by omega)) ?_
  rintro e w1 ⟨⟨r1, rfl, hr10, hr11⟩, hmk1⟩
  have M1 : Hid (Mk lo hi w w1) := M0.out.trans hmk1
  have hbl1 : w1.heap[w.heap.size]? = (w.alloc (.cells (tbA t a) 43)).heap[w.heap.size]? := hmk1.b.block _ KB0.out.lt (.inr HHI.out)
  have HK1 : Hid (∀ i v, (tbA t a)[i]? = some v → w1.cell? ⟨w.heap.size, i, none⟩ = some v) := fun i v hv => (World.cell?_of_block (a := ⟨w.heap.size, i, none⟩) hbl1).trans (KB0.out.cell i v hv)
  have HL1 : Hid (w.heap.size < w1.heap.size) := Nat.lt_of_lt_of_le KB0.out.lt hmk1.b.size
  have k16 : w1.cell? ⟨w.heap.size, 16, none⟩ = some (.slice a.da a.dn a.dc) := HK1.out 16 _ rfl
  clear hmk1 hbl1 HB0 KB0 HP0 k15 M0
  go_wp2_with fail
  refine Calls.mono (mk_ints lo hi a.dc a.dn r1 a.da _ (HD.out.mk M1.out) h2 hr10 (by omega)) ?_
  rintro e w2 ⟨rfl, hmk2⟩
  have M2 : Hid (Mk lo hi w w2) := M1.out.trans hmk2
  have hbl2 : w2.heap[w.heap.size]? = w1.heap[w.heap.size]? := hmk2.b.block _ HL1.out (.inr HHI.out)
  have HK2 : Hid (∀ i v, (tbA t a)[i]? = some v → w2.cell? ⟨w.heap.size, i, none⟩ = some v) := fun i v hv => (World.cell?_of_block (a := ⟨w.heap.size, i, none⟩) hbl2).trans (HK1.out i v hv)
  have HL2 : Hid (w.heap.size < w2.heap.size) := Nat.lt_of_lt_of_le HL1.out hmk2.b.size
  have k17 : w2.cell? ⟨w.heap.size, 17, none⟩ = some (.slice a.ca a.cn a.cc) := HK2.out 17 _ rfl
  clear hmk2 hbl2 HK1 HL1 k16 M1
  obtain ⟨r2, hr2⟩ : ∃ r, r1 + 1 * (a.dn : Int) = r := ⟨_, rfl⟩
  have hr20 : 0 ≤ r2 ∧ r2 ≤ 5000000000000 := by omega
  rw [hr2]
  clear hr2
  go_wp2_with fail
  refine Calls.mono (mk_chans lo hi a.cc a.cn r2 a.ca _ (HCH.out.mk M2.out) h3 hr20.1 (by omega)) ?_
  rintro e w3 ⟨rfl, hmk3⟩
  have M3 : Hid (Mk lo hi w w3) := M2.out.trans hmk3
  have hbl3 : w3.heap[w.heap.size]? = w2.heap[w.heap.size]? := hmk3.b.block _ HL2.out (.inr HHI.out)
  have k18 : w3.cell? ⟨w.heap.size, 18, none⟩ = some (.slice a.sa a.sn a.sc) := (World.cell?_of_block (a := ⟨w.heap.size, 18, none⟩) hbl3).trans (HK2.out 18 _ rfl)
  clear hmk3 hbl3 HK2 HL2 k17 M2
  obtain ⟨r3, hr3⟩ : ∃ r, r2 + 4 * (a.cn : Int) = r := ⟨_, rfl⟩
  have hr30 : 0 ≤ r3 ∧ r3 ≤ 6000000000000 := by omega
  rw [hr3]
  clear hr3
  go_wp2_with fail
  refine Calls.mono (mk_slots lo hi a.sc a.sn r3 a.sa _ (HSL.out.mk M3.out) h4 hr30.1 (by omega)) ?_
  rintro e w4 ⟨rfl, hmk4⟩
  have M4 : Hid (Mk lo hi w w4) := M3.out.trans hmk4
  clear hmk4 M3 k18
  go_wp2
  go_ret
  exact ⟨⟨_, rfl, by omega, by omega⟩, M4.out⟩
set_option maxRecDepth 20000 in
set_option maxHeartbeats 4000000 in
theorem mk_words (lo hi cap n : Nat) (K0 : Int) (a : Option Addr) (w : World) (ho : WR 1 lo hi w a n) (hn : n ≤ 1048576) (h0 : 0 ≤ K0) (hk : K0 ≤ 1125899906842624) :
    Calls Tryz.prog 14 #[.slice a n cap, .int .i64 K0] w fun e w' => e = .returned (.int .i64 (K0 + 1 * (n : Int))) ∧ Mk lo hi w w' := by
  by_cases hn0 : n = 0
  · subst hn0
    go_enter Tryz.func14, Tryz.ntmps14
    go_wp2
    refine wp_loop_rounds 1 ?_
    rw [rounds_succ]
    go_wp2
    go_ret
    exact ⟨ret_int (by simp), Mk.refl _ _ _⟩
  obtain ⟨B, off, rfl, hB1, hB2, hB3, hc, hf⟩ := ho (by omega)
  have HC : Hid (∀ i j, i < n → j < 1 → ∃ u, w.cell? ⟨B, off + i * 1 + j, none⟩ = some u) := hc
  have HF : Hid (∀ j, w.frozen? ⟨B, j, none⟩ = false) := hf
  have HB : Hid (lo ≤ B ∧ B < hi ∧ B < w.heap.size) := ⟨hB1, hB2, hB3⟩
  clear hc hf ho hB1 hB2 hB3
  go_enter Tryz.func14, Tryz.ntmps14
  go_wp2
  go_loopw [1, 5] (fun t i wr => ∃ (m : Nat) (K : Int), m ≤ n ∧ K = K0 + 1 * (m : Int) ∧ i = .int .i64 m ∧ t = .int .i64 K ∧ Hid (Mk lo hi w wr)) (fun _ i _ => n - (intOf i).toNat)
  case atStart => exact ⟨0, K0, by omega, by omega, rfl, rfl, Mk.refl _ _ _⟩
  case round =>
    obtain ⟨m, K, hm, hK, rfl, rfl, HR⟩ := hrel
    have HKE : Hid (K = K0 + 1 * (m : Int)) := hK
    have hKb : 0 ≤ K ∧ K ≤ 1125899911036928 := by omega
    clear hK
    by_cases hmn : m < n
    rotate_left
    · obtain rfl : m = n := by omega
      have HE : Hid (K = K0 + 1 * (m : Int)) := HKE.out
      clear HKE
      go_wp2
      go_ret
      exact ⟨ret_int HE.out, HR.out⟩
    have hmn' : (m : Int) < (n : Int) := by omega
    obtain ⟨u0, c00⟩ := HR.out.c B (off + m * 1 + 0) HB.out.2.2 (HC.out m 0 hmn (by omega))
    have f0 : wr.frozen? ⟨B, off + m * 1, none⟩ = false := (HR.out.f B _ HB.out.2.2).trans (HF.out _)
    rw [Nat.add_zero] at c00
    rw [Nat.mul_one] at c00 f0
    have HR2 : Hid (Mk lo hi w (wr.setCell ⟨B, off + m, none⟩ (.int .u32 (K % 4294967296)))) := (HR.out.set HB.out.1 HB.out.2.1)
    have HK2 : Hid (K + 1 = K0 + 1 * ((m + 1 : Nat) : Int)) := by have := HKE.out; show _ = _; omega
    have hw1 : IntKind.i64.wrap (K + 1) = K + 1 := by rw [IntKind.wrap_i64]; omega
    clear HR HKE
    go_wp2
    go_roundw
    case rel => exact ⟨m + 1, K + 1, by omega, HK2.out, by go_num, by first | rfl | go_num, HR2.out⟩
    case measure => simp [intOf]; omega
theorem copy_own (t : Tb) (a : Ad) (w : World) (hm : TM 0 w t a) (hw : TW t a) (hs : TS a) : Calls Tryz.prog 7 #[tbV t a] w fun e w' => ∃ a', e = .returned (tbV t a') ∧ Below w.heap.size w w' ∧ TM w.heap.size w' t a' ∧ Cpy w' t a a' :=
  (to_tab t a w hm hs).mono fun e w' ⟨a', he, hb, hm', e4, c4⟩ => by
    obtain ⟨h1, h2⟩ := ad_carry hm hm' hw hs e4
    exact ⟨a', he, hb, hm', ⟨hm'.wide (Nat.zero_le _), h1, h2, by rw [c4.1, e4.1]; exact Nat.le_refl _, by rw [c4.2.2.2, e4.2.2.2]; exact Nat.le_refl _, e4.1, e4.2.1, e4.2.2.1, e4.2.2.2⟩⟩
theorem tabE_pos {w : World} (h : TabE w) : 0 < w.heap.size := Nat.lt_of_le_of_lt (Nat.zero_le _) (World.block_lt_of_cell? w _ (h 0 (by omega)))
theorem words_wr {w : World} {B n : Nat} {zs : List Int} (h : Own .u32 w B zs) (hl : zs.length = n) : WR 1 B (B + 1) w (some ⟨B, 0, none⟩) n := fun h0 =>
  ⟨B, 0, rfl, Nat.le_refl _, Nat.lt_succ_self _, h.lt, fun i j hi hj => ⟨_, by
    obtain rfl : j = 0 := by omega
    have := h.cell i (by omega)
    simpa using this⟩, h.free⟩
set_option maxRecDepth 40000 in
set_option maxHeartbeats 8000000 in
theorem walk_loadimage (t : Tb) (a : Ad) (x : Int) (wa : Option Addr) (wc n : Nat) (zs : List Int) (w : World) (hm : TM 0 w t a) (hw : TW t a) (he : TabE w) (hg : Seg .u32 w wa zs) (hl : zs.length = n) (hz : ∀ z ∈ zs, 0 ≤ z ∧ z ≤ 4294967295) (hnn : n ≤ 9223372036854775807) : Calls Tryz.prog 3 #[tbV t a, .int .i64 x, .slice wa n wc] w fun e w' => e = .returned (.bool true) ∧ Below w.heap.size w w' := by
  have HU : Hid (∀ X, Below w.heap.size w X → TM 0 X t a ∧ TabE X) := fun X hX => ⟨hm.below hX, he.below hX⟩
  have HW : Hid (TW t a) := hw
  have HPOS : Hid (0 < w.heap.size) := tabE_pos he
  have HG : Hid (∀ X, Below w.heap.size w X → Seg .u32 X wa zs) := fun X hX => hg.below hX
  have HB0 : Hid (Below w.heap.size w (w.alloc (.cells (tbA t a) 31))) := (Below.refl _ _).alloc (Nat.le_refl _) _
  have HX0 : Hid ((w.alloc (.cells (tbA t a) 31)).heap[w.heap.size]? = some (.cells (tbA t a) 31 (0, 0))) := new_row w _ _ _ rfl
  clear hm hw he hg
  go_enter Tryz.func3, Tryz.ntmps3
  by_cases hn3 : n ≤ 1048576
  rotate_left
  · have hgt : (1048576 : Int) < (n : Int) := by omega
    go_wp2
    go_ret
    exact ⟨rfl, HB0.out⟩
  have hgt : ¬ ((1048576 : Int) < (n : Int)) := by omega
  obtain ⟨nr, D, q, HND, HSPC, HIM⟩ := ld_all t x n zs hl hn3 hz
  have HZL : Hid (zs.length = n) := hl
  have HTW : Hid (∀ X, Below w.heap.size w X → Calls Tryz.prog 8 #[.slice wa n wc] X fun e w' => e = .returned (.slice (some ⟨X.heap.size, 0, none⟩) n n) ∧ Below X.heap.size X w' ∧ Own .u32 w' X.heap.size zs) := fun X hX => to_regs wa wc n zs X (HG.out X hX) hl hn3
  clear HG hz hnn hl
  go_wp2_with (first | (refine wpList_load_row rfl 31 (.tmp 3) rfl w.heap.size rfl 31 (tbA t a) (0, 0) _ HX0.out Tryz.underlying31 rfl (by kernel_rfl) ?_) | fail)
  refine Calls.mono (sz_tab t a _ (HU.out _ HB0.out).1 HW.out) ?_
  rintro e w1 ⟨⟨r, rfl, hr⟩, hb1⟩
  have HB1 : Hid (Below w.heap.size w w1) := HB0.out.trans (hb1.mono HB0.out.size)
  have HX1 : Hid (w1.heap[w.heap.size]? = some (.cells (tbA t a) 31 (0, 0))) := row_below HX0.out hb1
  clear hb1 HB0 HX0
  rcases hr with rfl | ⟨h0, hs⟩
  · go_wp2
    go_ret
    exact ⟨rfl, HB1.out⟩
  have HS : Hid (TS a) := hs
  clear hs
  have hr0 : ¬ (r < 0) := by omega
  go_wp2_with (first | (refine wpList_load_row rfl 31 (.tmp 3) rfl w.heap.size rfl 31 (tbA t a) (0, 0) _ HX1.out Tryz.underlying31 rfl (by kernel_rfl) ?_) | fail)
  refine Calls.mono (copy_tab t a _ (HU.out _ HB1.out).1 HW.out HS.out) ?_
  rintro e u2 ⟨a2, rfl, hb2, hc2⟩
  have HB2' : Hid (Below w.heap.size w u2) := HB1.out.trans (hb2.mono HB1.out.size)
  have HX2' : Hid (u2.heap[w.heap.size]? = some (.cells (tbA t a) 31 (0, 0))) := row_below HX1.out hb2
  have HC2' : Hid (Cpy u2 t a a2) := hc2
  clear hb2 hc2 HB1 HX1 h0 hr0
  go_wp2_with fail
  refine Calls.mono (HTW.out _ HB2'.out) ?_
  rintro e w2 ⟨rfl, hb2, hw2⟩
  have HB2 : Hid (Below w.heap.size w w2) := HB2'.out.trans (hb2.mono HB2'.out.size)
  have HX2 : Hid (w2.heap[w.heap.size]? = some (.cells (tbA t a) 31 (0, 0))) := row_below HX2'.out hb2
  have HC2 : Hid (Cpy w2 t a a2) := HC2'.out.below hb2
  have HW2 : Hid (Seg .u32 w2 (some ⟨u2.heap.size, 0, none⟩) zs) := hw2.seg
  clear hb2 hw2 HB2' HX2' HC2'
  go_wp2_with fail
  refine Calls.mono (HSPC.out a2 _ n w2 HC2.out.m HC2.out.w HC2.out.s HW2.out) ?_
  rintro e w3 ⟨A1, c1, rfl, hb3, hA1⟩
  have HB3 : Hid (Below w.heap.size w w3) := HB2.out.trans (hb3.mono HB2.out.size)
  have HX3 : Hid (w3.heap[w.heap.size]? = some (.cells (tbA t a) 31 (0, 0))) := row_below HX2.out hb3
  have HL3 : Hid (w.heap.size ≤ w2.heap.size) := HB2.out.size
  have HA3 : Hid (BRows w3 w2.heap.size w3.heap.size A1 nr D) := hA1
  clear hb3 HB2 HX2 HC2 hA1 HW2 HSPC
  go_wp2_with (first | (refine wpList_load_row rfl 31 (.tmp 3) rfl w.heap.size rfl 31 (tbA t a) (0, 0) _ HX3.out Tryz.underlying31 rfl (by kernel_rfl) ?_) | fail)
  refine Calls.mono (copy_own t a _ (HU.out _ HB3.out).1 HW.out HS.out) ?_
  rintro e w4 ⟨a4, rfl, hb4, hm4, hc4⟩
  have HB4 : Hid (Below w.heap.size w w4) := HB3.out.trans (hb4.mono HB3.out.size)
  have HX4 : Hid (w4.heap[w.heap.size]? = some (.cells (tbA t a) 31 (0, 0))) := row_below HX3.out hb4
  have HC4 : Hid (Cpy w4 t a a4) := hc4
  have HM4 : Hid (WT w3.heap.size w4.heap.size w4 a4) := hm4.wt (Nat.lt_of_lt_of_le HPOS.out HB3.out.size)
  have HA4 : Hid (BRows w4 w2.heap.size w3.heap.size A1 nr D) := HA3.out.below hb4
  have HLO : Hid (w.heap.size < w3.heap.size ∧ w3.heap.size ≤ w4.heap.size) := ⟨(Array.getElem?_eq_some_iff.1 HX3.out).1, hb4.size⟩
  clear hb4 hc4 HB3 HX3 hm4 HA3
  have HN : Hid ((w4.alloc (.cells #[.int .i64 0, .int .i64 0, .int .i64 0, .int .i64 0, .int .i64 0, .int .i64 0, .int .i64 0, .int .i64 0, .int .i64 0, .int .i64 0, .int .i64 0, .int .i64 0, .int .i64 0, .int .i64 0, .int .i64 0, .slice none 0 0, .slice none 0 0, .slice none 0 0, .slice none 0 0] 43)).heap[w4.heap.size]? = some (.cells #[.int .i64 0, .int .i64 0, .int .i64 0, .int .i64 0, .int .i64 0, .int .i64 0, .int .i64 0, .int .i64 0, .int .i64 0, .int .i64 0, .int .i64 0, .int .i64 0, .int .i64 0, .int .i64 0, .int .i64 0, .slice none 0 0, .slice none 0 0, .slice none 0 0, .slice none 0 0] 43 (0, 0))) := new_row w4 _ _ _ rfl
  have hbV : Below w4.heap.size w4 ((w4.alloc (.cells #[.int .i64 0, .int .i64 0, .int .i64 0, .int .i64 0, .int .i64 0, .int .i64 0, .int .i64 0, .int .i64 0, .int .i64 0, .int .i64 0, .int .i64 0, .int .i64 0, .int .i64 0, .int .i64 0, .int .i64 0, .slice none 0 0, .slice none 0 0, .slice none 0 0, .slice none 0 0] 43)).setRow w4.heap.size (tbA t a4)) := below_setRow ((Below.refl _ _).alloc (Nat.le_refl _) _) (Nat.le_refl _) _
  have HXB : Hid (((w4.alloc (.cells #[.int .i64 0, .int .i64 0, .int .i64 0, .int .i64 0, .int .i64 0, .int .i64 0, .int .i64 0, .int .i64 0, .int .i64 0, .int .i64 0, .int .i64 0, .int .i64 0, .int .i64 0, .int .i64 0, .int .i64 0, .slice none 0 0, .slice none 0 0, .slice none 0 0, .slice none 0 0] 43)).setRow w4.heap.size (tbA t a4)).heap[w4.heap.size]? = some (.cells (tbA t a4) 43 (0, 0))) := setRow_heap _ _ _ _ _ _ HN.out
  have HBV : Hid (Below w.heap.size w ((w4.alloc (.cells #[.int .i64 0, .int .i64 0, .int .i64 0, .int .i64 0, .int .i64 0, .int .i64 0, .int .i64 0, .int .i64 0, .int .i64 0, .int .i64 0, .int .i64 0, .int .i64 0, .int .i64 0, .int .i64 0, .int .i64 0, .slice none 0 0, .slice none 0 0, .slice none 0 0, .slice none 0 0] 43)).setRow w4.heap.size (tbA t a4))) := HB4.out.trans (hbV.mono HB4.out.size)
  have HXV : Hid (((w4.alloc (.cells #[.int .i64 0, .int .i64 0, .int .i64 0, .int .i64 0, .int .i64 0, .int .i64 0, .int .i64 0, .int .i64 0, .int .i64 0, .int .i64 0, .int .i64 0, .int .i64 0, .int .i64 0, .int .i64 0, .int .i64 0, .slice none 0 0, .slice none 0 0, .slice none 0 0, .slice none 0 0] 43)).setRow w4.heap.size (tbA t a4)).heap[w.heap.size]? = some (.cells (tbA t a) 31 (0, 0))) := row_below HX4.out hbV
  have HCV : Hid (Cpy ((w4.alloc (.cells #[.int .i64 0, .int .i64 0, .int .i64 0, .int .i64 0, .int .i64 0, .int .i64 0, .int .i64 0, .int .i64 0, .int .i64 0, .int .i64 0, .int .i64 0, .int .i64 0, .int .i64 0, .int .i64 0, .int .i64 0, .slice none 0 0, .slice none 0 0, .slice none 0 0, .slice none 0 0] 43)).setRow w4.heap.size (tbA t a4)) t a a4) := HC4.out.below hbV
  have HMV : Hid (WT w3.heap.size w4.heap.size ((w4.alloc (.cells #[.int .i64 0, .int .i64 0, .int .i64 0, .int .i64 0, .int .i64 0, .int .i64 0, .int .i64 0, .int .i64 0, .int .i64 0, .int .i64 0, .int .i64 0, .int .i64 0, .int .i64 0, .int .i64 0, .int .i64 0, .slice none 0 0, .slice none 0 0, .slice none 0 0, .slice none 0 0] 43)).setRow w4.heap.size (tbA t a4)) a4) := HM4.out.below hbV
  have HAV : Hid (BRows ((w4.alloc (.cells #[.int .i64 0, .int .i64 0, .int .i64 0, .int .i64 0, .int .i64 0, .int .i64 0, .int .i64 0, .int .i64 0, .int .i64 0, .int .i64 0, .int .i64 0, .int .i64 0, .int .i64 0, .int .i64 0, .int .i64 0, .slice none 0 0, .slice none 0 0, .slice none 0 0, .slice none 0 0] 43)).setRow w4.heap.size (tbA t a4)) w2.heap.size w3.heap.size A1 nr D) := HA4.out.below hbV
  have HLV : Hid (w4.heap.size < ((w4.alloc (.cells #[.int .i64 0, .int .i64 0, .int .i64 0, .int .i64 0, .int .i64 0, .int .i64 0, .int .i64 0, .int .i64 0, .int .i64 0, .int .i64 0, .int .i64 0, .int .i64 0, .int .i64 0, .int .i64 0, .int .i64 0, .slice none 0 0, .slice none 0 0, .slice none 0 0, .slice none 0 0] 43)).setRow w4.heap.size (tbA t a4)).heap.size) := (Array.getElem?_eq_some_iff.1 HXB.out).1
  clear hbV HB4 HX4 HC4 HM4 HA4
  go_wp2_with (first | (refine wpList_store_row rfl 43 (.tmp 10) (.tmp 37) rfl w4.heap.size (tbA t a4) rfl rfl 43 #[.int .i64 0, .int .i64 0, .int .i64 0, .int .i64 0, .int .i64 0, .int .i64 0, .int .i64 0, .int .i64 0, .int .i64 0, .int .i64 0, .int .i64 0, .int .i64 0, .int .i64 0, .int .i64 0, .int .i64 0, .slice none 0 0, .slice none 0 0, .slice none 0 0, .slice none 0 0] HN.out (by kernel_rfl) rfl (by simp [Value.oneCell']) ?_) | (refine wpList_load_row rfl 43 (.tmp 10) rfl w4.heap.size rfl 43 (tbA t a4) (0, 0) _ HXB.out Tryz.underlying43 rfl (by kernel_rfl) ?_) | fail)
  clear HN
  revert HXB HBV HXV HCV HMV HAV HLV HLO
  generalize (w4.alloc (.cells #[.int .i64 0, .int .i64 0, .int .i64 0, .int .i64 0, .int .i64 0, .int .i64 0, .int .i64 0, .int .i64 0, .int .i64 0, .int .i64 0, .int .i64 0, .int .i64 0, .int .i64 0, .int .i64 0, .int .i64 0, .slice none 0 0, .slice none 0 0, .slice none 0 0, .slice none 0 0] 43)).setRow w4.heap.size (tbA t a4) = V
  generalize w4.heap.size = N
  generalize w3.heap.size = L3
  generalize w2.heap.size = L2 at HL3
  intro HLO HXB HBV HXV HCV HMV HAV HLV
  refine Calls.mono (HTW.out _ HBV.out) ?_
  rintro e u5 ⟨rfl, hb5, ho5⟩
  have HB4 : Hid (Below w.heap.size w u5) := HBV.out.trans (hb5.mono HBV.out.size)
  have HX4 : Hid (u5.heap[w.heap.size]? = some (.cells (tbA t a) 31 (0, 0))) := row_below HXV.out hb5
  have HY4 : Hid (u5.heap[N]? = some (.cells (tbA t a4) 43 (0, 0))) := row_below HXB.out hb5
  have HC4 : Hid (Cpy u5 t a a4) := HCV.out.below hb5
  have HM4 : Hid (WT L3 N u5 a4) := HMV.out.below hb5
  have HA4 : Hid (BRows u5 L2 L3 A1 nr D) := HAV.out.below hb5
  have HO4 : Hid (Own .u32 u5 V.heap.size zs) := ho5
  have HL4 : Hid (N < V.heap.size ∧ V.heap.size < u5.heap.size) := ⟨HLV.out, ho5.lt⟩
  clear hb5 ho5 HBV HXV HXB HCV HMV HAV HLV
  generalize V.heap.size = LX at HO4 HL4 ⊢
  go_wp2_with (first | (refine wpList_load_row rfl 43 (.tmp 10) rfl N rfl 43 (tbA t a4) (0, 0) _ HY4.out Tryz.underlying43 rfl (by kernel_rfl) ?_) | fail)
  refine Calls.mono (HIM.out a4 _ n u5 HC4.out.m HC4.out.w HC4.out.s (HU.out _ HB4.out).2 HC4.out.c HO4.out.seg) ?_
  rintro e w5 ⟨A2, c2, rfl, hb5, hA2⟩
  have HB5 : Hid (Below w.heap.size w w5) := HB4.out.trans (hb5.mono HB4.out.size)
  have HX5 : Hid (w5.heap[w.heap.size]? = some (.cells (tbA t a) 31 (0, 0))) := row_below HX4.out hb5
  have HY5 : Hid (w5.heap[N]? = some (.cells (tbA t a4) 43 (0, 0))) := row_below HY4.out hb5
  have HC5 : Hid (Cpy w5 t a a4) := HC4.out.below hb5
  have HM5 : Hid (WT L3 N w5 a4) := HM4.out.below hb5
  have HA5 : Hid (BRows w5 L2 L3 A1 nr D) := HA4.out.below hb5
  have HO5 : Hid (Own .u32 w5 LX zs) := HO4.out.below hb5
  have HD5 : Hid (BRows w5 u5.heap.size w5.heap.size A2 nr D) := hA2
  have HL5 : Hid (N < LX ∧ LX < u5.heap.size ∧ u5.heap.size ≤ w5.heap.size) := ⟨HL4.out.1, HL4.out.2, hb5.size⟩
  clear hb5 HB4 HX4 HY4 HC4 HM4 HA4 HO4 hA2 HL4
  generalize u5.heap.size = LV at HD5 HL5
  obtain ⟨H5, HH5⟩ : ∃ h, Hid (w5.heap.size = h) := ⟨_, rfl⟩
  rw [HH5.out] at HD5 HL5
  have HH5' : Hid (H5 ≤ w5.heap.size) := Nat.le_of_eq HH5.out.symm
  clear HH5
  have hqq : (q != q) = false := by simp
  go_wp2_with fail
  refine Calls.mono (eq_rows A2 A1 c2 c1 nr D _ HD5.out.seg HA5.out.seg HND.out.1 HND.out.2) ?_
  rintro e w6 ⟨rfl, hb6⟩
  have HB6 : Hid (Below w.heap.size w w6) := HB5.out.trans (hb6.mono HB5.out.size)
  have HX6 : Hid (∀ X, Below w6.heap.size w6 X → X.heap[w.heap.size]? = some (.cells (tbA t a) 31 (0, 0))) := fun X hX => row_below (row_below HX5.out hb6) hX
  have HY6 : Hid (∀ X, Below w6.heap.size w6 X → X.heap[N]? = some (.cells (tbA t a4) 43 (0, 0))) := fun X hX => row_below (row_below HY5.out hb6) hX
  have HC6 : Hid (∀ X, Below w6.heap.size w6 X → Cpy X t a a4) := fun X hX => (HC5.out.below hb6).below hX
  have HM6 : Hid (∀ X, Below w6.heap.size w6 X → WT L3 N X a4) := fun X hX => (HM5.out.below hb6).below hX
  have HA6 : Hid (∀ X, Below w6.heap.size w6 X → BRows X L2 L3 A1 nr D) := fun X hX => (HA5.out.below hb6).below hX
  have HO6 : Hid (∀ X, Below w6.heap.size w6 X → Own .u32 X LX zs) := fun X hX => (HO5.out.below hb6).below hX
  have HD6 : Hid (∀ X, Below w6.heap.size w6 X → BRows X LV H5 A2 nr D) := fun X hX => (HD5.out.below hb6).below hX
  have HH6 : Hid (H5 ≤ w6.heap.size) := Nat.le_trans HH5'.out hb6.size
  clear hb6 HB5 HX5 HY5 HC5 HM5 HA5 HO5 HD5 HH5'
  go_wp2
  refine wp_region_inv (by kernel_rfl) (by kernel_rfl) (fun A ℓ a' w' => ∃ (x56 x57 x58 x59 x60 : Value), a' = (((((A.put (some 56) x56).put (some 57) x57).put (some 58) x58).put (some 59) x59).put (some 60) x60) ∧ TI t a a4 w6 w' (ℓ 0) (ℓ 1) (ℓ 2) (ℓ 3) (ℓ 4) x56 x57 x58 x59 x60) ?_ ?_ ?_ ?_
  · exact ⟨undef, undef, undef, undef, undef, (by simp only [Act.put, List.setIfInBounds_toArray, List.set_cons_zero, List.set_cons_succ]), ⟨(Below.refl _ _).drew, (fun g => by cases g), (fun g => by cases g), (fun g => by cases g), (fun g => by cases g), (fun g => by cases g)⟩⟩
  · intro ℓ a' w' hI hall
    obtain ⟨x56, x57, x58, x59, x60, rfl, hr⟩ := hI
    have hall' : ∀ i, i < 5 → ℓ i = true := hall
    obtain rfl := hr.f4 (hall' 4 (by omega))
    have HBa : Hid (Below w.heap.size w w') := HB6.out.trans (hr.gb.mono HB6.out.size)
    have HXa : Hid (w'.heap[w.heap.size]? = some (.cells (tbA t a) 31 (0, 0))) := HX6.out _ hr.gb
    have HYa : Hid (w'.heap[N]? = some (.cells (tbA t a4) 43 (0, 0))) := HY6.out _ hr.gb
    have HCa : Hid (Cpy w' t a a4) := HC6.out _ hr.gb
    have HMa : Hid (WT L3 N w' a4) := HM6.out _ hr.gb
    have HAa : Hid (BRows w' L2 L3 A1 nr D) := HA6.out _ hr.gb
    have HOa : Hid (Own .u32 w' LX zs) := HO6.out _ hr.gb
    have HDa : Hid (BRows w' LV H5 A2 nr D) := HD6.out _ hr.gb
    have HHa : Hid (H5 ≤ w'.heap.size) := Nat.le_trans HH6.out hr.gb.size
    clear hr hall hall' HX6 HY6 HC6 HM6 HA6 HO6 HD6 HH6 HB6
    simp only [Act.put, List.setIfInBounds_toArray, List.set_cons_zero, List.set_cons_succ]
    go_wp2_with fail
    refine Calls.mono (HTW.out _ HBa.out) ?_
    rintro e v1 ⟨rfl, hbk, hwk⟩
    have HBb : Hid (Below w.heap.size w v1) := HBa.out.trans (hbk.mono HBa.out.size)
    have HXb : Hid (v1.heap[w.heap.size]? = some (.cells (tbA t a) 31 (0, 0))) := row_below HXa.out hbk
    have HYb : Hid (v1.heap[N]? = some (.cells (tbA t a4) 43 (0, 0))) := row_below HYa.out hbk
    have HCb : Hid (Cpy v1 t a a4) := HCa.out.below hbk
    have HMb : Hid (WT L3 N v1 a4) := HMa.out.below hbk
    have HAb : Hid (BRows v1 L2 L3 A1 nr D) := HAa.out.below hbk
    have HOb : Hid (Own .u32 v1 LX zs) := HOa.out.below hbk
    have HDb : Hid (BRows v1 LV H5 A2 nr D) := HDa.out.below hbk
    have HHb : Hid (H5 ≤ v1.heap.size) := Nat.le_trans HHa.out hbk.size
    have HWb : Hid (Seg .u32 v1 (some ⟨w'.heap.size, 0, none⟩) zs) := hwk.seg
    clear hwk
    clear hbk HBa HXa HYa HCa HMa HAa HOa HDa HHa
    go_wp2_with fail
    refine Calls.mono (eq_regs _ _ n n n zs _ HOb.out.seg HWb.out HZL.out hn3) ?_
    rintro e v2 ⟨rfl, hbk⟩
    clear HWb
    have HBc : Hid (Below w.heap.size w v2) := HBb.out.trans (hbk.mono HBb.out.size)
    have HXc : Hid (v2.heap[w.heap.size]? = some (.cells (tbA t a) 31 (0, 0))) := row_below HXb.out hbk
    have HYc : Hid (v2.heap[N]? = some (.cells (tbA t a4) 43 (0, 0))) := row_below HYb.out hbk
    have HCc : Hid (Cpy v2 t a a4) := HCb.out.below hbk
    have HMc : Hid (WT L3 N v2 a4) := HMb.out.below hbk
    have HAc : Hid (BRows v2 L2 L3 A1 nr D) := HAb.out.below hbk
    have HOc : Hid (Own .u32 v2 LX zs) := HOb.out.below hbk
    have HDc : Hid (BRows v2 LV H5 A2 nr D) := HDb.out.below hbk
    have HHc : Hid (H5 ≤ v2.heap.size) := Nat.le_trans HHb.out hbk.size
    clear hbk HBb HXb HYb HCb HMb HAb HOb HDb HHb
    have HOd : Hid (WR 1 LX (LX + 1) v2 (some ⟨LX, 0, none⟩) n) := words_wr HOc.out HZL.out
    clear HOc
    go_wp2_with (first | (refine wpList_load_row rfl 43 (.tmp 10) rfl N rfl 43 (tbA t a4) (0, 0) _ HYc.out Tryz.underlying43 rfl (by kernel_rfl) ?_) | fail)
    refine Calls.mono (mk_tab2 t a4 L3 N _ HMc.out HCc.out.s (by have := HLO.out; have := HL5.out; have := HL3.out; have := HHc.out; omega)) ?_
    rintro e v3 ⟨⟨rk, rfl, hrk, hrk2⟩, hmk⟩
    have HBe : Hid (Below w.heap.size w v3) := HBc.out.trans (hmk.low (by have := HLO.out; omega) HBc.out.size)
    have HXe : Hid (v3.heap[w.heap.size]? = some (.cells (tbA t a) 31 (0, 0))) := (hmk.b.block _ (by have := HLO.out; have := HL5.out; have := HL3.out; have := HHc.out; omega) (.inl (by have := HLO.out; omega))).trans HXc.out
    have HAe : Hid (BRows v3 L2 L3 A1 nr D) := HAc.out.betw hmk.b (.inl (Nat.le_refl _))
    have HDe : Hid (BRows v3 LV H5 A2 nr D) := HDc.out.betw hmk.b (.inr (by have := HLO.out; have := HL5.out; have := HL3.out; have := HHc.out; omega))
    have HOe : Hid (WR 1 LX (LX + 1) v3 (some ⟨LX, 0, none⟩) n) := HOd.out.mk hmk
    have HHe : Hid (H5 ≤ v3.heap.size) := Nat.le_trans HHc.out hmk.b.size
    clear hmk HBc HXc HYc HCc HMc HAc HDc HOd HHc
    go_wp2_with fail
    refine Calls.mono (mk_words LX (LX + 1) n n rk _ _ HOe.out hn3 hrk (by omega)) ?_
    rintro e v4 ⟨rfl, hmk⟩
    have HBf : Hid (Below w.heap.size w v4) := HBe.out.trans (hmk.low (by have := HLO.out; have := HL5.out; have := HL3.out; have := HHe.out; omega) HBe.out.size)
    have HXf : Hid (v4.heap[w.heap.size]? = some (.cells (tbA t a) 31 (0, 0))) := (hmk.b.block _ (by have := HLO.out; have := HL5.out; have := HL3.out; have := HHe.out; omega) (.inl (by have := HLO.out; have := HL5.out; have := HL3.out; have := HHe.out; omega))).trans HXe.out
    have HAf : Hid (BRows v4 L2 L3 A1 nr D) := HAe.out.betw hmk.b (.inl (by have := HLO.out; have := HL5.out; have := HL3.out; have := HHe.out; omega))
    have HDf : Hid (BRows v4 LV H5 A2 nr D) := HDe.out.betw hmk.b (.inr (by have := HLO.out; have := HL5.out; have := HL3.out; have := HHe.out; omega))
    have HHf : Hid (H5 ≤ v4.heap.size) := Nat.le_trans HHe.out hmk.b.size
    clear hmk HBe HXe HAe HDe HOe HHe
    obtain ⟨rq, HRQ⟩ : ∃ r : Int, Hid (rk + 1 * (n : Int) = r) := ⟨_, rfl⟩
    have hrq0 : ¬ (rq < 0) := by have := HRQ.out; omega
    rw [HRQ.out]
    clear HRQ hrk hrk2
    go_wp2_with fail
    refine Calls.mono (eq_rows A2 A1 c2 c1 nr D _ HDf.out.seg HAf.out.seg HND.out.1 HND.out.2) ?_
    rintro e v5 ⟨rfl, hbk⟩
    have HBg : Hid (Below w.heap.size w v5) := HBf.out.trans (hbk.mono HBf.out.size)
    have HXg : Hid (v5.heap[w.heap.size]? = some (.cells (tbA t a) 31 (0, 0))) := row_below HXf.out hbk
    have HAg : Hid (BRows v5 L2 L3 A1 nr D) := HAf.out.below hbk
    have HDg : Hid (BRows v5 LV H5 A2 nr D) := HDf.out.below hbk
    have HHg : Hid (H5 ≤ v5.heap.size) := Nat.le_trans HHf.out hbk.size
    clear hbk HBf HXf HAf HDf HHf
    go_wp2_with fail
    refine Calls.mono (mark_rows LV H5 c2 1 nr A2 D _ HDg.out HND.out.1 HND.out.2 (by omega)) ?_
    rintro e v6 ⟨rfl, hbt, hsz, hmr⟩
    have HBh : Hid (Below w.heap.size w v6) := HBg.out.trans (hbt.below (by have := HLO.out; have := HL5.out; have := HL3.out; have := HHg.out; omega) HBg.out.size)
    have HXh : Hid (v6.heap[w.heap.size]? = some (.cells (tbA t a) 31 (0, 0))) := (hbt.block _ (by have := HLO.out; have := HL5.out; have := HL3.out; have := HHg.out; omega) (.inl (by have := HLO.out; have := HL5.out; have := HL3.out; have := HHg.out; omega))).trans HXg.out
    have HAh : Hid (BRows v6 L2 L3 A1 nr D) := HAg.out.betw hbt (.inl (by have := HLO.out; have := HL5.out; have := HL3.out; have := HHg.out; omega))
    have HDh : Hid (BRows v6 LV H5 A2 nr (bmarkD 1 D)) := hmr
    clear hbt hsz hmr HBg HXg HAg HDg HHg
    obtain ⟨m, HQ⟩ : ∃ q : Int, Hid (((1 + btot D nr : Nat) : Int) = q) := ⟨_, rfl⟩
    have hq0 : ¬ (m < 0) := by have := HQ.out; omega
    rw [HQ.out]
    go_wp2_with fail
    refine Calls.mono (held_rows c2 1 nr A2 D _ HDh.out.seg HND.out.1 HND.out.2 (by omega)) ?_
    rintro e v7 ⟨rfl, hbk⟩
    rw [HQ.out]
    have HBi : Hid (Below w.heap.size w v7) := HBh.out.trans (hbk.mono HBh.out.size)
    have HXi : Hid (v7.heap[w.heap.size]? = some (.cells (tbA t a) 31 (0, 0))) := row_below HXh.out hbk
    have HAi : Hid (BRows v7 L2 L3 A1 nr D) := HAh.out.below hbk
    have HDi : Hid (BRows v7 LV H5 A2 nr (bmarkD 1 D)) := HDh.out.below hbk
    clear hbk HBh HXh HAh HDh
    go_wp2_with (first | (refine wpList_load_row rfl 31 (.tmp 3) rfl w.heap.size rfl 31 (tbA t a) (0, 0) _ HXi.out Tryz.underlying31 rfl (by kernel_rfl) ?_) | fail)
    refine Calls.mono (copy_tab t a _ (HU.out _ HBi.out).1 HW.out HS.out) ?_
    rintro e v8 ⟨a8, rfl, hbk, hc8⟩
    have HKj : Hid (Cpy v8 t a a8) := hc8
    clear hc8
    have HBj : Hid (Below w.heap.size w v8) := HBi.out.trans (hbk.mono HBi.out.size)
    have HXj : Hid (v8.heap[w.heap.size]? = some (.cells (tbA t a) 31 (0, 0))) := row_below HXi.out hbk
    have HAj : Hid (BRows v8 L2 L3 A1 nr D) := HAi.out.below hbk
    have HDj : Hid (BRows v8 LV H5 A2 nr (bmarkD 1 D)) := HDi.out.below hbk
    clear hbk HBi HXi HAi HDi
    go_wp2_with fail
    refine Calls.mono (HTW.out _ HBj.out) ?_
    rintro e v9 ⟨rfl, hbk, hwk⟩
    have HKk : Hid (Cpy v9 t a a8) := HKj.out.below hbk
    have HWk : Hid (Seg .u32 v9 (some ⟨v8.heap.size, 0, none⟩) zs) := hwk.seg
    clear hwk HKj
    have HBk : Hid (Below w.heap.size w v9) := HBj.out.trans (hbk.mono HBj.out.size)
    have HXk : Hid (v9.heap[w.heap.size]? = some (.cells (tbA t a) 31 (0, 0))) := row_below HXj.out hbk
    have HAk : Hid (BRows v9 L2 L3 A1 nr D) := HAj.out.below hbk
    have HDk : Hid (BRows v9 LV H5 A2 nr (bmarkD 1 D)) := HDj.out.below hbk
    clear hbk HBj HXj HAj HDj
    go_wp2_with fail
    refine Calls.mono (HIM.out a8 _ n v9 HKk.out.m HKk.out.w HKk.out.s (HU.out _ HBk.out).2 HKk.out.c HWk.out) ?_
    rintro e v10 ⟨A3, c3, rfl, hbk, hA3⟩
    have HEl : Hid (BSeg v10 A3 nr D) := hA3.seg
    clear hA3 HKk HWk
    have HBl : Hid (Below w.heap.size w v10) := HBk.out.trans (hbk.mono HBk.out.size)
    have HXl : Hid (v10.heap[w.heap.size]? = some (.cells (tbA t a) 31 (0, 0))) := row_below HXk.out hbk
    have HAl : Hid (BRows v10 L2 L3 A1 nr D) := HAk.out.below hbk
    have HDl : Hid (BRows v10 LV H5 A2 nr (bmarkD 1 D)) := HDk.out.below hbk
    clear hbk HBk HXk HAk HDk
    go_wp2_with fail
    refine Calls.mono (eq_rows A3 A1 c3 c1 nr D _ HEl.out HAl.out.seg HND.out.1 HND.out.2) ?_
    rintro e v11 ⟨rfl, hbk⟩
    clear HEl
    have HBm : Hid (Below w.heap.size w v11) := HBl.out.trans (hbk.mono HBl.out.size)
    have HXm : Hid (v11.heap[w.heap.size]? = some (.cells (tbA t a) 31 (0, 0))) := row_below HXl.out hbk
    have HAm : Hid (BRows v11 L2 L3 A1 nr D) := HAl.out.below hbk
    have HDm : Hid (BRows v11 LV H5 A2 nr (bmarkD 1 D)) := HDl.out.below hbk
    clear hbk HBl HXl HAl HDl
    go_wp2_with fail
    refine Calls.mono (held_rows c2 1 nr A2 D _ HDm.out.seg HND.out.1 HND.out.2 (by omega)) ?_
    rintro e v12 ⟨rfl, hbk⟩
    rw [HQ.out]
    have HBn : Hid (Below w.heap.size w v12) := HBm.out.trans (hbk.mono HBm.out.size)
    have HXn : Hid (v12.heap[w.heap.size]? = some (.cells (tbA t a) 31 (0, 0))) := row_below HXm.out hbk
    clear hbk HBm HXm
    go_wp2
    go_ret
    exact ⟨rfl, HBn.out⟩
  · intro ℓ a' w' i o hI ho hi hL hdep K hK
    obtain ⟨x56, x57, x58, x59, x60, rfl, hr⟩ := hI
    have hi7 : i < 5 := hi
    have hcs : i = 0 ∨ i = 1 ∨ i = 2 ∨ i = 3 ∨ i = 4 := by omega
    clear hi hi7
    rcases hcs with rfl | rfl | rfl | rfl | rfl
    · replace ho : some ({ dst := some 56, op := .load 43 (.tmp 10), type := 43, pos := "exact.go:6974", after := #[], guard := none } : Oper) = some o := ho
      obtain rfl := Option.some.inj ho
      clear hdep ho
      rw [if_pos (by rfl)]
      try simp only [Act.put, List.setIfInBounds_toArray, List.set_cons_zero, List.set_cons_succ]
      refine wp_load_row (P := Tryz.prog) 43 (.tmp 10) rfl N rfl 43 (tbA t a4) (0, 0) _ (HY6.out _ hr.gb) Tryz.underlying43 rfl (by kernel_rfl) ?_
      exact hK.out _ _ (fun j => if j = 0 then true else ℓ j) ⟨tbV t a4, x57, x58, x59, x60, (by simp only [Act.put, List.setIfInBounds_toArray, List.set_cons_zero, List.set_cons_succ]), ⟨hr.gb, (fun _ => rfl), hr.f1, hr.f2, hr.f3, hr.f4⟩⟩ (if_pos rfl) (fun j hj => if_neg hj)
    · replace ho : some ({ dst := some 57, op := .load 31 (.tmp 3), type := 31, pos := "exact.go:6974", after := #[], guard := none } : Oper) = some o := ho
      obtain rfl := Option.some.inj ho
      clear hdep ho
      rw [if_pos (by rfl)]
      try simp only [Act.put, List.setIfInBounds_toArray, List.set_cons_zero, List.set_cons_succ]
      refine wp_load_row (P := Tryz.prog) 31 (.tmp 3) rfl w.heap.size rfl 31 (tbA t a) (0, 0) _ (HX6.out _ hr.gb) Tryz.underlying31 rfl (by kernel_rfl) ?_
      exact hK.out _ _ (fun j => if j = 1 then true else ℓ j) ⟨x56, tbV t a, x58, x59, x60, (by simp only [Act.put, List.setIfInBounds_toArray, List.set_cons_zero, List.set_cons_succ]), ⟨hr.gb, hr.f0, (fun _ => rfl), hr.f2, hr.f3, hr.f4⟩⟩ (if_pos rfl) (fun j hj => if_neg hj)
    · obtain rfl := Option.some.inj ho
      have g : ℓ 1 = true := hdep { on := 1, ground := Ground.data } (by simp) rfl
      clear hdep ho
      obtain rfl := hr.f1 g
      rw [if_pos (by rfl)]
      try simp only [Act.put, List.setIfInBounds_toArray, List.set_cons_zero, List.set_cons_succ]
      go_simp
      refine Calls.mono (copy_tab t a _ (HU.out _ (HB6.out.trans (hr.gb.mono HB6.out.size))).1 HW.out HS.out) ?_
      rintro e w9 ⟨a9, rfl, hb9, hc9⟩
      have hr9 := hr.below hb9
      exact hK.out _ _ (fun j => if j = 2 then true else ℓ j) ⟨x56, tbV t a, tbV t a9, x59, x60, (by simp only [Act.put, List.setIfInBounds_toArray, List.set_cons_zero, List.set_cons_succ]), ⟨hr9.gb, hr9.f0, hr9.f1, (fun _ => ⟨a9, rfl, hc9⟩), hr9.f3, hr9.f4⟩⟩ (if_pos rfl) (fun j hj => if_neg hj)
    · obtain rfl := Option.some.inj ho
      have g0 : ℓ 0 = true := hdep { on := 0, ground := Ground.data } (by simp) rfl
      have g2 : ℓ 2 = true := hdep { on := 2, ground := Ground.data } (by simp) rfl
      clear hdep ho
      obtain rfl := hr.f0 g0
      obtain ⟨a9, rfl, hc9⟩ := hr.f2 g2
      have hc4 := HC6.out _ hr.gb
      rw [if_pos (by rfl)]
      try simp only [Act.put, List.setIfInBounds_toArray, List.set_cons_zero, List.set_cons_succ]
      go_simp
      refine Calls.mono (eq_tab t a4 a9 _ hc4.m hc9.m hc4.s (hc9.p1.trans hc4.p1.symm) (hc9.p2.trans hc4.p2.symm) (hc9.p3.trans hc4.p3.symm) (hc9.p4.trans hc4.p4.symm)) ?_
      rintro e w9 ⟨rfl, hb9⟩
      have hr9 := hr.below hb9
      exact hK.out _ _ (fun j => if j = 3 then true else ℓ j) ⟨tbV t a4, x57, tbV t a9, .bool true, x60, (by simp only [Act.put, List.setIfInBounds_toArray, List.set_cons_zero, List.set_cons_succ]), ⟨hr9.gb, hr9.f0, hr9.f1, hr9.f2, (fun _ => rfl), hr9.f4⟩⟩ (if_pos rfl) (fun j hj => if_neg hj)
    · obtain rfl := Option.some.inj ho
      have g : ℓ 3 = true := hdep { on := 3, ground := Ground.data } (by simp) rfl
      clear hdep ho
      obtain rfl := hr.f3 g
      rw [if_pos (by rfl)]
      try simp only [Act.put, List.setIfInBounds_toArray, List.set_cons_zero, List.set_cons_succ]
      go_simp
      exact hK.out _ _ (fun j => if j = 4 then true else ℓ j) ⟨x56, x57, x58, .bool true, .bool false, (by simp only [Act.put, List.setIfInBounds_toArray, List.set_cons_zero, List.set_cons_succ]), ⟨hr.gb, hr.f0, hr.f1, hr.f2, hr.f3, (fun _ => rfl)⟩⟩ (if_pos rfl) (fun j hj => if_neg hj)
  · rintro a' w' ℓ ℓ' hℓ hI
    rw [← show ℓ = ℓ' from funext hℓ]
    exact hI
end Go.Proofs.YtdmlgnmklnaehaaGreatDoor
