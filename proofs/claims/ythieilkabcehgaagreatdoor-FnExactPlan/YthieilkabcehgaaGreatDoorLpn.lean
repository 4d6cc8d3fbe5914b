
/-
  The law on Plan walked. Conditions: the lists lie in memory; the numbers fit; the table opExtras lies as its text lays it.
-/
import Derived.Test.YthieilkabcehgaaGreatDoorBas
import Derived.Test.YthieilkabcehgaaGreatDoorIpn
import Derived.Test.YthieilkabcehgaaGreatDoorSpn
import Derived.Test.YthieilkabcehgaaGreatDoorLsp
import Derived.Test.YthieilkabcehgaaGreatDoorMkt
import Derived.Test.YthieilkabcehgaaGreatDoorHpt
import Derived.Test.YthieilkabcehgaaGreatDoorLsw
namespace Go.Proofs.YthieilkabcehgaaGreatDoor
open Go.ChangeShapes Go.WideShapes Go.ChangeAt Go.RowKit Go.Deep Go.Joins
set_option linter.unusedVariables false

set_option maxRecDepth 40000 in
set_option maxHeartbeats 4000000 in
theorem mk_tab2 (t : Tb) (a : Ad) (lo hi : Nat) (w : World) (hT : WT lo hi w a) (hs : TS a) (hhi : hi ≤ w.heap.size) :
    Calls Tryz.prog 15 #[tbV t a, .int .i64 1] w fun e w' => (∃ r : Int, e = .returned (.int .i64 r) ∧ 0 ≤ r ∧ r ≤ 7000000000000) ∧ Mk lo hi w w' := by
  have HHI : Hid (hi ≤ w.heap.size) := hhi
  have HP : Hid (WP lo hi w a.pa a.pn a.Y) := hT.p
  have HD : Hid (WR 1 lo hi w a.da a.dn) := hT.d
  have HCH : Hid (WR 4 lo hi w a.ca a.cn) := hT.c
  have HSL : Hid (WR 3 lo hi w a.sa a.sn) := hT.s
  clear hhi hT
  have h1 := hs.p
  have h2 := hs.d
  have h3 := hs.c
  have h4 := hs.s
  have HWN : Hid (∀ i, i < a.pn → (a.Y i).wn ≤ 1048576) := fun i hi => (hs.w i hi).1
  have HB0 : Hid (Below w.heap.size w (w.alloc (.cells (tbA t a) 39))) := (Below.refl _ _).alloc (Nat.le_refl _) _
  have KB0 : Hid (Bk (w.alloc (.cells (tbA t a) 39)) w.heap.size (tbA t a)) := Bk.new w _ _ _ rfl
  have HP0 : Hid (WP lo hi (w.alloc (.cells (tbA t a) 39)) a.pa a.pn a.Y) := ⟨HP.out.r.below HB0.out, fun b off e i hi => kept_cell HB0.out (HP.out.g b off e i hi), fun b off e i hi => (HP.out.v b off e i hi).below HB0.out⟩
  have k15 : (w.alloc (.cells (tbA t a) 39)).cell? ⟨w.heap.size, 15, none⟩ = some (.slice a.pa a.pn a.pc) := KB0.out.cell 15 _ rfl
  have M0 : Hid (Mk lo hi w (w.alloc (.cells (tbA t a) 39))) := (Mk.refl _ _ _).below HB0.out
  clear hs HP
  go_enter Tryz.func15, Tryz.ntmps15
  go_wp2_with fail
  refine Calls.mono (mk_parts lo hi a.pc a.pn 1 a.pa a.Y _ HP0.out h1 HWN.out (by omega) (by omega)) ?_
  rintro e w1 ⟨⟨r1, rfl, hr10, hr11⟩, hmk1⟩
  have M1 : Hid (Mk lo hi w w1) := M0.out.trans hmk1
  have hbl1 : w1.heap[w.heap.size]? = (w.alloc (.cells (tbA t a) 39)).heap[w.heap.size]? := hmk1.b.block _ KB0.out.lt (.inr HHI.out)
  have HK1 : Hid (∀ i v, (tbA t a)[i]? = some v → w1.cell? ⟨w.heap.size, i, none⟩ = some v) := fun i v hv => (World.cell?_of_block (a := ⟨w.heap.size, i, none⟩) hbl1).trans (KB0.out.cell i v hv)
  have HL1 : Hid (w.heap.size < w1.heap.size) := Nat.lt_of_lt_of_le KB0.out.lt hmk1.b.size
  have k16 : w1.cell? ⟨w.heap.size, 16, none⟩ = some (.slice a.da a.dn a.dc) := HK1.out 16 _ rfl
  clear hmk1 hbl1 HB0 KB0 HP0 k15 M0
  go_wp2_with fail
  refine Calls.mono (mk_ints lo hi a.dc a.dn r1 a.da _ (HD.out.mk M1.out) h2 hr10 (by omega)) ?_
  rintro e w2 ⟨rfl, hmk2⟩
  have M2 : Hid (Mk lo hi w w2) := M1.out.trans hmk2
  have hbl2 : w2.heap[w.heap.size]? = w1.heap[w.heap.size]? := hmk2.b.block _ HL1.out (.inr HHI.out)
  have HK2 : Hid (∀ i v, (tbA t a)[i]? = some v → w2.cell? ⟨w.heap.size, i, none⟩ = some v) := fun i v hv => (World.cell?_of_block (a := ⟨w.heap.size, i, none⟩) hbl2).trans (HK1.out i v hv)
  have HL2 : Hid (w.heap.size < w2.heap.size) := Nat.lt_of_lt_of_le HL1.out hmk2.b.size
  have k17 : w2.cell? ⟨w.heap.size, 17, none⟩ = some (.slice a.ca a.cn a.cc) := HK2.out 17 _ rfl
  clear hmk2 hbl2 HK1 HL1 k16 M1
  obtain ⟨r2, hr2⟩ : ∃ r, r1 + 1 * (a.dn : Int) = r := ⟨_, rfl⟩
  have hr20 : 0 ≤ r2 ∧ r2 ≤ 5000000000000 := by omega
  rw [hr2]
  clear hr2
  go_wp2_with fail
  refine Calls.mono (mk_chans lo hi a.cc a.cn r2 a.ca _ (HCH.out.mk M2.out) h3 hr20.1 (by omega)) ?_
  rintro e w3 ⟨rfl, hmk3⟩
  have M3 : Hid (Mk lo hi w w3) := M2.out.trans hmk3
  have hbl3 : w3.heap[w.heap.size]? = w2.heap[w.heap.size]? := hmk3.b.block _ HL2.out (.inr HHI.out)
  have k18 : w3.cell? ⟨w.heap.size, 18, none⟩ = some (.slice a.sa a.sn a.sc) := (World.cell?_of_block (a := ⟨w.heap.size, 18, none⟩) hbl3).trans (HK2.out 18 _ rfl)
  clear hmk3 hbl3 HK2 HL2 k17 M2
  obtain ⟨r3, hr3⟩ : ∃ r, r2 + 4 * (a.cn : Int) = r := ⟨_, rfl⟩
  have hr30 : 0 ≤ r3 ∧ r3 ≤ 6000000000000 := by omega
  rw [hr3]
  clear hr3
  go_wp2_with fail
  refine Calls.mono (mk_slots lo hi a.sc a.sn r3 a.sa _ (HSL.out.mk M3.out) h4 hr30.1 (by omega)) ?_
  rintro e w4 ⟨rfl, hmk4⟩
  have M4 : Hid (Mk lo hi w w4) := M3.out.trans hmk4
  clear hmk4 M3 k18
  go_wp2
  go_ret
  exact ⟨⟨_, rfl, by omega, by omega⟩, M4.out⟩
theorem blk_ls {w : World} {B n hi : Nat} {X : Nat → List Value} (h : GBlk 1 w B n n X) (hh : B < hi) : LS 1 B hi w (some ⟨B, 0, none⟩) n X :=
  ⟨h.seg, fun _ => ⟨B, 0, rfl, Nat.le_refl _, hh, h.lt, fun i j hi hj => by obtain ⟨u, hu⟩ := h.room i hi j hj; exact ⟨u, by rw [Nat.zero_add]; exact hu⟩, h.free⟩⟩
set_option linter.unusedSimpArgs false in
set_option maxRecDepth 40000 in
set_option maxHeartbeats 16000000 in
theorem walk_plan (t : Tb) (a : Ad) (na : Option Addr) (n nc : Nat) (zs : List Int) (w : World) (hm : TM 0 w t a) (hw : TW t a) (he : TabE w) (hns : GSeg 1 w na n (inX zs)) (hnl : zs.length = n) : Calls Tryz.prog 3 #[tbV t a, .slice na n nc] w fun e w' => e = .returned (.bool true) ∧ Below w.heap.size w w' := by
  have HU : Hid (∀ X, Below w.heap.size w X → TM 0 X t a ∧ TabE X) := fun X hX => ⟨hm.below hX, he.below hX⟩
  have HW : Hid (TW t a) := hw
  have HNS : Hid (∀ X, Below w.heap.size w X → GSeg 1 X na n (inX zs)) := fun X hX => hns.below hX
  have HSP0 : Hid (n ≤ 1048576 → (∀ (a' : Ad) (B : Nat) (X : World), TM 0 X t a' → TW t a' → TS a' → GSeg 1 X (some ⟨B, 0, none⟩) n (inX zs) → Calls Tryz.prog 9 #[tbV t a', .slice (some ⟨B, 0, none⟩) n n] X fun e w' => ∃ R ar q, e = .returned (.tuple #[tbV R ar, .bool q]) ∧ PlA t zs R q ∧ Below X.heap.size X w' ∧ KT X.heap.size w'.heap.size w' R ar ∧ TW R ar ∧ TS ar)) := fun hb => fun a' B X h1 h2 h3 h4 => spec_plan t a' _ n n zs X h1 h2 h3 h4 hnl hb
  have HIM0 : Hid (n ≤ 1048576 → (∀ (a' : Ad) (B : Nat) (X : World), TM 0 X t a' → TW t a' → TS a' → TabE X → a'.pn ≤ a'.pc → GSeg 1 X (some ⟨B, 0, none⟩) n (inX zs) → Calls Tryz.prog 12 #[tbV t a', .slice (some ⟨B, 0, none⟩) n n] X fun e w' => ∃ R ar q, e = .returned (.tuple #[tbV R ar, .bool q]) ∧ PlA t zs R q ∧ Below X.heap.size X w' ∧ OTR X.heap.size w' R ar)) := fun hb => fun a' B X h1 h2 h3 h4 h5 h6 => impl_plan t a' _ n n zs X h1 h2 h3 h4 h5 h6 hnl hb
  have HUN : Hid (∀ {R R' : Tb} {q q' : Bool}, PlA t zs R q → PlA t zs R' q' → R = R' ∧ q = q') := fun h g => h.uniq g
  have HB : Hid (Below w.heap.size w (w.alloc (.cells (tbA t a) 31))) := (Below.refl _ _).alloc (Nat.le_refl _) _
  have HX : Hid ((w.alloc (.cells (tbA t a) 31)).heap[w.heap.size]? = some (.cells (tbA t a) 31 (0, 0))) := new_row w _ _ _ rfl
  clear hm hw he hns hnl
  go_enter Tryz.func3, Tryz.ntmps3
  by_cases hnb : n ≤ 1048576
  rotate_left
  · have hgt : (1048576 : Int) < (n : Int) := by omega
    have hgd : decide ((1048576 : Int) < (n : Int)) = true := decide_eq_true hgt
    go_wp2
    go_ret
    exact ⟨rfl, HB.out⟩
  have hgt : ¬ ((1048576 : Int) < (n : Int)) := by omega
  have hgd : decide ((1048576 : Int) < (n : Int)) = false := decide_eq_false hgt
  have HNB : Hid (n ≤ 1048576) := hnb
  have HSP : Hid (∀ (a' : Ad) (B : Nat) (X : World), TM 0 X t a' → TW t a' → TS a' → GSeg 1 X (some ⟨B, 0, none⟩) n (inX zs) → Calls Tryz.prog 9 #[tbV t a', .slice (some ⟨B, 0, none⟩) n n] X fun e w' => ∃ R ar q, e = .returned (.tuple #[tbV R ar, .bool q]) ∧ PlA t zs R q ∧ Below X.heap.size X w' ∧ KT X.heap.size w'.heap.size w' R ar ∧ TW R ar ∧ TS ar) := HSP0.out hnb
  have HIM : Hid (∀ (a' : Ad) (B : Nat) (X : World), TM 0 X t a' → TW t a' → TS a' → TabE X → a'.pn ≤ a'.pc → GSeg 1 X (some ⟨B, 0, none⟩) n (inX zs) → Calls Tryz.prog 12 #[tbV t a', .slice (some ⟨B, 0, none⟩) n n] X fun e w' => ∃ R ar q, e = .returned (.tuple #[tbV R ar, .bool q]) ∧ PlA t zs R q ∧ Below X.heap.size X w' ∧ OTR X.heap.size w' R ar) := HIM0.out hnb
  clear hnb HSP0 HIM0
  go_wp2_with (first | (refine wpList_load_row rfl 31 (.tmp 2) rfl w.heap.size rfl 31 (tbA t a) (0, 0) _ HX.out Tryz.underlying31 rfl (by kernel_rfl) ?_) | (refine wpList_load_row_w (by first | rfl | (simp [Region.wanted, yielded, Act.put, HRK.out])) 31 (.tmp 2) rfl w.heap.size rfl 31 (tbA t a) (0, 0) _ HX.out Tryz.underlying31 rfl (by kernel_rfl) ?_) | fail)
  refine Calls.mono (sz_tab t a _ (HU.out _ HB.out).1 HW.out) ?_
  rintro e w1 ⟨⟨r, rfl, hr⟩, hb9⟩
  replace HB : Hid (Below w.heap.size w w1) := HB.out.trans (hb9.mono HB.out.size)
  replace HX : Hid (w1.heap[w.heap.size]? = some (.cells (tbA t a) 31 (0, 0))) := row_below HX.out hb9
  clear hb9 hgt hgd
  rcases hr with rfl | ⟨h0, hs⟩
  · go_wp2
    go_ret
    exact ⟨rfl, HB.out⟩
  have HS : Hid (TS a) := hs
  clear hs
  have hr0 : ¬ (r < 0) := by omega
  go_wp2_with (first | (refine wpList_load_row rfl 31 (.tmp 2) rfl w.heap.size rfl 31 (tbA t a) (0, 0) _ HX.out Tryz.underlying31 rfl (by kernel_rfl) ?_) | (refine wpList_load_row_w (by first | rfl | (simp [Region.wanted, yielded, Act.put, HRK.out])) 31 (.tmp 2) rfl w.heap.size rfl 31 (tbA t a) (0, 0) _ HX.out Tryz.underlying31 rfl (by kernel_rfl) ?_) | fail)
  refine Calls.mono (copy_tab t a _ (HU.out _ HB.out).1 HW.out HS.out) ?_
  rintro e w2a ⟨a2, rfl, hb9, hc2⟩
  replace HB : Hid (Below w.heap.size w w2a) := HB.out.trans (hb9.mono HB.out.size)
  replace HX : Hid (w2a.heap[w.heap.size]? = some (.cells (tbA t a) 31 (0, 0))) := row_below HX.out hb9
  have HC2 : Hid (Cpy w2a t a a2) := hc2
  clear hb9 h0 hr0 hc2
  go_wp2_with fail
  refine Calls.mono (in_tos na nc n zs w2a (HNS.out _ HB.out) HNB.out) ?_
  rintro e w2 ⟨rfl, hb9, hgi⟩
  have hc2 : Cpy w2 t a a2 := HC2.out.below hb9
  replace HB : Hid (Below w.heap.size w w2) := HB.out.trans (hb9.mono HB.out.size)
  replace HX : Hid (w2.heap[w.heap.size]? = some (.cells (tbA t a) 31 (0, 0))) := row_below HX.out hb9
  clear hb9 HC2
  go_wp2_with fail
  refine Calls.mono (HSP.out a2 w2a.heap.size w2 hc2.m hc2.w hc2.s hgi.seg) ?_
  rintro e w3 ⟨R, a1, q, rfl, hAq, hb9, hk, hw1, hs1⟩
  have hl0 : w.heap.size < w2.heap.size := (Array.getElem?_eq_some_iff.1 HX.out).1
  replace HB : Hid (Below w.heap.size w w3) := HB.out.trans (hb9.mono HB.out.size)
  replace HX : Hid (w3.heap[w.heap.size]? = some (.cells (tbA t a) 31 (0, 0))) := row_below HX.out hb9
  have HAQ : Hid (PlA t zs R q) := hAq
  have HW1 : Hid (TW R a1) := hw1
  have HK : Hid (KT w2.heap.size w3.heap.size w3 R a1) := hk
  have HL : Hid (w.heap.size < w2.heap.size ∧ w2.heap.size ≤ w3.heap.size) := ⟨hl0, hb9.size⟩
  clear hb9 hk hw1 hs1 hAq hc2 hl0 HSP hgi
  revert HK HL
  generalize w2.heap.size = L0
  intro HK HL
  have HN : Hid ((w3.alloc (.cells #[.int .i64 0, .int .i64 0, .int .i64 0, .int .i64 0, .int .i64 0, .int .i64 0, .int .i64 0, .int .i64 0, .int .i64 0, .int .i64 0, .int .i64 0, .int .i64 0, .int .i64 0, .int .i64 0, .int .i64 0, .slice none 0 0, .slice none 0 0, .slice none 0 0, .slice none 0 0] 39)).heap[w3.heap.size]? = some (.cells #[.int .i64 0, .int .i64 0, .int .i64 0, .int .i64 0, .int .i64 0, .int .i64 0, .int .i64 0, .int .i64 0, .int .i64 0, .int .i64 0, .int .i64 0, .int .i64 0, .int .i64 0, .int .i64 0, .int .i64 0, .slice none 0 0, .slice none 0 0, .slice none 0 0, .slice none 0 0] 39 (0, 0))) := new_row w3 _ _ _ rfl
  have hbV : Below w3.heap.size w3 ((w3.alloc (.cells #[.int .i64 0, .int .i64 0, .int .i64 0, .int .i64 0, .int .i64 0, .int .i64 0, .int .i64 0, .int .i64 0, .int .i64 0, .int .i64 0, .int .i64 0, .int .i64 0, .int .i64 0, .int .i64 0, .int .i64 0, .slice none 0 0, .slice none 0 0, .slice none 0 0, .slice none 0 0] 39)).setRow w3.heap.size (tbA R a1)) := below_setRow ((Below.refl _ _).alloc (Nat.le_refl _) _) (Nat.le_refl _) _
  replace HB : Hid (Below w.heap.size w ((w3.alloc (.cells #[.int .i64 0, .int .i64 0, .int .i64 0, .int .i64 0, .int .i64 0, .int .i64 0, .int .i64 0, .int .i64 0, .int .i64 0, .int .i64 0, .int .i64 0, .int .i64 0, .int .i64 0, .int .i64 0, .int .i64 0, .slice none 0 0, .slice none 0 0, .slice none 0 0, .slice none 0 0] 39)).setRow w3.heap.size (tbA R a1))) := HB.out.trans (hbV.mono HB.out.size)
  replace HX : Hid (((w3.alloc (.cells #[.int .i64 0, .int .i64 0, .int .i64 0, .int .i64 0, .int .i64 0, .int .i64 0, .int .i64 0, .int .i64 0, .int .i64 0, .int .i64 0, .int .i64 0, .int .i64 0, .int .i64 0, .int .i64 0, .int .i64 0, .slice none 0 0, .slice none 0 0, .slice none 0 0, .slice none 0 0] 39)).setRow w3.heap.size (tbA R a1)).heap[w.heap.size]? = some (.cells (tbA t a) 31 (0, 0))) := row_below HX.out hbV
  replace HK : Hid (KT L0 w3.heap.size ((w3.alloc (.cells #[.int .i64 0, .int .i64 0, .int .i64 0, .int .i64 0, .int .i64 0, .int .i64 0, .int .i64 0, .int .i64 0, .int .i64 0, .int .i64 0, .int .i64 0, .int .i64 0, .int .i64 0, .int .i64 0, .int .i64 0, .slice none 0 0, .slice none 0 0, .slice none 0 0, .slice none 0 0] 39)).setRow w3.heap.size (tbA R a1)) R a1) := HK.out.below hbV
  have HP : Hid (((w3.alloc (.cells #[.int .i64 0, .int .i64 0, .int .i64 0, .int .i64 0, .int .i64 0, .int .i64 0, .int .i64 0, .int .i64 0, .int .i64 0, .int .i64 0, .int .i64 0, .int .i64 0, .int .i64 0, .int .i64 0, .int .i64 0, .slice none 0 0, .slice none 0 0, .slice none 0 0, .slice none 0 0] 39)).setRow w3.heap.size (tbA R a1)).heap[w3.heap.size]? = some (.cells (tbA R a1) 39 (0, 0))) := setRow_heap _ _ _ _ _ _ HN.out
  clear hbV
  go_wp2_with (first | (refine wpList_store_row rfl 39 (.tmp 6) (.tmp 31) rfl w3.heap.size (tbA R a1) rfl rfl 39 #[.int .i64 0, .int .i64 0, .int .i64 0, .int .i64 0, .int .i64 0, .int .i64 0, .int .i64 0, .int .i64 0, .int .i64 0, .int .i64 0, .int .i64 0, .int .i64 0, .int .i64 0, .int .i64 0, .int .i64 0, .slice none 0 0, .slice none 0 0, .slice none 0 0, .slice none 0 0] HN.out (by kernel_rfl) rfl (by simp [Value.oneCell']) ?_) | (refine wpList_load_row rfl 31 (.tmp 2) rfl w.heap.size rfl 31 (tbA t a) (0, 0) _ HX.out Tryz.underlying31 rfl (by kernel_rfl) ?_) | (refine wpList_load_row_w (by first | rfl | (simp [Region.wanted, yielded, Act.put, HRK.out])) 31 (.tmp 2) rfl w.heap.size rfl 31 (tbA t a) (0, 0) _ HX.out Tryz.underlying31 rfl (by kernel_rfl) ?_) | fail)
  clear HN
  revert HB HX HK HP HL
  generalize ((w3.alloc (.cells #[.int .i64 0, .int .i64 0, .int .i64 0, .int .i64 0, .int .i64 0, .int .i64 0, .int .i64 0, .int .i64 0, .int .i64 0, .int .i64 0, .int .i64 0, .int .i64 0, .int .i64 0, .int .i64 0, .int .i64 0, .slice none 0 0, .slice none 0 0, .slice none 0 0, .slice none 0 0] 39)).setRow w3.heap.size (tbA R a1)) = V0
  generalize w3.heap.size = N0
  intro HL HB HX HK HP
  refine Calls.mono (copy_own t a _ (HU.out _ HB.out).1 HW.out HS.out) ?_
  rintro e w4 ⟨a4, rfl, hb9, hm4, hc4⟩
  have hl1 : N0 < V0.heap.size := (Array.getElem?_eq_some_iff.1 HP.out).1
  replace HB : Hid (Below w.heap.size w w4) := HB.out.trans (hb9.mono HB.out.size)
  replace HX : Hid (w4.heap[w.heap.size]? = some (.cells (tbA t a) 31 (0, 0))) := row_below HX.out hb9
  replace HK : Hid (KT L0 N0 w4 R a1) := HK.out.below hb9
  replace HP : Hid (w4.heap[N0]? = some (.cells (tbA R a1) 39 (0, 0))) := row_below HP.out hb9
  have HC : Hid (Cpy w4 t a a4) := hc4
  have HM : Hid (WT V0.heap.size w4.heap.size w4 a4) := hm4.wt (by omega)
  replace HL : Hid (w.heap.size < L0 ∧ L0 ≤ N0 ∧ N0 < V0.heap.size ∧ V0.heap.size ≤ w4.heap.size) := ⟨HL.out.1, HL.out.2, hl1, hb9.size⟩
  clear hb9 hm4 hc4 hl1
  revert HM HL
  generalize V0.heap.size = L1
  intro HM HL
  have HN : Hid ((w4.alloc (.cells #[.int .i64 0, .int .i64 0, .int .i64 0, .int .i64 0, .int .i64 0, .int .i64 0, .int .i64 0, .int .i64 0, .int .i64 0, .int .i64 0, .int .i64 0, .int .i64 0, .int .i64 0, .int .i64 0, .int .i64 0, .slice none 0 0, .slice none 0 0, .slice none 0 0, .slice none 0 0] 39)).heap[w4.heap.size]? = some (.cells #[.int .i64 0, .int .i64 0, .int .i64 0, .int .i64 0, .int .i64 0, .int .i64 0, .int .i64 0, .int .i64 0, .int .i64 0, .int .i64 0, .int .i64 0, .int .i64 0, .int .i64 0, .int .i64 0, .int .i64 0, .slice none 0 0, .slice none 0 0, .slice none 0 0, .slice none 0 0] 39 (0, 0))) := new_row w4 _ _ _ rfl
  have hbV : Below w4.heap.size w4 ((w4.alloc (.cells #[.int .i64 0, .int .i64 0, .int .i64 0, .int .i64 0, .int .i64 0, .int .i64 0, .int .i64 0, .int .i64 0, .int .i64 0, .int .i64 0, .int .i64 0, .int .i64 0, .int .i64 0, .int .i64 0, .int .i64 0, .slice none 0 0, .slice none 0 0, .slice none 0 0, .slice none 0 0] 39)).setRow w4.heap.size (tbA t a4)) := below_setRow ((Below.refl _ _).alloc (Nat.le_refl _) _) (Nat.le_refl _) _
  replace HB : Hid (Below w.heap.size w ((w4.alloc (.cells #[.int .i64 0, .int .i64 0, .int .i64 0, .int .i64 0, .int .i64 0, .int .i64 0, .int .i64 0, .int .i64 0, .int .i64 0, .int .i64 0, .int .i64 0, .int .i64 0, .int .i64 0, .int .i64 0, .int .i64 0, .slice none 0 0, .slice none 0 0, .slice none 0 0, .slice none 0 0] 39)).setRow w4.heap.size (tbA t a4))) := HB.out.trans (hbV.mono HB.out.size)
  replace HX : Hid (((w4.alloc (.cells #[.int .i64 0, .int .i64 0, .int .i64 0, .int .i64 0, .int .i64 0, .int .i64 0, .int .i64 0, .int .i64 0, .int .i64 0, .int .i64 0, .int .i64 0, .int .i64 0, .int .i64 0, .int .i64 0, .int .i64 0, .slice none 0 0, .slice none 0 0, .slice none 0 0, .slice none 0 0] 39)).setRow w4.heap.size (tbA t a4)).heap[w.heap.size]? = some (.cells (tbA t a) 31 (0, 0))) := row_below HX.out hbV
  replace HK : Hid (KT L0 N0 ((w4.alloc (.cells #[.int .i64 0, .int .i64 0, .int .i64 0, .int .i64 0, .int .i64 0, .int .i64 0, .int .i64 0, .int .i64 0, .int .i64 0, .int .i64 0, .int .i64 0, .int .i64 0, .int .i64 0, .int .i64 0, .int .i64 0, .slice none 0 0, .slice none 0 0, .slice none 0 0, .slice none 0 0] 39)).setRow w4.heap.size (tbA t a4)) R a1) := HK.out.below hbV
  replace HP : Hid (((w4.alloc (.cells #[.int .i64 0, .int .i64 0, .int .i64 0, .int .i64 0, .int .i64 0, .int .i64 0, .int .i64 0, .int .i64 0, .int .i64 0, .int .i64 0, .int .i64 0, .int .i64 0, .int .i64 0, .int .i64 0, .int .i64 0, .slice none 0 0, .slice none 0 0, .slice none 0 0, .slice none 0 0] 39)).setRow w4.heap.size (tbA t a4)).heap[N0]? = some (.cells (tbA R a1) 39 (0, 0))) := row_below HP.out hbV
  replace HC : Hid (Cpy ((w4.alloc (.cells #[.int .i64 0, .int .i64 0, .int .i64 0, .int .i64 0, .int .i64 0, .int .i64 0, .int .i64 0, .int .i64 0, .int .i64 0, .int .i64 0, .int .i64 0, .int .i64 0, .int .i64 0, .int .i64 0, .int .i64 0, .slice none 0 0, .slice none 0 0, .slice none 0 0, .slice none 0 0] 39)).setRow w4.heap.size (tbA t a4)) t a a4) := HC.out.below hbV
  replace HM : Hid (WT L1 w4.heap.size ((w4.alloc (.cells #[.int .i64 0, .int .i64 0, .int .i64 0, .int .i64 0, .int .i64 0, .int .i64 0, .int .i64 0, .int .i64 0, .int .i64 0, .int .i64 0, .int .i64 0, .int .i64 0, .int .i64 0, .int .i64 0, .int .i64 0, .slice none 0 0, .slice none 0 0, .slice none 0 0, .slice none 0 0] 39)).setRow w4.heap.size (tbA t a4)) a4) := HM.out.below hbV
  have HY : Hid (((w4.alloc (.cells #[.int .i64 0, .int .i64 0, .int .i64 0, .int .i64 0, .int .i64 0, .int .i64 0, .int .i64 0, .int .i64 0, .int .i64 0, .int .i64 0, .int .i64 0, .int .i64 0, .int .i64 0, .int .i64 0, .int .i64 0, .slice none 0 0, .slice none 0 0, .slice none 0 0, .slice none 0 0] 39)).setRow w4.heap.size (tbA t a4)).heap[w4.heap.size]? = some (.cells (tbA t a4) 39 (0, 0))) := setRow_heap _ _ _ _ _ _ HN.out
  clear hbV
  go_wp2_with (first | (refine wpList_store_row rfl 39 (.tmp 8) (.tmp 34) rfl w4.heap.size (tbA t a4) rfl rfl 39 #[.int .i64 0, .int .i64 0, .int .i64 0, .int .i64 0, .int .i64 0, .int .i64 0, .int .i64 0, .int .i64 0, .int .i64 0, .int .i64 0, .int .i64 0, .int .i64 0, .int .i64 0, .int .i64 0, .int .i64 0, .slice none 0 0, .slice none 0 0, .slice none 0 0, .slice none 0 0] HN.out (by kernel_rfl) rfl (by simp [Value.oneCell']) ?_) | fail)
  clear HN
  revert HB HX HK HP HC HM HY HL
  generalize ((w4.alloc (.cells #[.int .i64 0, .int .i64 0, .int .i64 0, .int .i64 0, .int .i64 0, .int .i64 0, .int .i64 0, .int .i64 0, .int .i64 0, .int .i64 0, .int .i64 0, .int .i64 0, .int .i64 0, .int .i64 0, .int .i64 0, .slice none 0 0, .slice none 0 0, .slice none 0 0, .slice none 0 0] 39)).setRow w4.heap.size (tbA t a4)) = V1a
  generalize w4.heap.size = N1
  intro HL HB HX HK HP HC HM HY
  refine Calls.mono (in_tos na nc n zs V1a (HNS.out _ HB.out) HNB.out) ?_
  rintro e V1 ⟨rfl, hb9, hgi⟩
  have hl1 : N1 < V1a.heap.size := (Array.getElem?_eq_some_iff.1 HY.out).1
  replace HB : Hid (Below w.heap.size w V1) := HB.out.trans (hb9.mono HB.out.size)
  replace HX : Hid (V1.heap[w.heap.size]? = some (.cells (tbA t a) 31 (0, 0))) := row_below HX.out hb9
  replace HK : Hid (KT L0 N0 V1 R a1) := HK.out.below hb9
  replace HP : Hid (V1.heap[N0]? = some (.cells (tbA R a1) 39 (0, 0))) := row_below HP.out hb9
  replace HC : Hid (Cpy V1 t a a4) := HC.out.below hb9
  replace HM : Hid (WT L1 N1 V1 a4) := HM.out.below hb9
  replace HY : Hid (V1.heap[N1]? = some (.cells (tbA t a4) 39 (0, 0))) := row_below HY.out hb9
  have HI : Hid (LS 1 V1a.heap.size V1.heap.size V1 (some ⟨V1a.heap.size, 0, none⟩) n (inX zs)) := blk_ls hgi hgi.lt
  replace HL : Hid (w.heap.size < L0 ∧ L0 ≤ N0 ∧ N0 < L1 ∧ L1 ≤ N1 ∧ N1 < V1a.heap.size ∧ V1a.heap.size ≤ V1.heap.size) := ⟨HL.out.1, HL.out.2.1, HL.out.2.2.1, HL.out.2.2.2, hl1, hb9.size⟩
  clear hb9 hgi hl1
  revert HI HL
  generalize V1a.heap.size = I0
  obtain ⟨I1, HI1⟩ : ∃ i, Hid (V1.heap.size = i) := ⟨_, rfl⟩
  rw [HI1.out]
  intro HI HL
  go_wp2_with (first | (refine wpList_load_row rfl 39 (.tmp 8) rfl N1 rfl 39 (tbA t a4) (0, 0) _ HY.out Tryz.underlying39 rfl (by kernel_rfl) ?_) | (refine wpList_load_row_w (by first | rfl | (simp [Region.wanted, yielded, Act.put, HRK.out])) 39 (.tmp 8) rfl N1 rfl 39 (tbA t a4) (0, 0) _ HY.out Tryz.underlying39 rfl (by kernel_rfl) ?_) | fail)
  refine Calls.mono (HIM.out a4 I0 V1 HC.out.m HC.out.w HC.out.s (HU.out _ HB.out).2 HC.out.c HI.out.1) ?_
  rintro e w5 ⟨R9, a5, q9, rfl, hAq, hb9, ho⟩
  obtain ⟨e1, e2⟩ := HUN.out HAQ.out hAq
  subst e1 e2
  have hl2 : I1 ≤ V1.heap.size := Nat.le_of_eq HI1.out.symm
  replace HB : Hid (Below w.heap.size w w5) := HB.out.trans (hb9.mono HB.out.size)
  replace HX : Hid (w5.heap[w.heap.size]? = some (.cells (tbA t a) 31 (0, 0))) := row_below HX.out hb9
  replace HK : Hid (KT L0 N0 w5 R a1) := HK.out.below hb9
  replace HP : Hid (w5.heap[N0]? = some (.cells (tbA R a1) 39 (0, 0))) := row_below HP.out hb9
  replace HC : Hid (Cpy w5 t a a4) := HC.out.below hb9
  replace HM : Hid (WT L1 N1 w5 a4) := HM.out.below hb9
  replace HY : Hid (w5.heap[N1]? = some (.cells (tbA t a4) 39 (0, 0))) := row_below HY.out hb9
  replace HI : Hid (LS 1 I0 I1 w5 (some ⟨I0, 0, none⟩) n (inX zs)) := HI.out.below hb9
  have HS5 : Hid (TS a5 ∧ TW R a5) := ⟨ho.s, ho.w⟩
  have hk5 := ho.kt
  have ho5 := ho.o
  have HG : Hid (KT V1.heap.size w5.heap.size w5 R a5) := hk5
  have HO : Hid (OTa V1.heap.size w5.heap.size w5 a5) := ho5
  replace HL : Hid (w.heap.size < L0 ∧ L0 ≤ N0 ∧ N0 < L1 ∧ L1 ≤ N1 ∧ N1 < I0 ∧ I0 ≤ I1 ∧ I1 ≤ V1.heap.size ∧ V1.heap.size ≤ w5.heap.size) := ⟨HL.out.1, HL.out.2.1, HL.out.2.2.1, HL.out.2.2.2.1, HL.out.2.2.2.2.1, HL.out.2.2.2.2.2, hl2, hb9.size⟩
  have HE5 : Hid (a1.pn = a5.pn ∧ a1.dn = a5.dn ∧ a1.cn = a5.cn ∧ a1.sn = a5.sn) := tw_eq HS5.out.2 HW1.out
  clear hb9 hk5 ho5 ho hl2 hAq HI1
  revert HG HO HL
  generalize V1.heap.size = L2
  intro HG HO HL
  have hqq : (q != q) = false := by simp
  have HN : Hid ((w5.alloc (.cells #[.int .i64 0, .int .i64 0, .int .i64 0, .int .i64 0, .int .i64 0, .int .i64 0, .int .i64 0, .int .i64 0, .int .i64 0, .int .i64 0, .int .i64 0, .int .i64 0, .int .i64 0, .int .i64 0, .int .i64 0, .slice none 0 0, .slice none 0 0, .slice none 0 0, .slice none 0 0] 39)).heap[w5.heap.size]? = some (.cells #[.int .i64 0, .int .i64 0, .int .i64 0, .int .i64 0, .int .i64 0, .int .i64 0, .int .i64 0, .int .i64 0, .int .i64 0, .int .i64 0, .int .i64 0, .int .i64 0, .int .i64 0, .int .i64 0, .int .i64 0, .slice none 0 0, .slice none 0 0, .slice none 0 0, .slice none 0 0] 39 (0, 0))) := new_row w5 _ _ _ rfl
  have hbV : Below w5.heap.size w5 ((w5.alloc (.cells #[.int .i64 0, .int .i64 0, .int .i64 0, .int .i64 0, .int .i64 0, .int .i64 0, .int .i64 0, .int .i64 0, .int .i64 0, .int .i64 0, .int .i64 0, .int .i64 0, .int .i64 0, .int .i64 0, .int .i64 0, .slice none 0 0, .slice none 0 0, .slice none 0 0, .slice none 0 0] 39)).setRow w5.heap.size (tbA R a5)) := below_setRow ((Below.refl _ _).alloc (Nat.le_refl _) _) (Nat.le_refl _) _
  replace HB : Hid (Below w.heap.size w ((w5.alloc (.cells #[.int .i64 0, .int .i64 0, .int .i64 0, .int .i64 0, .int .i64 0, .int .i64 0, .int .i64 0, .int .i64 0, .int .i64 0, .int .i64 0, .int .i64 0, .int .i64 0, .int .i64 0, .int .i64 0, .int .i64 0, .slice none 0 0, .slice none 0 0, .slice none 0 0, .slice none 0 0] 39)).setRow w5.heap.size (tbA R a5))) := HB.out.trans (hbV.mono HB.out.size)
  replace HX : Hid (((w5.alloc (.cells #[.int .i64 0, .int .i64 0, .int .i64 0, .int .i64 0, .int .i64 0, .int .i64 0, .int .i64 0, .int .i64 0, .int .i64 0, .int .i64 0, .int .i64 0, .int .i64 0, .int .i64 0, .int .i64 0, .int .i64 0, .slice none 0 0, .slice none 0 0, .slice none 0 0, .slice none 0 0] 39)).setRow w5.heap.size (tbA R a5)).heap[w.heap.size]? = some (.cells (tbA t a) 31 (0, 0))) := row_below HX.out hbV
  replace HK : Hid (KT L0 N0 ((w5.alloc (.cells #[.int .i64 0, .int .i64 0, .int .i64 0, .int .i64 0, .int .i64 0, .int .i64 0, .int .i64 0, .int .i64 0, .int .i64 0, .int .i64 0, .int .i64 0, .int .i64 0, .int .i64 0, .int .i64 0, .int .i64 0, .slice none 0 0, .slice none 0 0, .slice none 0 0, .slice none 0 0] 39)).setRow w5.heap.size (tbA R a5)) R a1) := HK.out.below hbV
  replace HP : Hid (((w5.alloc (.cells #[.int .i64 0, .int .i64 0, .int .i64 0, .int .i64 0, .int .i64 0, .int .i64 0, .int .i64 0, .int .i64 0, .int .i64 0, .int .i64 0, .int .i64 0, .int .i64 0, .int .i64 0, .int .i64 0, .int .i64 0, .slice none 0 0, .slice none 0 0, .slice none 0 0, .slice none 0 0] 39)).setRow w5.heap.size (tbA R a5)).heap[N0]? = some (.cells (tbA R a1) 39 (0, 0))) := row_below HP.out hbV
  replace HC : Hid (Cpy ((w5.alloc (.cells #[.int .i64 0, .int .i64 0, .int .i64 0, .int .i64 0, .int .i64 0, .int .i64 0, .int .i64 0, .int .i64 0, .int .i64 0, .int .i64 0, .int .i64 0, .int .i64 0, .int .i64 0, .int .i64 0, .int .i64 0, .slice none 0 0, .slice none 0 0, .slice none 0 0, .slice none 0 0] 39)).setRow w5.heap.size (tbA R a5)) t a a4) := HC.out.below hbV
  replace HM : Hid (WT L1 N1 ((w5.alloc (.cells #[.int .i64 0, .int .i64 0, .int .i64 0, .int .i64 0, .int .i64 0, .int .i64 0, .int .i64 0, .int .i64 0, .int .i64 0, .int .i64 0, .int .i64 0, .int .i64 0, .int .i64 0, .int .i64 0, .int .i64 0, .slice none 0 0, .slice none 0 0, .slice none 0 0, .slice none 0 0] 39)).setRow w5.heap.size (tbA R a5)) a4) := HM.out.below hbV
  replace HY : Hid (((w5.alloc (.cells #[.int .i64 0, .int .i64 0, .int .i64 0, .int .i64 0, .int .i64 0, .int .i64 0, .int .i64 0, .int .i64 0, .int .i64 0, .int .i64 0, .int .i64 0, .int .i64 0, .int .i64 0, .int .i64 0, .int .i64 0, .slice none 0 0, .slice none 0 0, .slice none 0 0, .slice none 0 0] 39)).setRow w5.heap.size (tbA R a5)).heap[N1]? = some (.cells (tbA t a4) 39 (0, 0))) := row_below HY.out hbV
  replace HI : Hid (LS 1 I0 I1 ((w5.alloc (.cells #[.int .i64 0, .int .i64 0, .int .i64 0, .int .i64 0, .int .i64 0, .int .i64 0, .int .i64 0, .int .i64 0, .int .i64 0, .int .i64 0, .int .i64 0, .int .i64 0, .int .i64 0, .int .i64 0, .int .i64 0, .slice none 0 0, .slice none 0 0, .slice none 0 0, .slice none 0 0] 39)).setRow w5.heap.size (tbA R a5)) (some ⟨I0, 0, none⟩) n (inX zs)) := HI.out.below hbV
  replace HG : Hid (KT L2 w5.heap.size ((w5.alloc (.cells #[.int .i64 0, .int .i64 0, .int .i64 0, .int .i64 0, .int .i64 0, .int .i64 0, .int .i64 0, .int .i64 0, .int .i64 0, .int .i64 0, .int .i64 0, .int .i64 0, .int .i64 0, .int .i64 0, .int .i64 0, .slice none 0 0, .slice none 0 0, .slice none 0 0, .slice none 0 0] 39)).setRow w5.heap.size (tbA R a5)) R a5) := HG.out.below hbV
  replace HO : Hid (OTa L2 w5.heap.size ((w5.alloc (.cells #[.int .i64 0, .int .i64 0, .int .i64 0, .int .i64 0, .int .i64 0, .int .i64 0, .int .i64 0, .int .i64 0, .int .i64 0, .int .i64 0, .int .i64 0, .int .i64 0, .int .i64 0, .int .i64 0, .int .i64 0, .slice none 0 0, .slice none 0 0, .slice none 0 0, .slice none 0 0] 39)).setRow w5.heap.size (tbA R a5)) a5) := HO.out.below hbV
  have HZ : Hid (((w5.alloc (.cells #[.int .i64 0, .int .i64 0, .int .i64 0, .int .i64 0, .int .i64 0, .int .i64 0, .int .i64 0, .int .i64 0, .int .i64 0, .int .i64 0, .int .i64 0, .int .i64 0, .int .i64 0, .int .i64 0, .int .i64 0, .slice none 0 0, .slice none 0 0, .slice none 0 0, .slice none 0 0] 39)).setRow w5.heap.size (tbA R a5)).heap[w5.heap.size]? = some (.cells (tbA R a5) 39 (0, 0))) := setRow_heap _ _ _ _ _ _ HN.out
  clear hbV
  go_wp2_with (first | (refine wpList_store_row rfl 39 (.tmp 10) (.tmp 41) rfl w5.heap.size (tbA R a5) rfl rfl 39 #[.int .i64 0, .int .i64 0, .int .i64 0, .int .i64 0, .int .i64 0, .int .i64 0, .int .i64 0, .int .i64 0, .int .i64 0, .int .i64 0, .int .i64 0, .int .i64 0, .int .i64 0, .int .i64 0, .int .i64 0, .slice none 0 0, .slice none 0 0, .slice none 0 0, .slice none 0 0] HN.out (by kernel_rfl) rfl (by simp [Value.oneCell']) ?_) | (refine wpList_load_row rfl 39 (.tmp 10) rfl w5.heap.size rfl 39 (tbA R a5) (0, 0) _ HZ.out Tryz.underlying39 rfl (by kernel_rfl) ?_) | (refine wpList_load_row_w (by first | rfl | (simp [Region.wanted, yielded, Act.put, HRK.out])) 39 (.tmp 10) rfl w5.heap.size rfl 39 (tbA R a5) (0, 0) _ HZ.out Tryz.underlying39 rfl (by kernel_rfl) ?_) | (refine wpList_load_row rfl 39 (.tmp 6) rfl N0 rfl 39 (tbA R a1) (0, 0) _ HP.out Tryz.underlying39 rfl (by kernel_rfl) ?_) | (refine wpList_load_row_w (by first | rfl | (simp [Region.wanted, yielded, Act.put, HRK.out])) 39 (.tmp 6) rfl N0 rfl 39 (tbA R a1) (0, 0) _ HP.out Tryz.underlying39 rfl (by kernel_rfl) ?_) | fail)
  clear HN
  revert HB HX HK HP HC HM HY HI HG HO HZ HL
  generalize ((w5.alloc (.cells #[.int .i64 0, .int .i64 0, .int .i64 0, .int .i64 0, .int .i64 0, .int .i64 0, .int .i64 0, .int .i64 0, .int .i64 0, .int .i64 0, .int .i64 0, .int .i64 0, .int .i64 0, .int .i64 0, .int .i64 0, .slice none 0 0, .slice none 0 0, .slice none 0 0, .slice none 0 0] 39)).setRow w5.heap.size (tbA R a5)) = V2
  generalize w5.heap.size = N2
  intro HL HB HX HK HP HC HM HY HI HG HO HZ
  refine Calls.mono (eq_tab R a5 a1 _ HG.out.tm HK.out.tm HS5.out.1 HE5.out.1 HE5.out.2.1 HE5.out.2.2.1 HE5.out.2.2.2) ?_
  rintro e w6 ⟨rfl, hb9⟩
  replace HB : Hid (Below w.heap.size w w6) := HB.out.trans (hb9.mono HB.out.size)
  replace HX : Hid (w6.heap[w.heap.size]? = some (.cells (tbA t a) 31 (0, 0))) := row_below HX.out hb9
  replace HK : Hid (KT L0 N0 w6 R a1) := HK.out.below hb9
  replace HP : Hid (w6.heap[N0]? = some (.cells (tbA R a1) 39 (0, 0))) := row_below HP.out hb9
  replace HC : Hid (Cpy w6 t a a4) := HC.out.below hb9
  replace HM : Hid (WT L1 N1 w6 a4) := HM.out.below hb9
  replace HY : Hid (w6.heap[N1]? = some (.cells (tbA t a4) 39 (0, 0))) := row_below HY.out hb9
  replace HI : Hid (LS 1 I0 I1 w6 (some ⟨I0, 0, none⟩) n (inX zs)) := HI.out.below hb9
  replace HG : Hid (KT L2 N2 w6 R a5) := HG.out.below hb9
  replace HO : Hid (OTa L2 N2 w6 a5) := HO.out.below hb9
  replace HZ : Hid (w6.heap[N2]? = some (.cells (tbA R a5) 39 (0, 0))) := row_below HZ.out hb9
  clear hb9
  go_wp2
  have HB6 : Hid (∀ X, Below w6.heap.size w6 X → Below w.heap.size w X) := fun X hX => HB.out.trans (hX.mono HB.out.size)
  have HX6 : Hid (∀ X, Below w6.heap.size w6 X → X.heap[w.heap.size]? = some (.cells (tbA t a) 31 (0, 0))) := fun X hX => row_below HX.out hX
  have HK6 : Hid (∀ X, Below w6.heap.size w6 X → KT L0 N0 X R a1) := fun X hX => HK.out.below hX
  have HP6 : Hid (∀ X, Below w6.heap.size w6 X → X.heap[N0]? = some (.cells (tbA R a1) 39 (0, 0))) := fun X hX => row_below HP.out hX
  have HC6 : Hid (∀ X, Below w6.heap.size w6 X → Cpy X t a a4) := fun X hX => HC.out.below hX
  have HM6 : Hid (∀ X, Below w6.heap.size w6 X → WT L1 N1 X a4) := fun X hX => HM.out.below hX
  have HY6 : Hid (∀ X, Below w6.heap.size w6 X → X.heap[N1]? = some (.cells (tbA t a4) 39 (0, 0))) := fun X hX => row_below HY.out hX
  have HI6 : Hid (∀ X, Below w6.heap.size w6 X → LS 1 I0 I1 X (some ⟨I0, 0, none⟩) n (inX zs)) := fun X hX => HI.out.below hX
  have HG6 : Hid (∀ X, Below w6.heap.size w6 X → KT L2 N2 X R a5) := fun X hX => HG.out.below hX
  have HO6 : Hid (∀ X, Below w6.heap.size w6 X → OTa L2 N2 X a5) := fun X hX => HO.out.below hX
  have HZ6 : Hid (∀ X, Below w6.heap.size w6 X → X.heap[N2]? = some (.cells (tbA R a5) 39 (0, 0))) := fun X hX => row_below HZ.out hX
  clear HB HX HK HP HC HM HY HI HG HO HZ
  refine wp_region_inv (by kernel_rfl) (by kernel_rfl) (fun A ℓ a' w' => ∃ (x52 x53 x54 x55 x56 : Value), a' = (((((A.put (some 52) x52).put (some 53) x53).put (some 54) x54).put (some 55) x55).put (some 56) x56) ∧ TI t a a4 w6 w' (ℓ 0) (ℓ 1) (ℓ 2) (ℓ 3) (ℓ 4) x52 x53 x54 x55 x56) ?_ ?_ ?_ ?_
  · exact ⟨undef, undef, undef, undef, undef, (by simp only [Act.put, List.setIfInBounds_toArray, List.set_cons_zero, List.set_cons_succ]), ⟨(Below.refl _ _).drew, (fun g => by cases g), (fun g => by cases g), (fun g => by cases g), (fun g => by cases g), (fun g => by cases g)⟩⟩
  · intro ℓ a' w' hI hall
    obtain ⟨x52, x53, x54, x55, x56, rfl, hr⟩ := hI
    have hall' : ∀ i, i < 5 → ℓ i = true := hall
    obtain rfl := hr.f4 (hall' 4 (by omega))
    have HB : Hid (Below w.heap.size w w') := HB6.out _ hr.gb
    have HX : Hid (w'.heap[w.heap.size]? = some (.cells (tbA t a) 31 (0, 0))) := HX6.out _ hr.gb
    have HK : Hid (KT L0 N0 w' R a1) := HK6.out _ hr.gb
    have HP : Hid (w'.heap[N0]? = some (.cells (tbA R a1) 39 (0, 0))) := HP6.out _ hr.gb
    have HC : Hid (Cpy w' t a a4) := HC6.out _ hr.gb
    have HM : Hid (WT L1 N1 w' a4) := HM6.out _ hr.gb
    have HY : Hid (w'.heap[N1]? = some (.cells (tbA t a4) 39 (0, 0))) := HY6.out _ hr.gb
    have HI : Hid (LS 1 I0 I1 w' (some ⟨I0, 0, none⟩) n (inX zs)) := HI6.out _ hr.gb
    have HG : Hid (KT L2 N2 w' R a5) := HG6.out _ hr.gb
    have HO : Hid (OTa L2 N2 w' a5) := HO6.out _ hr.gb
    have HZ : Hid (w'.heap[N2]? = some (.cells (tbA R a5) 39 (0, 0))) := HZ6.out _ hr.gb
    clear hr hall hall' HB6 HX6 HK6 HP6 HC6 HM6 HY6 HI6 HG6 HO6 HZ6
    simp only [Act.put, List.setIfInBounds_toArray, List.set_cons_zero, List.set_cons_succ]
    go_wp2_with fail
    refine Calls.mono (in_tos na nc n zs w' (HNS.out _ HB.out) HNB.out) ?_
    rintro e va ⟨rfl, hb9, hgi⟩
    replace HB : Hid (Below w.heap.size w va) := HB.out.trans (hb9.mono HB.out.size)
    replace HX : Hid (va.heap[w.heap.size]? = some (.cells (tbA t a) 31 (0, 0))) := row_below HX.out hb9
    replace HK : Hid (KT L0 N0 va R a1) := HK.out.below hb9
    replace HP : Hid (va.heap[N0]? = some (.cells (tbA R a1) 39 (0, 0))) := row_below HP.out hb9
    replace HC : Hid (Cpy va t a a4) := HC.out.below hb9
    replace HM : Hid (WT L1 N1 va a4) := HM.out.below hb9
    replace HY : Hid (va.heap[N1]? = some (.cells (tbA t a4) 39 (0, 0))) := row_below HY.out hb9
    replace HI : Hid (LS 1 I0 I1 va (some ⟨I0, 0, none⟩) n (inX zs)) := HI.out.below hb9
    replace HG : Hid (KT L2 N2 va R a5) := HG.out.below hb9
    replace HO : Hid (OTa L2 N2 va a5) := HO.out.below hb9
    replace HZ : Hid (va.heap[N2]? = some (.cells (tbA R a5) 39 (0, 0))) := row_below HZ.out hb9
    clear hb9
    go_wp2_with fail
    refine Calls.mono (in_eqs (some ⟨I0, 0, none⟩) (some ⟨w'.heap.size, 0, none⟩) n n n zs va HI.out.1 hgi.seg HNB.out) ?_
    rintro e vb ⟨rfl, hb9⟩
    replace HB : Hid (Below w.heap.size w vb) := HB.out.trans (hb9.mono HB.out.size)
    replace HX : Hid (vb.heap[w.heap.size]? = some (.cells (tbA t a) 31 (0, 0))) := row_below HX.out hb9
    replace HK : Hid (KT L0 N0 vb R a1) := HK.out.below hb9
    replace HP : Hid (vb.heap[N0]? = some (.cells (tbA R a1) 39 (0, 0))) := row_below HP.out hb9
    replace HC : Hid (Cpy vb t a a4) := HC.out.below hb9
    replace HM : Hid (WT L1 N1 vb a4) := HM.out.below hb9
    replace HY : Hid (vb.heap[N1]? = some (.cells (tbA t a4) 39 (0, 0))) := row_below HY.out hb9
    replace HI : Hid (LS 1 I0 I1 vb (some ⟨I0, 0, none⟩) n (inX zs)) := HI.out.below hb9
    replace HG : Hid (KT L2 N2 vb R a5) := HG.out.below hb9
    replace HO : Hid (OTa L2 N2 vb a5) := HO.out.below hb9
    replace HZ : Hid (vb.heap[N2]? = some (.cells (tbA R a5) 39 (0, 0))) := row_below HZ.out hb9
    clear hb9 hgi
    go_wp2_with (first | (refine wpList_load_row rfl 39 (.tmp 8) rfl N1 rfl 39 (tbA t a4) (0, 0) _ HY.out Tryz.underlying39 rfl (by kernel_rfl) ?_) | (refine wpList_load_row_w (by first | rfl | (simp [Region.wanted, yielded, Act.put, HRK.out])) 39 (.tmp 8) rfl N1 rfl 39 (tbA t a4) (0, 0) _ HY.out Tryz.underlying39 rfl (by kernel_rfl) ?_) | fail)
    refine Calls.mono (mk_tab2 t a4 L1 N1 _ HM.out HC.out.s (Nat.le_of_lt (Array.getElem?_eq_some_iff.1 HY.out).1)) ?_
    rintro e v3 ⟨⟨rk, rfl, hrk, hrku⟩, hmk⟩
    replace HB : Hid (Below w.heap.size w v3) := HB.out.trans (hmk.low (by have := HL.out; omega) HB.out.size)
    replace HX : Hid (v3.heap[w.heap.size]? = some (.cells (tbA t a) 31 (0, 0))) := (hmk.b.block _ (Array.getElem?_eq_some_iff.1 HX.out).1 (.inl (by have := HL.out; omega))).trans HX.out
    replace HK : Hid (KT L0 N0 v3 R a1) := HK.out.mk' hmk (.inl (by have := HL.out; omega))
    replace HP : Hid (v3.heap[N0]? = some (.cells (tbA R a1) 39 (0, 0))) := (hmk.b.block _ (Array.getElem?_eq_some_iff.1 HP.out).1 (.inl (by have := HL.out; omega))).trans HP.out
    replace HI : Hid (LS 1 I0 I1 v3 (some ⟨I0, 0, none⟩) n (inX zs)) := HI.out.mk' hmk (.inr (by have := HL.out; omega))
    replace HG : Hid (KT L2 N2 v3 R a5) := HG.out.mk' hmk (.inr (by have := HL.out; omega))
    replace HO : Hid (OTa L2 N2 v3 a5) := HO.out.mkk hmk (.inr (by have := HL.out; omega))
    replace HZ : Hid (v3.heap[N2]? = some (.cells (tbA R a5) 39 (0, 0))) := (hmk.b.block _ (Array.getElem?_eq_some_iff.1 HZ.out).1 (.inr (by have := HL.out; omega))).trans HZ.out
    clear hmk HC HM HY
    go_wp2_with fail
    refine Calls.mono (mk_ints I0 I1 n n rk (some ⟨I0, 0, none⟩) v3 HI.out.2 HNB.out hrk (by omega)) ?_
    rintro e v3b ⟨he, hmk⟩
    obtain ⟨rk2, hrk2⟩ : ∃ z, rk + 1 * (n : Int) = z := ⟨_, rfl⟩
    rw [hrk2] at he
    subst he
    replace HB : Hid (Below w.heap.size w v3b) := HB.out.trans (hmk.low (by have := HL.out; omega) HB.out.size)
    replace HX : Hid (v3b.heap[w.heap.size]? = some (.cells (tbA t a) 31 (0, 0))) := (hmk.b.block _ (Array.getElem?_eq_some_iff.1 HX.out).1 (.inl (by have := HL.out; omega))).trans HX.out
    replace HK : Hid (KT L0 N0 v3b R a1) := HK.out.mk' hmk (.inl (by have := HL.out; omega))
    replace HP : Hid (v3b.heap[N0]? = some (.cells (tbA R a1) 39 (0, 0))) := (hmk.b.block _ (Array.getElem?_eq_some_iff.1 HP.out).1 (.inl (by have := HL.out; omega))).trans HP.out
    replace HG : Hid (KT L2 N2 v3b R a5) := HG.out.mk' hmk (.inr (by have := HL.out; omega))
    replace HO : Hid (OTa L2 N2 v3b a5) := HO.out.mkk hmk (.inr (by have := HL.out; omega))
    replace HZ : Hid (v3b.heap[N2]? = some (.cells (tbA R a5) 39 (0, 0))) := (hmk.b.block _ (Array.getElem?_eq_some_iff.1 HZ.out).1 (.inr (by have := HL.out; omega))).trans HZ.out
    clear hmk HI
    have hrk0 : ¬ (rk2 < 0) := by omega
    have HRK : Hid (decide (rk2 < 0) = false) := decide_eq_false (by omega)
    clear hrk hrku hrk2
    go_wp2_with (first | (refine wpList_load_row rfl 39 (.tmp 10) rfl N2 rfl 39 (tbA R a5) (0, 0) _ HZ.out Tryz.underlying39 rfl (by kernel_rfl) ?_) | (refine wpList_load_row_w (by first | rfl | (simp [Region.wanted, yielded, Act.put, HRK.out])) 39 (.tmp 10) rfl N2 rfl 39 (tbA R a5) (0, 0) _ HZ.out Tryz.underlying39 rfl (by kernel_rfl) ?_) | (refine wpList_load_row rfl 39 (.tmp 6) rfl N0 rfl 39 (tbA R a1) (0, 0) _ HP.out Tryz.underlying39 rfl (by kernel_rfl) ?_) | (refine wpList_load_row_w (by first | rfl | (simp [Region.wanted, yielded, Act.put, HRK.out])) 39 (.tmp 6) rfl N0 rfl 39 (tbA R a1) (0, 0) _ HP.out Tryz.underlying39 rfl (by kernel_rfl) ?_) | fail)
    refine Calls.mono (eq_tab R a5 a1 _ HG.out.tm HK.out.tm HS5.out.1 HE5.out.1 HE5.out.2.1 HE5.out.2.2.1 HE5.out.2.2.2) ?_
    rintro e v4 ⟨rfl, hb9⟩
    replace HB : Hid (Below w.heap.size w v4) := HB.out.trans (hb9.mono HB.out.size)
    replace HX : Hid (v4.heap[w.heap.size]? = some (.cells (tbA t a) 31 (0, 0))) := row_below HX.out hb9
    replace HK : Hid (KT L0 N0 v4 R a1) := HK.out.below hb9
    replace HP : Hid (v4.heap[N0]? = some (.cells (tbA R a1) 39 (0, 0))) := row_below HP.out hb9
    replace HG : Hid (KT L2 N2 v4 R a5) := HG.out.below hb9
    replace HO : Hid (OTa L2 N2 v4 a5) := HO.out.below hb9
    replace HZ : Hid (v4.heap[N2]? = some (.cells (tbA R a5) 39 (0, 0))) := row_below HZ.out hb9
    clear hb9
    go_wp2_with (first | (refine wpList_load_row rfl 39 (.tmp 10) rfl N2 rfl 39 (tbA R a5) (0, 0) _ HZ.out Tryz.underlying39 rfl (by kernel_rfl) ?_) | (refine wpList_load_row_w (by first | rfl | (simp [Region.wanted, yielded, Act.put, HRK.out])) 39 (.tmp 10) rfl N2 rfl 39 (tbA R a5) (0, 0) _ HZ.out Tryz.underlying39 rfl (by kernel_rfl) ?_) | fail)
    refine Calls.mono (mkv_tab R a5 L2 N2 _ HO.out HS5.out.1 (Nat.le_of_lt (Array.getElem?_eq_some_iff.1 HZ.out).1)) ?_
    rintro e v5 ⟨rfl, hkz, hmk, hj⟩
    replace HB : Hid (Below w.heap.size w v5) := HB.out.trans (hmk.low (by have := HL.out; omega) HB.out.size)
    replace HX : Hid (v5.heap[w.heap.size]? = some (.cells (tbA t a) 31 (0, 0))) := (hmk.b.block _ (Array.getElem?_eq_some_iff.1 HX.out).1 (.inl (by have := HL.out; omega))).trans HX.out
    replace HK : Hid (KT L0 N0 v5 R a1) := HK.out.mk' hmk (.inl (by have := HL.out; omega))
    replace HP : Hid (v5.heap[N0]? = some (.cells (tbA R a1) 39 (0, 0))) := (hmk.b.block _ (Array.getElem?_eq_some_iff.1 HP.out).1 (.inl (by have := HL.out; omega))).trans HP.out
    replace HZ : Hid (v5.heap[N2]? = some (.cells (tbA R a5) 39 (0, 0))) := (hmk.b.block _ (Array.getElem?_eq_some_iff.1 HZ.out).1 (.inr (by have := HL.out; omega))).trans HZ.out
    clear hmk HG HO
    have HJ : Hid (HTb v5 a5) := hj
    clear hj
    obtain ⟨kz, HKZ⟩ : ∃ z, Hid (Kz a5 = z) := ⟨_, rfl⟩
    rw [HKZ.out] at hkz ⊢
    have hkz0 : ¬ (kz < 0) := by omega
    go_wp2_with (first | (refine wpList_load_row rfl 39 (.tmp 10) rfl N2 rfl 39 (tbA R a5) (0, 0) _ HZ.out Tryz.underlying39 rfl (by kernel_rfl) ?_) | (refine wpList_load_row_w (by first | rfl | (simp [Region.wanted, yielded, Act.put, HRK.out])) 39 (.tmp 10) rfl N2 rfl 39 (tbA R a5) (0, 0) _ HZ.out Tryz.underlying39 rfl (by kernel_rfl) ?_) | fail)
    refine Calls.mono (held_tab R a5 _ HJ.out HS5.out.1) ?_
    rintro e v6 ⟨rfl, hb9⟩
    rw [HKZ.out]
    replace HB : Hid (Below w.heap.size w v6) := HB.out.trans (hb9.mono HB.out.size)
    replace HX : Hid (v6.heap[w.heap.size]? = some (.cells (tbA t a) 31 (0, 0))) := row_below HX.out hb9
    replace HK : Hid (KT L0 N0 v6 R a1) := HK.out.below hb9
    replace HP : Hid (v6.heap[N0]? = some (.cells (tbA R a1) 39 (0, 0))) := row_below HP.out hb9
    replace HZ : Hid (v6.heap[N2]? = some (.cells (tbA R a5) 39 (0, 0))) := row_below HZ.out hb9
    replace HJ : Hid (HTb v6 a5) := HJ.out.below hb9
    clear hb9
    go_wp2_with (first | (refine wpList_load_row rfl 31 (.tmp 2) rfl w.heap.size rfl 31 (tbA t a) (0, 0) _ HX.out Tryz.underlying31 rfl (by kernel_rfl) ?_) | (refine wpList_load_row_w (by first | rfl | (simp [Region.wanted, yielded, Act.put, HRK.out])) 31 (.tmp 2) rfl w.heap.size rfl 31 (tbA t a) (0, 0) _ HX.out Tryz.underlying31 rfl (by kernel_rfl) ?_) | fail)
    refine Calls.mono (copy_tab t a _ (HU.out _ HB.out).1 HW.out HS.out) ?_
    rintro e v7a ⟨a7, rfl, hb9, hc7a⟩
    replace HB : Hid (Below w.heap.size w v7a) := HB.out.trans (hb9.mono HB.out.size)
    replace HX : Hid (v7a.heap[w.heap.size]? = some (.cells (tbA t a) 31 (0, 0))) := row_below HX.out hb9
    replace HK : Hid (KT L0 N0 v7a R a1) := HK.out.below hb9
    replace HP : Hid (v7a.heap[N0]? = some (.cells (tbA R a1) 39 (0, 0))) := row_below HP.out hb9
    replace HZ : Hid (v7a.heap[N2]? = some (.cells (tbA R a5) 39 (0, 0))) := row_below HZ.out hb9
    replace HJ : Hid (HTb v7a a5) := HJ.out.below hb9
    have HC7 : Hid (Cpy v7a t a a7) := hc7a
    clear hb9 hc7a
    go_wp2_with fail
    refine Calls.mono (in_tos na nc n zs v7a (HNS.out _ HB.out) HNB.out) ?_
    rintro e v7 ⟨rfl, hb9, hgi⟩
    have hc7 : Cpy v7 t a a7 := HC7.out.below hb9
    replace HB : Hid (Below w.heap.size w v7) := HB.out.trans (hb9.mono HB.out.size)
    replace HX : Hid (v7.heap[w.heap.size]? = some (.cells (tbA t a) 31 (0, 0))) := row_below HX.out hb9
    replace HK : Hid (KT L0 N0 v7 R a1) := HK.out.below hb9
    replace HP : Hid (v7.heap[N0]? = some (.cells (tbA R a1) 39 (0, 0))) := row_below HP.out hb9
    replace HZ : Hid (v7.heap[N2]? = some (.cells (tbA R a5) 39 (0, 0))) := row_below HZ.out hb9
    replace HJ : Hid (HTb v7 a5) := HJ.out.below hb9
    clear hb9 HC7
    go_wp2_with fail
    refine Calls.mono (HIM.out a7 v7a.heap.size v7 hc7.m hc7.w hc7.s (HU.out _ HB.out).2 hc7.c hgi.seg) ?_
    rintro e v8 ⟨R9, a8, q9, rfl, hAq, hb9, ho⟩
    obtain ⟨e1, e2⟩ := HUN.out HAQ.out hAq
    subst e1 e2
    replace HB : Hid (Below w.heap.size w v8) := HB.out.trans (hb9.mono HB.out.size)
    replace HX : Hid (v8.heap[w.heap.size]? = some (.cells (tbA t a) 31 (0, 0))) := row_below HX.out hb9
    replace HK : Hid (KT L0 N0 v8 R a1) := HK.out.below hb9
    replace HP : Hid (v8.heap[N0]? = some (.cells (tbA R a1) 39 (0, 0))) := row_below HP.out hb9
    replace HZ : Hid (v8.heap[N2]? = some (.cells (tbA R a5) 39 (0, 0))) := row_below HZ.out hb9
    replace HJ : Hid (HTb v8 a5) := HJ.out.below hb9
    have HO8 : Hid (OTR v7.heap.size v8 R a8) := ho
    have HE8 : Hid (a1.pn = a8.pn ∧ a1.dn = a8.dn ∧ a1.cn = a8.cn ∧ a1.sn = a8.sn) := tw_eq ho.w HW1.out
    clear hb9 hc7 ho hAq hgi
    have HN : Hid ((v8.alloc (.cells #[.int .i64 0, .int .i64 0, .int .i64 0, .int .i64 0, .int .i64 0, .int .i64 0, .int .i64 0, .int .i64 0, .int .i64 0, .int .i64 0, .int .i64 0, .int .i64 0, .int .i64 0, .int .i64 0, .int .i64 0, .slice none 0 0, .slice none 0 0, .slice none 0 0, .slice none 0 0] 39)).heap[v8.heap.size]? = some (.cells #[.int .i64 0, .int .i64 0, .int .i64 0, .int .i64 0, .int .i64 0, .int .i64 0, .int .i64 0, .int .i64 0, .int .i64 0, .int .i64 0, .int .i64 0, .int .i64 0, .int .i64 0, .int .i64 0, .int .i64 0, .slice none 0 0, .slice none 0 0, .slice none 0 0, .slice none 0 0] 39 (0, 0))) := new_row v8 _ _ _ rfl
    have hbV : Below v8.heap.size v8 ((v8.alloc (.cells #[.int .i64 0, .int .i64 0, .int .i64 0, .int .i64 0, .int .i64 0, .int .i64 0, .int .i64 0, .int .i64 0, .int .i64 0, .int .i64 0, .int .i64 0, .int .i64 0, .int .i64 0, .int .i64 0, .int .i64 0, .slice none 0 0, .slice none 0 0, .slice none 0 0, .slice none 0 0] 39)).setRow v8.heap.size (tbA R a8)) := below_setRow ((Below.refl _ _).alloc (Nat.le_refl _) _) (Nat.le_refl _) _
    replace HB : Hid (Below w.heap.size w ((v8.alloc (.cells #[.int .i64 0, .int .i64 0, .int .i64 0, .int .i64 0, .int .i64 0, .int .i64 0, .int .i64 0, .int .i64 0, .int .i64 0, .int .i64 0, .int .i64 0, .int .i64 0, .int .i64 0, .int .i64 0, .int .i64 0, .slice none 0 0, .slice none 0 0, .slice none 0 0, .slice none 0 0] 39)).setRow v8.heap.size (tbA R a8))) := HB.out.trans (hbV.mono HB.out.size)
    replace HX : Hid (((v8.alloc (.cells #[.int .i64 0, .int .i64 0, .int .i64 0, .int .i64 0, .int .i64 0, .int .i64 0, .int .i64 0, .int .i64 0, .int .i64 0, .int .i64 0, .int .i64 0, .int .i64 0, .int .i64 0, .int .i64 0, .int .i64 0, .slice none 0 0, .slice none 0 0, .slice none 0 0, .slice none 0 0] 39)).setRow v8.heap.size (tbA R a8)).heap[w.heap.size]? = some (.cells (tbA t a) 31 (0, 0))) := row_below HX.out hbV
    replace HK : Hid (KT L0 N0 ((v8.alloc (.cells #[.int .i64 0, .int .i64 0, .int .i64 0, .int .i64 0, .int .i64 0, .int .i64 0, .int .i64 0, .int .i64 0, .int .i64 0, .int .i64 0, .int .i64 0, .int .i64 0, .int .i64 0, .int .i64 0, .int .i64 0, .slice none 0 0, .slice none 0 0, .slice none 0 0, .slice none 0 0] 39)).setRow v8.heap.size (tbA R a8)) R a1) := HK.out.below hbV
    replace HP : Hid (((v8.alloc (.cells #[.int .i64 0, .int .i64 0, .int .i64 0, .int .i64 0, .int .i64 0, .int .i64 0, .int .i64 0, .int .i64 0, .int .i64 0, .int .i64 0, .int .i64 0, .int .i64 0, .int .i64 0, .int .i64 0, .int .i64 0, .slice none 0 0, .slice none 0 0, .slice none 0 0, .slice none 0 0] 39)).setRow v8.heap.size (tbA R a8)).heap[N0]? = some (.cells (tbA R a1) 39 (0, 0))) := row_below HP.out hbV
    replace HZ : Hid (((v8.alloc (.cells #[.int .i64 0, .int .i64 0, .int .i64 0, .int .i64 0, .int .i64 0, .int .i64 0, .int .i64 0, .int .i64 0, .int .i64 0, .int .i64 0, .int .i64 0, .int .i64 0, .int .i64 0, .int .i64 0, .int .i64 0, .slice none 0 0, .slice none 0 0, .slice none 0 0, .slice none 0 0] 39)).setRow v8.heap.size (tbA R a8)).heap[N2]? = some (.cells (tbA R a5) 39 (0, 0))) := row_below HZ.out hbV
    replace HJ : Hid (HTb ((v8.alloc (.cells #[.int .i64 0, .int .i64 0, .int .i64 0, .int .i64 0, .int .i64 0, .int .i64 0, .int .i64 0, .int .i64 0, .int .i64 0, .int .i64 0, .int .i64 0, .int .i64 0, .int .i64 0, .int .i64 0, .int .i64 0, .slice none 0 0, .slice none 0 0, .slice none 0 0, .slice none 0 0] 39)).setRow v8.heap.size (tbA R a8)) a5) := HJ.out.below hbV
    replace HO8 : Hid (OTR v7.heap.size ((v8.alloc (.cells #[.int .i64 0, .int .i64 0, .int .i64 0, .int .i64 0, .int .i64 0, .int .i64 0, .int .i64 0, .int .i64 0, .int .i64 0, .int .i64 0, .int .i64 0, .int .i64 0, .int .i64 0, .int .i64 0, .int .i64 0, .slice none 0 0, .slice none 0 0, .slice none 0 0, .slice none 0 0] 39)).setRow v8.heap.size (tbA R a8)) R a8) := HO8.out.below hbV
    have HQ : Hid (((v8.alloc (.cells #[.int .i64 0, .int .i64 0, .int .i64 0, .int .i64 0, .int .i64 0, .int .i64 0, .int .i64 0, .int .i64 0, .int .i64 0, .int .i64 0, .int .i64 0, .int .i64 0, .int .i64 0, .int .i64 0, .int .i64 0, .slice none 0 0, .slice none 0 0, .slice none 0 0, .slice none 0 0] 39)).setRow v8.heap.size (tbA R a8)).heap[v8.heap.size]? = some (.cells (tbA R a8) 39 (0, 0))) := setRow_heap _ _ _ _ _ _ HN.out
    clear hbV
    go_wp2_with (first | (refine wpList_store_row rfl 39 (.tmp 15) (.tmp 98) rfl v8.heap.size (tbA R a8) rfl rfl 39 #[.int .i64 0, .int .i64 0, .int .i64 0, .int .i64 0, .int .i64 0, .int .i64 0, .int .i64 0, .int .i64 0, .int .i64 0, .int .i64 0, .int .i64 0, .int .i64 0, .int .i64 0, .int .i64 0, .int .i64 0, .slice none 0 0, .slice none 0 0, .slice none 0 0, .slice none 0 0] HN.out (by kernel_rfl) rfl (by simp [Value.oneCell']) ?_) | (refine wpList_load_row rfl 39 (.tmp 15) rfl v8.heap.size rfl 39 (tbA R a8) (0, 0) _ HQ.out Tryz.underlying39 rfl (by kernel_rfl) ?_) | (refine wpList_load_row rfl 39 (.tmp 6) rfl N0 rfl 39 (tbA R a1) (0, 0) _ HP.out Tryz.underlying39 rfl (by kernel_rfl) ?_) | (refine wpList_load_row_w (by first | rfl | (simp [Region.wanted, yielded, Act.put, HRK.out])) 39 (.tmp 6) rfl N0 rfl 39 (tbA R a1) (0, 0) _ HP.out Tryz.underlying39 rfl (by kernel_rfl) ?_) | fail)
    clear HN HQ
    revert HB HX HK HP HZ HJ HO8
    generalize ((v8.alloc (.cells #[.int .i64 0, .int .i64 0, .int .i64 0, .int .i64 0, .int .i64 0, .int .i64 0, .int .i64 0, .int .i64 0, .int .i64 0, .int .i64 0, .int .i64 0, .int .i64 0, .int .i64 0, .int .i64 0, .int .i64 0, .slice none 0 0, .slice none 0 0, .slice none 0 0, .slice none 0 0] 39)).setRow v8.heap.size (tbA R a8)) = V8
    intro HB HX HK HP HZ HJ HO8
    refine Calls.mono (eq_tab R a8 a1 _ HO8.out.m HK.out.tm HO8.out.s HE8.out.1 HE8.out.2.1 HE8.out.2.2.1 HE8.out.2.2.2) ?_
    rintro e v9 ⟨rfl, hb9⟩
    clear HO8 HE8
    replace HB : Hid (Below w.heap.size w v9) := HB.out.trans (hb9.mono HB.out.size)
    replace HX : Hid (v9.heap[w.heap.size]? = some (.cells (tbA t a) 31 (0, 0))) := row_below HX.out hb9
    replace HP : Hid (v9.heap[N0]? = some (.cells (tbA R a1) 39 (0, 0))) := row_below HP.out hb9
    replace HZ : Hid (v9.heap[N2]? = some (.cells (tbA R a5) 39 (0, 0))) := row_below HZ.out hb9
    replace HJ : Hid (HTb v9 a5) := HJ.out.below hb9
    clear HK
    clear hb9
    go_wp2_with (first | (refine wpList_load_row rfl 39 (.tmp 10) rfl N2 rfl 39 (tbA R a5) (0, 0) _ HZ.out Tryz.underlying39 rfl (by kernel_rfl) ?_) | (refine wpList_load_row_w (by first | rfl | (simp [Region.wanted, yielded, Act.put, HRK.out])) 39 (.tmp 10) rfl N2 rfl 39 (tbA R a5) (0, 0) _ HZ.out Tryz.underlying39 rfl (by kernel_rfl) ?_) | fail)
    refine Calls.mono (held_tab R a5 _ HJ.out HS5.out.1) ?_
    rintro e v10 ⟨rfl, hb9⟩
    rw [HKZ.out]
    replace HB : Hid (Below w.heap.size w v10) := HB.out.trans (hb9.mono HB.out.size)
    replace HX : Hid (v10.heap[w.heap.size]? = some (.cells (tbA t a) 31 (0, 0))) := row_below HX.out hb9
    replace HP : Hid (v10.heap[N0]? = some (.cells (tbA R a1) 39 (0, 0))) := row_below HP.out hb9
    replace HZ : Hid (v10.heap[N2]? = some (.cells (tbA R a5) 39 (0, 0))) := row_below HZ.out hb9
    replace HJ : Hid (HTb v10 a5) := HJ.out.below hb9
    clear hb9
    go_wp2
    go_ret
    exact ⟨rfl, HB.out⟩
  · intro ℓ a' w' i o hI ho hi hL hdep K hK
    obtain ⟨x52, x53, x54, x55, x56, rfl, hr⟩ := hI
    have hi7 : i < 5 := hi
    have hcs : i = 0 ∨ i = 1 ∨ i = 2 ∨ i = 3 ∨ i = 4 := by omega
    clear hi hi7
    rcases hcs with rfl | rfl | rfl | rfl | rfl
    · replace ho : some ({ dst := some 52, op := .load 39 (.tmp 8), type := 39, pos := "exact.go:7103", after := #[], guard := none } : Oper) = some o := ho
      obtain rfl := Option.some.inj ho
      clear hdep ho
      rw [if_pos (by rfl)]
      try simp only [Act.put, List.setIfInBounds_toArray, List.set_cons_zero, List.set_cons_succ]
      refine wp_load_row (P := Tryz.prog) 39 (.tmp 8) rfl N1 rfl 39 (tbA t a4) (0, 0) _ (HY6.out _ hr.gb) Tryz.underlying39 rfl (by kernel_rfl) ?_
      exact hK.out _ _ (fun j => if j = 0 then true else ℓ j) ⟨tbV t a4, x53, x54, x55, x56, (by simp only [Act.put, List.setIfInBounds_toArray, List.set_cons_zero, List.set_cons_succ]), ⟨hr.gb, (fun _ => rfl), hr.f1, hr.f2, hr.f3, hr.f4⟩⟩ (if_pos rfl) (fun j hj => if_neg hj)
    · replace ho : some ({ dst := some 53, op := .load 31 (.tmp 2), type := 31, pos := "exact.go:7103", after := #[], guard := none } : Oper) = some o := ho
      obtain rfl := Option.some.inj ho
      clear hdep ho
      rw [if_pos (by rfl)]
      try simp only [Act.put, List.setIfInBounds_toArray, List.set_cons_zero, List.set_cons_succ]
      refine wp_load_row (P := Tryz.prog) 31 (.tmp 2) rfl w.heap.size rfl 31 (tbA t a) (0, 0) _ (HX6.out _ hr.gb) Tryz.underlying31 rfl (by kernel_rfl) ?_
      exact hK.out _ _ (fun j => if j = 1 then true else ℓ j) ⟨x52, tbV t a, x54, x55, x56, (by simp only [Act.put, List.setIfInBounds_toArray, List.set_cons_zero, List.set_cons_succ]), ⟨hr.gb, hr.f0, (fun _ => rfl), hr.f2, hr.f3, hr.f4⟩⟩ (if_pos rfl) (fun j hj => if_neg hj)
    · obtain rfl := Option.some.inj ho
      have g : ℓ 1 = true := hdep { on := 1, ground := Ground.data } (by simp) rfl
      clear hdep ho
      obtain rfl := hr.f1 g
      rw [if_pos (by rfl)]
      try simp only [Act.put, List.setIfInBounds_toArray, List.set_cons_zero, List.set_cons_succ]
      go_simp
      refine Calls.mono (copy_tab t a _ (HU.out _ (HB6.out _ hr.gb)).1 HW.out HS.out) ?_
      rintro e w9 ⟨a9, rfl, hb9, hc9⟩
      have hr9 := hr.below hb9
      exact hK.out _ _ (fun j => if j = 2 then true else ℓ j) ⟨x52, tbV t a, tbV t a9, x55, x56, (by simp only [Act.put, List.setIfInBounds_toArray, List.set_cons_zero, List.set_cons_succ]), ⟨hr9.gb, hr9.f0, hr9.f1, (fun _ => ⟨a9, rfl, hc9⟩), hr9.f3, hr9.f4⟩⟩ (if_pos rfl) (fun j hj => if_neg hj)
    · obtain rfl := Option.some.inj ho
      have g0 : ℓ 0 = true := hdep { on := 0, ground := Ground.data } (by simp) rfl
      have g2 : ℓ 2 = true := hdep { on := 2, ground := Ground.data } (by simp) rfl
      clear hdep ho
      obtain rfl := hr.f0 g0
      obtain ⟨a9, rfl, hc9⟩ := hr.f2 g2
      have hc4 := HC6.out _ hr.gb
      rw [if_pos (by rfl)]
      try simp only [Act.put, List.setIfInBounds_toArray, List.set_cons_zero, List.set_cons_succ]
      go_simp
      refine Calls.mono (eq_tab t a4 a9 _ hc4.m hc9.m hc4.s (hc9.p1.trans hc4.p1.symm) (hc9.p2.trans hc4.p2.symm) (hc9.p3.trans hc4.p3.symm) (hc9.p4.trans hc4.p4.symm)) ?_
      rintro e w9 ⟨rfl, hb9⟩
      have hr9 := hr.below hb9
      exact hK.out _ _ (fun j => if j = 3 then true else ℓ j) ⟨tbV t a4, x53, tbV t a9, .bool true, x56, (by simp only [Act.put, List.setIfInBounds_toArray, List.set_cons_zero, List.set_cons_succ]), ⟨hr9.gb, hr9.f0, hr9.f1, hr9.f2, (fun _ => rfl), hr9.f4⟩⟩ (if_pos rfl) (fun j hj => if_neg hj)
    · obtain rfl := Option.some.inj ho
      have g : ℓ 3 = true := hdep { on := 3, ground := Ground.data } (by simp) rfl
      clear hdep ho
      obtain rfl := hr.f3 g
      rw [if_pos (by rfl)]
      try simp only [Act.put, List.setIfInBounds_toArray, List.set_cons_zero, List.set_cons_succ]
      go_simp
      exact hK.out _ _ (fun j => if j = 4 then true else ℓ j) ⟨x52, x53, x54, .bool true, .bool false, (by simp only [Act.put, List.setIfInBounds_toArray, List.set_cons_zero, List.set_cons_succ]), ⟨hr.gb, hr.f0, hr.f1, hr.f2, hr.f3, (fun _ => rfl)⟩⟩ (if_pos rfl) (fun j hj => if_neg hj)
  · rintro a' w' ℓ ℓ' hℓ hI
    rw [← show ℓ = ℓ' from funext hℓ]
    exact hI
end Go.Proofs.YthieilkabcehgaaGreatDoor
