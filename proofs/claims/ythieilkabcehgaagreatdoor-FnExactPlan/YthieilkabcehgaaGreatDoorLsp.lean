
/-
  The law on Split walked. Conditions: the lists lie in memory; the numbers fit; the table opExtras lies as its text lays it.
-/
import Derived.Test.YthieilkabcehgaaGreatDoorBas
import Derived.Test.YthieilkabcehgaaGreatDoorIsw
import Derived.Test.YthieilkabcehgaaGreatDoorMkt
import Derived.Test.YthieilkabcehgaaGreatDoorHpt
import Derived.Test.YthieilkabcehgaaGreatDoorLsw
namespace Go.Proofs.YthieilkabcehgaaGreatDoor
open Go.ChangeShapes Go.WideShapes Go.ChangeAt Go.RowKit Go.Deep Go.Joins
set_option linter.unusedVariables false

theorem copy_own (t : Tb) (a : Ad) (w : World) (hm : TM 0 w t a) (hw : TW t a) (hs : TS a) : Calls Tryz.prog 10 #[tbV t a] w fun e w' => ∃ a', e = .returned (tbV t a') ∧ Below w.heap.size w w' ∧ TM w.heap.size w' t a' ∧ Cpy w' t a a' :=
  (to_tab t a w hm hs).mono fun e w' ⟨a', he, hb, hm', e4, c4⟩ => by
    obtain ⟨h1, h2⟩ := ad_carry hm hm' hw hs e4
    exact ⟨a', he, hb, hm', ⟨hm'.wide (Nat.zero_le _), h1, h2, by rw [c4.1, e4.1]; exact Nat.le_refl _, by rw [c4.2.2.2, e4.2.2.2]; exact Nat.le_refl _, e4.1, e4.2.1, e4.2.2.1, e4.2.2.2⟩⟩
theorem tabE_pos {w : World} (h : TabE w) : 0 < w.heap.size := Nat.lt_of_le_of_lt (Nat.zero_le _) (World.block_lt_of_cell? w _ (h 0 (by omega)))
theorem OTR.kt {lo : Nat} {w : World} {t : Tb} {a : Ad} (h : OTR lo w t a) : KT lo w.heap.size w t a := by
  obtain ⟨n1, n2, n3, hn1, hn2, hn3, hn0, hp, hd, hc, hs⟩ := h.o
  have wr : ∀ {k l1 h1 : Nat} {a : Option Addr} {n : Nat}, lo ≤ l1 → h1 ≤ w.heap.size → WR k l1 h1 w a n → WR k lo w.heap.size w a n := fun g1 g2 g hn => by
    obtain ⟨b, off, e, r1, r2, r3⟩ := g hn
    exact ⟨b, off, e, by omega, by omega, r3⟩
  refine ⟨⟨h.m.p.p1.seg, wr (Nat.le_refl _) (by omega) hp.r⟩, fun i hi => ?_, fun i hi => ⟨?_, ?_⟩, ⟨h.m.d.seg, wr (by omega) (by omega) hd⟩, ⟨h.m.c.seg, wr (by omega) (by omega) hc⟩, ⟨h.m.s.seg, wr (by omega) (Nat.le_refl _) hs⟩⟩
  · obtain ⟨q1, q2, q3, q4, q5, q6, q7⟩ := h.m.p.p2 i hi
    exact ⟨q1, q2, q3, q4, q5, q6⟩
  · obtain ⟨q1, q2, q3, q4, q5, q6, q7⟩ := h.m.p.p2 i hi
    exact q7.seg
  · obtain ⟨b, off, e, r1, r2, r3⟩ := hp.r (by omega)
    obtain ⟨β, hb0, hmono, hbn, hv⟩ := hp.v b off e (by omega)
    have m0 := hmono 0 i (by omega) (by omega)
    have m1 := hmono (i + 1) a.pn (by omega) (Nat.le_refl _)
    exact wr (by omega) (by omega) (hv i hi)
theorem SpA.uniq {t : Tb} {x f : Int} {R R' : Tb} {q q' : Bool} (h : SpA t x f R q) (g : SpA t x f R' q') : R = R' ∧ q = q' := by
  rcases h with ⟨h1, h2, h3⟩ | ⟨h1, h2, h3⟩ <;> rcases g with ⟨g1, g2, g3⟩ | ⟨g1, g2, g3⟩
  · exact ⟨h2.trans g2.symm, h3.trans g3.symm⟩
  · exact absurd g1 h1
  · exact absurd h1 g1
  · exact ⟨h2.trans g2.symm, h3.trans g3.symm⟩
/-- The lengths of two addresses of the same tables. -/
theorem tw_eq {t : Tb} {a b : Ad} (h : TW t a) (g : TW t b) : b.pn = a.pn ∧ b.dn = a.dn ∧ b.cn = a.cn ∧ b.sn = a.sn := ⟨g.pl.symm.trans h.pl, g.dl.symm.trans h.dl, g.cl.symm.trans h.cl, g.sl.symm.trans h.sl⟩
set_option linter.unusedSimpArgs false in
set_option maxRecDepth 40000 in
set_option maxHeartbeats 16000000 in
theorem walk_split (t : Tb) (a : Ad) (x f : Int) (hf : -9223372036854775808 ≤ f ∧ f ≤ 9223372036854775807) (w : World) (hm : TM 0 w t a) (hw : TW t a) (he : TabE w) : Calls Tryz.prog 4 #[tbV t a, .int .i64 x, .int .i64 f] w fun e w' => e = .returned (.bool true) ∧ Below w.heap.size w w' := by
  have HU : Hid (∀ X, Below w.heap.size w X → TM 0 X t a ∧ TabE X) := fun X hX => ⟨hm.below hX, he.below hX⟩
  have HW : Hid (TW t a) := hw
  have HSP : Hid (∀ (a' : Ad) (X : World), TM 0 X t a' → TW t a' → TS a' → a'.sn ≤ a'.sc → Calls Tryz.prog 18 #[tbV t a', .int .i64 x, .int .i64 f] X fun e w' => ∃ R ar q, e = .returned (.tuple #[tbV R ar, .bool q]) ∧ SpA t x f R q ∧ Below X.heap.size X w' ∧ KT X.heap.size w'.heap.size w' R ar ∧ TW R ar ∧ TS ar) := fun a' X h1 h2 h3 _ => by
    by_cases hc : CanS t x f
    · obtain ⟨k, rfl⟩ : ∃ k : Nat, x = (k : Int) := ⟨x.toNat, by have := hc.2.1.1; omega⟩
      exact spec_split_yes t a' k f X h1 h2 h3 hc
    · exact spec_split_no t a' x f X h1 h2 h3 hc hf
  have HIM : Hid (∀ (a' : Ad) (X : World), TM 0 X t a' → TW t a' → TS a' → TabE X → a'.pn ≤ a'.pc → a'.sn ≤ a'.sc → Calls Tryz.prog 19 #[tbV t a', .int .i64 x, .int .i64 f] X fun e w' => ∃ R ar q, e = .returned (.tuple #[tbV R ar, .bool q]) ∧ SpA t x f R q ∧ Below X.heap.size X w' ∧ OTR X.heap.size w' R ar) := fun a' X h1 h2 h3 h4 h5 h6 => impl_split t a' x f X h1 h2 h3 h4 h5 h6 hf
  have HUN : Hid (∀ {R R' : Tb} {q q' : Bool}, SpA t x f R q → SpA t x f R' q' → R = R' ∧ q = q') := fun h g => h.uniq g
  have HB : Hid (Below w.heap.size w (w.alloc (.cells (tbA t a) 31))) := (Below.refl _ _).alloc (Nat.le_refl _) _
  have HX : Hid ((w.alloc (.cells (tbA t a) 31)).heap[w.heap.size]? = some (.cells (tbA t a) 31 (0, 0))) := new_row w _ _ _ rfl
  clear hm hw he
  go_enter Tryz.func4, Tryz.ntmps4
  go_wp2_with (first | (refine wpList_load_row rfl 31 (.tmp 3) rfl w.heap.size rfl 31 (tbA t a) (0, 0) _ HX.out Tryz.underlying31 rfl (by kernel_rfl) ?_) | (refine wpList_load_row_w (by first | rfl | (simp [Region.wanted, yielded, Act.put, HRK.out])) 31 (.tmp 3) rfl w.heap.size rfl 31 (tbA t a) (0, 0) _ HX.out Tryz.underlying31 rfl (by kernel_rfl) ?_) | fail)
  refine Calls.mono (sz_tab t a _ (HU.out _ HB.out).1 HW.out) ?_
  rintro e w1 ⟨⟨r, rfl, hr⟩, hb9⟩
  replace HB : Hid (Below w.heap.size w w1) := HB.out.trans (hb9.mono HB.out.size)
  replace HX : Hid (w1.heap[w.heap.size]? = some (.cells (tbA t a) 31 (0, 0))) := row_below HX.out hb9
  clear hb9
  rcases hr with rfl | ⟨h0, hs⟩
  · go_wp2
    go_ret
    exact ⟨rfl, HB.out⟩
  have HS : Hid (TS a) := hs
  clear hs
  have hr0 : ¬ (r < 0) := by omega
  go_wp2_with (first | (refine wpList_load_row rfl 31 (.tmp 3) rfl w.heap.size rfl 31 (tbA t a) (0, 0) _ HX.out Tryz.underlying31 rfl (by kernel_rfl) ?_) | (refine wpList_load_row_w (by first | rfl | (simp [Region.wanted, yielded, Act.put, HRK.out])) 31 (.tmp 3) rfl w.heap.size rfl 31 (tbA t a) (0, 0) _ HX.out Tryz.underlying31 rfl (by kernel_rfl) ?_) | fail)
  refine Calls.mono (copy_tab t a _ (HU.out _ HB.out).1 HW.out HS.out) ?_
  rintro e w2 ⟨a2, rfl, hb9, hc2⟩
  replace HB : Hid (Below w.heap.size w w2) := HB.out.trans (hb9.mono HB.out.size)
  replace HX : Hid (w2.heap[w.heap.size]? = some (.cells (tbA t a) 31 (0, 0))) := row_below HX.out hb9
  clear hb9 h0 hr0
  go_wp2_with fail
  refine Calls.mono (HSP.out a2 w2 hc2.m hc2.w hc2.s hc2.c2) ?_
  rintro e w3 ⟨R, a1, q, rfl, hAq, hb9, hk, hw1, hs1⟩
  have hl0 : w.heap.size < w2.heap.size := (Array.getElem?_eq_some_iff.1 HX.out).1
  replace HB : Hid (Below w.heap.size w w3) := HB.out.trans (hb9.mono HB.out.size)
  replace HX : Hid (w3.heap[w.heap.size]? = some (.cells (tbA t a) 31 (0, 0))) := row_below HX.out hb9
  have HAQ : Hid (SpA t x f R q) := hAq
  have HW1 : Hid (TW R a1) := hw1
  have HK : Hid (KT w2.heap.size w3.heap.size w3 R a1) := hk
  have HL : Hid (w.heap.size < w2.heap.size ∧ w2.heap.size ≤ w3.heap.size) := ⟨hl0, hb9.size⟩
  clear hb9 hk hw1 hs1 hAq hc2 hl0 HSP
  revert HK HL
  generalize w2.heap.size = L0
  intro HK HL
  have HN : Hid ((w3.alloc (.cells #[.int .i64 0, .int .i64 0, .int .i64 0, .int .i64 0, .int .i64 0, .int .i64 0, .int .i64 0, .int .i64 0, .int .i64 0, .int .i64 0, .int .i64 0, .int .i64 0, .int .i64 0, .int .i64 0, .int .i64 0, .slice none 0 0, .slice none 0 0, .slice none 0 0, .slice none 0 0] 39)).heap[w3.heap.size]? = some (.cells #[.int .i64 0, .int .i64 0, .int .i64 0, .int .i64 0, .int .i64 0, .int .i64 0, .int .i64 0, .int .i64 0, .int .i64 0, .int .i64 0, .int .i64 0, .int .i64 0, .int .i64 0, .int .i64 0, .int .i64 0, .slice none 0 0, .slice none 0 0, .slice none 0 0, .slice none 0 0] 39 (0, 0))) := new_row w3 _ _ _ rfl
  have hbV : Below w3.heap.size w3 ((w3.alloc (.cells #[.int .i64 0, .int .i64 0, .int .i64 0, .int .i64 0, .int .i64 0, .int .i64 0, .int .i64 0, .int .i64 0, .int .i64 0, .int .i64 0, .int .i64 0, .int .i64 0, .int .i64 0, .int .i64 0, .int .i64 0, .slice none 0 0, .slice none 0 0, .slice none 0 0, .slice none 0 0] 39)).setRow w3.heap.size (tbA R a1)) := below_setRow ((Below.refl _ _).alloc (Nat.le_refl _) _) (Nat.le_refl _) _
  replace HB : Hid (Below w.heap.size w ((w3.alloc (.cells #[.int .i64 0, .int .i64 0, .int .i64 0, .int .i64 0, .int .i64 0, .int .i64 0, .int .i64 0, .int .i64 0, .int .i64 0, .int .i64 0, .int .i64 0, .int .i64 0, .int .i64 0, .int .i64 0, .int .i64 0, .slice none 0 0, .slice none 0 0, .slice none 0 0, .slice none 0 0] 39)).setRow w3.heap.size (tbA R a1))) := HB.out.trans (hbV.mono HB.out.size)
  replace HX : Hid (((w3.alloc (.cells #[.int .i64 0, .int .i64 0, .int .i64 0, .int .i64 0, .int .i64 0, .int .i64 0, .int .i64 0, .int .i64 0, .int .i64 0, .int .i64 0, .int .i64 0, .int .i64 0, .int .i64 0, .int .i64 0, .int .i64 0, .slice none 0 0, .slice none 0 0, .slice none 0 0, .slice none 0 0] 39)).setRow w3.heap.size (tbA R a1)).heap[w.heap.size]? = some (.cells (tbA t a) 31 (0, 0))) := row_below HX.out hbV
  replace HK : Hid (KT L0 w3.heap.size ((w3.alloc (.cells #[.int .i64 0, .int .i64 0, .int .i64 0, .int .i64 0, .int .i64 0, .int .i64 0, .int .i64 0, .int .i64 0, .int .i64 0, .int .i64 0, .int .i64 0, .int .i64 0, .int .i64 0, .int .i64 0, .int .i64 0, .slice none 0 0, .slice none 0 0, .slice none 0 0, .slice none 0 0] 39)).setRow w3.heap.size (tbA R a1)) R a1) := HK.out.below hbV
  have HP : Hid (((w3.alloc (.cells #[.int .i64 0, .int .i64 0, .int .i64 0, .int .i64 0, .int .i64 0, .int .i64 0, .int .i64 0, .int .i64 0, .int .i64 0, .int .i64 0, .int .i64 0, .int .i64 0, .int .i64 0, .int .i64 0, .int .i64 0, .slice none 0 0, .slice none 0 0, .slice none 0 0, .slice none 0 0] 39)).setRow w3.heap.size (tbA R a1)).heap[w3.heap.size]? = some (.cells (tbA R a1) 39 (0, 0))) := setRow_heap _ _ _ _ _ _ HN.out
  clear hbV
  go_wp2_with (first | (refine wpList_store_row rfl 39 (.tmp 8) (.tmp 29) rfl w3.heap.size (tbA R a1) rfl rfl 39 #[.int .i64 0, .int .i64 0, .int .i64 0, .int .i64 0, .int .i64 0, .int .i64 0, .int .i64 0, .int .i64 0, .int .i64 0, .int .i64 0, .int .i64 0, .int .i64 0, .int .i64 0, .int .i64 0, .int .i64 0, .slice none 0 0, .slice none 0 0, .slice none 0 0, .slice none 0 0] HN.out (by kernel_rfl) rfl (by simp [Value.oneCell']) ?_) | (refine wpList_load_row rfl 31 (.tmp 3) rfl w.heap.size rfl 31 (tbA t a) (0, 0) _ HX.out Tryz.underlying31 rfl (by kernel_rfl) ?_) | (refine wpList_load_row_w (by first | rfl | (simp [Region.wanted, yielded, Act.put, HRK.out])) 31 (.tmp 3) rfl w.heap.size rfl 31 (tbA t a) (0, 0) _ HX.out Tryz.underlying31 rfl (by kernel_rfl) ?_) | fail)
  clear HN
  revert HB HX HK HP HL
  generalize ((w3.alloc (.cells #[.int .i64 0, .int .i64 0, .int .i64 0, .int .i64 0, .int .i64 0, .int .i64 0, .int .i64 0, .int .i64 0, .int .i64 0, .int .i64 0, .int .i64 0, .int .i64 0, .int .i64 0, .int .i64 0, .int .i64 0, .slice none 0 0, .slice none 0 0, .slice none 0 0, .slice none 0 0] 39)).setRow w3.heap.size (tbA R a1)) = V0
  generalize w3.heap.size = N0
  intro HL HB HX HK HP
  refine Calls.mono (copy_own t a _ (HU.out _ HB.out).1 HW.out HS.out) ?_
  rintro e w4 ⟨a4, rfl, hb9, hm4, hc4⟩
  have hl1 : N0 < V0.heap.size := (Array.getElem?_eq_some_iff.1 HP.out).1
  replace HB : Hid (Below w.heap.size w w4) := HB.out.trans (hb9.mono HB.out.size)
  replace HX : Hid (w4.heap[w.heap.size]? = some (.cells (tbA t a) 31 (0, 0))) := row_below HX.out hb9
  replace HK : Hid (KT L0 N0 w4 R a1) := HK.out.below hb9
  replace HP : Hid (w4.heap[N0]? = some (.cells (tbA R a1) 39 (0, 0))) := row_below HP.out hb9
  have HC : Hid (Cpy w4 t a a4) := hc4
  have HM : Hid (WT V0.heap.size w4.heap.size w4 a4) := hm4.wt (by omega)
  replace HL : Hid (w.heap.size < L0 ∧ L0 ≤ N0 ∧ N0 < V0.heap.size ∧ V0.heap.size ≤ w4.heap.size) := ⟨HL.out.1, HL.out.2, hl1, hb9.size⟩
  clear hb9 hm4 hc4 hl1
  revert HM HL
  generalize V0.heap.size = L1
  intro HM HL
  have HN : Hid ((w4.alloc (.cells #[.int .i64 0, .int .i64 0, .int .i64 0, .int .i64 0, .int .i64 0, .int .i64 0, .int .i64 0, .int .i64 0, .int .i64 0, .int .i64 0, .int .i64 0, .int .i64 0, .int .i64 0, .int .i64 0, .int .i64 0, .slice none 0 0, .slice none 0 0, .slice none 0 0, .slice none 0 0] 39)).heap[w4.heap.size]? = some (.cells #[.int .i64 0, .int .i64 0, .int .i64 0, .int .i64 0, .int .i64 0, .int .i64 0, .int .i64 0, .int .i64 0, .int .i64 0, .int .i64 0, .int .i64 0, .int .i64 0, .int .i64 0, .int .i64 0, .int .i64 0, .slice none 0 0, .slice none 0 0, .slice none 0 0, .slice none 0 0] 39 (0, 0))) := new_row w4 _ _ _ rfl
  have hbV : Below w4.heap.size w4 ((w4.alloc (.cells #[.int .i64 0, .int .i64 0, .int .i64 0, .int .i64 0, .int .i64 0, .int .i64 0, .int .i64 0, .int .i64 0, .int .i64 0, .int .i64 0, .int .i64 0, .int .i64 0, .int .i64 0, .int .i64 0, .int .i64 0, .slice none 0 0, .slice none 0 0, .slice none 0 0, .slice none 0 0] 39)).setRow w4.heap.size (tbA t a4)) := below_setRow ((Below.refl _ _).alloc (Nat.le_refl _) _) (Nat.le_refl _) _
  replace HB : Hid (Below w.heap.size w ((w4.alloc (.cells #[.int .i64 0, .int .i64 0, .int .i64 0, .int .i64 0, .int .i64 0, .int .i64 0, .int .i64 0, .int .i64 0, .int .i64 0, .int .i64 0, .int .i64 0, .int .i64 0, .int .i64 0, .int .i64 0, .int .i64 0, .slice none 0 0, .slice none 0 0, .slice none 0 0, .slice none 0 0] 39)).setRow w4.heap.size (tbA t a4))) := HB.out.trans (hbV.mono HB.out.size)
  replace HX : Hid (((w4.alloc (.cells #[.int .i64 0, .int .i64 0, .int .i64 0, .int .i64 0, .int .i64 0, .int .i64 0, .int .i64 0, .int .i64 0, .int .i64 0, .int .i64 0, .int .i64 0, .int .i64 0, .int .i64 0, .int .i64 0, .int .i64 0, .slice none 0 0, .slice none 0 0, .slice none 0 0, .slice none 0 0] 39)).setRow w4.heap.size (tbA t a4)).heap[w.heap.size]? = some (.cells (tbA t a) 31 (0, 0))) := row_below HX.out hbV
  replace HK : Hid (KT L0 N0 ((w4.alloc (.cells #[.int .i64 0, .int .i64 0, .int .i64 0, .int .i64 0, .int .i64 0, .int .i64 0, .int .i64 0, .int .i64 0, .int .i64 0, .int .i64 0, .int .i64 0, .int .i64 0, .int .i64 0, .int .i64 0, .int .i64 0, .slice none 0 0, .slice none 0 0, .slice none 0 0, .slice none 0 0] 39)).setRow w4.heap.size (tbA t a4)) R a1) := HK.out.below hbV
  replace HP : Hid (((w4.alloc (.cells #[.int .i64 0, .int .i64 0, .int .i64 0, .int .i64 0, .int .i64 0, .int .i64 0, .int .i64 0, .int .i64 0, .int .i64 0, .int .i64 0, .int .i64 0, .int .i64 0, .int .i64 0, .int .i64 0, .int .i64 0, .slice none 0 0, .slice none 0 0, .slice none 0 0, .slice none 0 0] 39)).setRow w4.heap.size (tbA t a4)).heap[N0]? = some (.cells (tbA R a1) 39 (0, 0))) := row_below HP.out hbV
  replace HC : Hid (Cpy ((w4.alloc (.cells #[.int .i64 0, .int .i64 0, .int .i64 0, .int .i64 0, .int .i64 0, .int .i64 0, .int .i64 0, .int .i64 0, .int .i64 0, .int .i64 0, .int .i64 0, .int .i64 0, .int .i64 0, .int .i64 0, .int .i64 0, .slice none 0 0, .slice none 0 0, .slice none 0 0, .slice none 0 0] 39)).setRow w4.heap.size (tbA t a4)) t a a4) := HC.out.below hbV
  replace HM : Hid (WT L1 w4.heap.size ((w4.alloc (.cells #[.int .i64 0, .int .i64 0, .int .i64 0, .int .i64 0, .int .i64 0, .int .i64 0, .int .i64 0, .int .i64 0, .int .i64 0, .int .i64 0, .int .i64 0, .int .i64 0, .int .i64 0, .int .i64 0, .int .i64 0, .slice none 0 0, .slice none 0 0, .slice none 0 0, .slice none 0 0] 39)).setRow w4.heap.size (tbA t a4)) a4) := HM.out.below hbV
  have HY : Hid (((w4.alloc (.cells #[.int .i64 0, .int .i64 0, .int .i64 0, .int .i64 0, .int .i64 0, .int .i64 0, .int .i64 0, .int .i64 0, .int .i64 0, .int .i64 0, .int .i64 0, .int .i64 0, .int .i64 0, .int .i64 0, .int .i64 0, .slice none 0 0, .slice none 0 0, .slice none 0 0, .slice none 0 0] 39)).setRow w4.heap.size (tbA t a4)).heap[w4.heap.size]? = some (.cells (tbA t a4) 39 (0, 0))) := setRow_heap _ _ _ _ _ _ HN.out
  clear hbV
  go_wp2_with (first | (refine wpList_store_row rfl 39 (.tmp 10) (.tmp 32) rfl w4.heap.size (tbA t a4) rfl rfl 39 #[.int .i64 0, .int .i64 0, .int .i64 0, .int .i64 0, .int .i64 0, .int .i64 0, .int .i64 0, .int .i64 0, .int .i64 0, .int .i64 0, .int .i64 0, .int .i64 0, .int .i64 0, .int .i64 0, .int .i64 0, .slice none 0 0, .slice none 0 0, .slice none 0 0, .slice none 0 0] HN.out (by kernel_rfl) rfl (by simp [Value.oneCell']) ?_) | (refine wpList_load_row rfl 39 (.tmp 10) rfl w4.heap.size rfl 39 (tbA t a4) (0, 0) _ HY.out Tryz.underlying39 rfl (by kernel_rfl) ?_) | (refine wpList_load_row_w (by first | rfl | (simp [Region.wanted, yielded, Act.put, HRK.out])) 39 (.tmp 10) rfl w4.heap.size rfl 39 (tbA t a4) (0, 0) _ HY.out Tryz.underlying39 rfl (by kernel_rfl) ?_) | fail)
  clear HN
  revert HB HX HK HP HC HM HY HL
  generalize ((w4.alloc (.cells #[.int .i64 0, .int .i64 0, .int .i64 0, .int .i64 0, .int .i64 0, .int .i64 0, .int .i64 0, .int .i64 0, .int .i64 0, .int .i64 0, .int .i64 0, .int .i64 0, .int .i64 0, .int .i64 0, .int .i64 0, .slice none 0 0, .slice none 0 0, .slice none 0 0, .slice none 0 0] 39)).setRow w4.heap.size (tbA t a4)) = V1
  generalize w4.heap.size = N1
  intro HL HB HX HK HP HC HM HY
  refine Calls.mono (HIM.out a4 V1 HC.out.m HC.out.w HC.out.s (HU.out _ HB.out).2 HC.out.c HC.out.c2) ?_
  rintro e w5 ⟨R9, a5, q9, rfl, hAq, hb9, ho⟩
  obtain ⟨e1, e2⟩ := HUN.out HAQ.out hAq
  subst e1 e2
  have hl1 : N1 < V1.heap.size := (Array.getElem?_eq_some_iff.1 HY.out).1
  replace HB : Hid (Below w.heap.size w w5) := HB.out.trans (hb9.mono HB.out.size)
  replace HX : Hid (w5.heap[w.heap.size]? = some (.cells (tbA t a) 31 (0, 0))) := row_below HX.out hb9
  replace HK : Hid (KT L0 N0 w5 R a1) := HK.out.below hb9
  replace HP : Hid (w5.heap[N0]? = some (.cells (tbA R a1) 39 (0, 0))) := row_below HP.out hb9
  replace HC : Hid (Cpy w5 t a a4) := HC.out.below hb9
  replace HM : Hid (WT L1 N1 w5 a4) := HM.out.below hb9
  replace HY : Hid (w5.heap[N1]? = some (.cells (tbA t a4) 39 (0, 0))) := row_below HY.out hb9
  have HS5 : Hid (TS a5 ∧ TW R a5) := ⟨ho.s, ho.w⟩
  have hk5 := ho.kt
  have ho5 := ho.o
  have HG : Hid (KT V1.heap.size w5.heap.size w5 R a5) := hk5
  have HO : Hid (OTa V1.heap.size w5.heap.size w5 a5) := ho5
  replace HL : Hid (w.heap.size < L0 ∧ L0 ≤ N0 ∧ N0 < L1 ∧ L1 ≤ N1 ∧ N1 < V1.heap.size ∧ V1.heap.size ≤ w5.heap.size) := ⟨HL.out.1, HL.out.2.1, HL.out.2.2.1, HL.out.2.2.2, hl1, hb9.size⟩
  have HE5 : Hid (a1.pn = a5.pn ∧ a1.dn = a5.dn ∧ a1.cn = a5.cn ∧ a1.sn = a5.sn) := tw_eq HS5.out.2 HW1.out
  clear hb9 hk5 ho5 ho hl1 hAq
  revert HG HO HL
  generalize V1.heap.size = L2
  intro HG HO HL
  have hqq : (q != q) = false := by simp
  have HN : Hid ((w5.alloc (.cells #[.int .i64 0, .int .i64 0, .int .i64 0, .int .i64 0, .int .i64 0, .int .i64 0, .int .i64 0, .int .i64 0, .int .i64 0, .int .i64 0, .int .i64 0, .int .i64 0, .int .i64 0, .int .i64 0, .int .i64 0, .slice none 0 0, .slice none 0 0, .slice none 0 0, .slice none 0 0] 39)).heap[w5.heap.size]? = some (.cells #[.int .i64 0, .int .i64 0, .int .i64 0, .int .i64 0, .int .i64 0, .int .i64 0, .int .i64 0, .int .i64 0, .int .i64 0, .int .i64 0, .int .i64 0, .int .i64 0, .int .i64 0, .int .i64 0, .int .i64 0, .slice none 0 0, .slice none 0 0, .slice none 0 0, .slice none 0 0] 39 (0, 0))) := new_row w5 _ _ _ rfl
  have hbV : Below w5.heap.size w5 ((w5.alloc (.cells #[.int .i64 0, .int .i64 0, .int .i64 0, .int .i64 0, .int .i64 0, .int .i64 0, .int .i64 0, .int .i64 0, .int .i64 0, .int .i64 0, .int .i64 0, .int .i64 0, .int .i64 0, .int .i64 0, .int .i64 0, .slice none 0 0, .slice none 0 0, .slice none 0 0, .slice none 0 0] 39)).setRow w5.heap.size (tbA R a5)) := below_setRow ((Below.refl _ _).alloc (Nat.le_refl _) _) (Nat.le_refl _) _
  replace HB : Hid (Below w.heap.size w ((w5.alloc (.cells #[.int .i64 0, .int .i64 0, .int .i64 0, .int .i64 0, .int .i64 0, .int .i64 0, .int .i64 0, .int .i64 0, .int .i64 0, .int .i64 0, .int .i64 0, .int .i64 0, .int .i64 0, .int .i64 0, .int .i64 0, .slice none 0 0, .slice none 0 0, .slice none 0 0, .slice none 0 0] 39)).setRow w5.heap.size (tbA R a5))) := HB.out.trans (hbV.mono HB.out.size)
  replace HX : Hid (((w5.alloc (.cells #[.int .i64 0, .int .i64 0, .int .i64 0, .int .i64 0, .int .i64 0, .int .i64 0, .int .i64 0, .int .i64 0, .int .i64 0, .int .i64 0, .int .i64 0, .int .i64 0, .int .i64 0, .int .i64 0, .int .i64 0, .slice none 0 0, .slice none 0 0, .slice none 0 0, .slice none 0 0] 39)).setRow w5.heap.size (tbA R a5)).heap[w.heap.size]? = some (.cells (tbA t a) 31 (0, 0))) := row_below HX.out hbV
  replace HK : Hid (KT L0 N0 ((w5.alloc (.cells #[.int .i64 0, .int .i64 0, .int .i64 0, .int .i64 0, .int .i64 0, .int .i64 0, .int .i64 0, .int .i64 0, .int .i64 0, .int .i64 0, .int .i64 0, .int .i64 0, .int .i64 0, .int .i64 0, .int .i64 0, .slice none 0 0, .slice none 0 0, .slice none 0 0, .slice none 0 0] 39)).setRow w5.heap.size (tbA R a5)) R a1) := HK.out.below hbV
  replace HP : Hid (((w5.alloc (.cells #[.int .i64 0, .int .i64 0, .int .i64 0, .int .i64 0, .int .i64 0, .int .i64 0, .int .i64 0, .int .i64 0, .int .i64 0, .int .i64 0, .int .i64 0, .int .i64 0, .int .i64 0, .int .i64 0, .int .i64 0, .slice none 0 0, .slice none 0 0, .slice none 0 0, .slice none 0 0] 39)).setRow w5.heap.size (tbA R a5)).heap[N0]? = some (.cells (tbA R a1) 39 (0, 0))) := row_below HP.out hbV
  replace HC : Hid (Cpy ((w5.alloc (.cells #[.int .i64 0, .int .i64 0, .int .i64 0, .int .i64 0, .int .i64 0, .int .i64 0, .int .i64 0, .int .i64 0, .int .i64 0, .int .i64 0, .int .i64 0, .int .i64 0, .int .i64 0, .int .i64 0, .int .i64 0, .slice none 0 0, .slice none 0 0, .slice none 0 0, .slice none 0 0] 39)).setRow w5.heap.size (tbA R a5)) t a a4) := HC.out.below hbV
  replace HM : Hid (WT L1 N1 ((w5.alloc (.cells #[.int .i64 0, .int .i64 0, .int .i64 0, .int .i64 0, .int .i64 0, .int .i64 0, .int .i64 0, .int .i64 0, .int .i64 0, .int .i64 0, .int .i64 0, .int .i64 0, .int .i64 0, .int .i64 0, .int .i64 0, .slice none 0 0, .slice none 0 0, .slice none 0 0, .slice none 0 0] 39)).setRow w5.heap.size (tbA R a5)) a4) := HM.out.below hbV
  replace HY : Hid (((w5.alloc (.cells #[.int .i64 0, .int .i64 0, .int .i64 0, .int .i64 0, .int .i64 0, .int .i64 0, .int .i64 0, .int .i64 0, .int .i64 0, .int .i64 0, .int .i64 0, .int .i64 0, .int .i64 0, .int .i64 0, .int .i64 0, .slice none 0 0, .slice none 0 0, .slice none 0 0, .slice none 0 0] 39)).setRow w5.heap.size (tbA R a5)).heap[N1]? = some (.cells (tbA t a4) 39 (0, 0))) := row_below HY.out hbV
  replace HG : Hid (KT L2 w5.heap.size ((w5.alloc (.cells #[.int .i64 0, .int .i64 0, .int .i64 0, .int .i64 0, .int .i64 0, .int .i64 0, .int .i64 0, .int .i64 0, .int .i64 0, .int .i64 0, .int .i64 0, .int .i64 0, .int .i64 0, .int .i64 0, .int .i64 0, .slice none 0 0, .slice none 0 0, .slice none 0 0, .slice none 0 0] 39)).setRow w5.heap.size (tbA R a5)) R a5) := HG.out.below hbV
  replace HO : Hid (OTa L2 w5.heap.size ((w5.alloc (.cells #[.int .i64 0, .int .i64 0, .int .i64 0, .int .i64 0, .int .i64 0, .int .i64 0, .int .i64 0, .int .i64 0, .int .i64 0, .int .i64 0, .int .i64 0, .int .i64 0, .int .i64 0, .int .i64 0, .int .i64 0, .slice none 0 0, .slice none 0 0, .slice none 0 0, .slice none 0 0] 39)).setRow w5.heap.size (tbA R a5)) a5) := HO.out.below hbV
  have HZ : Hid (((w5.alloc (.cells #[.int .i64 0, .int .i64 0, .int .i64 0, .int .i64 0, .int .i64 0, .int .i64 0, .int .i64 0, .int .i64 0, .int .i64 0, .int .i64 0, .int .i64 0, .int .i64 0, .int .i64 0, .int .i64 0, .int .i64 0, .slice none 0 0, .slice none 0 0, .slice none 0 0, .slice none 0 0] 39)).setRow w5.heap.size (tbA R a5)).heap[w5.heap.size]? = some (.cells (tbA R a5) 39 (0, 0))) := setRow_heap _ _ _ _ _ _ HN.out
  clear hbV
  go_wp2_with (first | (refine wpList_store_row rfl 39 (.tmp 11) (.tmp 38) rfl w5.heap.size (tbA R a5) rfl rfl 39 #[.int .i64 0, .int .i64 0, .int .i64 0, .int .i64 0, .int .i64 0, .int .i64 0, .int .i64 0, .int .i64 0, .int .i64 0, .int .i64 0, .int .i64 0, .int .i64 0, .int .i64 0, .int .i64 0, .int .i64 0, .slice none 0 0, .slice none 0 0, .slice none 0 0, .slice none 0 0] HN.out (by kernel_rfl) rfl (by simp [Value.oneCell']) ?_) | (refine wpList_load_row rfl 39 (.tmp 11) rfl w5.heap.size rfl 39 (tbA R a5) (0, 0) _ HZ.out Tryz.underlying39 rfl (by kernel_rfl) ?_) | (refine wpList_load_row_w (by first | rfl | (simp [Region.wanted, yielded, Act.put, HRK.out])) 39 (.tmp 11) rfl w5.heap.size rfl 39 (tbA R a5) (0, 0) _ HZ.out Tryz.underlying39 rfl (by kernel_rfl) ?_) | (refine wpList_load_row rfl 39 (.tmp 8) rfl N0 rfl 39 (tbA R a1) (0, 0) _ HP.out Tryz.underlying39 rfl (by kernel_rfl) ?_) | (refine wpList_load_row_w (by first | rfl | (simp [Region.wanted, yielded, Act.put, HRK.out])) 39 (.tmp 8) rfl N0 rfl 39 (tbA R a1) (0, 0) _ HP.out Tryz.underlying39 rfl (by kernel_rfl) ?_) | fail)
  clear HN
  revert HB HX HK HP HC HM HY HG HO HZ HL
  generalize ((w5.alloc (.cells #[.int .i64 0, .int .i64 0, .int .i64 0, .int .i64 0, .int .i64 0, .int .i64 0, .int .i64 0, .int .i64 0, .int .i64 0, .int .i64 0, .int .i64 0, .int .i64 0, .int .i64 0, .int .i64 0, .int .i64 0, .slice none 0 0, .slice none 0 0, .slice none 0 0, .slice none 0 0] 39)).setRow w5.heap.size (tbA R a5)) = V2
  generalize w5.heap.size = N2
  intro HL HB HX HK HP HC HM HY HG HO HZ
  refine Calls.mono (eq_tab R a5 a1 _ HG.out.tm HK.out.tm HS5.out.1 HE5.out.1 HE5.out.2.1 HE5.out.2.2.1 HE5.out.2.2.2) ?_
  rintro e w6 ⟨rfl, hb9⟩
  replace HB : Hid (Below w.heap.size w w6) := HB.out.trans (hb9.mono HB.out.size)
  replace HX : Hid (w6.heap[w.heap.size]? = some (.cells (tbA t a) 31 (0, 0))) := row_below HX.out hb9
  replace HK : Hid (KT L0 N0 w6 R a1) := HK.out.below hb9
  replace HP : Hid (w6.heap[N0]? = some (.cells (tbA R a1) 39 (0, 0))) := row_below HP.out hb9
  replace HC : Hid (Cpy w6 t a a4) := HC.out.below hb9
  replace HM : Hid (WT L1 N1 w6 a4) := HM.out.below hb9
  replace HY : Hid (w6.heap[N1]? = some (.cells (tbA t a4) 39 (0, 0))) := row_below HY.out hb9
  replace HG : Hid (KT L2 N2 w6 R a5) := HG.out.below hb9
  replace HO : Hid (OTa L2 N2 w6 a5) := HO.out.below hb9
  replace HZ : Hid (w6.heap[N2]? = some (.cells (tbA R a5) 39 (0, 0))) := row_below HZ.out hb9
  clear hb9
  go_wp2
  have HB6 : Hid (∀ X, Below w6.heap.size w6 X → Below w.heap.size w X) := fun X hX => HB.out.trans (hX.mono HB.out.size)
  have HX6 : Hid (∀ X, Below w6.heap.size w6 X → X.heap[w.heap.size]? = some (.cells (tbA t a) 31 (0, 0))) := fun X hX => row_below HX.out hX
  have HK6 : Hid (∀ X, Below w6.heap.size w6 X → KT L0 N0 X R a1) := fun X hX => HK.out.below hX
  have HP6 : Hid (∀ X, Below w6.heap.size w6 X → X.heap[N0]? = some (.cells (tbA R a1) 39 (0, 0))) := fun X hX => row_below HP.out hX
  have HC6 : Hid (∀ X, Below w6.heap.size w6 X → Cpy X t a a4) := fun X hX => HC.out.below hX
  have HM6 : Hid (∀ X, Below w6.heap.size w6 X → WT L1 N1 X a4) := fun X hX => HM.out.below hX
  have HY6 : Hid (∀ X, Below w6.heap.size w6 X → X.heap[N1]? = some (.cells (tbA t a4) 39 (0, 0))) := fun X hX => row_below HY.out hX
  have HG6 : Hid (∀ X, Below w6.heap.size w6 X → KT L2 N2 X R a5) := fun X hX => HG.out.below hX
  have HO6 : Hid (∀ X, Below w6.heap.size w6 X → OTa L2 N2 X a5) := fun X hX => HO.out.below hX
  have HZ6 : Hid (∀ X, Below w6.heap.size w6 X → X.heap[N2]? = some (.cells (tbA R a5) 39 (0, 0))) := fun X hX => row_below HZ.out hX
  clear HB HX HK HP HC HM HY HG HO HZ
  refine wp_region_inv (by kernel_rfl) (by kernel_rfl) (fun A ℓ a' w' => ∃ (x49 x50 x51 x52 x53 : Value), a' = (((((A.put (some 49) x49).put (some 50) x50).put (some 51) x51).put (some 52) x52).put (some 53) x53) ∧ TI t a a4 w6 w' (ℓ 0) (ℓ 1) (ℓ 2) (ℓ 3) (ℓ 4) x49 x50 x51 x52 x53) ?_ ?_ ?_ ?_
  · exact ⟨undef, undef, undef, undef, undef, (by simp only [Act.put, List.setIfInBounds_toArray, List.set_cons_zero, List.set_cons_succ]), ⟨(Below.refl _ _).drew, (fun g => by cases g), (fun g => by cases g), (fun g => by cases g), (fun g => by cases g), (fun g => by cases g)⟩⟩
  · intro ℓ a' w' hI hall
    obtain ⟨x49, x50, x51, x52, x53, rfl, hr⟩ := hI
    have hall' : ∀ i, i < 5 → ℓ i = true := hall
    obtain rfl := hr.f4 (hall' 4 (by omega))
    have HB : Hid (Below w.heap.size w w') := HB6.out _ hr.gb
    have HX : Hid (w'.heap[w.heap.size]? = some (.cells (tbA t a) 31 (0, 0))) := HX6.out _ hr.gb
    have HK : Hid (KT L0 N0 w' R a1) := HK6.out _ hr.gb
    have HP : Hid (w'.heap[N0]? = some (.cells (tbA R a1) 39 (0, 0))) := HP6.out _ hr.gb
    have HC : Hid (Cpy w' t a a4) := HC6.out _ hr.gb
    have HM : Hid (WT L1 N1 w' a4) := HM6.out _ hr.gb
    have HY : Hid (w'.heap[N1]? = some (.cells (tbA t a4) 39 (0, 0))) := HY6.out _ hr.gb
    have HG : Hid (KT L2 N2 w' R a5) := HG6.out _ hr.gb
    have HO : Hid (OTa L2 N2 w' a5) := HO6.out _ hr.gb
    have HZ : Hid (w'.heap[N2]? = some (.cells (tbA R a5) 39 (0, 0))) := HZ6.out _ hr.gb
    clear hr hall hall' HB6 HX6 HK6 HP6 HC6 HM6 HY6 HG6 HO6 HZ6
    simp only [Act.put, List.setIfInBounds_toArray, List.set_cons_zero, List.set_cons_succ]
    go_wp2_with (first | (refine wpList_load_row rfl 39 (.tmp 10) rfl N1 rfl 39 (tbA t a4) (0, 0) _ HY.out Tryz.underlying39 rfl (by kernel_rfl) ?_) | (refine wpList_load_row_w (by first | rfl | (simp [Region.wanted, yielded, Act.put, HRK.out])) 39 (.tmp 10) rfl N1 rfl 39 (tbA t a4) (0, 0) _ HY.out Tryz.underlying39 rfl (by kernel_rfl) ?_) | fail)
    refine Calls.mono (mk_tab t a4 L1 N1 _ HM.out HC.out.s (Nat.le_of_lt (Array.getElem?_eq_some_iff.1 HY.out).1)) ?_
    rintro e v3 ⟨⟨rk, rfl, hrk⟩, hmk⟩
    replace HB : Hid (Below w.heap.size w v3) := HB.out.trans (hmk.low (by have := HL.out; omega) HB.out.size)
    replace HX : Hid (v3.heap[w.heap.size]? = some (.cells (tbA t a) 31 (0, 0))) := (hmk.b.block _ (Array.getElem?_eq_some_iff.1 HX.out).1 (.inl (by have := HL.out; omega))).trans HX.out
    replace HK : Hid (KT L0 N0 v3 R a1) := HK.out.mk' hmk (.inl (by have := HL.out; omega))
    replace HP : Hid (v3.heap[N0]? = some (.cells (tbA R a1) 39 (0, 0))) := (hmk.b.block _ (Array.getElem?_eq_some_iff.1 HP.out).1 (.inl (by have := HL.out; omega))).trans HP.out
    replace HG : Hid (KT L2 N2 v3 R a5) := HG.out.mk' hmk (.inr (by have := HL.out; omega))
    replace HO : Hid (OTa L2 N2 v3 a5) := HO.out.mkk hmk (.inr (by have := HL.out; omega))
    replace HZ : Hid (v3.heap[N2]? = some (.cells (tbA R a5) 39 (0, 0))) := (hmk.b.block _ (Array.getElem?_eq_some_iff.1 HZ.out).1 (.inr (by have := HL.out; omega))).trans HZ.out
    clear hmk HC HM HY
    have hrk0 : ¬ (rk < 0) := by omega
    have HRK : Hid (decide (rk < 0) = false) := decide_eq_false (by omega)
    go_wp2_with (first | (refine wpList_load_row rfl 39 (.tmp 11) rfl N2 rfl 39 (tbA R a5) (0, 0) _ HZ.out Tryz.underlying39 rfl (by kernel_rfl) ?_) | (refine wpList_load_row_w (by first | rfl | (simp [Region.wanted, yielded, Act.put, HRK.out])) 39 (.tmp 11) rfl N2 rfl 39 (tbA R a5) (0, 0) _ HZ.out Tryz.underlying39 rfl (by kernel_rfl) ?_) | (refine wpList_load_row rfl 39 (.tmp 8) rfl N0 rfl 39 (tbA R a1) (0, 0) _ HP.out Tryz.underlying39 rfl (by kernel_rfl) ?_) | (refine wpList_load_row_w (by first | rfl | (simp [Region.wanted, yielded, Act.put, HRK.out])) 39 (.tmp 8) rfl N0 rfl 39 (tbA R a1) (0, 0) _ HP.out Tryz.underlying39 rfl (by kernel_rfl) ?_) | fail)
    refine Calls.mono (eq_tab R a5 a1 _ HG.out.tm HK.out.tm HS5.out.1 HE5.out.1 HE5.out.2.1 HE5.out.2.2.1 HE5.out.2.2.2) ?_
    rintro e v4 ⟨rfl, hb9⟩
    replace HB : Hid (Below w.heap.size w v4) := HB.out.trans (hb9.mono HB.out.size)
    replace HX : Hid (v4.heap[w.heap.size]? = some (.cells (tbA t a) 31 (0, 0))) := row_below HX.out hb9
    replace HK : Hid (KT L0 N0 v4 R a1) := HK.out.below hb9
    replace HP : Hid (v4.heap[N0]? = some (.cells (tbA R a1) 39 (0, 0))) := row_below HP.out hb9
    replace HG : Hid (KT L2 N2 v4 R a5) := HG.out.below hb9
    replace HO : Hid (OTa L2 N2 v4 a5) := HO.out.below hb9
    replace HZ : Hid (v4.heap[N2]? = some (.cells (tbA R a5) 39 (0, 0))) := row_below HZ.out hb9
    clear hb9
    go_wp2_with (first | (refine wpList_load_row rfl 39 (.tmp 11) rfl N2 rfl 39 (tbA R a5) (0, 0) _ HZ.out Tryz.underlying39 rfl (by kernel_rfl) ?_) | (refine wpList_load_row_w (by first | rfl | (simp [Region.wanted, yielded, Act.put, HRK.out])) 39 (.tmp 11) rfl N2 rfl 39 (tbA R a5) (0, 0) _ HZ.out Tryz.underlying39 rfl (by kernel_rfl) ?_) | fail)
    refine Calls.mono (mkv_tab R a5 L2 N2 _ HO.out HS5.out.1 (Nat.le_of_lt (Array.getElem?_eq_some_iff.1 HZ.out).1)) ?_
    rintro e v5 ⟨rfl, hkz, hmk, hj⟩
    replace HB : Hid (Below w.heap.size w v5) := HB.out.trans (hmk.low (by have := HL.out; omega) HB.out.size)
    replace HX : Hid (v5.heap[w.heap.size]? = some (.cells (tbA t a) 31 (0, 0))) := (hmk.b.block _ (Array.getElem?_eq_some_iff.1 HX.out).1 (.inl (by have := HL.out; omega))).trans HX.out
    replace HK : Hid (KT L0 N0 v5 R a1) := HK.out.mk' hmk (.inl (by have := HL.out; omega))
    replace HP : Hid (v5.heap[N0]? = some (.cells (tbA R a1) 39 (0, 0))) := (hmk.b.block _ (Array.getElem?_eq_some_iff.1 HP.out).1 (.inl (by have := HL.out; omega))).trans HP.out
    replace HZ : Hid (v5.heap[N2]? = some (.cells (tbA R a5) 39 (0, 0))) := (hmk.b.block _ (Array.getElem?_eq_some_iff.1 HZ.out).1 (.inr (by have := HL.out; omega))).trans HZ.out
    clear hmk HG HO
    have HJ : Hid (HTb v5 a5) := hj
    clear hj
    obtain ⟨kz, HKZ⟩ : ∃ z, Hid (Kz a5 = z) := ⟨_, rfl⟩
    rw [HKZ.out] at hkz ⊢
    have hkz0 : ¬ (kz < 0) := by omega
    go_wp2_with (first | (refine wpList_load_row rfl 39 (.tmp 11) rfl N2 rfl 39 (tbA R a5) (0, 0) _ HZ.out Tryz.underlying39 rfl (by kernel_rfl) ?_) | (refine wpList_load_row_w (by first | rfl | (simp [Region.wanted, yielded, Act.put, HRK.out])) 39 (.tmp 11) rfl N2 rfl 39 (tbA R a5) (0, 0) _ HZ.out Tryz.underlying39 rfl (by kernel_rfl) ?_) | fail)
    refine Calls.mono (held_tab R a5 _ HJ.out HS5.out.1) ?_
    rintro e v6 ⟨rfl, hb9⟩
    rw [HKZ.out]
    replace HB : Hid (Below w.heap.size w v6) := HB.out.trans (hb9.mono HB.out.size)
    replace HX : Hid (v6.heap[w.heap.size]? = some (.cells (tbA t a) 31 (0, 0))) := row_below HX.out hb9
    replace HK : Hid (KT L0 N0 v6 R a1) := HK.out.below hb9
    replace HP : Hid (v6.heap[N0]? = some (.cells (tbA R a1) 39 (0, 0))) := row_below HP.out hb9
    replace HZ : Hid (v6.heap[N2]? = some (.cells (tbA R a5) 39 (0, 0))) := row_below HZ.out hb9
    replace HJ : Hid (HTb v6 a5) := HJ.out.below hb9
    clear hb9
    go_wp2_with (first | (refine wpList_load_row rfl 31 (.tmp 3) rfl w.heap.size rfl 31 (tbA t a) (0, 0) _ HX.out Tryz.underlying31 rfl (by kernel_rfl) ?_) | (refine wpList_load_row_w (by first | rfl | (simp [Region.wanted, yielded, Act.put, HRK.out])) 31 (.tmp 3) rfl w.heap.size rfl 31 (tbA t a) (0, 0) _ HX.out Tryz.underlying31 rfl (by kernel_rfl) ?_) | fail)
    refine Calls.mono (copy_tab t a _ (HU.out _ HB.out).1 HW.out HS.out) ?_
    rintro e v7 ⟨a7, rfl, hb9, hc7⟩
    replace HB : Hid (Below w.heap.size w v7) := HB.out.trans (hb9.mono HB.out.size)
    replace HX : Hid (v7.heap[w.heap.size]? = some (.cells (tbA t a) 31 (0, 0))) := row_below HX.out hb9
    replace HK : Hid (KT L0 N0 v7 R a1) := HK.out.below hb9
    replace HP : Hid (v7.heap[N0]? = some (.cells (tbA R a1) 39 (0, 0))) := row_below HP.out hb9
    replace HZ : Hid (v7.heap[N2]? = some (.cells (tbA R a5) 39 (0, 0))) := row_below HZ.out hb9
    replace HJ : Hid (HTb v7 a5) := HJ.out.below hb9
    clear hb9
    go_wp2_with fail
    refine Calls.mono (HIM.out a7 v7 hc7.m hc7.w hc7.s (HU.out _ HB.out).2 hc7.c hc7.c2) ?_
    rintro e v8 ⟨R9, a8, q9, rfl, hAq, hb9, ho⟩
    obtain ⟨e1, e2⟩ := HUN.out HAQ.out hAq
    subst e1 e2
    replace HB : Hid (Below w.heap.size w v8) := HB.out.trans (hb9.mono HB.out.size)
    replace HX : Hid (v8.heap[w.heap.size]? = some (.cells (tbA t a) 31 (0, 0))) := row_below HX.out hb9
    replace HK : Hid (KT L0 N0 v8 R a1) := HK.out.below hb9
    replace HP : Hid (v8.heap[N0]? = some (.cells (tbA R a1) 39 (0, 0))) := row_below HP.out hb9
    replace HZ : Hid (v8.heap[N2]? = some (.cells (tbA R a5) 39 (0, 0))) := row_below HZ.out hb9
    replace HJ : Hid (HTb v8 a5) := HJ.out.below hb9
    have HO8 : Hid (OTR v7.heap.size v8 R a8) := ho
    have HE8 : Hid (a1.pn = a8.pn ∧ a1.dn = a8.dn ∧ a1.cn = a8.cn ∧ a1.sn = a8.sn) := tw_eq ho.w HW1.out
    clear hb9 hc7 ho hAq
    have HN : Hid ((v8.alloc (.cells #[.int .i64 0, .int .i64 0, .int .i64 0, .int .i64 0, .int .i64 0, .int .i64 0, .int .i64 0, .int .i64 0, .int .i64 0, .int .i64 0, .int .i64 0, .int .i64 0, .int .i64 0, .int .i64 0, .int .i64 0, .slice none 0 0, .slice none 0 0, .slice none 0 0, .slice none 0 0] 39)).heap[v8.heap.size]? = some (.cells #[.int .i64 0, .int .i64 0, .int .i64 0, .int .i64 0, .int .i64 0, .int .i64 0, .int .i64 0, .int .i64 0, .int .i64 0, .int .i64 0, .int .i64 0, .int .i64 0, .int .i64 0, .int .i64 0, .int .i64 0, .slice none 0 0, .slice none 0 0, .slice none 0 0, .slice none 0 0] 39 (0, 0))) := new_row v8 _ _ _ rfl
    have hbV : Below v8.heap.size v8 ((v8.alloc (.cells #[.int .i64 0, .int .i64 0, .int .i64 0, .int .i64 0, .int .i64 0, .int .i64 0, .int .i64 0, .int .i64 0, .int .i64 0, .int .i64 0, .int .i64 0, .int .i64 0, .int .i64 0, .int .i64 0, .int .i64 0, .slice none 0 0, .slice none 0 0, .slice none 0 0, .slice none 0 0] 39)).setRow v8.heap.size (tbA R a8)) := below_setRow ((Below.refl _ _).alloc (Nat.le_refl _) _) (Nat.le_refl _) _
    replace HB : Hid (Below w.heap.size w ((v8.alloc (.cells #[.int .i64 0, .int .i64 0, .int .i64 0, .int .i64 0, .int .i64 0, .int .i64 0, .int .i64 0, .int .i64 0, .int .i64 0, .int .i64 0, .int .i64 0, .int .i64 0, .int .i64 0, .int .i64 0, .int .i64 0, .slice none 0 0, .slice none 0 0, .slice none 0 0, .slice none 0 0] 39)).setRow v8.heap.size (tbA R a8))) := HB.out.trans (hbV.mono HB.out.size)
    replace HX : Hid (((v8.alloc (.cells #[.int .i64 0, .int .i64 0, .int .i64 0, .int .i64 0, .int .i64 0, .int .i64 0, .int .i64 0, .int .i64 0, .int .i64 0, .int .i64 0, .int .i64 0, .int .i64 0, .int .i64 0, .int .i64 0, .int .i64 0, .slice none 0 0, .slice none 0 0, .slice none 0 0, .slice none 0 0] 39)).setRow v8.heap.size (tbA R a8)).heap[w.heap.size]? = some (.cells (tbA t a) 31 (0, 0))) := row_below HX.out hbV
    replace HK : Hid (KT L0 N0 ((v8.alloc (.cells #[.int .i64 0, .int .i64 0, .int .i64 0, .int .i64 0, .int .i64 0, .int .i64 0, .int .i64 0, .int .i64 0, .int .i64 0, .int .i64 0, .int .i64 0, .int .i64 0, .int .i64 0, .int .i64 0, .int .i64 0, .slice none 0 0, .slice none 0 0, .slice none 0 0, .slice none 0 0] 39)).setRow v8.heap.size (tbA R a8)) R a1) := HK.out.below hbV
    replace HP : Hid (((v8.alloc (.cells #[.int .i64 0, .int .i64 0, .int .i64 0, .int .i64 0, .int .i64 0, .int .i64 0, .int .i64 0, .int .i64 0, .int .i64 0, .int .i64 0, .int .i64 0, .int .i64 0, .int .i64 0, .int .i64 0, .int .i64 0, .slice none 0 0, .slice none 0 0, .slice none 0 0, .slice none 0 0] 39)).setRow v8.heap.size (tbA R a8)).heap[N0]? = some (.cells (tbA R a1) 39 (0, 0))) := row_below HP.out hbV
    replace HZ : Hid (((v8.alloc (.cells #[.int .i64 0, .int .i64 0, .int .i64 0, .int .i64 0, .int .i64 0, .int .i64 0, .int .i64 0, .int .i64 0, .int .i64 0, .int .i64 0, .int .i64 0, .int .i64 0, .int .i64 0, .int .i64 0, .int .i64 0, .slice none 0 0, .slice none 0 0, .slice none 0 0, .slice none 0 0] 39)).setRow v8.heap.size (tbA R a8)).heap[N2]? = some (.cells (tbA R a5) 39 (0, 0))) := row_below HZ.out hbV
    replace HJ : Hid (HTb ((v8.alloc (.cells #[.int .i64 0, .int .i64 0, .int .i64 0, .int .i64 0, .int .i64 0, .int .i64 0, .int .i64 0, .int .i64 0, .int .i64 0, .int .i64 0, .int .i64 0, .int .i64 0, .int .i64 0, .int .i64 0, .int .i64 0, .slice none 0 0, .slice none 0 0, .slice none 0 0, .slice none 0 0] 39)).setRow v8.heap.size (tbA R a8)) a5) := HJ.out.below hbV
    replace HO8 : Hid (OTR v7.heap.size ((v8.alloc (.cells #[.int .i64 0, .int .i64 0, .int .i64 0, .int .i64 0, .int .i64 0, .int .i64 0, .int .i64 0, .int .i64 0, .int .i64 0, .int .i64 0, .int .i64 0, .int .i64 0, .int .i64 0, .int .i64 0, .int .i64 0, .slice none 0 0, .slice none 0 0, .slice none 0 0, .slice none 0 0] 39)).setRow v8.heap.size (tbA R a8)) R a8) := HO8.out.below hbV
    have HQ : Hid (((v8.alloc (.cells #[.int .i64 0, .int .i64 0, .int .i64 0, .int .i64 0, .int .i64 0, .int .i64 0, .int .i64 0, .int .i64 0, .int .i64 0, .int .i64 0, .int .i64 0, .int .i64 0, .int .i64 0, .int .i64 0, .int .i64 0, .slice none 0 0, .slice none 0 0, .slice none 0 0, .slice none 0 0] 39)).setRow v8.heap.size (tbA R a8)).heap[v8.heap.size]? = some (.cells (tbA R a8) 39 (0, 0))) := setRow_heap _ _ _ _ _ _ HN.out
    clear hbV
    go_wp2_with (first | (refine wpList_store_row rfl 39 (.tmp 16) (.tmp 87) rfl v8.heap.size (tbA R a8) rfl rfl 39 #[.int .i64 0, .int .i64 0, .int .i64 0, .int .i64 0, .int .i64 0, .int .i64 0, .int .i64 0, .int .i64 0, .int .i64 0, .int .i64 0, .int .i64 0, .int .i64 0, .int .i64 0, .int .i64 0, .int .i64 0, .slice none 0 0, .slice none 0 0, .slice none 0 0, .slice none 0 0] HN.out (by kernel_rfl) rfl (by simp [Value.oneCell']) ?_) | (refine wpList_load_row rfl 39 (.tmp 16) rfl v8.heap.size rfl 39 (tbA R a8) (0, 0) _ HQ.out Tryz.underlying39 rfl (by kernel_rfl) ?_) | (refine wpList_load_row rfl 39 (.tmp 8) rfl N0 rfl 39 (tbA R a1) (0, 0) _ HP.out Tryz.underlying39 rfl (by kernel_rfl) ?_) | (refine wpList_load_row_w (by first | rfl | (simp [Region.wanted, yielded, Act.put, HRK.out])) 39 (.tmp 8) rfl N0 rfl 39 (tbA R a1) (0, 0) _ HP.out Tryz.underlying39 rfl (by kernel_rfl) ?_) | fail)
    clear HN HQ
    revert HB HX HK HP HZ HJ HO8
    generalize ((v8.alloc (.cells #[.int .i64 0, .int .i64 0, .int .i64 0, .int .i64 0, .int .i64 0, .int .i64 0, .int .i64 0, .int .i64 0, .int .i64 0, .int .i64 0, .int .i64 0, .int .i64 0, .int .i64 0, .int .i64 0, .int .i64 0, .slice none 0 0, .slice none 0 0, .slice none 0 0, .slice none 0 0] 39)).setRow v8.heap.size (tbA R a8)) = V8
    intro HB HX HK HP HZ HJ HO8
    refine Calls.mono (eq_tab R a8 a1 _ HO8.out.m HK.out.tm HO8.out.s HE8.out.1 HE8.out.2.1 HE8.out.2.2.1 HE8.out.2.2.2) ?_
    rintro e v9 ⟨rfl, hb9⟩
    clear HO8 HE8
    replace HB : Hid (Below w.heap.size w v9) := HB.out.trans (hb9.mono HB.out.size)
    replace HX : Hid (v9.heap[w.heap.size]? = some (.cells (tbA t a) 31 (0, 0))) := row_below HX.out hb9
    replace HP : Hid (v9.heap[N0]? = some (.cells (tbA R a1) 39 (0, 0))) := row_below HP.out hb9
    replace HZ : Hid (v9.heap[N2]? = some (.cells (tbA R a5) 39 (0, 0))) := row_below HZ.out hb9
    replace HJ : Hid (HTb v9 a5) := HJ.out.below hb9
    clear HK
    clear hb9
    go_wp2_with (first | (refine wpList_load_row rfl 39 (.tmp 11) rfl N2 rfl 39 (tbA R a5) (0, 0) _ HZ.out Tryz.underlying39 rfl (by kernel_rfl) ?_) | (refine wpList_load_row_w (by first | rfl | (simp [Region.wanted, yielded, Act.put, HRK.out])) 39 (.tmp 11) rfl N2 rfl 39 (tbA R a5) (0, 0) _ HZ.out Tryz.underlying39 rfl (by kernel_rfl) ?_) | fail)
    refine Calls.mono (held_tab R a5 _ HJ.out HS5.out.1) ?_
    rintro e v10 ⟨rfl, hb9⟩
    rw [HKZ.out]
    replace HB : Hid (Below w.heap.size w v10) := HB.out.trans (hb9.mono HB.out.size)
    replace HX : Hid (v10.heap[w.heap.size]? = some (.cells (tbA t a) 31 (0, 0))) := row_below HX.out hb9
    replace HP : Hid (v10.heap[N0]? = some (.cells (tbA R a1) 39 (0, 0))) := row_below HP.out hb9
    replace HZ : Hid (v10.heap[N2]? = some (.cells (tbA R a5) 39 (0, 0))) := row_below HZ.out hb9
    replace HJ : Hid (HTb v10 a5) := HJ.out.below hb9
    clear hb9
    go_wp2
    go_ret
    exact ⟨rfl, HB.out⟩
  · intro ℓ a' w' i o hI ho hi hL hdep K hK
    obtain ⟨x49, x50, x51, x52, x53, rfl, hr⟩ := hI
    have hi7 : i < 5 := hi
    have hcs : i = 0 ∨ i = 1 ∨ i = 2 ∨ i = 3 ∨ i = 4 := by omega
    clear hi hi7
    rcases hcs with rfl | rfl | rfl | rfl | rfl
    · replace ho : some ({ dst := some 49, op := .load 39 (.tmp 10), type := 39, pos := "exact.go:7153", after := #[], guard := none } : Oper) = some o := ho
      obtain rfl := Option.some.inj ho
      clear hdep ho
      rw [if_pos (by rfl)]
      try simp only [Act.put, List.setIfInBounds_toArray, List.set_cons_zero, List.set_cons_succ]
      refine wp_load_row (P := Tryz.prog) 39 (.tmp 10) rfl N1 rfl 39 (tbA t a4) (0, 0) _ (HY6.out _ hr.gb) Tryz.underlying39 rfl (by kernel_rfl) ?_
      exact hK.out _ _ (fun j => if j = 0 then true else ℓ j) ⟨tbV t a4, x50, x51, x52, x53, (by simp only [Act.put, List.setIfInBounds_toArray, List.set_cons_zero, List.set_cons_succ]), ⟨hr.gb, (fun _ => rfl), hr.f1, hr.f2, hr.f3, hr.f4⟩⟩ (if_pos rfl) (fun j hj => if_neg hj)
    · replace ho : some ({ dst := some 50, op := .load 31 (.tmp 3), type := 31, pos := "exact.go:7153", after := #[], guard := none } : Oper) = some o := ho
      obtain rfl := Option.some.inj ho
      clear hdep ho
      rw [if_pos (by rfl)]
      try simp only [Act.put, List.setIfInBounds_toArray, List.set_cons_zero, List.set_cons_succ]
      refine wp_load_row (P := Tryz.prog) 31 (.tmp 3) rfl w.heap.size rfl 31 (tbA t a) (0, 0) _ (HX6.out _ hr.gb) Tryz.underlying31 rfl (by kernel_rfl) ?_
      exact hK.out _ _ (fun j => if j = 1 then true else ℓ j) ⟨x49, tbV t a, x51, x52, x53, (by simp only [Act.put, List.setIfInBounds_toArray, List.set_cons_zero, List.set_cons_succ]), ⟨hr.gb, hr.f0, (fun _ => rfl), hr.f2, hr.f3, hr.f4⟩⟩ (if_pos rfl) (fun j hj => if_neg hj)
    · obtain rfl := Option.some.inj ho
      have g : ℓ 1 = true := hdep { on := 1, ground := Ground.data } (by simp) rfl
      clear hdep ho
      obtain rfl := hr.f1 g
      rw [if_pos (by rfl)]
      try simp only [Act.put, List.setIfInBounds_toArray, List.set_cons_zero, List.set_cons_succ]
      go_simp
      refine Calls.mono (copy_tab t a _ (HU.out _ (HB6.out _ hr.gb)).1 HW.out HS.out) ?_
      rintro e w9 ⟨a9, rfl, hb9, hc9⟩
      have hr9 := hr.below hb9
      exact hK.out _ _ (fun j => if j = 2 then true else ℓ j) ⟨x49, tbV t a, tbV t a9, x52, x53, (by simp only [Act.put, List.setIfInBounds_toArray, List.set_cons_zero, List.set_cons_succ]), ⟨hr9.gb, hr9.f0, hr9.f1, (fun _ => ⟨a9, rfl, hc9⟩), hr9.f3, hr9.f4⟩⟩ (if_pos rfl) (fun j hj => if_neg hj)
    · obtain rfl := Option.some.inj ho
      have g0 : ℓ 0 = true := hdep { on := 0, ground := Ground.data } (by simp) rfl
      have g2 : ℓ 2 = true := hdep { on := 2, ground := Ground.data } (by simp) rfl
      clear hdep ho
      obtain rfl := hr.f0 g0
      obtain ⟨a9, rfl, hc9⟩ := hr.f2 g2
      have hc4 := HC6.out _ hr.gb
      rw [if_pos (by rfl)]
      try simp only [Act.put, List.setIfInBounds_toArray, List.set_cons_zero, List.set_cons_succ]
      go_simp
      refine Calls.mono (eq_tab t a4 a9 _ hc4.m hc9.m hc4.s (hc9.p1.trans hc4.p1.symm) (hc9.p2.trans hc4.p2.symm) (hc9.p3.trans hc4.p3.symm) (hc9.p4.trans hc4.p4.symm)) ?_
      rintro e w9 ⟨rfl, hb9⟩
      have hr9 := hr.below hb9
      exact hK.out _ _ (fun j => if j = 3 then true else ℓ j) ⟨tbV t a4, x50, tbV t a9, .bool true, x53, (by simp only [Act.put, List.setIfInBounds_toArray, List.set_cons_zero, List.set_cons_succ]), ⟨hr9.gb, hr9.f0, hr9.f1, hr9.f2, (fun _ => rfl), hr9.f4⟩⟩ (if_pos rfl) (fun j hj => if_neg hj)
    · obtain rfl := Option.some.inj ho
      have g : ℓ 3 = true := hdep { on := 3, ground := Ground.data } (by simp) rfl
      clear hdep ho
      obtain rfl := hr.f3 g
      rw [if_pos (by rfl)]
      try simp only [Act.put, List.setIfInBounds_toArray, List.set_cons_zero, List.set_cons_succ]
      go_simp
      exact hK.out _ _ (fun j => if j = 4 then true else ℓ j) ⟨x49, x50, x51, .bool true, .bool false, (by simp only [Act.put, List.setIfInBounds_toArray, List.set_cons_zero, List.set_cons_succ]), ⟨hr.gb, hr.f0, hr.f1, hr.f2, hr.f3, (fun _ => rfl)⟩⟩ (if_pos rfl) (fun j hj => if_neg hj)
  · rintro a' w' ℓ ℓ' hℓ hI
    rw [← show ℓ = ℓ' from funext hℓ]
    exact hI
end Go.Proofs.YthieilkabcehgaaGreatDoor
