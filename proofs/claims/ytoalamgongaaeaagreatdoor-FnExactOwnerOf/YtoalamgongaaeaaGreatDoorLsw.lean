
/-
  The law of soundness, walked: at all tables it returns true. Conditions: the lists lie in memory; the program's table of extras holds what the program's text lays.
-/
import Derived.Test.YtoalamgongaaeaaGreatDoorBas
import Derived.Test.YtoalamgongaaeaaGreatDoorOpn
import Derived.Test.YtoalamgongaaeaaGreatDoorRl3
import Derived.Test.YtoalamgongaaeaaGreatDoorSp6
import Derived.Test.YtoalamgongaaeaaGreatDoorTbe
import Derived.Test.YtoalamgongaaeaaGreatDoorGen
import Derived.Test.YtoalamgongaaeaaGreatDoorRul
namespace Go.Proofs.YtoalamgongaaeaaGreatDoor
open Go.ChangeShapes Go.WideShapes Go.ChangeAt Go.RowKit Go.Deep Go.Joins
set_option linter.unusedVariables false

theorem new_row (w : World) (cs : Array Value) (ty : TypeId) (B : Nat) (hB : B = w.heap.size) : (w.alloc (.cells cs ty)).heap[B]? = some (.cells cs ty (0, 0)) := by
  subst hB
  show (w.heap.push _)[w.heap.size]? = _
  simp
theorem row_below {X X' : World} {B : Nat} {cs : Array Value} {ty : TypeId} (h : X.heap[B]? = some (.cells cs ty (0, 0))) (hb : Below X.heap.size X X') : X'.heap[B]? = some (.cells cs ty (0, 0)) := by
  have : B < X.heap.size := by
    rcases Nat.lt_or_ge B X.heap.size with g | g
    · exact g
    · rw [Array.getElem?_eq_none g] at h; cases h
  rw [hb.block B this]; exact h
theorem ad_carry {t : Tb} {a a' : Ad} {lo lo' : Nat} {w w' : World} (hm : TM lo w t a) (hm' : TM lo' w' t a') (hw : TW t a) (hs : TS a) (e : a'.pn = a.pn ∧ a'.dn = a.dn ∧ a'.cn = a.cn ∧ a'.sn = a.sn) : TW t a' ∧ TS a' := by
  obtain ⟨e1, e2, e3, e4⟩ := e
  have hy : ∀ i, i < a'.pn → (a'.Y i).wn = (a.Y i).wn ∧ (a'.Y i).nm = (a.Y i).nm := fun i hi => by
    have h1 := hm'.p.2 i hi
    have h2 := hm.p.2 i (by omega)
    exact ⟨by rw [← h1.ln, ← h2.ln], by rw [h1.nm, h2.nm]⟩
  refine ⟨⟨by rw [e1]; exact hw.pl, by rw [e2]; exact hw.dl, by rw [e3]; exact hw.cl, by rw [e4]; exact hw.sl, by rw [e1]; exact hw.pb, by rw [e2]; exact hw.db, by rw [e3]; exact hw.cb, by rw [e4]; exact hw.sb, fun i hi => ?_, fun i hi => hw.wf i (by omega), fun i hi => hw.sf i (by omega)⟩, ⟨by rw [e1]; exact hs.p, by rw [e2]; exact hs.d, by rw [e3]; exact hs.c, by rw [e4]; exact hs.s, fun i hi => ?_⟩⟩
  · obtain ⟨h1, h2⟩ := hy i hi
    rw [h1, h2]; exact hw.wb i (by omega)
  · obtain ⟨h1, h2⟩ := hy i hi
    rw [h1, h2]; exact hs.w i (by omega)
/-- All that is known of a copy. -/
structure Cpy (w : World) (t : Tb) (a a' : Ad) : Prop where
  m : TM 0 w t a'
  w : TW t a'
  s : TS a'
  c : a'.pn ≤ a'.pc
  c2 : a'.sn ≤ a'.sc
  p1 : a'.pn = a.pn
  p2 : a'.dn = a.dn
  p3 : a'.cn = a.cn
  p4 : a'.sn = a.sn
theorem Cpy.below {w w' : World} {t : Tb} {a a' : Ad} (h : Cpy w t a a') (hb : Below w.heap.size w w') : Cpy w' t a a' := ⟨h.m.below hb, h.w, h.s, h.c, h.c2, h.p1, h.p2, h.p3, h.p4⟩
theorem copy_tab (t : Tb) (a : Ad) (w : World) (hm : TM 0 w t a) (hw : TW t a) (hs : TS a) : Calls Tryz.prog 20 #[tbV t a] w fun e w' => ∃ a', e = .returned (tbV t a') ∧ Below w.heap.size w w' ∧ Cpy w' t a a' :=
  (to_tab t a w hm hs).mono fun e w' ⟨a', he, hb, hm', e4, c4⟩ => by
    obtain ⟨h1, h2⟩ := ad_carry hm hm' hw hs e4
    exact ⟨a', he, hb, ⟨hm'.wide (Nat.zero_le _), h1, h2, by rw [c4.1, e4.1]; exact Nat.le_refl _, by rw [c4.2.2.2, e4.2.2.2]; exact Nat.le_refl _, e4.1, e4.2.1, e4.2.2.1, e4.2.2.2⟩⟩
/-- What the tail of a law has come to. -/
structure TI (t : Tb) (a a4 : Ad) (W0 w : World) (b0 b1 b2 b3 b4 : Bool) (x22 x23 x24 x25 x26 : Value) : Prop where
  gb : Below W0.heap.size W0 w
  f0 : b0 = true → x22 = tbV t a4
  f1 : b1 = true → x23 = tbV t a
  f2 : b2 = true → ∃ a5, x24 = tbV t a5 ∧ Cpy w t a a5
  f3 : b3 = true → x25 = .bool true
  f4 : b4 = true → x26 = .bool false
theorem TI.below {t : Tb} {a a4 : Ad} {W0 w w' : World} {b0 b1 b2 b3 b4 : Bool} {x22 x23 x24 x25 x26 : Value} (h : TI t a a4 W0 w b0 b1 b2 b3 b4 x22 x23 x24 x25 x26) (hb : Below w.heap.size w w') : TI t a a4 W0 w' b0 b1 b2 b3 b4 x22 x23 x24 x25 x26 :=
  ⟨h.gb.trans (hb.mono h.gb.size), h.f0, h.f1, fun g => by obtain ⟨a5, e, c⟩ := h.f2 g; exact ⟨a5, e, c.below hb⟩, h.f3, h.f4⟩
set_option maxRecDepth 40000 in
set_option maxHeartbeats 8000000 in
theorem walk_sound (t : Tb) (a : Ad) (w : World) (hm : TM 0 w t a) (hw : TW t a) (he : TabE w) : Calls Tryz.prog 13 #[tbV t a] w fun e w' => e = .returned (.bool true) ∧ Below w.heap.size w w' := by
  obtain ⟨q, hq⟩ := told (Sd t)
  have HU : Hid (∀ X, Below w.heap.size w X → TM 0 X t a ∧ TabE X) := fun X hX => ⟨hm.below hX, he.below hX⟩
  have HW : Hid (TW t a) := hw
  have HQ : Hid (q = true ↔ Sd t) := hq
  have HB0 : Hid (Below w.heap.size w (w.alloc (.cells (tbA t a) 31))) := (Below.refl _ _).alloc (Nat.le_refl _) _
  have HX0 : Hid ((w.alloc (.cells (tbA t a) 31)).heap[w.heap.size]? = some (.cells (tbA t a) 31 (0, 0))) := new_row w _ _ _ rfl
  clear hm hw he hq
  go_enter Tryz.func13, Tryz.ntmps13
  go_wp2_with (first | (refine wpList_load_row rfl 31 (.tmp 1) rfl w.heap.size rfl 31 (tbA t a) (0, 0) _ HX0.out Tryz.underlying31 rfl (by kernel_rfl) ?_) | fail)
  refine Calls.mono (sz_tab t a _ (HU.out _ HB0.out).1 HW.out) ?_
  rintro e w1 ⟨⟨r, rfl, hr⟩, hb1⟩
  have HB1 : Hid (Below w.heap.size w w1) := HB0.out.trans (hb1.mono HB0.out.size)
  have HX1 : Hid (w1.heap[w.heap.size]? = some (.cells (tbA t a) 31 (0, 0))) := row_below HX0.out hb1
  clear hb1 HB0 HX0
  rcases hr with rfl | ⟨h0, hs⟩
  · go_wp2
    go_ret
    exact ⟨rfl, HB1.out⟩
  have HS : Hid (TS a) := hs
  clear hs
  have hr0 : ¬ (r < 0) := by omega
  go_wp2_with (first | (refine wpList_load_row rfl 31 (.tmp 1) rfl w.heap.size rfl 31 (tbA t a) (0, 0) _ HX1.out Tryz.underlying31 rfl (by kernel_rfl) ?_) | fail)
  refine Calls.mono (copy_tab t a _ (HU.out _ HB1.out).1 HW.out HS.out) ?_
  rintro e w2 ⟨a2, rfl, hb2, hc2⟩
  have HB2 : Hid (Below w.heap.size w w2) := HB1.out.trans (hb2.mono HB1.out.size)
  have HX2 : Hid (w2.heap[w.heap.size]? = some (.cells (tbA t a) 31 (0, 0))) := row_below HX1.out hb2
  have HC2 : Hid (Cpy w2 t a a2) := hc2
  clear hb2 hc2 HB1 HX1
  go_wp2_with fail
  refine Calls.mono (spec_sound t a2 q _ HC2.out.m HC2.out.w HC2.out.s HQ.out) ?_
  rintro e w3 ⟨rfl, hb3⟩
  have HB3 : Hid (Below w.heap.size w w3) := HB2.out.trans (hb3.mono HB2.out.size)
  have HX3 : Hid (w3.heap[w.heap.size]? = some (.cells (tbA t a) 31 (0, 0))) := row_below HX2.out hb3
  clear hb3 HB2 HX2 HC2
  go_wp2_with (first | (refine wpList_load_row rfl 31 (.tmp 1) rfl w.heap.size rfl 31 (tbA t a) (0, 0) _ HX3.out Tryz.underlying31 rfl (by kernel_rfl) ?_) | fail)
  refine Calls.mono (copy_tab t a _ (HU.out _ HB3.out).1 HW.out HS.out) ?_
  rintro e w4 ⟨a4, rfl, hb4, hc4⟩
  have HB4 : Hid (Below w.heap.size w w4) := HB3.out.trans (hb4.mono HB3.out.size)
  have HX4 : Hid (w4.heap[w.heap.size]? = some (.cells (tbA t a) 31 (0, 0))) := row_below HX3.out hb4
  have HC4 : Hid (Cpy w4 t a a4) := hc4
  clear hb4 hc4 HB3 HX3
  have HN : Hid ((w4.alloc (.cells #[.int .i64 0, .int .i64 0, .int .i64 0, .int .i64 0, .int .i64 0, .int .i64 0, .int .i64 0, .int .i64 0, .int .i64 0, .int .i64 0, .int .i64 0, .int .i64 0, .int .i64 0, .int .i64 0, .int .i64 0, .slice none 0 0, .slice none 0 0, .slice none 0 0, .slice none 0 0] 40)).heap[w4.heap.size]? = some (.cells #[.int .i64 0, .int .i64 0, .int .i64 0, .int .i64 0, .int .i64 0, .int .i64 0, .int .i64 0, .int .i64 0, .int .i64 0, .int .i64 0, .int .i64 0, .int .i64 0, .int .i64 0, .int .i64 0, .int .i64 0, .slice none 0 0, .slice none 0 0, .slice none 0 0, .slice none 0 0] 40 (0, 0))) := new_row w4 _ _ _ rfl
  have hbV : Below w4.heap.size w4 ((w4.alloc (.cells #[.int .i64 0, .int .i64 0, .int .i64 0, .int .i64 0, .int .i64 0, .int .i64 0, .int .i64 0, .int .i64 0, .int .i64 0, .int .i64 0, .int .i64 0, .int .i64 0, .int .i64 0, .int .i64 0, .int .i64 0, .slice none 0 0, .slice none 0 0, .slice none 0 0, .slice none 0 0] 40)).setRow w4.heap.size (tbA t a4)) := below_setRow ((Below.refl _ _).alloc (Nat.le_refl _) _) (Nat.le_refl _) _
  have HXB : Hid (((w4.alloc (.cells #[.int .i64 0, .int .i64 0, .int .i64 0, .int .i64 0, .int .i64 0, .int .i64 0, .int .i64 0, .int .i64 0, .int .i64 0, .int .i64 0, .int .i64 0, .int .i64 0, .int .i64 0, .int .i64 0, .int .i64 0, .slice none 0 0, .slice none 0 0, .slice none 0 0, .slice none 0 0] 40)).setRow w4.heap.size (tbA t a4)).heap[w4.heap.size]? = some (.cells (tbA t a4) 40 (0, 0))) := setRow_heap _ _ _ _ _ _ HN.out
  have HBV : Hid (Below w.heap.size w ((w4.alloc (.cells #[.int .i64 0, .int .i64 0, .int .i64 0, .int .i64 0, .int .i64 0, .int .i64 0, .int .i64 0, .int .i64 0, .int .i64 0, .int .i64 0, .int .i64 0, .int .i64 0, .int .i64 0, .int .i64 0, .int .i64 0, .slice none 0 0, .slice none 0 0, .slice none 0 0, .slice none 0 0] 40)).setRow w4.heap.size (tbA t a4))) := HB4.out.trans (hbV.mono HB4.out.size)
  have HXV : Hid (((w4.alloc (.cells #[.int .i64 0, .int .i64 0, .int .i64 0, .int .i64 0, .int .i64 0, .int .i64 0, .int .i64 0, .int .i64 0, .int .i64 0, .int .i64 0, .int .i64 0, .int .i64 0, .int .i64 0, .int .i64 0, .int .i64 0, .slice none 0 0, .slice none 0 0, .slice none 0 0, .slice none 0 0] 40)).setRow w4.heap.size (tbA t a4)).heap[w.heap.size]? = some (.cells (tbA t a) 31 (0, 0))) := row_below HX4.out hbV
  have HCV : Hid (Cpy ((w4.alloc (.cells #[.int .i64 0, .int .i64 0, .int .i64 0, .int .i64 0, .int .i64 0, .int .i64 0, .int .i64 0, .int .i64 0, .int .i64 0, .int .i64 0, .int .i64 0, .int .i64 0, .int .i64 0, .int .i64 0, .int .i64 0, .slice none 0 0, .slice none 0 0, .slice none 0 0, .slice none 0 0] 40)).setRow w4.heap.size (tbA t a4)) t a a4) := HC4.out.below hbV
  clear hbV HB4 HX4 HC4
  go_wp2_with (first | (refine wpList_store_row rfl 40 (.tmp 5) (.tmp 16) rfl w4.heap.size (tbA t a4) rfl rfl 40 #[.int .i64 0, .int .i64 0, .int .i64 0, .int .i64 0, .int .i64 0, .int .i64 0, .int .i64 0, .int .i64 0, .int .i64 0, .int .i64 0, .int .i64 0, .int .i64 0, .int .i64 0, .int .i64 0, .int .i64 0, .slice none 0 0, .slice none 0 0, .slice none 0 0, .slice none 0 0] HN.out (by kernel_rfl) rfl (by simp [Value.oneCell']) ?_) | (refine wpList_load_row rfl 40 (.tmp 5) rfl w4.heap.size rfl 40 (tbA t a4) (0, 0) _ HXB.out Tryz.underlying40 rfl (by kernel_rfl) ?_) | fail)
  clear HN
  revert HXB HBV HXV HCV
  generalize (w4.alloc (.cells #[.int .i64 0, .int .i64 0, .int .i64 0, .int .i64 0, .int .i64 0, .int .i64 0, .int .i64 0, .int .i64 0, .int .i64 0, .int .i64 0, .int .i64 0, .int .i64 0, .int .i64 0, .int .i64 0, .int .i64 0, .slice none 0 0, .slice none 0 0, .slice none 0 0, .slice none 0 0] 40)).setRow w4.heap.size (tbA t a4) = V
  intro HXB HBV HXV HCV
  obtain ⟨N, hN⟩ : ∃ N, w4.heap.size = N := ⟨_, rfl⟩
  rw [hN] at HXB
  rw [hN]
  clear hN
  refine Calls.mono (impl_sound t a4 q _ HCV.out.m HCV.out.w HCV.out.s (HU.out _ HBV.out).2 HCV.out.c HQ.out) ?_
  rintro e w5 ⟨rfl, hb5⟩
  have HB5 : Hid (Below w.heap.size w w5) := HBV.out.trans (hb5.mono HBV.out.size)
  have HX5 : Hid (∀ X, Below w5.heap.size w5 X → X.heap[w.heap.size]? = some (.cells (tbA t a) 31 (0, 0))) := fun X hX => row_below (row_below HXV.out hb5) hX
  have HY5 : Hid (∀ X, Below w5.heap.size w5 X → X.heap[N]? = some (.cells (tbA t a4) 40 (0, 0))) := fun X hX => row_below (row_below HXB.out hb5) hX
  have HC5 : Hid (∀ X, Below w5.heap.size w5 X → Cpy X t a a4) := fun X hX => (HCV.out.below hb5).below hX
  clear hb5 HBV HXV HXB HCV
  go_wp2
  refine wp_region_inv (by kernel_rfl) (by kernel_rfl) (fun A ℓ a' w' => ∃ (x22 x23 x24 x25 x26 : Value), a' = (((((A.put (some 22) x22).put (some 23) x23).put (some 24) x24).put (some 25) x25).put (some 26) x26) ∧ TI t a a4 w5 w' (ℓ 0) (ℓ 1) (ℓ 2) (ℓ 3) (ℓ 4) x22 x23 x24 x25 x26) ?_ ?_ ?_ ?_
  · exact ⟨undef, undef, undef, undef, undef, (by simp only [Act.put, List.setIfInBounds_toArray, List.set_cons_zero, List.set_cons_succ]), ⟨(Below.refl _ _).drew, (fun g => by cases g), (fun g => by cases g), (fun g => by cases g), (fun g => by cases g), (fun g => by cases g)⟩⟩
  · intro ℓ a' w' hI hall
    obtain ⟨x22, x23, x24, x25, x26, rfl, hr⟩ := hI
    have hall' : ∀ i, i < 5 → ℓ i = true := hall
    obtain rfl := hr.f4 (hall' 4 (by omega))
    have HE : Hid (Below w.heap.size w w') := HB5.out.trans (hr.gb.mono HB5.out.size)
    clear hr hall hall'
    simp only [Act.put, List.setIfInBounds_toArray, List.set_cons_zero, List.set_cons_succ]
    go_wp2
    go_ret
    exact ⟨rfl, HE.out⟩
  · intro ℓ a' w' i o hI ho hi hL hdep K hK
    obtain ⟨x22, x23, x24, x25, x26, rfl, hr⟩ := hI
    have hi7 : i < 5 := hi
    have hcs : i = 0 ∨ i = 1 ∨ i = 2 ∨ i = 3 ∨ i = 4 := by omega
    clear hi hi7
    rcases hcs with rfl | rfl | rfl | rfl | rfl
    · replace ho : some ({ dst := some 22, op := .load 40 (.tmp 5), type := 40, pos := "exact.go:5612", after := #[], guard := none } : Oper) = some o := ho
      obtain rfl := Option.some.inj ho
      clear hdep ho
      rw [if_pos (by rfl)]
      try simp only [Act.put, List.setIfInBounds_toArray, List.set_cons_zero, List.set_cons_succ]
      refine wp_load_row (P := Tryz.prog) 40 (.tmp 5) rfl N rfl 40 (tbA t a4) (0, 0) _ (HY5.out _ hr.gb) Tryz.underlying40 rfl (by kernel_rfl) ?_
      exact hK.out _ _ (fun j => if j = 0 then true else ℓ j) ⟨tbV t a4, x23, x24, x25, x26, (by simp only [Act.put, List.setIfInBounds_toArray, List.set_cons_zero, List.set_cons_succ]), ⟨hr.gb, (fun _ => rfl), hr.f1, hr.f2, hr.f3, hr.f4⟩⟩ (if_pos rfl) (fun j hj => if_neg hj)
    · replace ho : some ({ dst := some 23, op := .load 31 (.tmp 1), type := 31, pos := "exact.go:5612", after := #[], guard := none } : Oper) = some o := ho
      obtain rfl := Option.some.inj ho
      clear hdep ho
      rw [if_pos (by rfl)]
      try simp only [Act.put, List.setIfInBounds_toArray, List.set_cons_zero, List.set_cons_succ]
      refine wp_load_row (P := Tryz.prog) 31 (.tmp 1) rfl w.heap.size rfl 31 (tbA t a) (0, 0) _ (HX5.out _ hr.gb) Tryz.underlying31 rfl (by kernel_rfl) ?_
      exact hK.out _ _ (fun j => if j = 1 then true else ℓ j) ⟨x22, tbV t a, x24, x25, x26, (by simp only [Act.put, List.setIfInBounds_toArray, List.set_cons_zero, List.set_cons_succ]), ⟨hr.gb, hr.f0, (fun _ => rfl), hr.f2, hr.f3, hr.f4⟩⟩ (if_pos rfl) (fun j hj => if_neg hj)
    · obtain rfl := Option.some.inj ho
      have g : ℓ 1 = true := hdep { on := 1, ground := Ground.data } (by simp) rfl
      clear hdep ho
      obtain rfl := hr.f1 g
      rw [if_pos (by rfl)]
      try simp only [Act.put, List.setIfInBounds_toArray, List.set_cons_zero, List.set_cons_succ]
      go_simp
      refine Calls.mono (copy_tab t a _ (HU.out _ (HB5.out.trans (hr.gb.mono HB5.out.size))).1 HW.out HS.out) ?_
      rintro e w9 ⟨a9, rfl, hb9, hc9⟩
      have hr9 := hr.below hb9
      exact hK.out _ _ (fun j => if j = 2 then true else ℓ j) ⟨x22, tbV t a, tbV t a9, x25, x26, (by simp only [Act.put, List.setIfInBounds_toArray, List.set_cons_zero, List.set_cons_succ]), ⟨hr9.gb, hr9.f0, hr9.f1, (fun _ => ⟨a9, rfl, hc9⟩), hr9.f3, hr9.f4⟩⟩ (if_pos rfl) (fun j hj => if_neg hj)
    · obtain rfl := Option.some.inj ho
      have g0 : ℓ 0 = true := hdep { on := 0, ground := Ground.data } (by simp) rfl
      have g2 : ℓ 2 = true := hdep { on := 2, ground := Ground.data } (by simp) rfl
      clear hdep ho
      obtain rfl := hr.f0 g0
      obtain ⟨a9, rfl, hc9⟩ := hr.f2 g2
      have hc4 := HC5.out _ hr.gb
      rw [if_pos (by rfl)]
      try simp only [Act.put, List.setIfInBounds_toArray, List.set_cons_zero, List.set_cons_succ]
      go_simp
      refine Calls.mono (eq_tab t a4 a9 _ hc4.m hc9.m hc4.s (hc9.p1.trans hc4.p1.symm) (hc9.p2.trans hc4.p2.symm) (hc9.p3.trans hc4.p3.symm) (hc9.p4.trans hc4.p4.symm)) ?_
      rintro e w9 ⟨rfl, hb9⟩
      have hr9 := hr.below hb9
      exact hK.out _ _ (fun j => if j = 3 then true else ℓ j) ⟨tbV t a4, x23, tbV t a9, .bool true, x26, (by simp only [Act.put, List.setIfInBounds_toArray, List.set_cons_zero, List.set_cons_succ]), ⟨hr9.gb, hr9.f0, hr9.f1, hr9.f2, (fun _ => rfl), hr9.f4⟩⟩ (if_pos rfl) (fun j hj => if_neg hj)
    · obtain rfl := Option.some.inj ho
      have g : ℓ 3 = true := hdep { on := 3, ground := Ground.data } (by simp) rfl
      clear hdep ho
      obtain rfl := hr.f3 g
      rw [if_pos (by rfl)]
      try simp only [Act.put, List.setIfInBounds_toArray, List.set_cons_zero, List.set_cons_succ]
      go_simp
      exact hK.out _ _ (fun j => if j = 4 then true else ℓ j) ⟨x22, x23, x24, .bool true, .bool false, (by simp only [Act.put, List.setIfInBounds_toArray, List.set_cons_zero, List.set_cons_succ]), ⟨hr.gb, hr.f0, hr.f1, hr.f2, hr.f3, (fun _ => rfl)⟩⟩ (if_pos rfl) (fun j hj => if_neg hj)
  · rintro a' w' ℓ ℓ' hℓ hI
    rw [← show ℓ = ℓ' from funext hℓ]
    exact hI
end Go.Proofs.YtoalamgongaaeaaGreatDoor
