/-
  The walk of the law on folds. Conditions: none but that the bytes are at most 1048576 (beyond, the law says true at once).
-/
import Derived.Test.YtbapnfocifnacadInj
import Derived.Deep.DeepCutAuto
import Derived.BigRegion
import Derived.Deep.RegionWith
namespace Go.Proofs.Ytbapnfocifnacad
open Go.ChangeShapes Go.WideShapes Go.ChangeAt Go.RowKit Go.Deep
set_option linter.unusedVariables false

theorem own_news {k : IntKind} {w : World} {g : Nat} {ys : List Int} (h : Own k w g ys) : ∀ j u, (ys.map (Value.int k))[j]? = some u → w.cell? ((⟨g, 0, none⟩ : Addr).add j) = some u := by
  intro j u hj
  rw [List.getElem?_map] at hj
  obtain ⟨z, hz, rfl⟩ := Option.map_eq_some_iff.1 hj
  obtain ⟨hl, rfl⟩ := List.getElem?_eq_some_iff.1 hz
  have e : (⟨g, 0, none⟩ : Addr).add j = ⟨g, j, none⟩ := by
    by_cases h0 : j = 0
    · subst h0; simp [Addr.add]
    · simp [Addr.add, h0]
  rw [e, h.cell j hl]
  simp [List.getD, hl]
theorem one_cells (k : IntKind) (ys : List Int) : ∀ u ∈ ys.map (Value.int k), u.oneCell' = true := by
  intro u hu
  obtain ⟨z, _, rfl⟩ := List.mem_map.1 hu
  rfl
theorem Own.grown {k : IntKind} {w w' : World} {g : Nat} {row : Option Nat} {ys : List Int} (h : Own k w g ys) (hg : w.grownBy w' row) (hn : some g ≠ row) : Own k w' g ys :=
  ⟨Nat.lt_of_lt_of_le h.lt hg.size, fun i hi => (World.cell?_of_block (hg.block g h.lt hn)).trans (h.cell i hi), fun i => (World.frozen?_of_block (hg.block g h.lt hn)).trans (h.free i)⟩

set_option maxHeartbeats 400000 in
theorem big_no (w : World) (a : Option Addr) (n cap : Nat) (hn : n ≤ 1048576) : Calls Try.prog 4 #[.slice a n cap] w fun e w' => e = .returned (.bool false) ∧ w' = w := by
  go_enter Try.func4, Try.ntmps4
  go_wp2
  go_ret
  exact ⟨ret_bool (decide_eq_false (by omega)), rfl⟩
set_option maxHeartbeats 400000 in
theorem big_yes (w : World) (a : Option Addr) (n cap : Nat) (hn : ¬ n ≤ 1048576) : Calls Try.prog 4 #[.slice a n cap] w fun e w' => e = .returned (.bool true) ∧ w' = w := by
  go_enter Try.func4, Try.ntmps4
  go_wp2
  go_ret
  exact ⟨ret_bool (decide_eq_true (by omega)), rfl⟩
theorem Own.set_other {k : IntKind} {w : World} {g b o : Nat} {ys : List Int} (h : Own k w g ys) (hne : g ≠ b) (v : Value) : Own k (w.setCell ⟨b, o, none⟩ v) g ys :=
  ⟨by simpa using h.lt, fun i hi => (World.cell?_setCell_other _ _ _ _ (by intro c; injection c with c1; exact hne c1.symm)).trans (h.cell i hi), fun i => by simpa using h.free i⟩
theorem Own.drew {k : IntKind} {w : World} {g : Nat} {ys : List Int} (h : Own k w g ys) : Own k w.drew g ys := ⟨h.lt, h.cell, h.free⟩
theorem turned2 (z p : Int) (h0 : 0 ≤ z) (h1 : z ≤ 4294967295) : 0 ≤ bits .xor .u32 z (2 ^ min (p % 32).toNat 32 % 4294967296) ∧ bits .xor .u32 z (2 ^ min (p % 32).toNat 32 % 4294967296) ≤ 4294967295 ∧ bits .xor .u32 z (2 ^ min (p % 32).toNat 32 % 4294967296) ≠ z := by
  have e : (2 : Int) ^ min (p % 32).toNat 32 % 4294967296 = 2 ^ (p % 32).toNat := by
    rw [Nat.min_eq_left (by omega)]
    have hp : (2 : Nat) ^ (p % 32).toNat ≤ 2 ^ 31 := Nat.pow_le_pow_right (by omega) (by omega)
    have e2 : (2 : Int) ^ (p % 32).toNat = ((2 ^ (p % 32).toNat : Nat) : Int) := by simp
    rw [e2]
    generalize (2 : Nat) ^ (p % 32).toNat = P at hp
    omega
  rw [e]
  exact Wd.turned z (p % 32) h0 h1 (by omega) (by omega)
theorem impl_foldN (a : Option Addr) (cap n : Nat) (zs : List Int) (w : World) (hlen : zs.length = n) (hs : Seg .u32 w a zs) (hn : n ≤ 1048576) (hz : ∀ z ∈ zs, (Lit.int .u32 z).wf = true) :
    Calls Try.prog 6 #[.slice a n cap] w fun e w' => e = .returned (.int .u32 (Wd.folds zs)) ∧ ∃ m, w' = w.drewN m := by
  subst hlen
  exact impl_fold a cap zs w hs hn hz
set_option maxHeartbeats 2000000 in
theorem fold_walk (w : World) (a : Option Addr) (zs : List Int) (cap : Nat) (hs : Seg .u8 w a zs) (hb : ∀ z ∈ zs, (Lit.int .u8 z).wf = true) (hn : zs.length ≤ 1048576) :
    Calls Try.prog 3 #[.slice a zs.length cap] w fun e w' => e = .returned (.bool true) ∧ Below w.heap.size w w' := by
  obtain ⟨i0, hi, hz0, hz1, hz2⟩ := info_parts info26
  obtain ⟨p1, hp10, hp11, HP1⟩ := at_det a zs 1 hb hn (by omega) (by omega)
  obtain ⟨p6, hp60, hp61, HP6⟩ := at_det a zs 6 hb hn (by omega) (by omega)
  have H1 : Hid _ := HP1
  have H6 : Hid _ := HP6
  have HB : Hid _ := hb
  clear HP1 HP6 hb
  go_enter Try.func3, Try.ntmps3
  go_wp2_with fail
  refine (big_no _ _ _ _ hn).mono ?_
  rintro e wq ⟨rfl, hwq⟩
  rw [hwq]
  clear hwq
  go_wp2_with fail
  refine (draw_fold _ _ _ _ hs HB.out hn).mono ?_
  rintro e w1 ⟨g, cp, ys, rfl, hg, hoo, hwf, hlen, hb1⟩
  have HW : Hid _ := hwf
  clear hwf
  have hs1 := hs.below hb1
  go_wp2_with fail
  refine (impl_fold _ _ _ _ hoo.seg (by omega) HW.out).mono ?_
  rintro e w2 ⟨rfl, m2, rfl⟩
  have hfb := Wd.folds_bd ys
  obtain ⟨hfb0, hfb1⟩ := hfb
  obtain ⟨h, HH⟩ : ∃ h, Hid (h = Wd.folds ys) := ⟨_, rfl⟩
  rw [← HH.out] at hfb0 hfb1 ⊢
  have hs2 := hs1.drewN m2
  have ho2 := hoo.drewN m2
  go_wp2_with fail
  refine (word_any _ _ _ _ _ hs2 HB.out hn (by omega) (by omega)).mono ?_
  rintro e w3 ⟨x, rfl, hx0, hx1, rfl⟩
  obtain ⟨W, HWW⟩ : ∃ W, Hid (W = w1.heap.size) := ⟨_, rfl⟩
  have hgW : g < W := by rw [HWW.out]; exact hoo.lt
  have hown0 : ((w1.alloc (.cells #[] 26)).drewN m2).ownsRow W 26 1 (.slice (some ⟨w1.heap.size, 0, none⟩) 0 0) 0 [] := owns_empty (w1.drewN m2) _ 26 (by rw [HWW.out]; exact Nat.le_refl _)
  have hoA : Own .u32 ((w1.alloc (.cells #[] 26)).drewN m2) g ys := ho2.below ((Below.refl _ _).alloc (Nat.le_refl _) _)
  go_wp2_with (at_builtin; refine wpList_append_own _ rfl (.tmp 16) (.tmp 17) 24 rfl W 26 i0 (.int .u32 0) 1 4 Try.underlying24 hi hz0 hz1 hz2 rfl (by decide) _ _ _ rfl hown0 ⟨g, 0, none⟩ ys.length cp (ys.map (Value.int .u32)) rfl ?l1 (own_news hoA) (one_cells _ _) ?c3 ?c4 ?c5 ?_)
  case l1 => simp
  case c3 => unfold maxLen; omega
  case c4 => omega
  case c5 => show W ≤ (w1.alloc (.cells #[] 26)).heap.size; rw [HWW.out]; simp
  intro v1 w4 hown1 hgr1 hnil1
  have hv1 : v1 ≠ .slice none 0 0 := hnil1
  have hsz4 : W + 1 ≤ w4.heap.size := by
    have := hgr1.size
    rw [HWW.out]
    exact Nat.le_trans (by simp) this
  have hb4 : Below W w1 w4 := by
    refine Below.grown (row := some w1.heap.size) ?_ hgr1 ?_ ?_
    · exact below_drewN ((Below.refl _ _).alloc (by rw [HWW.out]; exact Nat.le_refl _) _) m2
    · show W ≤ (w1.alloc (.cells #[] 26)).heap.size; rw [HWW.out]; simp
    · intro k hk; injection hk with hk; rw [HWW.out]; omega
  have HB4 : Hid _ := hb4
  clear hb4 hgr1 hnil1 hown0 hoA
  obtain ⟨g1, c1, rfl, hg1, _⟩ := owns_own hown1 hv1
  go_wp2_with (at_builtin; refine wpList_append_own _ rfl (.tmp 18) (.tmp 20) 24 rfl W 26 i0 (.int .u32 0) 1 4 Try.underlying24 hi hz0 hz1 hz2 rfl (by decide) _ _ _ rfl (hown1.alloc _) ⟨w4.heap.size, 0, none⟩ 1 1 [.int .u32 x] rfl rfl ?n2 ?o2 ?c3b ?c4b ?c5b ?_)
  case n2 => exact cell_one_new _ _ _
  case o2 => intro u hu; simp at hu; subst hu; rfl
  case c3b => unfold maxLen; omega
  case c4b => omega
  case c5b => simp; omega
  intro v2 w5 hown2 hgr2 hnil2
  have hv2 : v2 ≠ .slice none 0 0 := hnil2
  have hown3 : w5.ownsRow W 26 1 v2 (ys ++ [x]).length ((ys ++ [x]).map (Value.int .u32)) := by simpa using hown2
  have hb5 : Below W w4 w5 := ((Below.refl W w4).alloc (by omega) _).grown hgr2 (by simp; omega) (fun k hk => (hown1.lt k hk).1)
  have HB5 : Hid _ := hb5
  have hsz5 : W + 1 ≤ w5.heap.size := Nat.le_trans hsz4 hb5.size
  obtain ⟨g2, c2, rfl, hg2, ho5⟩ := owns_own hown3 hv2
  clear hown2 hgr2 hnil2 hown1 hown3 hb5 hv1 hv2
  obtain ⟨ms, HM⟩ : ∃ ms, Hid (ms = ys ++ [x]) := ⟨_, rfl⟩
  rw [← HM.out] at ho5 ⊢
  have hml : ms.length = ys.length + 1 := by rw [HM.out]; simp
  have HWM : Hid (∀ y ∈ ms, (Lit.int .u32 y).wf = true) := by
    rw [HM.out]
    intro y hy
    rcases List.mem_append.1 hy with h | h
    · exact HW.out y h
    · simp at h; subst h; exact wf_u32 _ hx0 hx1
  have HML : Hid _ := hml
  have hm1 : 1 ≤ ms.length := by omega
  have hm2 : ms.length ≤ 41 := by omega
  clear hml
  go_wp2_with fail
  refine (impl_fold _ _ _ _ ho5.seg (by omega) HWM.out).mono ?_
  rintro e w6 ⟨rfl, m6, rfl⟩
  obtain ⟨F, HFF⟩ : ∃ F, Hid (F = Wd.folds ms) := ⟨_, rfl⟩
  rw [← HFF.out]
  go_wp2_with fail
  refine (rotword_any _ _ _ hfb0 hfb1).mono ?_
  rintro e w7 ⟨y, rfl, hy0, hy1, HY, m7, rfl⟩
  have hq : (F != (bits BinOp.xor IntKind.u32 y x + 2654435769) % 4294967296) = false := by
    have e1 : F = Wd.fold1 h x := by
      rw [HFF.out, HM.out, HH.out, Wd.folds, List.foldl_append]
      rfl
    have e2 := Wd.rot5 h hfb0 hfb1
    rw [e1, Wd.fold1, ← e2, ← HY.out]
    simp
  have hs5 : Seg .u8 w5 a zs := by
    have hbb : Below w.heap.size w w5 := hb1.trans ((HB4.out.trans HB5.out).mono (by rw [HWW.out]; exact hb1.size))
    exact hs.below hbb
  have hb5w : Below w.heap.size w w5 := hb1.trans ((HB4.out.trans HB5.out).mono (by rw [HWW.out]; exact hb1.size))
  obtain ⟨V, HV⟩ : ∃ V, Hid (V = w5.heap.size) := ⟨_, rfl⟩
  have hg2V : g2 < V := by rw [HV.out]; exact ho5.lt
  have hWV : w.heap.size ≤ V := by rw [HV.out]; exact hb5w.size
  have hownB : ((w5.alloc (.cells #[] 26)).drewN (m6 + m7)).ownsRow V 26 1 (.slice (some ⟨w5.heap.size, 0, none⟩) 0 0) 0 [] := owns_empty (w5.drewN (m6 + m7)) _ 26 (by rw [HV.out]; exact Nat.le_refl _)
  have hoB : Own .u32 ((w5.alloc (.cells #[] 26)).drewN (m6 + m7)) g2 ms := (ho5.drewN (m6 + m7)).below ((Below.refl _ _).alloc (Nat.le_refl _) _)
  go_wp2_with (at_builtin; refine wpList_append_own _ rfl (.tmp 30) (.tmp 31) 24 rfl V 26 i0 (.int .u32 0) 1 4 Try.underlying24 hi hz0 hz1 hz2 rfl (by decide) _ _ _ rfl hownB ⟨g2, 0, none⟩ ms.length c2 (ms.map (Value.int .u32)) rfl ?l1 (own_news hoB) (one_cells _ _) ?c3 ?c4 ?c5 ?_)
  case l1 => simp
  case c3 => unfold maxLen; omega
  case c4 => omega
  case c5 => show V ≤ (w5.alloc (.cells #[] 26)).heap.size; rw [HV.out]; simp
  intro v3 w8 hown8 hgr8 hnil8
  have hv3 : v3 ≠ .slice none 0 0 := hnil8
  have hb8 : Below V w5 w8 := by
    refine Below.grown (row := some w5.heap.size) ?_ hgr8 ?_ ?_
    · exact below_drewN ((Below.refl _ _).alloc (by rw [HV.out]; exact Nat.le_refl _) _) (m6 + m7)
    · show V ≤ (w5.alloc (.cells #[] 26)).heap.size; rw [HV.out]; simp
    · intro k hk; injection hk with hk; rw [HV.out]; omega
  obtain ⟨g3, c3, rfl, hg3, ho8⟩ := owns_own hown8 hv3
  have hm8 : Own .u32 w8 g2 ms := by
    refine ⟨Nat.lt_of_lt_of_le ho5.lt hb8.size, fun i hi => (hb8.cell (p := ⟨g2, i, none⟩) hg2V).trans (ho5.cell i hi), fun i => (hb8.frozen (p := ⟨g2, i, none⟩) hg2V).trans (ho5.free i)⟩
  have hs8 : Seg .u8 w8 a zs := hs.below (hb5w.trans (hb8.mono hWV))
  have hbw8 : Below w.heap.size w w8 := hb5w.trans (hb8.mono hWV)
  have hg3w : w.heap.size ≤ g3 := Nat.le_trans hWV hg3
  clear hown8 hgr8 hnil8 hownB hoB hb8 hv3 hs5 hb5w ho5 HB4 HB5 hq hs hb1 hs1 hs2 ho2 hoo
  obtain ⟨j, hjl, HJ⟩ : ∃ j : Nat, j < ms.length ∧ Hid (p1 % (ms.length : Int) = (j : Int)) := by
    have hp : (0 : Int) < (ms.length : Int) := by omega
    have h0 := Int.emod_nonneg p1 (show (ms.length : Int) ≠ 0 by omega)
    have h1 := Int.emod_lt_of_pos p1 hp
    exact ⟨(p1 % (ms.length : Int)).toNat, by omega, (Int.toNat_of_nonneg h0).symm⟩
  have hj2 : p1 % (ms.length : Int) = (j : Int) := HJ.out
  have hj1 : p1.tmod (ms.length : Int) = (j : Int) := by rw [Int.tmod_eq_emod_of_nonneg hp10]; exact HJ.out
  have hcz := ho8.cell j hjl
  have hfz := ho8.free j
  have hbz := bounds_u32 (HWM.out _ (getD_mem ms j hjl))
  have HZ : Hid _ := Wd.folds_set ms j
  obtain ⟨z, HZZ⟩ : ∃ z, Hid (z = ms.getD j 0) := ⟨_, rfl⟩
  rw [← HZZ.out] at hcz hbz
  obtain ⟨hz20, hz21⟩ := hbz
  obtain ⟨L, HL⟩ : ∃ L, Hid (ms.length = L) := ⟨_, rfl⟩
  rw [HL.out] at hm1 hm2 hjl hj1 hj2 ⊢
  clear HJ HML
  have hne0 : ((L : Int) == 0) = false := beq_eq_false_iff_ne.2 (by omega)
  obtain ⟨v, HVV⟩ : ∃ v, Hid (bits BinOp.xor IntKind.u32 z (2 ^ min (p6 % 32).toNat 32 % 4294967296) = v) := ⟨_, rfl⟩
  have hvb := turned2 z p6 hz20 hz21
  rw [HVV.out] at hvb
  have HO9 : Hid (Own .u32 ((w8.setCell ⟨g3, j, none⟩ (.int .u32 v)).drew) g3 (ms.set j v)) := (ho8.set j v (by rw [HL.out]; exact hjl)).drew
  have HO10 : Hid (Own .u32 (w8.setCell ⟨g3, j, none⟩ (.int .u32 v)) g2 ms) := hm8.set_other (by omega) _
  have HSW : Hid (∀ y ∈ ms.set j v, (Lit.int .u32 y).wf = true) := by
    intro y hy
    rcases List.mem_or_eq_of_mem_set hy with h | h
    · exact HWM.out y h
    · subst h; exact wf_u32 _ hvb.1 hvb.2.1
  have HSL : Hid ((ms.set j v).length = L) := by show _ = _; rw [List.length_set]; exact HL.out
  obtain ⟨G, HG⟩ : ∃ G, Hid (Wd.folds (ms.set j v) = G) := ⟨_, rfl⟩
  have hGF : (G != F) = true := by
    rw [bne_iff_ne, ← HG.out, HFF.out]
    exact HZ.out v (by rw [HL.out]; exact hjl) (fun y hy => bounds_u32 (HWM.out y hy)) ⟨hvb.1, hvb.2.1⟩ (by rw [← HZZ.out]; exact hvb.2.2)
  have HBE : Hid (Below w.heap.size w (w8.setCell ⟨g3, j, none⟩ (.int .u32 v))) := hbw8.setCell hg3w _
  clear hvb HZ
  go_wp2
  go_region_with (first | (go_at_call_of 9 (Value.int IntKind.i64 1); refine Calls.mono (H1.out _ _ ?_) ?_; exact hs8; rintro e w' ⟨rfl, rfl⟩) | (go_at_call_of 9 (Value.int IntKind.i64 6); refine Calls.mono (H6.out _ _ ?_) ?_; exact hs8; rintro e w' ⟨rfl, rfl⟩))
  all_goals
    go_wp2_with fail
    rw [HVV.out]
    refine (impl_foldN _ _ _ _ _ HSL.out (Own.seg HO9.out) (by omega) HSW.out).mono ?_
    rintro e wA ⟨rfl, mA, rfl⟩
    rw [HG.out]
    go_wp2_with fail
    refine (impl_foldN _ _ _ _ _ HL.out (Seg.drewN (Own.seg HO10.out) (1 + mA)) (by omega) HWM.out).mono ?_
    rintro e wB ⟨rfl, mB, rfl⟩
    rw [← HFF.out]
    go_wp2
    go_ret
    exact ⟨rfl, by first | exact below_drewN HBE.out _ | exact below_drewN (below_drewN HBE.out _) _⟩
end Go.Proofs.Ytbapnfocifnacad
