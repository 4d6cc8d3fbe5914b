
/-
  Tables as they are drawn: whatever the bytes, they are as the chapters say. Conditions: the cursor stands over bytes.
-/
import Derived.Test.YtlomcdgfcocmmaaGreatDoorBas
import Derived.Test.YtlomcdgfcocmmaaGreatDoorDtc
namespace Go.Proofs.YtlomcdgfcocmmaaGreatDoor
open Go.ChangeShapes Go.WideShapes Go.ChangeAt Go.RowKit Go.Deep Go.Joins
set_option linter.unusedVariables false

set_option maxRecDepth 40000 in
set_option maxHeartbeats 16000000 in
theorem draw_tabs (w : World) (B : Nat) (a : Option Addr) (zs : List Int) (cap N : Nat) (hc : Cur w B a zs cap) (hN : 2 ≤ N ∧ N ≤ 4) :
    Calls Tryz.prog 73 #[.pointer (some ⟨B, 0, none⟩), .int .i64 (N : Int)] w fun e w' => ∃ t ad, e = .returned (tbV t ad) ∧ DT t ∧ (∀ X b, b ≤ w.heap.size → Tw b b w' X → TM 0 X t ad) ∧ TW t ad ∧ TS ad ∧ (ad.pn ≤ ad.pc ∧ ad.sn ≤ ad.sc) ∧ Cur w' B a zs cap ∧ Turn B w w' ∧ OT (w.heap.size + 1) w' t ad := by
  have hlo : B < w.heap.size := hc.lt
  have H0 : Hid (CT w (w.alloc (.cells #[.int .i64 0, .int .i64 0, .int .i64 0, .int .i64 0, .int .i64 0, .int .i64 0, .int .i64 0, .int .i64 0, .int .i64 0, .int .i64 0, .int .i64 0, .int .i64 0, .int .i64 0, .int .i64 0, .int .i64 0, .slice none 0 0, .slice none 0 0, .slice none 0 0, .slice none 0 0] 33)) B a zs cap ∧ RV (w.alloc (.cells #[.int .i64 0, .int .i64 0, .int .i64 0, .int .i64 0, .int .i64 0, .int .i64 0, .int .i64 0, .int .i64 0, .int .i64 0, .int .i64 0, .int .i64 0, .int .i64 0, .int .i64 0, .int .i64 0, .int .i64 0, .slice none 0 0, .slice none 0 0, .slice none 0 0, .slice none 0 0] 33)) w.heap.size #[.int .i64 0, .int .i64 0, .int .i64 0, .int .i64 0, .int .i64 0, .int .i64 0, .int .i64 0, .int .i64 0, .int .i64 0, .int .i64 0, .int .i64 0, .int .i64 0, .int .i64 0, .int .i64 0, .int .i64 0, .slice none 0 0, .slice none 0 0, .slice none 0 0, .slice none 0 0]) := ⟨(CT.start hc).alloc _, new_row w _ _ _ rfl⟩
  clear hc
  obtain ⟨hN2, hN4⟩ := hN
  go_enter Tryz.func73, Tryz.ntmps73
  have HO : Hid (Own .i64 ((w.alloc (.cells #[.int .i64 0, .int .i64 0, .int .i64 0, .int .i64 0, .int .i64 0, .int .i64 0, .int .i64 0, .int .i64 0, .int .i64 0, .int .i64 0, .int .i64 0, .int .i64 0, .int .i64 0, .int .i64 0, .int .i64 0, .slice none 0 0, .slice none 0 0, .slice none 0 0, .slice none 0 0] 33)).alloc (.cells #[.int .i64 1, .int .i64 2, .int .i64 4] 3)) (w.heap.size + 1) [1, 2, 4]) := (by have h := own_litD .i64 (w.alloc (.cells #[.int .i64 0, .int .i64 0, .int .i64 0, .int .i64 0, .int .i64 0, .int .i64 0, .int .i64 0, .int .i64 0, .int .i64 0, .int .i64 0, .int .i64 0, .int .i64 0, .int .i64 0, .int .i64 0, .int .i64 0, .slice none 0 0, .slice none 0 0, .slice none 0 0, .slice none 0 0] 33)) 3 [1, 2, 4]; rw [show (w.alloc (.cells #[.int .i64 0, .int .i64 0, .int .i64 0, .int .i64 0, .int .i64 0, .int .i64 0, .int .i64 0, .int .i64 0, .int .i64 0, .int .i64 0, .int .i64 0, .int .i64 0, .int .i64 0, .int .i64 0, .int .i64 0, .slice none 0 0, .slice none 0 0, .slice none 0 0, .slice none 0 0] 33)).heap.size = w.heap.size + 1 from by simp] at h; exact h)
  have hBk : B < (w.alloc (.cells #[.int .i64 0, .int .i64 0, .int .i64 0, .int .i64 0, .int .i64 0, .int .i64 0, .int .i64 0, .int .i64 0, .int .i64 0, .int .i64 0, .int .i64 0, .int .i64 0, .int .i64 0, .int .i64 0, .int .i64 0, .slice none 0 0, .slice none 0 0, .slice none 0 0, .slice none 0 0] 33)).heap.size := H0.out.1.cur.lt
  have HA : Hid (CT w ((w.alloc (.cells #[.int .i64 0, .int .i64 0, .int .i64 0, .int .i64 0, .int .i64 0, .int .i64 0, .int .i64 0, .int .i64 0, .int .i64 0, .int .i64 0, .int .i64 0, .int .i64 0, .int .i64 0, .int .i64 0, .int .i64 0, .slice none 0 0, .slice none 0 0, .slice none 0 0, .slice none 0 0] 33)).alloc (.cells #[.int .i64 1, .int .i64 2, .int .i64 4] 3)) B a zs cap ∧ RV ((w.alloc (.cells #[.int .i64 0, .int .i64 0, .int .i64 0, .int .i64 0, .int .i64 0, .int .i64 0, .int .i64 0, .int .i64 0, .int .i64 0, .int .i64 0, .int .i64 0, .int .i64 0, .int .i64 0, .int .i64 0, .int .i64 0, .slice none 0 0, .slice none 0 0, .slice none 0 0, .slice none 0 0] 33)).alloc (.cells #[.int .i64 1, .int .i64 2, .int .i64 4] 3)) w.heap.size #[.int .i64 0, .int .i64 0, .int .i64 0, .int .i64 0, .int .i64 0, .int .i64 0, .int .i64 0, .int .i64 0, .int .i64 0, .int .i64 0, .int .i64 0, .int .i64 0, .int .i64 0, .int .i64 0, .int .i64 0, .slice none 0 0, .slice none 0 0, .slice none 0 0, .slice none 0 0]) := ⟨H0.out.1.alloc _, H0.out.2.below ((Below.refl _ _).alloc (Nat.le_refl _) _) H0.out.2.lt⟩
  go_wp2_with fail
  refine (draw_pick _ _ _ _ _ _ [1, 2, 4] HA.out.1.cur HO.out (by omega) (by simp) (by simp)).mono ?_
  rintro e w1 ⟨x1, rfl, hx1, hc, ht⟩
  have H1 : Hid (CT w w1 B a zs cap ∧ RV w1 w.heap.size #[.int .i64 0, .int .i64 0, .int .i64 0, .int .i64 0, .int .i64 0, .int .i64 0, .int .i64 0, .int .i64 0, .int .i64 0, .int .i64 0, .int .i64 0, .int .i64 0, .int .i64 0, .int .i64 0, .int .i64 0, .slice none 0 0, .slice none 0 0, .slice none 0 0, .slice none 0 0]) := ⟨HA.out.1.step hc ht, HA.out.2.turn ht (by omega)⟩
  clear HO HA hc ht H0 hBk
  go_wp2_with fail
  refine (draw_below _ _ _ _ _ _ H1.out.1.cur (by omega) (by omega)).mono ?_
  rintro e w2 ⟨x2, rfl, hx20, hx21, hc, ht⟩
  have H2 : Hid (CT w w2 B a zs cap ∧ RV w2 w.heap.size #[.int .i64 0, .int .i64 0, .int .i64 0, .int .i64 0, .int .i64 0, .int .i64 0, .int .i64 0, .int .i64 0, .int .i64 0, .int .i64 0, .int .i64 0, .int .i64 0, .int .i64 0, .int .i64 0, .int .i64 0, .slice none 0 0, .slice none 0 0, .slice none 0 0, .slice none 0 0]) := ⟨H1.out.1.step hc ht, H1.out.2.turn ht (by omega)⟩
  clear hc ht H1
  have HO : Hid (Own .i64 (w2.alloc (.cells #[.int .i64 4, .int .i64 8, .int .i64 16] 3)) w2.heap.size [4, 8, 16]) := own_litD .i64 w2 3 [4, 8, 16]
  have hBk : B < w2.heap.size := H2.out.1.cur.lt
  have HA : Hid (CT w (w2.alloc (.cells #[.int .i64 4, .int .i64 8, .int .i64 16] 3)) B a zs cap ∧ RV (w2.alloc (.cells #[.int .i64 4, .int .i64 8, .int .i64 16] 3)) w.heap.size #[.int .i64 0, .int .i64 0, .int .i64 0, .int .i64 0, .int .i64 0, .int .i64 0, .int .i64 0, .int .i64 0, .int .i64 0, .int .i64 0, .int .i64 0, .int .i64 0, .int .i64 0, .int .i64 0, .int .i64 0, .slice none 0 0, .slice none 0 0, .slice none 0 0, .slice none 0 0]) := ⟨H2.out.1.alloc _, H2.out.2.below ((Below.refl _ _).alloc (Nat.le_refl _) _) H2.out.2.lt⟩
  go_wp2_with fail
  refine (draw_pick _ _ _ _ _ _ [4, 8, 16] HA.out.1.cur HO.out (by omega) (by simp) (by simp)).mono ?_
  rintro e w3 ⟨x3, rfl, hx3, hc, ht⟩
  have H3 : Hid (CT w w3 B a zs cap ∧ RV w3 w.heap.size #[.int .i64 0, .int .i64 0, .int .i64 0, .int .i64 0, .int .i64 0, .int .i64 0, .int .i64 0, .int .i64 0, .int .i64 0, .int .i64 0, .int .i64 0, .int .i64 0, .int .i64 0, .int .i64 0, .int .i64 0, .slice none 0 0, .slice none 0 0, .slice none 0 0, .slice none 0 0]) := ⟨HA.out.1.step hc ht, HA.out.2.turn ht (by omega)⟩
  clear HO HA hc ht H2 hBk
  go_wp2_with fail
  refine (draw_below _ _ _ _ _ _ H3.out.1.cur (by omega) (by omega)).mono ?_
  rintro e w4 ⟨x4, rfl, hx40, hx41, hc, ht⟩
  have H4 : Hid (CT w w4 B a zs cap ∧ RV w4 w.heap.size #[.int .i64 0, .int .i64 0, .int .i64 0, .int .i64 0, .int .i64 0, .int .i64 0, .int .i64 0, .int .i64 0, .int .i64 0, .int .i64 0, .int .i64 0, .int .i64 0, .int .i64 0, .int .i64 0, .int .i64 0, .slice none 0 0, .slice none 0 0, .slice none 0 0, .slice none 0 0]) := ⟨H3.out.1.step hc ht, H3.out.2.turn ht (by omega)⟩
  clear hc ht H3
  have hxw2 : IntKind.i64.wrap (1 + x2) = 1 + x2 := by rw [IntKind.wrap_i64]; omega
  have hxw4 : IntKind.i64.wrap (1 + x4) = 1 + x4 := by rw [IntKind.wrap_i64]; omega
  have HN : Hid ((w4.alloc (.cells #[.int .i64 0, .int .i64 0, .int .i64 0, .int .i64 0, .int .i64 0, .int .i64 0, .int .i64 0, .int .i64 0, .int .i64 0, .int .i64 0, .int .i64 0, .int .i64 0, .int .i64 0, .int .i64 0, .int .i64 0, .slice none 0 0, .slice none 0 0, .slice none 0 0, .slice none 0 0] 33)).heap[w4.heap.size]? = some (.cells #[.int .i64 0, .int .i64 0, .int .i64 0, .int .i64 0, .int .i64 0, .int .i64 0, .int .i64 0, .int .i64 0, .int .i64 0, .int .i64 0, .int .i64 0, .int .i64 0, .int .i64 0, .int .i64 0, .int .i64 0, .slice none 0 0, .slice none 0 0, .slice none 0 0, .slice none 0 0] 33 (0, 0))) := new_row w4 _ _ _ rfl
  have HV0 : Hid (Sta w ((w4.alloc (.cells #[.int .i64 0, .int .i64 0, .int .i64 0, .int .i64 0, .int .i64 0, .int .i64 0, .int .i64 0, .int .i64 0, .int .i64 0, .int .i64 0, .int .i64 0, .int .i64 0, .int .i64 0, .int .i64 0, .int .i64 0, .slice none 0 0, .slice none 0 0, .slice none 0 0, .slice none 0 0] 33)).setRow w4.heap.size (rowT ⟨0, x1, 1 + x2, x3, 1 + x4, 0, 0, 0, 0, 0, 0, 0, 0, 0, 0, [], [], [], []⟩ nilS nilS nilS nilS)) B a zs cap w4.heap.size (rowT ⟨0, x1, 1 + x2, x3, 1 + x4, 0, 0, 0, 0, 0, 0, 0, 0, 0, 0, [], [], [], []⟩ nilS nilS nilS nilS)) := by
    have hb : Below w4.heap.size w4 ((w4.alloc (.cells #[.int .i64 0, .int .i64 0, .int .i64 0, .int .i64 0, .int .i64 0, .int .i64 0, .int .i64 0, .int .i64 0, .int .i64 0, .int .i64 0, .int .i64 0, .int .i64 0, .int .i64 0, .int .i64 0, .int .i64 0, .slice none 0 0, .slice none 0 0, .slice none 0 0, .slice none 0 0] 33)).setRow w4.heap.size (rowT ⟨0, x1, 1 + x2, x3, 1 + x4, 0, 0, 0, 0, 0, 0, 0, 0, 0, 0, [], [], [], []⟩ nilS nilS nilS nilS)) := below_setRow ((Below.refl _ _).alloc (Nat.le_refl _) _) (Nat.le_refl _) _
    exact ⟨H4.out.1.below hb, setRow_heap _ _ _ _ _ _ HN.out, H4.out.2.below hb H4.out.2.lt, H4.out.2.lt⟩
  clear H4
  go_wp2_with (first | (refine wpList_store_row rfl 33 (.tmp 5) (.tmp 30) rfl w4.heap.size (rowT ⟨0, x1, 1 + x2, x3, 1 + x4, 0, 0, 0, 0, 0, 0, 0, 0, 0, 0, [], [], [], []⟩ nilS nilS nilS nilS) rfl rfl 33 #[.int .i64 0, .int .i64 0, .int .i64 0, .int .i64 0, .int .i64 0, .int .i64 0, .int .i64 0, .int .i64 0, .int .i64 0, .int .i64 0, .int .i64 0, .int .i64 0, .int .i64 0, .int .i64 0, .int .i64 0, .slice none 0 0, .slice none 0 0, .slice none 0 0, .slice none 0 0] HN.out (by kernel_rfl) rfl (by simp [Value.oneCell']) ?_) | fail)
  clear HN
  revert HV0
  generalize (w4.alloc (.cells #[.int .i64 0, .int .i64 0, .int .i64 0, .int .i64 0, .int .i64 0, .int .i64 0, .int .i64 0, .int .i64 0, .int .i64 0, .int .i64 0, .int .i64 0, .int .i64 0, .int .i64 0, .int .i64 0, .int .i64 0, .slice none 0 0, .slice none 0 0, .slice none 0 0, .slice none 0 0] 33)).setRow w4.heap.size (rowT ⟨0, x1, 1 + x2, x3, 1 + x4, 0, 0, 0, 0, 0, 0, 0, 0, 0, 0, [], [], [], []⟩ nilS nilS nilS nilS) = V0
  generalize w4.heap.size = V
  intro HV0
  obtain ⟨q, hq⟩ : ∃ q : Tb, q = ⟨0, x1, 1 + x2, x3, 1 + x4, 0, 0, 0, 0, 0, 0, 0, 0, 0, 0, [], [], [], []⟩ := ⟨_, rfl⟩
  rw [← hq] at HV0
  have HQ : Hid (q.s1 = x1 ∧ q.s2 = 1 + x2 ∧ q.s3 = x3 ∧ q.tlb = 1 + x4) := by rw [hq]; exact ⟨rfl, rfl, rfl, rfl⟩
  clear hq hxw2 hxw4
  go_wp2_with fail
  refine (draw_below _ _ _ _ _ _ HV0.out.ct.cur (by omega) (by omega)).mono ?_
  rintro e w5 ⟨y1, rfl, hy10, hy11, hc, ht⟩
  have HS5 : Hid (Sta w w5 B a zs cap V (rowT q nilS nilS nilS nilS)) := HV0.out.step hc ht
  clear hc ht HV0
  go_wp2_with fail
  refine (draw_below _ _ _ _ _ _ HS5.out.ct.cur (by omega) (by omega)).mono ?_
  rintro e w6 ⟨y2, rfl, hy20, hy21, hc, ht⟩
  have HS6 : Hid (Sta w w6 B a zs cap V (rowT q nilS nilS nilS nilS)) := HS5.out.step hc ht
  clear hc ht HS5
  go_wp2_with fail
  refine (draw_below _ _ _ _ _ _ HS6.out.ct.cur (by omega) (by omega)).mono ?_
  rintro e w7 ⟨y3, rfl, hy30, hy31, hc, ht⟩
  have HS7 : Hid (Sta w w7 B a zs cap V (rowT q nilS nilS nilS nilS)) := HS6.out.step hc ht
  clear hc ht HS6
  go_wp2_with fail
  refine (draw_below _ _ _ _ _ _ HS7.out.ct.cur (by omega) (by omega)).mono ?_
  rintro e w8 ⟨y4, rfl, hy40, hy41, hc, ht⟩
  have HS8 : Hid (Sta w w8 B a zs cap V (rowT q nilS nilS nilS nilS)) := HS7.out.step hc ht
  clear hc ht HS7
  go_wp2_with fail
  refine (draw_below _ _ _ _ _ _ HS8.out.ct.cur (by omega) (by omega)).mono ?_
  rintro e w9 ⟨y5, rfl, hy50, hy51, hc, ht⟩
  have HS9 : Hid (Sta w w9 B a zs cap V (rowT q nilS nilS nilS nilS)) := HS8.out.step hc ht
  clear hc ht HS8
  go_wp2_with fail
  refine (draw_below _ _ _ _ _ _ HS9.out.ct.cur (by omega) (by omega)).mono ?_
  rintro e w10 ⟨y6, rfl, hy60, hy61, hc, ht⟩
  have HS10 : Hid (Sta w w10 B a zs cap V (rowT q nilS nilS nilS nilS)) := HS9.out.step hc ht
  clear hc ht HS9
  go_wp2_with fail
  refine (draw_below _ _ _ _ _ _ HS10.out.ct.cur (by omega) (by omega)).mono ?_
  rintro e w11 ⟨y7, rfl, hy70, hy71, hc, ht⟩
  have HS11 : Hid (Sta w w11 B a zs cap V (rowT q nilS nilS nilS nilS)) := HS10.out.step hc ht
  clear hc ht HS10
  have hyw1 : IntKind.i64.wrap (1 + y1) = 1 + y1 := by rw [IntKind.wrap_i64]; omega
  have k5 : w11.cell? ⟨V, 5, none⟩ = some (.int .i64 q.c1) := HS11.out.rv.cell 5 rfl
  have z5 : w11.frozen? ⟨V, 5, none⟩ = false := HS11.out.rv.free 5
  have k6 : w11.cell? ⟨V, 6, none⟩ = some (.int .i64 q.c2) := HS11.out.rv.cell 6 rfl
  have z6 : w11.frozen? ⟨V, 6, none⟩ = false := HS11.out.rv.free 6
  have k7 : w11.cell? ⟨V, 7, none⟩ = some (.int .i64 q.c3) := HS11.out.rv.cell 7 rfl
  have z7 : w11.frozen? ⟨V, 7, none⟩ = false := HS11.out.rv.free 7
  have k8 : w11.cell? ⟨V, 8, none⟩ = some (.int .i64 q.c4) := HS11.out.rv.cell 8 rfl
  have z8 : w11.frozen? ⟨V, 8, none⟩ = false := HS11.out.rv.free 8
  have k9 : w11.cell? ⟨V, 9, none⟩ = some (.int .i64 q.c5) := HS11.out.rv.cell 9 rfl
  have z9 : w11.frozen? ⟨V, 9, none⟩ = false := HS11.out.rv.free 9
  have k10 : w11.cell? ⟨V, 10, none⟩ = some (.int .i64 q.c6) := HS11.out.rv.cell 10 rfl
  have z10 : w11.frozen? ⟨V, 10, none⟩ = false := HS11.out.rv.free 10
  have k11 : w11.cell? ⟨V, 11, none⟩ = some (.int .i64 q.c7) := HS11.out.rv.cell 11 rfl
  have z11 : w11.frozen? ⟨V, 11, none⟩ = false := HS11.out.rv.free 11
  have HSB : Hid (Sta w (((((((w11.setCell ⟨V, 5, none⟩ (.int .i64 (1 + y1))).setCell ⟨V, 6, none⟩ (.int .i64 y2)).setCell ⟨V, 7, none⟩ (.int .i64 y3)).setCell ⟨V, 8, none⟩ (.int .i64 y4)).setCell ⟨V, 9, none⟩ (.int .i64 y5)).setCell ⟨V, 10, none⟩ (.int .i64 y6)).setCell ⟨V, 11, none⟩ (.int .i64 y7)) B a zs cap V (rowT { q with c1 := 1 + y1, c2 := y2, c3 := y3, c4 := y4, c5 := y5, c6 := y6, c7 := y7 } nilS nilS nilS nilS)) := HS11.out.costs (1 + y1) y2 y3 y4 y5 y6 y7
  clear HS11
  go_wp2_with fail
  clear k5 k6 k7 k8 k9 k10 k11 z5 z6 z7 z8 z9 z10 z11
  revert HSB
  generalize (((((((w11.setCell ⟨V, 5, none⟩ (.int .i64 (1 + y1))).setCell ⟨V, 6, none⟩ (.int .i64 y2)).setCell ⟨V, 7, none⟩ (.int .i64 y3)).setCell ⟨V, 8, none⟩ (.int .i64 y4)).setCell ⟨V, 9, none⟩ (.int .i64 y5)).setCell ⟨V, 10, none⟩ (.int .i64 y6)).setCell ⟨V, 11, none⟩ (.int .i64 y7)) = W12
  intro HSB
  obtain ⟨q2, hq2⟩ : ∃ q2 : Tb, q2 = { q with c1 := 1 + y1, c2 := y2, c3 := y3, c4 := y4, c5 := y5, c6 := y6, c7 := y7 } := ⟨_, rfl⟩
  rw [← hq2] at HSB
  have HQ2 : Hid (q2.s1 = x1 ∧ q2.s2 = 1 + x2 ∧ q2.s3 = x3 ∧ q2.tlb = 1 + x4 ∧ q2.c1 = 1 + y1 ∧ q2.c2 = y2 ∧ q2.c3 = y3 ∧ q2.c4 = y4 ∧ q2.c5 = y5 ∧ q2.c6 = y6 ∧ q2.c7 = y7) := by
    rw [hq2]; exact ⟨HQ.out.1, HQ.out.2.1, HQ.out.2.2.1, HQ.out.2.2.2, rfl, rfl, rfl, rfl, rfl, rfl, rfl⟩
  clear hq2 HQ hyw1
  refine (draw_below _ _ _ _ _ _ HSB.out.ct.cur (by omega) (by omega)).mono ?_
  rintro e w13 ⟨z, rfl, hz0, hz1, hc, ht⟩
  have HS13 : Hid (Sta w w13 B a zs cap V (rowT q2 nilS nilS nilS nilS)) := HSB.out.step hc ht
  clear hc ht HSB
  have hzw : IntKind.i64.wrap (4 * z) = 4 * z := by rw [IntKind.wrap_i64]; omega
  go_wp2
  have HZR : Hid (0 ≤ z ∧ z < 4) := ⟨hz0, hz1⟩
  go_loopw [6, 7] (fun v6 v7 wr => ∃ (j : Nat) (at0 : Int), j ≤ N ∧ 0 ≤ at0 ∧ at0 ≤ 12 + 188 * (j : Int) ∧ v7 = .int .i64 (j : Int) ∧ v6 = .int .i64 at0 ∧ Hid (∃ vP ps Y A, PI wr V at0 j vP ps Y A ∧ Sta w wr B a zs cap V (rowT q2 vP nilS nilS nilS))) (fun _ i _ => N - (intOf i).toNat)
  case atStart => exact ⟨0, 4 * z, by omega, by omega, by omega, rfl, rfl, nilS, [], fun _ => ⟨ByteArray.empty, 0, 0, 0, none, 0, 0⟩, fun _ => 4 * z, ⟨rfl, ⟨by omega, by omega, by omega⟩, rfl, fun i hi => absurd hi (by omega), World.ownsRow_nil _ _ _ _, fun i hi => absurd hi (by omega), fun i hi => absurd hi (by omega), fun i k hi => absurd hi (by omega)⟩, HS13.out⟩
  case round =>
    obtain ⟨j, at0, hj, ha0, ha1, rfl, rfl, HR⟩ := hrel
    by_cases hjn : j < N
    rotate_left
    · obtain rfl : j = N := by omega
      obtain ⟨vP, ps, Y, A, hPI, hSt⟩ := HR.out
      obtain ⟨aP, cP, hPF⟩ := hPI.fin
      have hBV : B ≤ V := by have := hSt.ct.lo; have := hSt.hV; omega
      have hqm : IntKind.i64.wrap (at0 + 64) = at0 + 64 := by rw [IntKind.wrap_i64]; omega
      have k0 : wr.cell? ⟨V, 0, none⟩ = some (.int .i64 q2.mem) := hSt.rv.cell 0 rfl
      have z0 := hSt.rv.free 0
      have HSm : Hid (Sta w (wr.setCell ⟨V, 0, none⟩ (.int .i64 (at0 + 64))) B a zs cap V (rowT { q2 with mem := at0 + 64 } vP nilS nilS nilS)) := hSt.set 0 _ (by simp)
      have HPm : Hid (PF (wr.setCell ⟨V, 0, none⟩ (.int .i64 (at0 + 64))) V j (at0 + 64) vP ps Y aP cP) := hPF.tw ((Tw.refl B V wr).turn (turn_set wr V 0 _) (.inr rfl)) hBV
      clear hPI hSt hPF HR HZR
      go_wp2
      revert HSm HPm
      generalize wr.setCell ⟨V, 0, none⟩ (.int .i64 (at0 + 64)) = w15
      intro HSm HPm
      obtain ⟨q3, HQ3⟩ : ∃ q3 : Tb, Hid (q3 = { q2 with mem := at0 + 64 }) := ⟨_, rfl⟩
      rw [← HQ3.out] at HSm
      clear k0 z0 hqm
      obtain ⟨L2, HL2⟩ : ∃ L2, Hid (w15.heap.size = L2) := ⟨_, rfl⟩
      have hVL : V < L2 := by rw [← HL2.out]; exact HSm.out.rv.lt
      obtain ⟨RR, HRR⟩ : ∃ RR : Value → Array Value, Hid (RR = fun v => rowT q3 vP v nilS nilS) := ⟨_, rfl⟩
      obtain ⟨QQ, HQQ⟩ : ∃ QQ : List Value → Prop, Hid (QQ = fun cs => ∃ y : Int, cs = [.int .i64 y] ∧ 0 ≤ y ∧ y < (j : Int)) := ⟨_, rfl⟩
      obtain ⟨EE, HEE⟩ : ∃ EE : List Value → Value, Hid (EE = fun cs => cs.getD 0 undef) := ⟨_, rfl⟩
      obtain ⟨iE, hiE⟩ := int_info'
      have HIE : Hid (Tryz.prog.info? 3 = some iE ∧ iE.zero = some (.int .i64 0) ∧ iE.size = 1 ∧ iE.bytes = 8) := hiE
      clear hiE
      have HQL : Hid (∀ cs, QQ cs → cs.length = 1 * 1 ∧ ∀ u ∈ cs, u.oneCell' = true) := fun cs h => by
        rw [HQQ.out] at h
        obtain ⟨y, hcs, hy0, hy1⟩ := h
        rw [hcs]
        exact ⟨rfl, by intro u hu; simp only [List.mem_cons, List.not_mem_nil, or_false] at hu; rcases hu with rfl; rfl⟩
      have HRG : Hid (∀ v, (RR v)[16]? = some v) := fun v => by rw [HRR.out]; rfl
      have HRS : Hid (∀ v v', (RR v).setIfInBounds 16 v' = RR v') := fun v v' => by rw [HRR.out]; simp
      have HLI0 : Hid (LI w w15 B a zs cap V L2 3 1 RR QQ w15 nilS [] 0) := ⟨rfl, (fun e he => by cases he), World.ownsRow_nil _ _ _ _, Tw.refl _ _ _, (by rw [HRR.out]; exact HSm.out)⟩
      go_loopw [11] (fun v1 wr => ∃ i : Nat, i ≤ 3 ∧ v1 = .int .i64 (i : Int) ∧ Hid (∃ vL es, LI w w15 B a zs cap V L2 3 1 RR QQ wr vL es i)) (fun x _ => 4 - (intOf x).toNat)
      case atStart => exact ⟨0, by omega, rfl, nilS, [], HLI0.out⟩
      case round =>
        obtain ⟨i, hi3, rfl, HR⟩ := hrel
        obtain ⟨vL, es, hLI⟩ := HR.out
        have HLI : Hid (LI w w15 B a zs cap V L2 3 1 RR QQ wr vL es i) := hLI
        clear hLI HR HLI0
        go_wp2_with fail
        refine (draw_below _ _ _ _ _ _ HLI.out.st.ct.cur (by omega) (by omega)).mono ?_
        rintro e w20 ⟨yb, rfl, hyb0, hyb1, hc, ht⟩
        have HLJ : Hid (LI w w15 B a zs cap V L2 3 1 RR QQ w20 vL es i) := ⟨HLI.out.len, HLI.out.q, owns_turn HLI.out.own ht (by omega), HLI.out.tw.turn ht (.inl rfl), HLI.out.st.step hc ht⟩
        clear hc ht HLI
        by_cases hiy : (i : Int) < yb
        rotate_left
        · have hiy' : ¬ ((i : Int) < yb) := hiy
          obtain ⟨ds, aD, cD, hDF⟩ := HLJ.out.devs HQQ.out hi3 hVL
          have HDF : Hid (DF w20 V j vL ds aD cD) := hDF
          have HPn : Hid (PF w20 V j (at0 + 64) vP ps Y aP cP) := HPm.out.tw HLJ.out.tw hBV
          have HAD : Hid (Ap vP Y j vL) := HPm.out.ap_new (fun g e => by have h1 := (HLJ.out.own.lt g e).1; have h2 := HL2.out; omega)
          have HSn : Hid (Sta w w20 B a zs cap V (rowT q3 vP vL nilS nilS)) := by
            have h := HLJ.out.st
            rw [HRR.out] at h
            exact h
          obtain ⟨vD, HVD⟩ : ∃ vD, Hid (vL = vD) := ⟨_, rfl⟩
          rw [HVD.out] at HDF HSn HAD
          clear hDF HLJ HPm HSm HRR HQQ HEE HRG HRS HQL HIE HL2 HVD
          go_wp2
          obtain ⟨L2, HL2⟩ : ∃ L2, Hid (w20.heap.size = L2) := ⟨_, rfl⟩
          have hVL : V < L2 := by rw [← HL2.out]; exact HSn.out.rv.lt
          obtain ⟨RR, HRR⟩ : ∃ RR : Value → Array Value, Hid (RR = fun v => rowT q3 vP vD v nilS) := ⟨_, rfl⟩
          obtain ⟨QQ, HQQ⟩ : ∃ QQ : List Value → Prop, Hid (QQ = chQ j) := ⟨_, rfl⟩
          obtain ⟨EE, HEE⟩ : ∃ EE : List Value → Value, Hid (EE = fun cs => .agg cs.toArray) := ⟨_, rfl⟩
          obtain ⟨iE, hiE⟩ := chan_info'
          have HIE : Hid (Tryz.prog.info? 76 = some iE ∧ iE.zero = some (.agg #[.int .i64 0, .int .i64 0, .int .i64 0, .int .i64 0]) ∧ iE.size = 4 ∧ iE.bytes = 32) := hiE
          clear hiE
          have HQL : Hid (∀ cs, QQ cs → cs.length = 1 * 4 ∧ ∀ u ∈ cs, u.oneCell' = true) := fun cs h => by
            rw [HQQ.out] at h
            obtain ⟨kk, ff, tt, dd, hcs, hch⟩ := h
            rw [hcs]
            exact ⟨rfl, by intro u hu; simp only [List.mem_cons, List.not_mem_nil, or_false] at hu; rcases hu with rfl | rfl | rfl | rfl <;> rfl⟩
          have HRG : Hid (∀ v, (RR v)[17]? = some v) := fun v => by rw [HRR.out]; rfl
          have HRS : Hid (∀ v v', (RR v).setIfInBounds 17 v' = RR v') := fun v v' => by rw [HRR.out]; simp
          have HLI0 : Hid (LI w w20 B a zs cap V L2 76 4 RR QQ w20 nilS [] 0) := ⟨rfl, (fun e he => by cases he), World.ownsRow_nil _ _ _ _, Tw.refl _ _ _, (by rw [HRR.out]; exact HSn.out)⟩
          go_loopw [12] (fun v1 wr => ∃ i : Nat, i ≤ 4 ∧ v1 = .int .i64 (i : Int) ∧ Hid (∃ vL es, LI w w20 B a zs cap V L2 76 4 RR QQ wr vL es i)) (fun x _ => 5 - (intOf x).toNat)
          case atStart => exact ⟨0, by omega, rfl, nilS, [], HLI0.out⟩
          case round =>
            obtain ⟨i, hi3, rfl, HR⟩ := hrel
            obtain ⟨vL, es, hLI⟩ := HR.out
            have HLI : Hid (LI w w20 B a zs cap V L2 76 4 RR QQ wr vL es i) := hLI
            clear hLI HR HLI0
            go_wp2_with fail
            refine (draw_below _ _ _ _ _ _ HLI.out.st.ct.cur (by omega) (by omega)).mono ?_
            rintro e w20b ⟨yb, rfl, hyb0, hyb1, hc, ht⟩
            have HLJ : Hid (LI w w20 B a zs cap V L2 76 4 RR QQ w20b vL es i) := ⟨HLI.out.len, HLI.out.q, owns_turn HLI.out.own ht (by omega), HLI.out.tw.turn ht (.inl rfl), HLI.out.st.step hc ht⟩
            clear hc ht HLI
            by_cases hiy : (i : Int) < yb
            rotate_left
            · have hiy' : ¬ ((i : Int) < yb) := hiy
              obtain ⟨cs, aC, cC, hCF⟩ := HLJ.out.chans HQQ.out hi3 hVL
              have HCF : Hid (CF w20b V j vL cs aC cC) := hCF
              have HPo : Hid (PF w20b V j (at0 + 64) vP ps Y aP cP) := HPn.out.tw HLJ.out.tw hBV
              have HDo : Hid (DF w20b V j vD ds aD cD) := HDF.out.tw HLJ.out.tw hBV
              have HAPC : Hid (Ap vP Y j vL) := HPn.out.ap_new (fun g e => by have h1 := (HLJ.out.own.lt g e).1; have h2 := HL2.out; omega)
              have HDC : Hid (∀ g, vD.ownBlock = some g → vL.ownBlock ≠ some g) := fun g e e2 => by have h1 := (HDF.out.own.lt g e).2; have h2 := (HLJ.out.own.lt g e2).1; have h3 := HL2.out; omega
              have HSo : Hid (Sta w w20b B a zs cap V (rowT q3 vP vD vL nilS)) := by
                have h := HLJ.out.st
                rw [HRR.out] at h
                exact h
              obtain ⟨vC, HVC⟩ : ∃ vC, Hid (vL = vC) := ⟨_, rfl⟩
              rw [HVC.out] at HCF HSo HAPC HDC
              clear hCF HLJ HPn HDF HSn HRR HQQ HEE HRG HRS HQL HIE HL2 HVC
              have hx1' : x1 = 1 ∨ x1 = 2 ∨ x1 = 4 := by simpa using hx1
              have HSH : Hid (shapeOk q3.s1 q3.s2 q3.s3 = true) := by
                have hx3' : x3 = 4 ∨ x3 = 8 ∨ x3 = 16 := by simpa using hx3
                have hx2' : x2 = 0 ∨ x2 = 1 := by omega
                show _ = _
                rw [HQ3.out]
                obtain ⟨e1, e2, e3, _⟩ := HQ2.out
                simp only [e1, e2, e3]
                rcases hx1' with h1 | h1 | h1 <;> rcases hx2' with h2 | h2 <;> rcases hx3' with h3 | h3 | h3 <;> rw [h1, h2, h3] <;> rfl
              have HQC : Hid ((1 ≤ q3.c1 ∧ q3.c1 ≤ 2) ∧ (0 ≤ q3.c2 ∧ q3.c2 ≤ 3) ∧ (0 ≤ q3.c3 ∧ q3.c3 ≤ 2) ∧ (0 ≤ q3.c4 ∧ q3.c4 ≤ 5) ∧ (0 ≤ q3.c5 ∧ q3.c5 ≤ 3) ∧ (0 ≤ q3.c6 ∧ q3.c6 ≤ 2) ∧ (0 ≤ q3.c7 ∧ q3.c7 ≤ 2) ∧ (q3.s1 = 1 ∨ q3.s1 = 2 ∨ q3.s1 = 4) ∧ (q3.s2 = 1 ∨ q3.s2 = 2)) := by
                show _ ∧ _
                rw [HQ3.out]
                obtain ⟨e1, e2, e3, e4, f1, f2, f3, f4, f5, f6, f7⟩ := HQ2.out
                refine ⟨?_, ?_, ?_, ?_, ?_, ?_, ?_, ?_, ?_⟩ <;> simp only [e1, e2, f1, f2, f3, f4, f5, f6, f7] <;> omega
              obtain ⟨wst, HWST⟩ : ∃ x, Hid (worstStep q3.c1 q3.c2 q3.c3 q3.c4 q3.c5 q3.c6 q3.c7 = x) := ⟨_, rfl⟩
              have hws := worst_drawn HQC.out.1 HQC.out.2.1 HQC.out.2.2.1 HQC.out.2.2.2.1 HQC.out.2.2.2.2.1 HQC.out.2.2.2.2.2.1 HQC.out.2.2.2.2.2.2.1
              rw [HWST.out] at hws
              obtain ⟨hws0, hws1⟩ := hws
              have HCW : Hid (∀ X, Calls Tryz.prog 76 #[cst q3.c1 q3.c2 q3.c3 q3.c4 q3.c5 q3.c6 q3.c7] X fun r w' => r = .returned (.int .i64 wst) ∧ Below X.heap.size X w') := fun X => by rw [← HWST.out]; exact spec_worstS _ _ _ _ _ _ _ X
              have k5 : w20b.cell? ⟨V, 5, none⟩ = some (.int .i64 q3.c1) := HSo.out.rv.cell 5 rfl
              have k6 : w20b.cell? ⟨V, 6, none⟩ = some (.int .i64 q3.c2) := HSo.out.rv.cell 6 rfl
              have k7 : w20b.cell? ⟨V, 7, none⟩ = some (.int .i64 q3.c3) := HSo.out.rv.cell 7 rfl
              have k8 : w20b.cell? ⟨V, 8, none⟩ = some (.int .i64 q3.c4) := HSo.out.rv.cell 8 rfl
              have k9 : w20b.cell? ⟨V, 9, none⟩ = some (.int .i64 q3.c5) := HSo.out.rv.cell 9 rfl
              have k10 : w20b.cell? ⟨V, 10, none⟩ = some (.int .i64 q3.c6) := HSo.out.rv.cell 10 rfl
              have k11 : w20b.cell? ⟨V, 11, none⟩ = some (.int .i64 q3.c7) := HSo.out.rv.cell 11 rfl
              go_wp2_with fail
              refine (HCW.out _).mono ?_
              rintro e w22 ⟨rfl, hb⟩
              have HS22 : Hid (Sta w w22 B a zs cap V (rowT q3 vP vD vC nilS)) := HSo.out.belowC hb HSo.out.rv.lt
              have HT22 : Hid (Tw B V w20b w22) := (Tw.refl B V w20b).below hb (Nat.le_refl _)
              clear hb HSo HCW k5 k6 k7 k8 k9 k10 k11
              have HO : Hid (Own .i64 (w22.alloc (.cells #[.int .i64 0, .int .i64 0, .int .i64 1, .int .i64 5] 3)) w22.heap.size [0, 0, 1, 5]) := own_litD .i64 w22 3 [0, 0, 1, 5]
              have hBk : B < w22.heap.size := HS22.out.ct.cur.lt
              have HA : Hid (Sta w (w22.alloc (.cells #[.int .i64 0, .int .i64 0, .int .i64 1, .int .i64 5] 3)) B a zs cap V (rowT q3 vP vD vC nilS)) := HS22.out.alloc _
              go_wp2_with fail
              refine (draw_pick _ _ _ _ _ _ [0, 0, 1, 5] HA.out.ct.cur HO.out (by omega) (by simp) (by simp)).mono ?_
              rintro e w23 ⟨xg, rfl, hxg, hc, ht⟩
              have HS23 : Hid (Sta w w23 B a zs cap V (rowT q3 vP vD vC nilS)) := HA.out.step hc ht
              have HT23 : Hid (Tw B V w20b w23) := (HT22.out.below ((Below.refl _ _).alloc (Nat.le_refl _) _) HT22.out.size).turn ht (.inl rfl)
              clear HO HA hc ht HS22 HT22 hBk
              have hxg' : xg = 0 ∨ xg = 1 ∨ xg = 5 := by simpa using hxg
              have hwg : IntKind.i64.wrap (wst + xg) = wst + xg := by rw [IntKind.wrap_i64]; omega
              have k13 : w23.cell? ⟨V, 13, none⟩ = some (.int .i64 q3.grd) := HS23.out.rv.cell 13 rfl
              have z13 := HS23.out.rv.free 13
              have HS24 : Hid (Sta w (w23.setCell ⟨V, 13, none⟩ (.int .i64 (wst + xg))) B a zs cap V (rowT { q3 with grd := wst + xg } vP vD vC nilS)) := HS23.out.set 13 _ (by simp)
              have HT24 : Hid (Tw B V w20b (w23.setCell ⟨V, 13, none⟩ (.int .i64 (wst + xg)))) := HT23.out.turn (turn_set _ _ _ _) (.inr rfl)
              have k1 : (w23.setCell ⟨V, 13, none⟩ (.int .i64 (wst + xg))).cell? ⟨V, 1, none⟩ = some (.int .i64 q3.s1) := HS24.out.rv.cell 1 rfl
              have k2 : (w23.setCell ⟨V, 13, none⟩ (.int .i64 (wst + xg))).cell? ⟨V, 2, none⟩ = some (.int .i64 q3.s2) := HS24.out.rv.cell 2 rfl
              have k3 : (w23.setCell ⟨V, 13, none⟩ (.int .i64 (wst + xg))).cell? ⟨V, 3, none⟩ = some (.int .i64 q3.s3) := HS24.out.rv.cell 3 rfl
              have k5 : (w23.setCell ⟨V, 13, none⟩ (.int .i64 (wst + xg))).cell? ⟨V, 5, none⟩ = some (.int .i64 q3.c1) := HS24.out.rv.cell 5 rfl
              have k6 : (w23.setCell ⟨V, 13, none⟩ (.int .i64 (wst + xg))).cell? ⟨V, 6, none⟩ = some (.int .i64 q3.c2) := HS24.out.rv.cell 6 rfl
              have k7 : (w23.setCell ⟨V, 13, none⟩ (.int .i64 (wst + xg))).cell? ⟨V, 7, none⟩ = some (.int .i64 q3.c3) := HS24.out.rv.cell 7 rfl
              have k8 : (w23.setCell ⟨V, 13, none⟩ (.int .i64 (wst + xg))).cell? ⟨V, 8, none⟩ = some (.int .i64 q3.c4) := HS24.out.rv.cell 8 rfl
              have k9 : (w23.setCell ⟨V, 13, none⟩ (.int .i64 (wst + xg))).cell? ⟨V, 9, none⟩ = some (.int .i64 q3.c5) := HS24.out.rv.cell 9 rfl
              have k10 : (w23.setCell ⟨V, 13, none⟩ (.int .i64 (wst + xg))).cell? ⟨V, 10, none⟩ = some (.int .i64 q3.c6) := HS24.out.rv.cell 10 rfl
              have k11 : (w23.setCell ⟨V, 13, none⟩ (.int .i64 (wst + xg))).cell? ⟨V, 11, none⟩ = some (.int .i64 q3.c7) := HS24.out.rv.cell 11 rfl
              have k17 : (w23.setCell ⟨V, 13, none⟩ (.int .i64 (wst + xg))).cell? ⟨V, 17, none⟩ = some (.slice aC cs.length cC) := by rw [← HCF.out.v]; exact HS24.out.rv.cell 17 rfl
              obtain ⟨pdv, HPDV⟩ : ∃ x, Hid (q3.c1 * (16 + mostN cs cs.length) + q3.c7 * (q3.s1 * q3.s2) = x) := ⟨_, rfl⟩
              have HAC : Hid (allCh cs cs.length) := fun k hk => (HCF.out.rng k hk).1
              have hpv := pad_drawn HQC.out.1 HQC.out.2.2.2.2.2.2.1 HQC.out.2.2.2.2.2.2.2.1 HQC.out.2.2.2.2.2.2.2.2 HCF.out.few HAC.out
              rw [HPDV.out] at hpv
              obtain ⟨hpv0, hpv1⟩ := hpv
              have HPOK : Hid (padOk q3.c1 q3.c2 q3.c3 q3.c4 q3.c5 q3.c6 q3.c7 q3.s1 q3.s2 q3.s3 cs cs.length) := ⟨costs_drawn HQC.out.1 HQC.out.2.1 HQC.out.2.2.1 HQC.out.2.2.2.1 HQC.out.2.2.2.2.1 HQC.out.2.2.2.2.2.1 HQC.out.2.2.2.2.2.2.1, HSH.out, by have := HCF.out.few; omega, HAC.out⟩
              have HCP : Hid (∀ X, GSeg 4 X aC cs.length (chX cs) → Calls Tryz.prog 75 #[cst q3.c1 q3.c2 q3.c3 q3.c4 q3.c5 q3.c6 q3.c7, shp q3.s1 q3.s2 q3.s3, .slice aC cs.length cC] X fun r w' => r = .returned (.int .i64 pdv) ∧ Below X.heap.size X w') := fun X hX =>
                (spec_pad _ _ _ _ _ _ _ _ _ _ aC cC cs.length cs X hX (by have := HCF.out.few; omega)).mono fun e w' ⟨⟨v, h1, h2, _⟩, h4⟩ => ⟨by rw [h1, h2 HPOK.out, HPDV.out], h4⟩
              go_wp2_with fail
              refine (HCP.out _ ((HCF.out.tw HT24.out hBV).sg.seg)).mono ?_
              rintro e w25 ⟨rfl, hb⟩
              have HS25 : Hid (Sta w w25 B a zs cap V (rowT { q3 with grd := wst + xg } vP vD vC nilS)) := HS24.out.belowC hb HS24.out.rv.lt
              have HT25 : Hid (Tw B V w20b w25) := HT24.out.below hb HT24.out.size
              clear hb HS23 HT23 HS24 HT24 HCP k1 k2 k3 k5 k6 k7 k8 k9 k10 k11 k13 k17 z13 hwg
              have HO : Hid (Own .i64 (w25.alloc (.cells #[.int .i64 0, .int .i64 0, .int .i64 1, .int .i64 7] 3)) w25.heap.size [0, 0, 1, 7]) := own_litD .i64 w25 3 [0, 0, 1, 7]
              have hBk : B < w25.heap.size := HS25.out.ct.cur.lt
              have HA : Hid (Sta w (w25.alloc (.cells #[.int .i64 0, .int .i64 0, .int .i64 1, .int .i64 7] 3)) B a zs cap V (rowT { q3 with grd := wst + xg } vP vD vC nilS)) := HS25.out.alloc _
              go_wp2_with fail
              refine (draw_pick _ _ _ _ _ _ [0, 0, 1, 7] HA.out.ct.cur HO.out (by omega) (by simp) (by simp)).mono ?_
              rintro e w26 ⟨xp, rfl, hxp, hc, ht⟩
              have HS26 : Hid (Sta w w26 B a zs cap V (rowT { q3 with grd := wst + xg } vP vD vC nilS)) := HA.out.step hc ht
              have HT26 : Hid (Tw B V w20b w26) := (HT25.out.below ((Below.refl _ _).alloc (Nat.le_refl _) _) HT25.out.size).turn ht (.inl rfl)
              clear HO HA hc ht HS25 HT25 hBk
              have hxp' : xp = 0 ∨ xp = 1 ∨ xp = 7 := by simpa using hxp
              have hwp : IntKind.i64.wrap (pdv + xp) = pdv + xp := by rw [IntKind.wrap_i64]; omega
              have k12 : w26.cell? ⟨V, 12, none⟩ = some (.int .i64 q3.pad) := HS26.out.rv.cell 12 rfl
              have z12 := HS26.out.rv.free 12
              obtain ⟨q4, HQ4⟩ : ∃ q4 : Tb, Hid (q4 = { q3 with grd := wst + xg, pad := pdv + xp }) := ⟨_, rfl⟩
              have HS27 : Hid (Sta w (w26.setCell ⟨V, 12, none⟩ (.int .i64 (pdv + xp))) B a zs cap V (rowT q4 vP vD vC nilS)) := by
                show Sta _ _ _ _ _ _ _ _
                rw [HQ4.out]
                exact HS26.out.set 12 _ (by simp)
              have HT27 : Hid (Tw B V w20b (w26.setCell ⟨V, 12, none⟩ (.int .i64 (pdv + xp)))) := HT26.out.turn (turn_set _ _ _ _) (.inr rfl)
              have HO : Hid (Own .i64 ((w26.setCell ⟨V, 12, none⟩ (.int .i64 (pdv + xp))).alloc (.cells #[.int .i64 0, .int .i64 0, .int .i64 5] 3)) (w26.setCell ⟨V, 12, none⟩ (.int .i64 (pdv + xp))).heap.size [0, 0, 5]) := own_litD .i64 (w26.setCell ⟨V, 12, none⟩ (.int .i64 (pdv + xp))) 3 [0, 0, 5]
              have hsz : (w26.setCell ⟨V, 12, none⟩ (.int .i64 (pdv + xp))).heap.size = w26.heap.size := by simp [World.setCell]
              rw [hsz] at HO
              have hBk : B < w26.heap.size := HS26.out.ct.cur.lt
              have HA : Hid (Sta w ((w26.setCell ⟨V, 12, none⟩ (.int .i64 (pdv + xp))).alloc (.cells #[.int .i64 0, .int .i64 0, .int .i64 5] 3)) B a zs cap V (rowT q4 vP vD vC nilS)) := HS27.out.alloc _
              clear hsz
              go_wp2_with fail
              refine (draw_pick _ _ _ _ _ _ [0, 0, 5] HA.out.ct.cur HO.out (by omega) (by simp) (by simp)).mono ?_
              rintro e w28 ⟨st0, rfl, hst, hc, ht⟩
              have HS28 : Hid (Sta w w28 B a zs cap V (rowT q4 vP vD vC nilS)) := HA.out.step hc ht
              have HT28 : Hid (Tw B V w20b w28) := (HT27.out.below ((Below.refl _ _).alloc (Nat.le_refl _) _) HT27.out.size).turn ht (.inl rfl)
              clear HO HA hc ht HS26 HT26 HS27 HT27 hBk k12 z12 hwp
              have hst' : st0 = 0 ∨ st0 = 5 := by simpa using hst
              have HPq : Hid (PF w28 V j (at0 + 64) vP ps Y aP cP) := HPo.out.tw HT28.out hBV
              have HDq : Hid (DF w28 V j vD ds aD cD) := HDo.out.tw HT28.out hBV
              have HCq : Hid (CF w28 V j vC cs aC cC) := HCF.out.tw HT28.out hBV
              clear HPo HDo HCF HT28
              go_wp2
              obtain ⟨L2, HL2⟩ : ∃ L2, Hid (w28.heap.size = L2) := ⟨_, rfl⟩
              have hVL : V < L2 := by rw [← HL2.out]; exact HS28.out.rv.lt
              have hBL : B < L2 := by omega
              have hVB : V ≠ B := by have := HS28.out.ct.lo; have := HS28.out.hV; omega
              obtain ⟨RR, HRR⟩ : ∃ RR : Value → Array Value, Hid (RR = fun v => rowT q4 vP vD vC v) := ⟨_, rfl⟩
              have HRG : Hid (∀ v, (RR v)[18]? = some v) := fun v => by rw [HRR.out]; rfl
              have HRP : Hid (∀ v, (RR v)[12]? = some (.int .i64 (pdv + xp)) ∧ (RR v)[13]? = some (.int .i64 (wst + xg))) := fun v => by rw [HRR.out, HQ4.out]; exact ⟨rfl, rfl⟩
              have HRS : Hid (∀ v v', (RR v).setIfInBounds 18 v' = RR v') := fun v v' => by rw [HRR.out]; simp
              obtain ⟨pg, HPG⟩ : ∃ pg, Hid (pdv + xp + (wst + xg) = pg) := ⟨_, rfl⟩
              have hpg0 : 0 ≤ pg := by rw [← HPG.out]; omega
              have hpg1 : pg ≤ 400 := by rw [← HPG.out]; omega
              have HLI0 : Hid (LI w w28 B a zs cap V L2 42 3 RR slQ w28 nilS [] 0) := ⟨rfl, (fun e he => by cases he), World.ownsRow_nil _ _ _ _, Tw.refl _ _ _, (by rw [HRR.out]; exact HS28.out)⟩
              have HSC0 : Hid (SC j pg [] st0) := SC.nil hst'
              clear HS28
              go_loopw [13, 14] (fun v13 v14 wr => ∃ (k : Nat) (st : Int), k ≤ j + 2 ∧ 0 ≤ st ∧ st ≤ 5 + 500 * (k : Int) ∧ v14 = .int .i64 (k : Int) ∧ v13 = .int .i64 st ∧ Hid (∃ vL es, LI w w28 B a zs cap V L2 42 3 RR slQ wr vL es k ∧ SC j pg es st)) (fun _ x _ => j + 3 - (intOf x).toNat)
              case atStart => exact ⟨0, st0, by omega, by omega, by omega, rfl, rfl, nilS, [], HLI0.out, HSC0.out⟩
              case round =>
                obtain ⟨k, st, hk, hs0, hs1, rfl, rfl, HR⟩ := hrel
                obtain ⟨vL, es, hLI, hSC⟩ := HR.out
                have HLI : Hid (LI w w28 B a zs cap V L2 42 3 RR slQ wr vL es k) := hLI
                have HSC : Hid (SC j pg es st) := hSC
                clear hLI hSC HR HLI0 HSC0
                go_wp2_with fail
                refine (draw_below _ _ _ _ _ _ HLI.out.st.ct.cur (by omega) (by omega)).mono ?_
                rintro e w30 ⟨zb, rfl, hzb0, hzb1, hc, ht⟩
                have HLJ : Hid (LI w w28 B a zs cap V L2 42 3 RR slQ w30 vL es k) := HLI.out.turn hc ht hBL
                clear hc ht HLI
                have hwz : IntKind.i64.wrap ((j : Int) + zb) = (j : Int) + zb := by rw [IntKind.wrap_i64]; omega
                by_cases hkz : (k : Int) < (j : Int) + zb
                rotate_left
                · have hkz' : ¬ ((k : Int) < (j : Int) + zb) := hkz
                  obtain ⟨ss, aS, cS, hSF, hsl⟩ := HLJ.out.slots HSC.out hVL
                  have HSF : Hid (SF w30 V j pg vL ss aS cS) := hSF
                  have HAS : Hid (Ap vP Y j vL) := HPq.out.ap_new (fun g e => by have h1 := (HLJ.out.own.lt g e).1; have h2 := HL2.out; omega)
                  have HDS : Hid (∀ g, vD.ownBlock = some g → vL.ownBlock ≠ some g) := fun g e e2 => by have h1 := (HDq.out.own.lt g e).2; have h2 := (HLJ.out.own.lt g e2).1; have h3 := HL2.out; omega
                  have HCS : Hid (∀ g, vC.ownBlock = some g → vL.ownBlock ≠ some g) := fun g e e2 => by have h1 := (HCq.out.own.lt g e).2; have h2 := (HLJ.out.own.lt g e2).1; have h3 := HL2.out; omega
                  have HSE : Hid (Sta w w30 B a zs cap V (rowT q4 vP vD vC vL)) := by
                    have h := HLJ.out.st
                    rw [HRR.out] at h
                    exact h
                  have HTW : Hid (Tw B V w28 w30) := HLJ.out.tw
                  have HSV : Hid (vL = .slice aS k cS) := by show _ = _; rw [← hsl]; exact hSF.v
                  have hgS := hSF.sg.seg
                  rw [hsl] at hgS
                  obtain ⟨m, rfl⟩ : ∃ m, k = m + 1 := ⟨k - 1, by omega⟩
                  obtain ⟨bS, oS, haS, hbS, pS⟩ := hgS.at m (by omega)
                  subst haS
                  obtain ⟨s0, s1, s2⟩ := sl_cells pS
                  have k18 : w30.cell? ⟨V, 18, none⟩ = some (.slice (some ⟨bS, oS, none⟩) (m + 1) cS) := by rw [← HSV.out]; exact HSE.out.rv.cell 18 rfl
                  have hwm : IntKind.i64.wrap (((m + 1 : Nat) : Int) - 1) = (m : Int) := by rw [IntKind.wrap_i64]; omega
                  have hmm : (m : Int) < ((m + 1 : Nat) : Int) := by omega
                  have HJ : Hid (ss.getD (ss.length - 1) sl0 = ss.getD m sl0) := by show _ = _; rw [hsl]; rfl
                  obtain ⟨y, hy⟩ : ∃ y, y = ss.getD m sl0 := ⟨_, rfl⟩
                  have HYB : Hid ((0 ≤ y.2.1 ∧ y.2.1 ≤ 6000) ∧ (0 ≤ y.2.2 ∧ y.2.2 ≤ 600)) := by rw [hy]; exact hSF.bnd ⟨hpg0, hpg1⟩ (by omega) m (by omega)
                  rw [← hy] at s0 s1 s2
                  have HYE : Hid (y = ss.getD m sl0) := hy
                  obtain ⟨sP, sS, sL⟩ := y
                  simp only at s0 s1 s2
                  obtain ⟨hy1, hy2⟩ := HYB.out
                  simp only at hy1 hy2
                  clear hgS pS hSF hy HLJ HSC
                  have hal : Below w30.heap.size w30 (w30.alloc (.cells #[.int .i64 sP, .int .i64 sS, .int .i64 sL] 42)) := (Below.refl _ _).alloc (Nat.le_refl _) _
                  have HSE2 : Hid (Sta w (w30.alloc (.cells #[.int .i64 sP, .int .i64 sS, .int .i64 sL] 42)) B a zs cap V (rowT q4 vP vD vC vL)) := HSE.out.alloc _
                  have HK16 : Hid (Bk (w30.alloc (.cells #[.int .i64 sP, .int .i64 sS, .int .i64 sL] 42)) w30.heap.size #[.int .i64 sP, .int .i64 sS, .int .i64 sL]) := Bk.new _ _ _ _ rfl
                  have HTw20 : Hid (Tw B V w28 (w30.alloc (.cells #[.int .i64 sP, .int .i64 sS, .int .i64 sL] 42))) := HTW.out.below hal HTW.out.size
                  have HSF2 : Hid (SF (w30.alloc (.cells #[.int .i64 sP, .int .i64 sS, .int .i64 sL] 42)) V j pg vL ss (some ⟨bS, oS, none⟩) cS) := HSF.out.tw ((Tw.refl B V w30).below hal (Nat.le_refl _)) hBV
                  have h16 : B < w30.heap.size := HSE.out.ct.cur.lt
                  clear hal HSE HSF HTW
                  go_wp2
                  clear k18 s0 s1 s2 hwm hmm
                  revert HSE2 HK16 HTw20 HSF2
                  generalize (w30.alloc (.cells #[.int .i64 sP, .int .i64 sS, .int .i64 sL] 42)) = wE
                  generalize w30.heap.size = g16 at h16 ⊢
                  intro HSE2 HK16 HTw20 HSF2
                  have CU0 := HSE2.out.ct.cur
                  have hBW : B < wE.heap.size := CU0.lt
                  have HVR : Hid (RV wE V (rowT q4 vP vD vC vL)) := HSE2.out.rv
                  have hsw : IntKind.i64.wrap (sS + sL) = sS + sL := by rw [IntKind.wrap_i64]; omega
                  refine wp_region_inv (by kernel_rfl) (by kernel_rfl) (fun AC ℓ a' w' => ∃ (y0 y1 y2 y3 y4 y5 y6 y7 y8 yA : Value), a' = ((((((((((AC.put (some 206) y0).put (some 207) y1).put (some 208) y2).put (some 209) y3).put (some 210) y4).put (some 211) y5).put (some 212) y6).put (some 213) y7).put (some 214) y8).put (some 215) yA) ∧ (ℓ 10 = false → PP wE w' B a zs cap g16 sS sL [0, 0, 1, 20] (ℓ 0) (ℓ 1) (ℓ 2) (ℓ 3) (ℓ 4) (ℓ 5) (ℓ 6) (ℓ 7) (ℓ 8) y0 y1 y2 y3 y4 y5 y6 y7 y8) ∧ (ℓ 9 = true → yA = .pointer (some ⟨V, 14, none⟩)) ∧ (ℓ 10 = true → ∃ (wz : World) (z : Int), z ∈ [0, 0, 1, 20] ∧ Cur wz B a zs cap ∧ Turn B wE wz ∧ w' = wz.setCell ⟨V, 14, none⟩ (.int .i64 (sS + sL + z))) ∧ ((ℓ 1 = true → ℓ 0 = true) ∧ (ℓ 3 = true → ℓ 2 = true) ∧ (ℓ 4 = true → ℓ 1 = true ∧ ℓ 3 = true) ∧ (ℓ 7 = true → ℓ 5 = true ∧ ℓ 6 = true) ∧ (ℓ 8 = true → ℓ 4 = true ∧ ℓ 7 = true) ∧ (ℓ 10 = true → ℓ 8 = true ∧ ℓ 9 = true))) ?_ ?_ ?_ ?_
                  · exact ⟨undef, undef, undef, undef, undef, undef, undef, undef, undef, undef, (by simp only [Act.put, List.setIfInBounds_toArray, List.set_cons_zero, List.set_cons_succ]), (fun _ => ⟨CU0.drewN 1, (Turn.refl _ _).drewN 1, (fun g => by cases g), (fun g => by cases g), (fun g => by cases g), (fun g => by cases g), (fun g => by cases g), (fun g => by cases g), (fun g _ => by cases g), (fun g => by cases g), (fun g => by cases g)⟩), (fun g => by cases g), (fun g => by cases g), (fun g => by cases g), (fun g => by cases g), (fun g => by cases g), (fun g => by cases g), (fun g => by cases g), (fun g => by cases g)⟩
                  · intro ℓ a' w' hI hall
                    obtain ⟨y0, y1, y2, y3, y4, y5, y6, y7, y8, yA, rfl, _, _, hF, _⟩ := hI
                    have hall' : ∀ i, i < 11 → ℓ i = true := hall
                    obtain ⟨wz, zz, hzz, hcz, htz, hwz⟩ := hF (hall' 10 (by omega))
                    have hzz' : zz = 0 ∨ zz = 1 ∨ zz = 20 := by simpa using hzz
                    obtain ⟨q5, Hq5⟩ : ∃ q5 : Tb, Hid (q5 = { q4 with maj := sS + sL + zz }) := ⟨_, rfl⟩
                    have HS5 : Hid (Sta w w' B a zs cap V (rowT q5 vP vD vC vL)) := by
                      show Sta _ _ _ _ _ _ _ _
                      rw [hwz, Hq5.out]
                      exact (HSE2.out.step hcz htz).set 14 _ (by simp)
                    have HTE : Hid (Tw B V w28 w') := by
                      rw [hwz]
                      exact (HTw20.out.turn htz (.inl rfl)).turn (turn_set _ _ _ _) (.inr rfl)
                    have HTF : Hid (Tw B V wE w') := by
                      rw [hwz]
                      exact ((Tw.refl B V wE).turn htz (.inl rfl)).turn (turn_set _ _ _ _) (.inr rfl)
                    have hwV : w.heap.size < V := HS5.out.hV
                    have HTG : Hid (Tw w.heap.size V w' (w'.setRow w.heap.size (rowT q5 vP vD vC vL))) := ⟨by rw [setRow_size]; exact Nat.le_refl _, fun k hk h1 h2 => setRow_other _ _ _ _ h1⟩
                    have HCT : Hid (CT w (w'.setRow w.heap.size (rowT q5 vP vD vC vL)) B a zs cap) := HS5.out.ct.belowC (below_setRow (Below.refl _ _) (Nat.le_refl _) _)
                    have HRT : Hid ((w'.setRow w.heap.size (rowT q5 vP vD vC vL)).heap[w.heap.size]? = some (.cells (rowT q5 vP vD vC vL) 33 (0, 0))) := setRow_heap _ _ _ _ _ _ HS5.out.r0
                    have HFN : Hid (∃ t ad, (rowT q5 vP vD vC vL) = tbA t ad ∧ DT t ∧ (∀ X b, b ≤ V → Tw b b (w'.setRow w.heap.size (rowT q5 vP vD vC vL)) X → TM 0 X t ad) ∧ TW t ad ∧ TS ad ∧ (ad.pn ≤ ad.pc ∧ ad.sn ≤ ad.sc) ∧ OT (V + 1) (w'.setRow w.heap.size (rowT q5 vP vD vC vL)) t ad) := by
                      have hx3' : x3 = 4 ∨ x3 = 8 ∨ x3 = 16 := by simpa using hx3
                      exact drawn_end (sP := sP) ⟨hN2, hN4⟩ hBV (Nat.le_of_lt hwV) HPq.out HDq.out HCq.out HSF2.out HTE.out HTF.out HTG.out ⟨by rw [hsl]; omega, by rw [hsl]; omega⟩ HQ3.out HQ4.out Hq5.out HPG.out HQ2.out.2.2.1 HQ2.out.2.2.2.1 hx3' ⟨hx40, hx41⟩ HQC.out hxg' hxp' HWST.out HPDV.out hzz' HJ.out HYE.out HAD.out HAPC.out HAS.out HDC.out HDS.out HCS.out
                    have HRV : Hid (RV w' V (rowT q5 vP vD vC vL)) := HS5.out.rv
                    have HPV : Hid (vP = .slice aP j cP) := HPq.out.v
                    have HDV : Hid (vD = .slice aD ds.length cD) := HDq.out.v
                    have HCV : Hid (vC = .slice aC cs.length cC) := HCq.out.v
                    have HR0 : Hid (RV w' w.heap.size #[.int .i64 0, .int .i64 0, .int .i64 0, .int .i64 0, .int .i64 0, .int .i64 0, .int .i64 0, .int .i64 0, .int .i64 0, .int .i64 0, .int .i64 0, .int .i64 0, .int .i64 0, .int .i64 0, .int .i64 0, .slice none 0 0, .slice none 0 0, .slice none 0 0, .slice none 0 0]) := HS5.out.r0
                    clear HTE HTF HTG HS5 HSE2 HTw20 HSF2 HPq HDq HCq hwz hcz htz HVR hzz hall hall'
                    simp only [Act.put, List.setIfInBounds_toArray, List.set_cons_zero, List.set_cons_succ]
                    go_wp2_with (first | (refine wpList_load_row rfl 33 (.tmp 5) rfl V rfl 33 (rowT q5 vP vD vC vL) (0, 0) _ HRV.out Tryz.underlying33 rfl (by kernel_rfl) ?_) | (refine wpList_store_row rfl 33 (.tmp 4) (.tmp 216) rfl w.heap.size (rowT q5 vP vD vC vL) rfl rfl 33 #[.int .i64 0, .int .i64 0, .int .i64 0, .int .i64 0, .int .i64 0, .int .i64 0, .int .i64 0, .int .i64 0, .int .i64 0, .int .i64 0, .int .i64 0, .int .i64 0, .int .i64 0, .int .i64 0, .int .i64 0, .slice none 0 0, .slice none 0 0, .slice none 0 0, .slice none 0 0] HR0.out (by kernel_rfl) rfl (by simp [Value.oneCell', HPV.out, HDV.out, HCV.out, HSV.out]) ?_) | fail)
                    clear HRV HR0
                    revert HCT HRT HFN
                    generalize (w'.setRow w.heap.size (rowT q5 vP vD vC vL)) = WZ
                    intro HCT HRT HFN
                    obtain ⟨t, ad, hrow, hdt, htm, htw, hts, hcap, hot⟩ := HFN.out
                    refine bodyPost_ret (v := tbV t ad) ?_ ?_ ⟨t, ad, rfl, hdt, fun X b' hb' hX => htm X b' (by omega) hX, htw, hts, hcap, HCT.out.cur, HCT.out.turn, hot.low (by omega)⟩
                    · have h := HRT.out
                      rw [hrow] at h
                      exact res_tabs h rfl rfl
                    · rfl
                  · intro ℓ a' w' ii o hI ho hi hL hdep K hK
                    obtain ⟨y0, y1, y2, y3, y4, y5, y6, y7, y8, yA, rfl, hr0, hA, hF, h1c, h3c, h4c, h7c, h8c, h10c⟩ := hI
                    have hi7 : ii < 11 := hi
                    have hcs : ii = 0 ∨ ii = 1 ∨ ii = 2 ∨ ii = 3 ∨ ii = 4 ∨ ii = 5 ∨ ii = 6 ∨ ii = 7 ∨ ii = 8 ∨ ii = 9 ∨ ii = 10 := by omega
                    have hno : ∀ jj, ℓ jj = true → ii = jj → False := fun jj h e => by subst e; rw [h] at hL; cases hL
                    have hl10 : ℓ 10 = false := by
                      cases h10 : ℓ 10
                      · rfl
                      · exfalso
                        have q8 := (h10c h10).1
                        have q9 := (h10c h10).2
                        have q4 := (h8c q8).1
                        have q7 := (h8c q8).2
                        have q1 := (h4c q4).1
                        have q3 := (h4c q4).2
                        have q5 := (h7c q7).1
                        have q6 := (h7c q7).2
                        have q0 := h1c q1
                        have q2 := h3c q3
                        rcases hcs with e | e | e | e | e | e | e | e | e | e | e
                        · exact hno 0 q0 e
                        · exact hno 1 q1 e
                        · exact hno 2 q2 e
                        · exact hno 3 q3 e
                        · exact hno 4 q4 e
                        · exact hno 5 q5 e
                        · exact hno 6 q6 e
                        · exact hno 7 q7 e
                        · exact hno 8 q8 e
                        · exact hno 9 q9 e
                        · exact hno 10 h10 e
                    have hr := hr0 hl10
                    have hN10 : (true : Bool) = ℓ 10 → False := fun h => by rw [hl10] at h; cases h
                    clear hi hi7 hno
                    rcases hcs with rfl | rfl | rfl | rfl | rfl | rfl | rfl | rfl | rfl | rfl | rfl
                    · obtain rfl := Option.some.inj ho
                      clear hdep ho
                      rw [if_pos (by rfl)]
                      try simp only [Act.put, List.setIfInBounds_toArray, List.set_cons_zero, List.set_cons_succ]
                      go_simp
                      exact hK.out _ _ (fun j => if j = 0 then true else ℓ j) ⟨.pointer (some ⟨g16, 1, none⟩), y1, y2, y3, y4, y5, y6, y7, y8, yA, (by simp only [Act.put, List.setIfInBounds_toArray, List.set_cons_zero, List.set_cons_succ]), (fun _ => ⟨hr.cu, hr.tu, (fun _ => rfl), hr.f1, hr.f2, hr.f3, hr.f4, hr.f5, hr.f6, hr.f7, hr.f8⟩), hA, (fun h => by rw [hl10] at h; cases h), (fun _ => rfl), h3c, h4c, h7c, h8c, (fun h => by rw [hl10] at h; cases h)⟩ (if_pos rfl) (fun j hj => if_neg hj)
                    · obtain rfl := Option.some.inj ho
                      have g0 : ℓ 0 = true := hdep { on := 0, ground := Ground.data } (by simp) rfl
                      clear hdep ho
                      have hy0 := hr.f0 g0
                      subst hy0
                      have cc := (HK16.out.turn hr.tu (by omega)).cell 1 _ rfl
                      rw [if_pos (by rfl)]
                      try simp only [Act.put, List.setIfInBounds_toArray, List.set_cons_zero, List.set_cons_succ]
                      go_simp
                      exact hK.out _ _ (fun j => if j = 1 then true else ℓ j) ⟨.pointer (some ⟨g16, 1, none⟩), .int .i64 sS, y2, y3, y4, y5, y6, y7, y8, yA, (by simp only [Act.put, List.setIfInBounds_toArray, List.set_cons_zero, List.set_cons_succ]), (fun _ => ⟨hr.cu, hr.tu, hr.f0, (fun _ => rfl), hr.f2, hr.f3, hr.f4, hr.f5, hr.f6, hr.f7, hr.f8⟩), hA, (fun h => by rw [hl10] at h; cases h), (fun _ => g0), h3c, (fun h => ⟨rfl, (h4c h).2⟩), h7c, h8c, (fun h => by rw [hl10] at h; cases h)⟩ (if_pos rfl) (fun j hj => if_neg hj)
                    · obtain rfl := Option.some.inj ho
                      clear hdep ho
                      rw [if_pos (by rfl)]
                      try simp only [Act.put, List.setIfInBounds_toArray, List.set_cons_zero, List.set_cons_succ]
                      go_simp
                      exact hK.out _ _ (fun j => if j = 2 then true else ℓ j) ⟨y0, y1, .pointer (some ⟨g16, 2, none⟩), y3, y4, y5, y6, y7, y8, yA, (by simp only [Act.put, List.setIfInBounds_toArray, List.set_cons_zero, List.set_cons_succ]), (fun _ => ⟨hr.cu, hr.tu, hr.f0, hr.f1, (fun _ => rfl), hr.f3, hr.f4, hr.f5, hr.f6, hr.f7, hr.f8⟩), hA, (fun h => by rw [hl10] at h; cases h), h1c, (fun _ => rfl), h4c, h7c, h8c, (fun h => by rw [hl10] at h; cases h)⟩ (if_pos rfl) (fun j hj => if_neg hj)
                    · obtain rfl := Option.some.inj ho
                      have g2 : ℓ 2 = true := hdep { on := 2, ground := Ground.data } (by simp) rfl
                      clear hdep ho
                      have hy2 := hr.f2 g2
                      subst hy2
                      have cc := (HK16.out.turn hr.tu (by omega)).cell 2 _ rfl
                      rw [if_pos (by rfl)]
                      try simp only [Act.put, List.setIfInBounds_toArray, List.set_cons_zero, List.set_cons_succ]
                      go_simp
                      exact hK.out _ _ (fun j => if j = 3 then true else ℓ j) ⟨y0, y1, .pointer (some ⟨g16, 2, none⟩), .int .i64 sL, y4, y5, y6, y7, y8, yA, (by simp only [Act.put, List.setIfInBounds_toArray, List.set_cons_zero, List.set_cons_succ]), (fun _ => ⟨hr.cu, hr.tu, hr.f0, hr.f1, hr.f2, (fun _ => rfl), hr.f4, hr.f5, hr.f6, hr.f7, hr.f8⟩), hA, (fun h => by rw [hl10] at h; cases h), h1c, (fun _ => g2), (fun h => ⟨(h4c h).1, rfl⟩), h7c, h8c, (fun h => by rw [hl10] at h; cases h)⟩ (if_pos rfl) (fun j hj => if_neg hj)
                    · obtain rfl := Option.some.inj ho
                      have g1 : ℓ 1 = true := hdep { on := 1, ground := Ground.data } (by simp) rfl
                      have g3 : ℓ 3 = true := hdep { on := 3, ground := Ground.data } (by simp) rfl
                      clear hdep ho
                      have hy1 := hr.f1 g1
                      have hy3 := hr.f3 g3
                      subst hy1 hy3
                      rw [if_pos (by rfl)]
                      try simp only [Act.put, List.setIfInBounds_toArray, List.set_cons_zero, List.set_cons_succ]
                      go_simp
                      exact hK.out _ _ (fun j => if j = 4 then true else ℓ j) ⟨y0, .int .i64 sS, y2, .int .i64 sL, .int .i64 (sS + sL), y5, y6, y7, y8, yA, (by simp only [Act.put, List.setIfInBounds_toArray, List.set_cons_zero, List.set_cons_succ]), (fun _ => ⟨hr.cu, hr.tu, hr.f0, hr.f1, hr.f2, hr.f3, (fun _ => rfl), hr.f5, hr.f6, hr.f7, hr.f8⟩), hA, (fun h => by rw [hl10] at h; cases h), h1c, h3c, (fun _ => ⟨g1, g3⟩), h7c, (fun h => ⟨rfl, (h8c h).2⟩), (fun h => by rw [hl10] at h; cases h)⟩ (if_pos rfl) (fun j hj => if_neg hj)
                    · obtain rfl := Option.some.inj ho
                      clear hdep ho
                      rw [if_pos (by rfl)]
                      try simp only [Act.put, List.setIfInBounds_toArray, List.set_cons_zero, List.set_cons_succ]
                      go_simp
                      exact hK.out _ _ (fun j => if j = 5 then true else ℓ j) ⟨y0, y1, y2, y3, y4, .pointer (some ⟨B, 0, none⟩), y6, y7, y8, yA, (by simp only [Act.put, List.setIfInBounds_toArray, List.set_cons_zero, List.set_cons_succ]), (fun _ => ⟨hr.cu, hr.tu, hr.f0, hr.f1, hr.f2, hr.f3, hr.f4, (fun _ => rfl), hr.f6, hr.f7, hr.f8⟩), hA, (fun h => by rw [hl10] at h; cases h), h1c, h3c, h4c, (fun h => ⟨rfl, (h7c h).2⟩), h8c, (fun h => by rw [hl10] at h; cases h)⟩ (if_pos rfl) (fun j hj => if_neg hj)
                    · obtain rfl := Option.some.inj ho
                      clear hdep ho
                      rw [if_pos (by rfl)]
                      try simp only [Act.put, List.setIfInBounds_toArray, List.set_cons_zero, List.set_cons_succ]
                      go_simp
                      have hbel : Below w'.heap.size w' (w'.alloc (.cells #[.int .i64 0, .int .i64 0, .int .i64 1, .int .i64 20] 3)) := (Below.refl _ _).alloc (Nat.le_refl _) _
                      have hr9 := hr.move hBW (hr.cu.below hbel) (Turn.of_below hbel)
                      exact hK.out _ _ (fun j => if j = 6 then true else ℓ j) ⟨y0, y1, y2, y3, y4, y5, .slice (some ⟨w'.heap.size, 0, none⟩) 4 4, y7, y8, yA, (by simp only [Act.put, List.setIfInBounds_toArray, List.set_cons_zero, List.set_cons_succ]), (fun _ => ⟨hr9.cu, hr9.tu, hr9.f0, hr9.f1, hr9.f2, hr9.f3, hr9.f4, hr9.f5, (fun _ _ => ⟨_, rfl, hr.tu.size, own_litD .i64 w' 3 [0, 0, 1, 20]⟩), hr9.f7, hr9.f8⟩), hA, (fun h => by rw [hl10] at h; cases h), h1c, h3c, h4c, (fun h => ⟨(h7c h).1, rfl⟩), h8c, (fun h => by rw [hl10] at h; cases h)⟩ (if_pos rfl) (fun j hj => if_neg hj)
                    · obtain rfl := Option.some.inj ho
                      have g5 : ℓ 5 = true := hdep { on := 5, ground := Ground.data } (by simp) rfl
                      have g6 : ℓ 6 = true := hdep { on := 6, ground := Ground.data } (by simp) rfl
                      clear hdep ho
                      have hy5 := hr.f5 g5
                      subst hy5
                      revert hK
                      obtain ⟨gO, hy6, hgO, hO⟩ := hr.f6 g6 hL
                      subst hy6
                      intro hK
                      rw [if_pos (by rfl)]
                      try simp only [Act.put, List.setIfInBounds_toArray, List.set_cons_zero, List.set_cons_succ]
                      go_simp
                      refine Calls.mono (draw_pick _ _ _ _ _ _ [0, 0, 1, 20] hr.cu hO (by omega) (by simp) (by simp)) ?_
                      rintro e w9 ⟨z9, rfl, hz9, hc9, ht9⟩
                      have hr9 := hr.move hBW hc9 ht9
                      exact hK.out _ _ (fun j => if j = 7 then true else ℓ j) ⟨y0, y1, y2, y3, y4, .pointer (some ⟨B, 0, none⟩), .slice (some ⟨gO, 0, none⟩) 4 4, .int .i64 z9, y8, yA, (by simp only [Act.put, List.setIfInBounds_toArray, List.set_cons_zero, List.set_cons_succ]), (fun _ => ⟨hr9.cu, hr9.tu, hr9.f0, hr9.f1, hr9.f2, hr9.f3, hr9.f4, hr9.f5, (fun _ h => by cases h), (fun _ => ⟨z9, rfl, hz9⟩), hr9.f8⟩), hA, (fun h => by rw [hl10] at h; cases h), h1c, h3c, h4c, (fun _ => ⟨g5, g6⟩), (fun h => ⟨(h8c h).1, rfl⟩), (fun h => by rw [hl10] at h; cases h)⟩ (if_pos rfl) (fun j hj => if_neg hj)
                    · obtain rfl := Option.some.inj ho
                      have g4 : ℓ 4 = true := hdep { on := 4, ground := Ground.data } (by simp) rfl
                      have g7 : ℓ 7 = true := hdep { on := 7, ground := Ground.data } (by simp) rfl
                      clear hdep ho
                      have hy4 := hr.f4 g4
                      subst hy4
                      revert hK
                      obtain ⟨z9, hy7, hz9⟩ := hr.f7 g7
                      subst hy7
                      intro hK
                      have hz9' : 0 ≤ z9 ∧ z9 ≤ 20 := by simp at hz9; omega
                      have hwz : IntKind.i64.wrap (sS + sL + z9) = sS + sL + z9 := by rw [IntKind.wrap_i64]; omega
                      rw [if_pos (by rfl)]
                      try simp only [Act.put, List.setIfInBounds_toArray, List.set_cons_zero, List.set_cons_succ]
                      go_simp
                      exact hK.out _ _ (fun j => if j = 8 then true else ℓ j) ⟨y0, y1, y2, y3, .int .i64 (sS + sL), y5, y6, .int .i64 z9, .int .i64 (sS + sL + z9), yA, (by simp only [Act.put, List.setIfInBounds_toArray, List.set_cons_zero, List.set_cons_succ]), (fun _ => ⟨hr.cu, hr.tu, hr.f0, hr.f1, hr.f2, hr.f3, hr.f4, hr.f5, hr.f6, hr.f7, (fun _ => ⟨z9, rfl, hz9⟩)⟩), hA, (fun h => by rw [hl10] at h; cases h), h1c, h3c, h4c, h7c, (fun _ => ⟨g4, g7⟩), (fun h => by rw [hl10] at h; cases h)⟩ (if_pos rfl) (fun j hj => if_neg hj)
                    · obtain rfl := Option.some.inj ho
                      clear hdep ho
                      rw [if_pos (by rfl)]
                      try simp only [Act.put, List.setIfInBounds_toArray, List.set_cons_zero, List.set_cons_succ]
                      go_simp
                      exact hK.out _ _ (fun j => if j = 9 then true else ℓ j) ⟨y0, y1, y2, y3, y4, y5, y6, y7, y8, .pointer (some ⟨V, 14, none⟩), (by simp only [Act.put, List.setIfInBounds_toArray, List.set_cons_zero, List.set_cons_succ]), (fun _ => hr), (fun _ => rfl), (fun h => by rw [hl10] at h; cases h), h1c, h3c, h4c, h7c, h8c, (fun h => by rw [hl10] at h; cases h)⟩ (if_pos rfl) (fun j hj => if_neg hj)
                    · obtain rfl := Option.some.inj ho
                      have g8 : ℓ 8 = true := hdep { on := 8, ground := Ground.data } (by simp) rfl
                      have g9 : ℓ 9 = true := hdep { on := 9, ground := Ground.data } (by simp) rfl
                      clear hdep ho
                      revert hK
                      obtain ⟨z9, hy8, hz9⟩ := hr.f8 g8
                      have hyA := hA g9
                      subst hy8 hyA
                      intro hK
                      have cc := (HVR.out.turn hr.tu hVB).cell 14 rfl
                      have cz := (HVR.out.turn hr.tu hVB).free 14
                      rw [if_pos (by rfl)]
                      try simp only [Act.put, List.setIfInBounds_toArray, List.set_cons_zero, List.set_cons_succ]
                      go_simp
                      exact hK.out _ _ (fun j => if j = 10 then true else ℓ j) ⟨y0, y1, y2, y3, y4, y5, y6, y7, .int .i64 (sS + sL + z9), .pointer (some ⟨V, 14, none⟩), (by simp only [Act.put, List.setIfInBounds_toArray, List.set_cons_zero, List.set_cons_succ]), (fun h => by cases h), (fun _ => rfl), (fun _ => ⟨w', z9, hz9, hr.cu, hr.tu, rfl⟩), h1c, h3c, h4c, h7c, h8c, (fun _ => ⟨g8, g9⟩)⟩ (if_pos rfl) (fun j hj => if_neg hj)
                  · rintro a' w' ℓ ℓ' hℓ hI
                    rw [← show ℓ = ℓ' from funext hℓ]
                    exact hI
                have hB30 : B < w30.heap.size := HLJ.out.st.ct.cur.lt
                have HLA : Hid (∀ b off, a = some ⟨b, off, none⟩ → 0 < zs.length → b < w30.heap.size) := seg_lt HLJ.out.st.ct.cur.seg
                obtain ⟨rr, HRR2⟩ : ∃ rr : Int, rr = Int.tmod (k : Int) (j : Int) := ⟨_, rfl⟩
                have htm : Int.tmod (k : Int) (j : Int) = rr := HRR2.symm
                have hrr : 0 ≤ rr ∧ rr < (j : Int) := by rw [HRR2, Int.tmod_eq_emod_of_nonneg (by omega)]; exact ⟨Int.emod_nonneg _ (by omega), Int.emod_lt_of_pos _ (by omega)⟩
                obtain ⟨hrr0, hrr1⟩ := hrr
                have hj0 : ((j : Int) == 0) = false := beq_eq_false_iff_ne.2 (by omega)
                have hjz : ¬ j = 0 := by omega
                have hem : (k : Int) % (j : Int) = rr := by rw [← htm, Int.tmod_eq_emod_of_nonneg (by omega)]
                have hwr : IntKind.i64.wrap rr = rr := by rw [IntKind.wrap_i64]; omega
                have hw1 : IntKind.i64.wrap (pdv + xp + (wst + xg)) = pdv + xp + (wst + xg) := by rw [IntKind.wrap_i64]; omega
                have hw2 : IntKind.i64.wrap (pdv + xp + (wst + xg) + 1) = pdv + xp + (wst + xg) + 1 := by rw [IntKind.wrap_i64]; omega
                clear HRR2
                go_wp2
                clear hwz
                refine wp_region_inv (by kernel_rfl) (by kernel_rfl) (fun AC ℓ a' w' => ∃ (x163 x164 x165 x166 x167 x168 x169 x170 x171 x172 x173 x174 x175 x176 x15 : Value), a' = (((((((((((((((AC.put (some 163) x163).put (some 164) x164).put (some 165) x165).put (some 166) x166).put (some 167) x167).put (some 168) x168).put (some 169) x169).put (some 170) x170).put (some 171) x171).put (some 172) x172).put (some 173) x173).put (some 174) x174).put (some 175) x175).put (some 176) x176).put (some 15) x15) ∧ P29 w30 w' B a zs cap V (k : Int) (j : Int) rr st (pdv + xp) (wst + xg) (ℓ 0) (ℓ 1) (ℓ 2) (ℓ 3) (ℓ 4) (ℓ 5) (ℓ 6) (ℓ 7) (ℓ 8) (ℓ 9) (ℓ 10) (ℓ 11) (ℓ 12) (ℓ 13) (ℓ 14) (ℓ 15) x163 x164 x165 x166 x167 x168 x169 x170 x171 x172 x173 x174 x175 x176 x15) ?_ ?_ ?_ ?_
                · exact ⟨u163, u164, u165, u166, u167, u168, u169, u170, u171, u172, u173, u174, u175, u176, u15, (by simp only [Act.put, List.setIfInBounds_toArray, List.set_cons_zero, List.set_cons_succ]), ⟨HLJ.out.st.ct.cur.drewN 1, (Turn.refl _ _).drewN 1, (fun g => by cases g), (fun g => by cases g), (fun g => by cases g), (fun g => by cases g), (fun g => by cases g), (fun g => by cases g), (fun g => by cases g), (fun g => by cases g), (fun g => by cases g), (fun g => by cases g), (fun g => by cases g), (fun g => by cases g), (fun g => by cases g), (fun g => by cases g), (fun g => by cases g), (fun g => by cases g)⟩⟩
                · intro ℓ a' w31 hI hall
                  obtain ⟨x163, x164, x165, x166, x167, x168, x169, x170, x171, x172, x173, x174, x175, x176, x15, rfl, hr⟩ := hI
                  have hall' : ∀ i, i < 16 → ℓ i = true := hall
                  obtain ⟨b, hx15, hbl, y0, y1, y2, hk8, hz8⟩ := hr.f14 (hall' 14 (by omega))
                  obtain ⟨x9, e0, e1, e2, hx0, hx9⟩ := hz8 (hall' 15 (by omega))
                  have e0' := e0.symm
                  have e1' := e1.symm
                  subst hx15 e0' e1' e2
                  have HLK0 : Hid (LI w w28 B a zs cap V L2 42 3 RR slQ w31 vL es k) := HLJ.out.turn hr.cu hr.tu hBL
                  have HKb0 : Hid (Bk w31 b #[.int .i64 rr, .int .i64 st, .int .i64 ((pdv + xp) + (wst + xg) + 1 + x9)]) := hk8
                  have HNB : Hid (vL.ownBlock ≠ some b) := fun e => by have := (HLJ.out.own.lt b e).2; omega
                  have hVb : V < b := Nat.lt_of_lt_of_le HLJ.out.st.rv.lt hbl
                  have hbL : L2 ≤ b := by rw [← HL2.out]; exact Nat.le_trans HLJ.out.tw.size hbl
                  clear hr hall hall' hk8 HLJ HLA
                  simp only [Act.put, List.setIfInBounds_toArray, List.set_cons_zero, List.set_cons_succ]
                  go_wp2_with fail
                  refine (draw_once _ _ _ _ _ _ HLK0.out.st.ct.cur (by omega) (by omega)).mono ?_
                  rintro e w32 ⟨qb, rfl, hc, ht⟩
                  have HLK : Hid (LI w w28 B a zs cap V L2 42 3 RR slQ w32 vL es k) := HLK0.out.turn hc ht hBL
                  have HKb : Hid (Bk w32 b #[.int .i64 rr, .int .i64 st, .int .i64 ((pdv + xp) + (wst + xg) + 1 + x9)]) := HKb0.out.turn ht (by omega)
                  clear hc ht HLK0 HKb0
                  have hp0 := hrr0
                  have hp1 := hrr1
                  cases qb
                  · have k18 : w32.cell? ⟨V, 18, none⟩ = some vL := HLK.out.st.rv.cell 18 (HRG.out vL)
                    have r0 := HKb.out.cell 0 _ rfl
                    have r1 := HKb.out.cell 1 _ rfl
                    have r2 := HKb.out.cell 2 _ rfl
                    obtain ⟨iS, hiS⟩ := slot_info'
                    have HIS : Hid (Tryz.prog.info? 42 = some iS ∧ iS.zero = some (.agg #[.int .i64 0, .int .i64 0, .int .i64 0]) ∧ iS.size = 3 ∧ iS.bytes = 24) := hiS
                    clear hiS
                    have hal : Below w32.heap.size w32 (w32.alloc (.cells #[.int .i64 rr, .int .i64 st, .int .i64 ((pdv + xp) + (wst + xg) + 1 + x9)] 42)) := (Below.refl _ _).alloc (Nat.le_refl _) _
                    have HLA4 : Hid (LI w w28 B a zs cap V L2 42 3 RR slQ (w32.alloc (.cells #[.int .i64 rr, .int .i64 st, .int .i64 ((pdv + xp) + (wst + xg) + 1 + x9)] 42)) vL es k) := HLK.out.turn (HLK.out.st.ct.cur.below hal) (Turn.of_below hal) hBL
                    have HEf : Hid (Bk (w32.alloc (.cells #[.int .i64 rr, .int .i64 st, .int .i64 ((pdv + xp) + (wst + xg) + 1 + x9)] 42)) w32.heap.size #[.int .i64 rr, .int .i64 st, .int .i64 ((pdv + xp) + (wst + xg) + 1 + x9)]) := Bk.new _ _ _ _ rfl
                    have HKa : Hid (Bk (w32.alloc (.cells #[.int .i64 rr, .int .i64 st, .int .i64 ((pdv + xp) + (wst + xg) + 1 + x9)] 42)) b #[.int .i64 rr, .int .i64 st, .int .i64 ((pdv + xp) + (wst + xg) + 1 + x9)]) := HKb.out.alloc _
                    have HZ : Hid (∀ g cap1 X, X.ownsRow L2 42 3 (.slice (some ⟨g, 0, none⟩) (k + 1) cap1) (k + 1) (es.flatten ++ [.int .i64 rr, .int .i64 st, .int .i64 ((pdv + xp) + (wst + xg) + 1 + x9)]) → (w32.alloc (.cells #[.int .i64 rr, .int .i64 st, .int .i64 ((pdv + xp) + (wst + xg) + 1 + x9)] 42)).grownBy X vL.ownBlock → Sta w X B a zs cap V (RR vL) ∧ LI w w28 B a zs cap V L2 42 3 RR slQ (X.setCell ⟨V, 18, none⟩ (.slice (some ⟨g, 0, none⟩) (k + 1) cap1)) (.slice (some ⟨g, 0, none⟩) (k + 1) cap1) (es ++ [[.int .i64 rr, .int .i64 st, .int .i64 ((pdv + xp) + (wst + xg) + 1 + x9)]]) (k + 1) ∧ Bk (X.setCell ⟨V, 18, none⟩ (.slice (some ⟨g, 0, none⟩) (k + 1) cap1)) b #[.int .i64 rr, .int .i64 st, .int .i64 ((pdv + xp) + (wst + xg) + 1 + x9)]) := fun g cap1 X h1 h2 => by
                      obtain ⟨q1, q2⟩ := HLA4.out.app HL2.out hVL HRS.out h1 h2
                      refine ⟨q1, q2, ?_⟩
                      have hbk := h2.block b HKa.out.lt (fun e => HNB.out e.symm)
                      have hk2 : Bk X b #[.int .i64 rr, .int .i64 st, .int .i64 ((pdv + xp) + (wst + xg) + 1 + x9)] := ⟨Nat.lt_of_lt_of_le HKa.out.lt h2.size, fun i v e => (World.cell?_of_block (a := ⟨b, i, none⟩) hbk).trans (HKa.out.cell i v e), fun i => (World.frozen?_of_block (a := ⟨b, i, none⟩) hbk).trans (HKa.out.free i)⟩
                      exact hk2.other _ _ _ (by omega)
                    have hown := HLA4.out.own
                    have hbase : L2 ≤ (w32.alloc (.cells #[.int .i64 rr, .int .i64 st, .int .i64 ((pdv + xp) + (wst + xg) + 1 + x9)] 42)).heap.size := by rw [← HL2.out]; exact HLA4.out.tw.size
                    go_wp2_with (at_builtin; (refine wpList_append_lies _ rfl (.tmp 184) (.tmp 186) 31 rfl L2 42 iS (.agg #[.int .i64 0, .int .i64 0, .int .i64 0]) 3 24 Tryz.underlying31 HIS.out.1 HIS.out.2.1 HIS.out.2.2.1 HIS.out.2.2.2 rfl (by omega) vL k es.flatten rfl hown ⟨w32.heap.size, 0, none⟩ 1 1 [.int .i64 rr, .int .i64 st, .int .i64 ((pdv + xp) + (wst + xg) + 1 + x9)] rfl rfl (news_of HEf.out) (one_slot _ _ _) (by omega) (by unfold maxLen; omega) (by omega) hbase _ rfl ?_; intro g cap1 wA hown1 hgrow hat hlt1; have HY : Hid _ := HZ.out g cap1 wA hown1 hgrow; have k18' := HY.out.1.rv.cell 18 (HRG.out vL); have z18 := HY.out.1.rv.free 18; clear hown1 hgrow hat hlt1))
                    have HLM : Hid (LI w w28 B a zs cap V L2 42 3 RR slQ (wA.setCell ⟨V, 18, none⟩ (.slice (some ⟨g, 0, none⟩) (k + 1) cap1)) (.slice (some ⟨g, 0, none⟩) (k + 1) cap1) (es ++ [[.int .i64 rr, .int .i64 st, .int .i64 ((pdv + xp) + (wst + xg) + 1 + x9)]]) (k + 1)) := HY.out.2.1
                    have HKm : Hid (Bk (wA.setCell ⟨V, 18, none⟩ (.slice (some ⟨g, 0, none⟩) (k + 1) cap1)) b #[.int .i64 rr, .int .i64 st, .int .i64 ((pdv + xp) + (wst + xg) + 1 + x9)]) := HY.out.2.2
                    clear HY HZ HLA4 HEf HKa hown hbase hal k18 k18' z18 r0 r1 r2 HIS HLK HKb
                    revert HLM HKm
                    generalize (wA.setCell ⟨V, 18, none⟩ (.slice (some ⟨g, 0, none⟩) (k + 1) cap1)) = wM
                    intro HLM HKm
                    have CU0 := HLM.out.st.ct.cur
                    have hBW : B < wM.heap.size := CU0.lt
                    have hsw : IntKind.i64.wrap (st + ((pdv + xp) + (wst + xg) + 1 + x9)) = st + ((pdv + xp) + (wst + xg) + 1 + x9) := by rw [IntKind.wrap_i64]; omega
                    refine wp_region_inv (by kernel_rfl) (by kernel_rfl) (fun AC ℓ a' w' => ∃ (y0 y1 y2 y3 y4 y5 y6 y7 y8 yZ : Value), a' = ((((((((((AC.put (some 189) y0).put (some 190) y1).put (some 191) y2).put (some 192) y3).put (some 193) y4).put (some 194) y5).put (some 195) y6).put (some 196) y7).put (some 197) y8).put (some 13) yZ) ∧ PP wM w' B a zs cap b st ((pdv + xp) + (wst + xg) + 1 + x9) [0, 0, 3] (ℓ 0) (ℓ 1) (ℓ 2) (ℓ 3) (ℓ 4) (ℓ 5) (ℓ 6) (ℓ 7) (ℓ 8) y0 y1 y2 y3 y4 y5 y6 y7 y8 ∧ ((ℓ 7 = true → ℓ 6 = true) ∧ (ℓ 9 = true → ∃ z : Int, yZ = .int .i64 (st + ((pdv + xp) + (wst + xg) + 1 + x9) + z) ∧ z ∈ [0, 0, 3]))) ?_ ?_ ?_ ?_
                    · exact ⟨u189, u190, u191, u192, u193, u194, u195, u196, u197, .int .i64 st, (by simp only [Act.put, List.setIfInBounds_toArray, List.set_cons_zero, List.set_cons_succ]), ⟨CU0.drewN 1, (Turn.refl _ _).drewN 1, (fun g => by cases g), (fun g => by cases g), (fun g => by cases g), (fun g => by cases g), (fun g => by cases g), (fun g => by cases g), (fun g _ => by cases g), (fun g => by cases g), (fun g => by cases g)⟩, (fun g => by cases g), (fun g => by cases g)⟩
                    · intro ℓ a' w' hI hall
                      obtain ⟨y0, y1, y2, y3, y4, y5, y6, y7, y8, yZ, rfl, hr, hC7, hZ⟩ := hI
                      have hall' : ∀ i, i < 10 → ℓ i = true := hall
                      obtain ⟨zz, hyZ, hzz⟩ := hZ (hall' 9 (by omega))
                      subst hyZ
                      have HLN : Hid (∃ vL' es', LI w w28 B a zs cap V L2 42 3 RR slQ w' vL' es' (k + 1) ∧ SC j pg es' (st + ((pdv + xp) + (wst + xg) + 1 + x9) + zz)) := ⟨_, _, HLM.out.turn hr.cu hr.tu hBL, (by
                        have hzz' : zz = 0 ∨ zz = 3 := by simpa using hzz
                        have h := SC.push HSC.out ⟨hp0, hp1⟩ ⟨hx0, hx9⟩ hzz'
                        rw [← HPG.out] at h ⊢
                        exact h)⟩
                      have hz9 : 0 ≤ zz ∧ zz ≤ 3 := by simp at hzz; omega
                      clear hr hall hall' hC7 hZ hzz HLM
                      simp only [Act.put, List.setIfInBounds_toArray, List.set_cons_zero, List.set_cons_succ]
                      go_wp2
                      go_roundw
                      case rel => exact ⟨k + 1, st + ((pdv + xp) + (wst + xg) + 1 + x9) + zz, by omega, by omega, by omega, by go_num, rfl, HLN.out⟩
                      case measure => simp [intOf]; omega
                    · intro ℓ a' w' ii o hI ho hi hL hdep K hK
                      obtain ⟨y0, y1, y2, y3, y4, y5, y6, y7, y8, yZ, rfl, hr, hC7, hZ⟩ := hI
                      have hi7 : ii < 10 := hi
                      have hcs : ii = 0 ∨ ii = 1 ∨ ii = 2 ∨ ii = 3 ∨ ii = 4 ∨ ii = 5 ∨ ii = 6 ∨ ii = 7 ∨ ii = 8 ∨ ii = 9 := by omega
                      clear hi hi7
                      rcases hcs with rfl | rfl | rfl | rfl | rfl | rfl | rfl | rfl | rfl | rfl
                      · obtain rfl := Option.some.inj ho
                        clear hdep ho
                        rw [if_pos (by rfl)]
                        try simp only [Act.put, List.setIfInBounds_toArray, List.set_cons_zero, List.set_cons_succ]
                        go_simp
                        exact hK.out _ _ (fun j => if j = 0 then true else ℓ j) ⟨.pointer (some ⟨b, 1, none⟩), y1, y2, y3, y4, y5, y6, y7, y8, yZ, (by simp only [Act.put, List.setIfInBounds_toArray, List.set_cons_zero, List.set_cons_succ]), ⟨hr.cu, hr.tu, (fun _ => rfl), hr.f1, hr.f2, hr.f3, hr.f4, hr.f5, hr.f6, hr.f7, hr.f8⟩, ⟨hC7, hZ⟩⟩ (if_pos rfl) (fun j hj => if_neg hj)
                      · obtain rfl := Option.some.inj ho
                        have g0 : ℓ 0 = true := hdep { on := 0, ground := Ground.data } (by simp) rfl
                        clear hdep ho
                        have hy0 := hr.f0 g0
                        subst hy0
                        have cc := (HKm.out.turn hr.tu (by omega)).cell 1 _ rfl
                        rw [if_pos (by rfl)]
                        try simp only [Act.put, List.setIfInBounds_toArray, List.set_cons_zero, List.set_cons_succ]
                        go_simp
                        exact hK.out _ _ (fun j => if j = 1 then true else ℓ j) ⟨.pointer (some ⟨b, 1, none⟩), .int .i64 st, y2, y3, y4, y5, y6, y7, y8, yZ, (by simp only [Act.put, List.setIfInBounds_toArray, List.set_cons_zero, List.set_cons_succ]), ⟨hr.cu, hr.tu, hr.f0, (fun _ => rfl), hr.f2, hr.f3, hr.f4, hr.f5, hr.f6, hr.f7, hr.f8⟩, ⟨hC7, hZ⟩⟩ (if_pos rfl) (fun j hj => if_neg hj)
                      · obtain rfl := Option.some.inj ho
                        clear hdep ho
                        rw [if_pos (by rfl)]
                        try simp only [Act.put, List.setIfInBounds_toArray, List.set_cons_zero, List.set_cons_succ]
                        go_simp
                        exact hK.out _ _ (fun j => if j = 2 then true else ℓ j) ⟨y0, y1, .pointer (some ⟨b, 2, none⟩), y3, y4, y5, y6, y7, y8, yZ, (by simp only [Act.put, List.setIfInBounds_toArray, List.set_cons_zero, List.set_cons_succ]), ⟨hr.cu, hr.tu, hr.f0, hr.f1, (fun _ => rfl), hr.f3, hr.f4, hr.f5, hr.f6, hr.f7, hr.f8⟩, ⟨hC7, hZ⟩⟩ (if_pos rfl) (fun j hj => if_neg hj)
                      · obtain rfl := Option.some.inj ho
                        have g2 : ℓ 2 = true := hdep { on := 2, ground := Ground.data } (by simp) rfl
                        clear hdep ho
                        have hy2 := hr.f2 g2
                        subst hy2
                        have cc := (HKm.out.turn hr.tu (by omega)).cell 2 _ rfl
                        rw [if_pos (by rfl)]
                        try simp only [Act.put, List.setIfInBounds_toArray, List.set_cons_zero, List.set_cons_succ]
                        go_simp
                        exact hK.out _ _ (fun j => if j = 3 then true else ℓ j) ⟨y0, y1, .pointer (some ⟨b, 2, none⟩), .int .i64 ((pdv + xp) + (wst + xg) + 1 + x9), y4, y5, y6, y7, y8, yZ, (by simp only [Act.put, List.setIfInBounds_toArray, List.set_cons_zero, List.set_cons_succ]), ⟨hr.cu, hr.tu, hr.f0, hr.f1, hr.f2, (fun _ => rfl), hr.f4, hr.f5, hr.f6, hr.f7, hr.f8⟩, ⟨hC7, hZ⟩⟩ (if_pos rfl) (fun j hj => if_neg hj)
                      · obtain rfl := Option.some.inj ho
                        have g1 : ℓ 1 = true := hdep { on := 1, ground := Ground.data } (by simp) rfl
                        have g3 : ℓ 3 = true := hdep { on := 3, ground := Ground.data } (by simp) rfl
                        clear hdep ho
                        have hy1 := hr.f1 g1
                        have hy3 := hr.f3 g3
                        subst hy1 hy3
                        rw [if_pos (by rfl)]
                        try simp only [Act.put, List.setIfInBounds_toArray, List.set_cons_zero, List.set_cons_succ]
                        go_simp
                        exact hK.out _ _ (fun j => if j = 4 then true else ℓ j) ⟨y0, .int .i64 st, y2, .int .i64 ((pdv + xp) + (wst + xg) + 1 + x9), .int .i64 (st + ((pdv + xp) + (wst + xg) + 1 + x9)), y5, y6, y7, y8, yZ, (by simp only [Act.put, List.setIfInBounds_toArray, List.set_cons_zero, List.set_cons_succ]), ⟨hr.cu, hr.tu, hr.f0, hr.f1, hr.f2, hr.f3, (fun _ => rfl), hr.f5, hr.f6, hr.f7, hr.f8⟩, ⟨hC7, hZ⟩⟩ (if_pos rfl) (fun j hj => if_neg hj)
                      · obtain rfl := Option.some.inj ho
                        clear hdep ho
                        rw [if_pos (by rfl)]
                        try simp only [Act.put, List.setIfInBounds_toArray, List.set_cons_zero, List.set_cons_succ]
                        go_simp
                        exact hK.out _ _ (fun j => if j = 5 then true else ℓ j) ⟨y0, y1, y2, y3, y4, .pointer (some ⟨B, 0, none⟩), y6, y7, y8, yZ, (by simp only [Act.put, List.setIfInBounds_toArray, List.set_cons_zero, List.set_cons_succ]), ⟨hr.cu, hr.tu, hr.f0, hr.f1, hr.f2, hr.f3, hr.f4, (fun _ => rfl), hr.f6, hr.f7, hr.f8⟩, ⟨hC7, hZ⟩⟩ (if_pos rfl) (fun j hj => if_neg hj)
                      · obtain rfl := Option.some.inj ho
                        clear hdep ho
                        have hl6 : ℓ 7 = false := by
                          cases h7 : ℓ 7
                          · rfl
                          · have := hC7 h7; rw [this] at hL; cases hL
                        rw [if_pos (by rfl)]
                        try simp only [Act.put, List.setIfInBounds_toArray, List.set_cons_zero, List.set_cons_succ]
                        go_simp
                        have hbel : Below w'.heap.size w' (w'.alloc (.cells #[.int .i64 0, .int .i64 0, .int .i64 3] 3)) := (Below.refl _ _).alloc (Nat.le_refl _) _
                        have hr9 := hr.move hBW (hr.cu.below hbel) (Turn.of_below hbel)
                        exact hK.out _ _ (fun j => if j = 6 then true else ℓ j) ⟨y0, y1, y2, y3, y4, y5, .slice (some ⟨w'.heap.size, 0, none⟩) 3 3, y7, y8, yZ, (by simp only [Act.put, List.setIfInBounds_toArray, List.set_cons_zero, List.set_cons_succ]), ⟨hr9.cu, hr9.tu, hr9.f0, hr9.f1, hr9.f2, hr9.f3, hr9.f4, hr9.f5, (fun _ _ => ⟨_, rfl, hr.tu.size, own_litD .i64 w' 3 [0, 0, 3]⟩), hr9.f7, hr9.f8⟩, ⟨fun _ => rfl, hZ⟩⟩ (if_pos rfl) (fun j hj => if_neg hj)
                      · obtain rfl := Option.some.inj ho
                        have g5 : ℓ 5 = true := hdep { on := 5, ground := Ground.data } (by simp) rfl
                        have g6 : ℓ 6 = true := hdep { on := 6, ground := Ground.data } (by simp) rfl
                        clear hdep ho
                        have hy5 := hr.f5 g5
                        subst hy5
                        revert hK
                        obtain ⟨gO, hy6, hgO, hO⟩ := hr.f6 g6 hL
                        subst hy6
                        intro hK
                        rw [if_pos (by rfl)]
                        try simp only [Act.put, List.setIfInBounds_toArray, List.set_cons_zero, List.set_cons_succ]
                        go_simp
                        refine Calls.mono (draw_pick _ _ _ _ _ _ [0, 0, 3] hr.cu hO (by omega) (by simp) (by simp)) ?_
                        rintro e w9 ⟨z9, rfl, hz9, hc9, ht9⟩
                        have hr9 := hr.move hBW hc9 ht9
                        exact hK.out _ _ (fun j => if j = 7 then true else ℓ j) ⟨y0, y1, y2, y3, y4, .pointer (some ⟨B, 0, none⟩), .slice (some ⟨gO, 0, none⟩) 3 3, .int .i64 z9, y8, yZ, (by simp only [Act.put, List.setIfInBounds_toArray, List.set_cons_zero, List.set_cons_succ]), ⟨hr9.cu, hr9.tu, hr9.f0, hr9.f1, hr9.f2, hr9.f3, hr9.f4, hr9.f5, (fun _ h => by cases h), (fun _ => ⟨z9, rfl, hz9⟩), hr9.f8⟩, ⟨fun _ => g6, hZ⟩⟩ (if_pos rfl) (fun j hj => if_neg hj)
                      · obtain rfl := Option.some.inj ho
                        have g4 : ℓ 4 = true := hdep { on := 4, ground := Ground.data } (by simp) rfl
                        have g7 : ℓ 7 = true := hdep { on := 7, ground := Ground.data } (by simp) rfl
                        clear hdep ho
                        have hy4 := hr.f4 g4
                        subst hy4
                        revert hK
                        obtain ⟨z9, hy7, hz9⟩ := hr.f7 g7
                        subst hy7
                        intro hK
                        have hz9' : 0 ≤ z9 ∧ z9 ≤ 20 := by simp at hz9; omega
                        have hwz : IntKind.i64.wrap (st + ((pdv + xp) + (wst + xg) + 1 + x9) + z9) = st + ((pdv + xp) + (wst + xg) + 1 + x9) + z9 := by rw [IntKind.wrap_i64]; omega
                        rw [if_pos (by rfl)]
                        try simp only [Act.put, List.setIfInBounds_toArray, List.set_cons_zero, List.set_cons_succ]
                        go_simp
                        exact hK.out _ _ (fun j => if j = 8 then true else ℓ j) ⟨y0, y1, y2, y3, .int .i64 (st + ((pdv + xp) + (wst + xg) + 1 + x9)), y5, y6, .int .i64 z9, .int .i64 (st + ((pdv + xp) + (wst + xg) + 1 + x9) + z9), yZ, (by simp only [Act.put, List.setIfInBounds_toArray, List.set_cons_zero, List.set_cons_succ]), ⟨hr.cu, hr.tu, hr.f0, hr.f1, hr.f2, hr.f3, hr.f4, hr.f5, hr.f6, hr.f7, (fun _ => ⟨z9, rfl, hz9⟩)⟩, ⟨hC7, hZ⟩⟩ (if_pos rfl) (fun j hj => if_neg hj)
                      · obtain rfl := Option.some.inj ho
                        have g8 : ℓ 8 = true := hdep { on := 8, ground := Ground.data } (by simp) rfl
                        clear hdep ho
                        revert hK
                        obtain ⟨z9, hy8, hz9⟩ := hr.f8 g8
                        subst hy8
                        intro hK
                        rw [if_pos (by rfl)]
                        try simp only [Act.put, List.setIfInBounds_toArray, List.set_cons_zero, List.set_cons_succ]
                        go_simp
                        exact hK.out _ _ (fun j => if j = 9 then true else ℓ j) ⟨y0, y1, y2, y3, y4, y5, y6, y7, .int .i64 (st + ((pdv + xp) + (wst + xg) + 1 + x9) + z9), .int .i64 (st + ((pdv + xp) + (wst + xg) + 1 + x9) + z9), (by simp only [Act.put, List.setIfInBounds_toArray, List.set_cons_zero, List.set_cons_succ]), ⟨hr.cu, hr.tu, hr.f0, hr.f1, hr.f2, hr.f3, hr.f4, hr.f5, hr.f6, hr.f7, (fun _ => ⟨z9, rfl, hz9⟩)⟩, ⟨hC7, (fun _ => ⟨z9, rfl, hz9⟩)⟩⟩ (if_pos rfl) (fun j hj => if_neg hj)
                    · rintro a' w' ℓ ℓ' hℓ hI
                      rw [← show ℓ = ℓ' from funext hℓ]
                      exact hI
                  · go_wp2_with fail
                    refine (draw_below _ _ _ _ _ _ HLK.out.st.ct.cur (by omega) (by omega)).mono ?_
                    rintro e w33 ⟨pn, rfl, hp0', hp1', hc, ht⟩
                    have HLK2 : Hid (LI w w28 B a zs cap V L2 42 3 RR slQ w33 vL es k) := HLK.out.turn hc ht hBL
                    have HKb2 : Hid (Bk w33 b #[.int .i64 rr, .int .i64 st, .int .i64 ((pdv + xp) + (wst + xg) + 1 + x9)]) := HKb.out.turn ht (by omega)
                    clear hc ht HLK HKb hp0 hp1
                    have hp0 := hp0'
                    have hp1 := hp1'
                    have q0 := HKb2.out.cell 0 _ rfl
                    have z0 := HKb2.out.free 0
                    have HLK : Hid (LI w w28 B a zs cap V L2 42 3 RR slQ (w33.setCell ⟨b, 0, none⟩ (.int .i64 pn)) vL es k) := HLK2.out.far hVb (by rw [HL2.out]; exact hbL) (Nat.le_of_eq HL2.out.symm) HNB.out
                    have HKb : Hid (Bk (w33.setCell ⟨b, 0, none⟩ (.int .i64 pn)) b #[.int .i64 pn, .int .i64 st, .int .i64 ((pdv + xp) + (wst + xg) + 1 + x9)]) := HKb2.out.set 0 _ (by simp) rfl
                    clear HLK2 HKb2
                    have k18 : (w33.setCell ⟨b, 0, none⟩ (.int .i64 pn)).cell? ⟨V, 18, none⟩ = some vL := HLK.out.st.rv.cell 18 (HRG.out vL)
                    have r0 := HKb.out.cell 0 _ rfl
                    have r1 := HKb.out.cell 1 _ rfl
                    have r2 := HKb.out.cell 2 _ rfl
                    obtain ⟨iS, hiS⟩ := slot_info'
                    have HIS : Hid (Tryz.prog.info? 42 = some iS ∧ iS.zero = some (.agg #[.int .i64 0, .int .i64 0, .int .i64 0]) ∧ iS.size = 3 ∧ iS.bytes = 24) := hiS
                    clear hiS
                    have hal : Below (w33.setCell ⟨b, 0, none⟩ (.int .i64 pn)).heap.size (w33.setCell ⟨b, 0, none⟩ (.int .i64 pn)) ((w33.setCell ⟨b, 0, none⟩ (.int .i64 pn)).alloc (.cells #[.int .i64 pn, .int .i64 st, .int .i64 ((pdv + xp) + (wst + xg) + 1 + x9)] 42)) := (Below.refl _ _).alloc (Nat.le_refl _) _
                    have HLA4 : Hid (LI w w28 B a zs cap V L2 42 3 RR slQ ((w33.setCell ⟨b, 0, none⟩ (.int .i64 pn)).alloc (.cells #[.int .i64 pn, .int .i64 st, .int .i64 ((pdv + xp) + (wst + xg) + 1 + x9)] 42)) vL es k) := HLK.out.turn (HLK.out.st.ct.cur.below hal) (Turn.of_below hal) hBL
                    have HEf : Hid (Bk ((w33.setCell ⟨b, 0, none⟩ (.int .i64 pn)).alloc (.cells #[.int .i64 pn, .int .i64 st, .int .i64 ((pdv + xp) + (wst + xg) + 1 + x9)] 42)) w33.heap.size #[.int .i64 pn, .int .i64 st, .int .i64 ((pdv + xp) + (wst + xg) + 1 + x9)]) := Bk.new _ _ _ _ (by simp)
                    have HKa : Hid (Bk ((w33.setCell ⟨b, 0, none⟩ (.int .i64 pn)).alloc (.cells #[.int .i64 pn, .int .i64 st, .int .i64 ((pdv + xp) + (wst + xg) + 1 + x9)] 42)) b #[.int .i64 pn, .int .i64 st, .int .i64 ((pdv + xp) + (wst + xg) + 1 + x9)]) := HKb.out.alloc _
                    have HZ : Hid (∀ g cap1 X, X.ownsRow L2 42 3 (.slice (some ⟨g, 0, none⟩) (k + 1) cap1) (k + 1) (es.flatten ++ [.int .i64 pn, .int .i64 st, .int .i64 ((pdv + xp) + (wst + xg) + 1 + x9)]) → ((w33.setCell ⟨b, 0, none⟩ (.int .i64 pn)).alloc (.cells #[.int .i64 pn, .int .i64 st, .int .i64 ((pdv + xp) + (wst + xg) + 1 + x9)] 42)).grownBy X vL.ownBlock → Sta w X B a zs cap V (RR vL) ∧ LI w w28 B a zs cap V L2 42 3 RR slQ (X.setCell ⟨V, 18, none⟩ (.slice (some ⟨g, 0, none⟩) (k + 1) cap1)) (.slice (some ⟨g, 0, none⟩) (k + 1) cap1) (es ++ [[.int .i64 pn, .int .i64 st, .int .i64 ((pdv + xp) + (wst + xg) + 1 + x9)]]) (k + 1) ∧ Bk (X.setCell ⟨V, 18, none⟩ (.slice (some ⟨g, 0, none⟩) (k + 1) cap1)) b #[.int .i64 pn, .int .i64 st, .int .i64 ((pdv + xp) + (wst + xg) + 1 + x9)]) := fun g cap1 X h1 h2 => by
                      obtain ⟨q1, q2⟩ := HLA4.out.app HL2.out hVL HRS.out h1 h2
                      refine ⟨q1, q2, ?_⟩
                      have hbk := h2.block b HKa.out.lt (fun e => HNB.out e.symm)
                      have hk2 : Bk X b #[.int .i64 pn, .int .i64 st, .int .i64 ((pdv + xp) + (wst + xg) + 1 + x9)] := ⟨Nat.lt_of_lt_of_le HKa.out.lt h2.size, fun i v e => (World.cell?_of_block (a := ⟨b, i, none⟩) hbk).trans (HKa.out.cell i v e), fun i => (World.frozen?_of_block (a := ⟨b, i, none⟩) hbk).trans (HKa.out.free i)⟩
                      exact hk2.other _ _ _ (by omega)
                    have hown := HLA4.out.own
                    have hbase : L2 ≤ ((w33.setCell ⟨b, 0, none⟩ (.int .i64 pn)).alloc (.cells #[.int .i64 pn, .int .i64 st, .int .i64 ((pdv + xp) + (wst + xg) + 1 + x9)] 42)).heap.size := by rw [← HL2.out]; exact HLA4.out.tw.size
                    go_wp2_with (at_builtin; (refine wpList_append_lies _ rfl (.tmp 184) (.tmp 186) 31 rfl L2 42 iS (.agg #[.int .i64 0, .int .i64 0, .int .i64 0]) 3 24 Tryz.underlying31 HIS.out.1 HIS.out.2.1 HIS.out.2.2.1 HIS.out.2.2.2 rfl (by omega) vL k es.flatten rfl hown ⟨w33.heap.size, 0, none⟩ 1 1 [.int .i64 pn, .int .i64 st, .int .i64 ((pdv + xp) + (wst + xg) + 1 + x9)] rfl rfl (news_of HEf.out) (one_slot _ _ _) (by omega) (by unfold maxLen; omega) (by omega) hbase _ rfl ?_; intro g cap1 wA hown1 hgrow hat hlt1; have HY : Hid _ := HZ.out g cap1 wA hown1 hgrow; have k18' := HY.out.1.rv.cell 18 (HRG.out vL); have z18 := HY.out.1.rv.free 18; clear hown1 hgrow hat hlt1))
                    have HLM : Hid (LI w w28 B a zs cap V L2 42 3 RR slQ (wA.setCell ⟨V, 18, none⟩ (.slice (some ⟨g, 0, none⟩) (k + 1) cap1)) (.slice (some ⟨g, 0, none⟩) (k + 1) cap1) (es ++ [[.int .i64 pn, .int .i64 st, .int .i64 ((pdv + xp) + (wst + xg) + 1 + x9)]]) (k + 1)) := HY.out.2.1
                    have HKm : Hid (Bk (wA.setCell ⟨V, 18, none⟩ (.slice (some ⟨g, 0, none⟩) (k + 1) cap1)) b #[.int .i64 pn, .int .i64 st, .int .i64 ((pdv + xp) + (wst + xg) + 1 + x9)]) := HY.out.2.2
                    clear HY HZ HLA4 HEf HKa hown hbase hal k18 k18' z18 r0 r1 r2 HIS HLK HKb
                    revert HLM HKm
                    generalize (wA.setCell ⟨V, 18, none⟩ (.slice (some ⟨g, 0, none⟩) (k + 1) cap1)) = wM
                    intro HLM HKm
                    have CU0 := HLM.out.st.ct.cur
                    have hBW : B < wM.heap.size := CU0.lt
                    have hsw : IntKind.i64.wrap (st + ((pdv + xp) + (wst + xg) + 1 + x9)) = st + ((pdv + xp) + (wst + xg) + 1 + x9) := by rw [IntKind.wrap_i64]; omega
                    refine wp_region_inv (by kernel_rfl) (by kernel_rfl) (fun AC ℓ a' w' => ∃ (y0 y1 y2 y3 y4 y5 y6 y7 y8 yZ : Value), a' = ((((((((((AC.put (some 189) y0).put (some 190) y1).put (some 191) y2).put (some 192) y3).put (some 193) y4).put (some 194) y5).put (some 195) y6).put (some 196) y7).put (some 197) y8).put (some 13) yZ) ∧ PP wM w' B a zs cap b st ((pdv + xp) + (wst + xg) + 1 + x9) [0, 0, 3] (ℓ 0) (ℓ 1) (ℓ 2) (ℓ 3) (ℓ 4) (ℓ 5) (ℓ 6) (ℓ 7) (ℓ 8) y0 y1 y2 y3 y4 y5 y6 y7 y8 ∧ ((ℓ 7 = true → ℓ 6 = true) ∧ (ℓ 9 = true → ∃ z : Int, yZ = .int .i64 (st + ((pdv + xp) + (wst + xg) + 1 + x9) + z) ∧ z ∈ [0, 0, 3]))) ?_ ?_ ?_ ?_
                    · exact ⟨u189, u190, u191, u192, u193, u194, u195, u196, u197, .int .i64 st, (by simp only [Act.put, List.setIfInBounds_toArray, List.set_cons_zero, List.set_cons_succ]), ⟨CU0.drewN 1, (Turn.refl _ _).drewN 1, (fun g => by cases g), (fun g => by cases g), (fun g => by cases g), (fun g => by cases g), (fun g => by cases g), (fun g => by cases g), (fun g _ => by cases g), (fun g => by cases g), (fun g => by cases g)⟩, (fun g => by cases g), (fun g => by cases g)⟩
                    · intro ℓ a' w' hI hall
                      obtain ⟨y0, y1, y2, y3, y4, y5, y6, y7, y8, yZ, rfl, hr, hC7, hZ⟩ := hI
                      have hall' : ∀ i, i < 10 → ℓ i = true := hall
                      obtain ⟨zz, hyZ, hzz⟩ := hZ (hall' 9 (by omega))
                      subst hyZ
                      have HLN : Hid (∃ vL' es', LI w w28 B a zs cap V L2 42 3 RR slQ w' vL' es' (k + 1) ∧ SC j pg es' (st + ((pdv + xp) + (wst + xg) + 1 + x9) + zz)) := ⟨_, _, HLM.out.turn hr.cu hr.tu hBL, (by
                        have hzz' : zz = 0 ∨ zz = 3 := by simpa using hzz
                        have h := SC.push HSC.out ⟨hp0, hp1⟩ ⟨hx0, hx9⟩ hzz'
                        rw [← HPG.out] at h ⊢
                        exact h)⟩
                      have hz9 : 0 ≤ zz ∧ zz ≤ 3 := by simp at hzz; omega
                      clear hr hall hall' hC7 hZ hzz HLM
                      simp only [Act.put, List.setIfInBounds_toArray, List.set_cons_zero, List.set_cons_succ]
                      go_wp2
                      go_roundw
                      case rel => exact ⟨k + 1, st + ((pdv + xp) + (wst + xg) + 1 + x9) + zz, by omega, by omega, by omega, by go_num, rfl, HLN.out⟩
                      case measure => simp [intOf]; omega
                    · intro ℓ a' w' ii o hI ho hi hL hdep K hK
                      obtain ⟨y0, y1, y2, y3, y4, y5, y6, y7, y8, yZ, rfl, hr, hC7, hZ⟩ := hI
                      have hi7 : ii < 10 := hi
                      have hcs : ii = 0 ∨ ii = 1 ∨ ii = 2 ∨ ii = 3 ∨ ii = 4 ∨ ii = 5 ∨ ii = 6 ∨ ii = 7 ∨ ii = 8 ∨ ii = 9 := by omega
                      clear hi hi7
                      rcases hcs with rfl | rfl | rfl | rfl | rfl | rfl | rfl | rfl | rfl | rfl
                      · obtain rfl := Option.some.inj ho
                        clear hdep ho
                        rw [if_pos (by rfl)]
                        try simp only [Act.put, List.setIfInBounds_toArray, List.set_cons_zero, List.set_cons_succ]
                        go_simp
                        exact hK.out _ _ (fun j => if j = 0 then true else ℓ j) ⟨.pointer (some ⟨b, 1, none⟩), y1, y2, y3, y4, y5, y6, y7, y8, yZ, (by simp only [Act.put, List.setIfInBounds_toArray, List.set_cons_zero, List.set_cons_succ]), ⟨hr.cu, hr.tu, (fun _ => rfl), hr.f1, hr.f2, hr.f3, hr.f4, hr.f5, hr.f6, hr.f7, hr.f8⟩, ⟨hC7, hZ⟩⟩ (if_pos rfl) (fun j hj => if_neg hj)
                      · obtain rfl := Option.some.inj ho
                        have g0 : ℓ 0 = true := hdep { on := 0, ground := Ground.data } (by simp) rfl
                        clear hdep ho
                        have hy0 := hr.f0 g0
                        subst hy0
                        have cc := (HKm.out.turn hr.tu (by omega)).cell 1 _ rfl
                        rw [if_pos (by rfl)]
                        try simp only [Act.put, List.setIfInBounds_toArray, List.set_cons_zero, List.set_cons_succ]
                        go_simp
                        exact hK.out _ _ (fun j => if j = 1 then true else ℓ j) ⟨.pointer (some ⟨b, 1, none⟩), .int .i64 st, y2, y3, y4, y5, y6, y7, y8, yZ, (by simp only [Act.put, List.setIfInBounds_toArray, List.set_cons_zero, List.set_cons_succ]), ⟨hr.cu, hr.tu, hr.f0, (fun _ => rfl), hr.f2, hr.f3, hr.f4, hr.f5, hr.f6, hr.f7, hr.f8⟩, ⟨hC7, hZ⟩⟩ (if_pos rfl) (fun j hj => if_neg hj)
                      · obtain rfl := Option.some.inj ho
                        clear hdep ho
                        rw [if_pos (by rfl)]
                        try simp only [Act.put, List.setIfInBounds_toArray, List.set_cons_zero, List.set_cons_succ]
                        go_simp
                        exact hK.out _ _ (fun j => if j = 2 then true else ℓ j) ⟨y0, y1, .pointer (some ⟨b, 2, none⟩), y3, y4, y5, y6, y7, y8, yZ, (by simp only [Act.put, List.setIfInBounds_toArray, List.set_cons_zero, List.set_cons_succ]), ⟨hr.cu, hr.tu, hr.f0, hr.f1, (fun _ => rfl), hr.f3, hr.f4, hr.f5, hr.f6, hr.f7, hr.f8⟩, ⟨hC7, hZ⟩⟩ (if_pos rfl) (fun j hj => if_neg hj)
                      · obtain rfl := Option.some.inj ho
                        have g2 : ℓ 2 = true := hdep { on := 2, ground := Ground.data } (by simp) rfl
                        clear hdep ho
                        have hy2 := hr.f2 g2
                        subst hy2
                        have cc := (HKm.out.turn hr.tu (by omega)).cell 2 _ rfl
                        rw [if_pos (by rfl)]
                        try simp only [Act.put, List.setIfInBounds_toArray, List.set_cons_zero, List.set_cons_succ]
                        go_simp
                        exact hK.out _ _ (fun j => if j = 3 then true else ℓ j) ⟨y0, y1, .pointer (some ⟨b, 2, none⟩), .int .i64 ((pdv + xp) + (wst + xg) + 1 + x9), y4, y5, y6, y7, y8, yZ, (by simp only [Act.put, List.setIfInBounds_toArray, List.set_cons_zero, List.set_cons_succ]), ⟨hr.cu, hr.tu, hr.f0, hr.f1, hr.f2, (fun _ => rfl), hr.f4, hr.f5, hr.f6, hr.f7, hr.f8⟩, ⟨hC7, hZ⟩⟩ (if_pos rfl) (fun j hj => if_neg hj)
                      · obtain rfl := Option.some.inj ho
                        have g1 : ℓ 1 = true := hdep { on := 1, ground := Ground.data } (by simp) rfl
                        have g3 : ℓ 3 = true := hdep { on := 3, ground := Ground.data } (by simp) rfl
                        clear hdep ho
                        have hy1 := hr.f1 g1
                        have hy3 := hr.f3 g3
                        subst hy1 hy3
                        rw [if_pos (by rfl)]
                        try simp only [Act.put, List.setIfInBounds_toArray, List.set_cons_zero, List.set_cons_succ]
                        go_simp
                        exact hK.out _ _ (fun j => if j = 4 then true else ℓ j) ⟨y0, .int .i64 st, y2, .int .i64 ((pdv + xp) + (wst + xg) + 1 + x9), .int .i64 (st + ((pdv + xp) + (wst + xg) + 1 + x9)), y5, y6, y7, y8, yZ, (by simp only [Act.put, List.setIfInBounds_toArray, List.set_cons_zero, List.set_cons_succ]), ⟨hr.cu, hr.tu, hr.f0, hr.f1, hr.f2, hr.f3, (fun _ => rfl), hr.f5, hr.f6, hr.f7, hr.f8⟩, ⟨hC7, hZ⟩⟩ (if_pos rfl) (fun j hj => if_neg hj)
                      · obtain rfl := Option.some.inj ho
                        clear hdep ho
                        rw [if_pos (by rfl)]
                        try simp only [Act.put, List.setIfInBounds_toArray, List.set_cons_zero, List.set_cons_succ]
                        go_simp
                        exact hK.out _ _ (fun j => if j = 5 then true else ℓ j) ⟨y0, y1, y2, y3, y4, .pointer (some ⟨B, 0, none⟩), y6, y7, y8, yZ, (by simp only [Act.put, List.setIfInBounds_toArray, List.set_cons_zero, List.set_cons_succ]), ⟨hr.cu, hr.tu, hr.f0, hr.f1, hr.f2, hr.f3, hr.f4, (fun _ => rfl), hr.f6, hr.f7, hr.f8⟩, ⟨hC7, hZ⟩⟩ (if_pos rfl) (fun j hj => if_neg hj)
                      · obtain rfl := Option.some.inj ho
                        clear hdep ho
                        have hl6 : ℓ 7 = false := by
                          cases h7 : ℓ 7
                          · rfl
                          · have := hC7 h7; rw [this] at hL; cases hL
                        rw [if_pos (by rfl)]
                        try simp only [Act.put, List.setIfInBounds_toArray, List.set_cons_zero, List.set_cons_succ]
                        go_simp
                        have hbel : Below w'.heap.size w' (w'.alloc (.cells #[.int .i64 0, .int .i64 0, .int .i64 3] 3)) := (Below.refl _ _).alloc (Nat.le_refl _) _
                        have hr9 := hr.move hBW (hr.cu.below hbel) (Turn.of_below hbel)
                        exact hK.out _ _ (fun j => if j = 6 then true else ℓ j) ⟨y0, y1, y2, y3, y4, y5, .slice (some ⟨w'.heap.size, 0, none⟩) 3 3, y7, y8, yZ, (by simp only [Act.put, List.setIfInBounds_toArray, List.set_cons_zero, List.set_cons_succ]), ⟨hr9.cu, hr9.tu, hr9.f0, hr9.f1, hr9.f2, hr9.f3, hr9.f4, hr9.f5, (fun _ _ => ⟨_, rfl, hr.tu.size, own_litD .i64 w' 3 [0, 0, 3]⟩), hr9.f7, hr9.f8⟩, ⟨fun _ => rfl, hZ⟩⟩ (if_pos rfl) (fun j hj => if_neg hj)
                      · obtain rfl := Option.some.inj ho
                        have g5 : ℓ 5 = true := hdep { on := 5, ground := Ground.data } (by simp) rfl
                        have g6 : ℓ 6 = true := hdep { on := 6, ground := Ground.data } (by simp) rfl
                        clear hdep ho
                        have hy5 := hr.f5 g5
                        subst hy5
                        revert hK
                        obtain ⟨gO, hy6, hgO, hO⟩ := hr.f6 g6 hL
                        subst hy6
                        intro hK
                        rw [if_pos (by rfl)]
                        try simp only [Act.put, List.setIfInBounds_toArray, List.set_cons_zero, List.set_cons_succ]
                        go_simp
                        refine Calls.mono (draw_pick _ _ _ _ _ _ [0, 0, 3] hr.cu hO (by omega) (by simp) (by simp)) ?_
                        rintro e w9 ⟨z9, rfl, hz9, hc9, ht9⟩
                        have hr9 := hr.move hBW hc9 ht9
                        exact hK.out _ _ (fun j => if j = 7 then true else ℓ j) ⟨y0, y1, y2, y3, y4, .pointer (some ⟨B, 0, none⟩), .slice (some ⟨gO, 0, none⟩) 3 3, .int .i64 z9, y8, yZ, (by simp only [Act.put, List.setIfInBounds_toArray, List.set_cons_zero, List.set_cons_succ]), ⟨hr9.cu, hr9.tu, hr9.f0, hr9.f1, hr9.f2, hr9.f3, hr9.f4, hr9.f5, (fun _ h => by cases h), (fun _ => ⟨z9, rfl, hz9⟩), hr9.f8⟩, ⟨fun _ => g6, hZ⟩⟩ (if_pos rfl) (fun j hj => if_neg hj)
                      · obtain rfl := Option.some.inj ho
                        have g4 : ℓ 4 = true := hdep { on := 4, ground := Ground.data } (by simp) rfl
                        have g7 : ℓ 7 = true := hdep { on := 7, ground := Ground.data } (by simp) rfl
                        clear hdep ho
                        have hy4 := hr.f4 g4
                        subst hy4
                        revert hK
                        obtain ⟨z9, hy7, hz9⟩ := hr.f7 g7
                        subst hy7
                        intro hK
                        have hz9' : 0 ≤ z9 ∧ z9 ≤ 20 := by simp at hz9; omega
                        have hwz : IntKind.i64.wrap (st + ((pdv + xp) + (wst + xg) + 1 + x9) + z9) = st + ((pdv + xp) + (wst + xg) + 1 + x9) + z9 := by rw [IntKind.wrap_i64]; omega
                        rw [if_pos (by rfl)]
                        try simp only [Act.put, List.setIfInBounds_toArray, List.set_cons_zero, List.set_cons_succ]
                        go_simp
                        exact hK.out _ _ (fun j => if j = 8 then true else ℓ j) ⟨y0, y1, y2, y3, .int .i64 (st + ((pdv + xp) + (wst + xg) + 1 + x9)), y5, y6, .int .i64 z9, .int .i64 (st + ((pdv + xp) + (wst + xg) + 1 + x9) + z9), yZ, (by simp only [Act.put, List.setIfInBounds_toArray, List.set_cons_zero, List.set_cons_succ]), ⟨hr.cu, hr.tu, hr.f0, hr.f1, hr.f2, hr.f3, hr.f4, hr.f5, hr.f6, hr.f7, (fun _ => ⟨z9, rfl, hz9⟩)⟩, ⟨hC7, hZ⟩⟩ (if_pos rfl) (fun j hj => if_neg hj)
                      · obtain rfl := Option.some.inj ho
                        have g8 : ℓ 8 = true := hdep { on := 8, ground := Ground.data } (by simp) rfl
                        clear hdep ho
                        revert hK
                        obtain ⟨z9, hy8, hz9⟩ := hr.f8 g8
                        subst hy8
                        intro hK
                        rw [if_pos (by rfl)]
                        try simp only [Act.put, List.setIfInBounds_toArray, List.set_cons_zero, List.set_cons_succ]
                        go_simp
                        exact hK.out _ _ (fun j => if j = 9 then true else ℓ j) ⟨y0, y1, y2, y3, y4, y5, y6, y7, .int .i64 (st + ((pdv + xp) + (wst + xg) + 1 + x9) + z9), .int .i64 (st + ((pdv + xp) + (wst + xg) + 1 + x9) + z9), (by simp only [Act.put, List.setIfInBounds_toArray, List.set_cons_zero, List.set_cons_succ]), ⟨hr.cu, hr.tu, hr.f0, hr.f1, hr.f2, hr.f3, hr.f4, hr.f5, hr.f6, hr.f7, (fun _ => ⟨z9, rfl, hz9⟩)⟩, ⟨hC7, (fun _ => ⟨z9, rfl, hz9⟩)⟩⟩ (if_pos rfl) (fun j hj => if_neg hj)
                    · rintro a' w' ℓ ℓ' hℓ hI
                      rw [← show ℓ = ℓ' from funext hℓ]
                      exact hI
                · intro ℓ a' w' ii o hI ho hi hL hdep K hK
                  obtain ⟨x163, x164, x165, x166, x167, x168, x169, x170, x171, x172, x173, x174, x175, x176, x15, rfl, hr⟩ := hI
                  have hi7 : ii < 16 := hi
                  have hcs : ii = 0 ∨ ii = 1 ∨ ii = 2 ∨ ii = 3 ∨ ii = 4 ∨ ii = 5 ∨ ii = 6 ∨ ii = 7 ∨ ii = 8 ∨ ii = 9 ∨ ii = 10 ∨ ii = 11 ∨ ii = 12 ∨ ii = 13 ∨ ii = 14 ∨ ii = 15 := by omega
                  have hl15 : ii = 13 ∨ ii = 14 → ℓ 15 = false := fun hh => by
                    cases h8 : ℓ 15
                    · rfl
                    · have e6 := (hr.c15 h8).1
                      have e7 := (hr.c15 h8).2
                      rcases hh with rfl | rfl
                      · rw [e6] at hL; cases hL
                      · rw [e7] at hL; cases hL
                  clear hi hi7
                  rcases hcs with rfl | rfl | rfl | rfl | rfl | rfl | rfl | rfl | rfl | rfl | rfl | rfl | rfl | rfl | rfl | rfl
                  · obtain rfl := Option.some.inj ho
                    clear hdep ho
                    rw [if_pos (by rfl)]
                    try simp only [Act.put, List.setIfInBounds_toArray, List.set_cons_zero, List.set_cons_succ]
                    go_simp
                    exact hK.out _ _ (fun j => if j = 0 then true else ℓ j) ⟨.int .i64 (k : Int), x164, x165, x166, x167, x168, x169, x170, x171, x172, x173, x174, x175, x176, x15, (by simp only [Act.put, List.setIfInBounds_toArray, List.set_cons_zero, List.set_cons_succ]), ⟨hr.cu, hr.tu, (fun _ => rfl), hr.f1, hr.f2, hr.f3, hr.f4, hr.f5, hr.f6, hr.f7, hr.f8, hr.f9, hr.f10, hr.f11, hr.f12, hr.f13, hr.f14, hr.c15⟩⟩ (if_pos rfl) (fun j hj => if_neg hj)
                  · obtain rfl := Option.some.inj ho
                    clear hdep ho
                    rw [if_pos (by rfl)]
                    try simp only [Act.put, List.setIfInBounds_toArray, List.set_cons_zero, List.set_cons_succ]
                    go_simp
                    exact hK.out _ _ (fun j => if j = 1 then true else ℓ j) ⟨x163, .int .i64 (j : Int), x165, x166, x167, x168, x169, x170, x171, x172, x173, x174, x175, x176, x15, (by simp only [Act.put, List.setIfInBounds_toArray, List.set_cons_zero, List.set_cons_succ]), ⟨hr.cu, hr.tu, hr.f0, (fun _ => rfl), hr.f2, hr.f3, hr.f4, hr.f5, hr.f6, hr.f7, hr.f8, hr.f9, hr.f10, hr.f11, hr.f12, hr.f13, hr.f14, hr.c15⟩⟩ (if_pos rfl) (fun j hj => if_neg hj)
                  · obtain rfl := Option.some.inj ho
                    have g0 : ℓ 0 = true := hdep { on := 0, ground := Ground.data } (by simp) rfl
                    have g1 : ℓ 1 = true := hdep { on := 1, ground := Ground.data } (by simp) rfl
                    clear hdep ho
                    have hx163 := hr.f0 g0
                    have hx164 := hr.f1 g1
                    subst hx163 hx164
                    rw [if_pos (by rfl)]
                    try simp only [Act.put, List.setIfInBounds_toArray, List.set_cons_zero, List.set_cons_succ]
                    go_simp
                    exact hK.out _ _ (fun j => if j = 2 then true else ℓ j) ⟨.int .i64 (k : Int), .int .i64 (j : Int), .int .i64 rr, x166, x167, x168, x169, x170, x171, x172, x173, x174, x175, x176, x15, (by simp only [Act.put, List.setIfInBounds_toArray, List.set_cons_zero, List.set_cons_succ]), ⟨hr.cu, hr.tu, hr.f0, hr.f1, (fun _ => rfl), hr.f3, hr.f4, hr.f5, hr.f6, hr.f7, hr.f8, hr.f9, hr.f10, hr.f11, hr.f12, hr.f13, hr.f14, hr.c15⟩⟩ (if_pos rfl) (fun j hj => if_neg hj)
                  · obtain rfl := Option.some.inj ho
                    clear hdep ho
                    rw [if_pos (by rfl)]
                    try simp only [Act.put, List.setIfInBounds_toArray, List.set_cons_zero, List.set_cons_succ]
                    go_simp
                    exact hK.out _ _ (fun j => if j = 3 then true else ℓ j) ⟨x163, x164, x165, .int .i64 st, x167, x168, x169, x170, x171, x172, x173, x174, x175, x176, x15, (by simp only [Act.put, List.setIfInBounds_toArray, List.set_cons_zero, List.set_cons_succ]), ⟨hr.cu, hr.tu, hr.f0, hr.f1, hr.f2, (fun _ => rfl), hr.f4, hr.f5, hr.f6, hr.f7, hr.f8, hr.f9, hr.f10, hr.f11, hr.f12, hr.f13, hr.f14, hr.c15⟩⟩ (if_pos rfl) (fun j hj => if_neg hj)
                  · obtain rfl := Option.some.inj ho
                    clear hdep ho
                    rw [if_pos (by rfl)]
                    try simp only [Act.put, List.setIfInBounds_toArray, List.set_cons_zero, List.set_cons_succ]
                    go_simp
                    exact hK.out _ _ (fun j => if j = 4 then true else ℓ j) ⟨x163, x164, x165, x166, .pointer (some ⟨V, 12, none⟩), x168, x169, x170, x171, x172, x173, x174, x175, x176, x15, (by simp only [Act.put, List.setIfInBounds_toArray, List.set_cons_zero, List.set_cons_succ]), ⟨hr.cu, hr.tu, hr.f0, hr.f1, hr.f2, hr.f3, (fun _ => rfl), hr.f5, hr.f6, hr.f7, hr.f8, hr.f9, hr.f10, hr.f11, hr.f12, hr.f13, hr.f14, hr.c15⟩⟩ (if_pos rfl) (fun j hj => if_neg hj)
                  · obtain rfl := Option.some.inj ho
                    have g4 : ℓ 4 = true := hdep { on := 4, ground := Ground.data } (by simp) rfl
                    clear hdep ho
                    have hx167 := hr.f4 g4
                    subst hx167
                    have cc : w'.cell? ⟨V, 12, none⟩ = some (.int .i64 (pdv + xp)) := (HLJ.out.st.rv.turn hr.tu hVB).cell 12 (HRP.out vL).1
                    rw [if_pos (by rfl)]
                    try simp only [Act.put, List.setIfInBounds_toArray, List.set_cons_zero, List.set_cons_succ]
                    go_simp
                    exact hK.out _ _ (fun j => if j = 5 then true else ℓ j) ⟨x163, x164, x165, x166, .pointer (some ⟨V, 12, none⟩), .int .i64 (pdv + xp), x169, x170, x171, x172, x173, x174, x175, x176, x15, (by simp only [Act.put, List.setIfInBounds_toArray, List.set_cons_zero, List.set_cons_succ]), ⟨hr.cu, hr.tu, hr.f0, hr.f1, hr.f2, hr.f3, hr.f4, (fun _ => rfl), hr.f6, hr.f7, hr.f8, hr.f9, hr.f10, hr.f11, hr.f12, hr.f13, hr.f14, hr.c15⟩⟩ (if_pos rfl) (fun j hj => if_neg hj)
                  · obtain rfl := Option.some.inj ho
                    clear hdep ho
                    rw [if_pos (by rfl)]
                    try simp only [Act.put, List.setIfInBounds_toArray, List.set_cons_zero, List.set_cons_succ]
                    go_simp
                    exact hK.out _ _ (fun j => if j = 6 then true else ℓ j) ⟨x163, x164, x165, x166, x167, x168, .pointer (some ⟨V, 13, none⟩), x170, x171, x172, x173, x174, x175, x176, x15, (by simp only [Act.put, List.setIfInBounds_toArray, List.set_cons_zero, List.set_cons_succ]), ⟨hr.cu, hr.tu, hr.f0, hr.f1, hr.f2, hr.f3, hr.f4, hr.f5, (fun _ => rfl), hr.f7, hr.f8, hr.f9, hr.f10, hr.f11, hr.f12, hr.f13, hr.f14, hr.c15⟩⟩ (if_pos rfl) (fun j hj => if_neg hj)
                  · obtain rfl := Option.some.inj ho
                    have g6 : ℓ 6 = true := hdep { on := 6, ground := Ground.data } (by simp) rfl
                    clear hdep ho
                    have hx169 := hr.f6 g6
                    subst hx169
                    have cc : w'.cell? ⟨V, 13, none⟩ = some (.int .i64 (wst + xg)) := (HLJ.out.st.rv.turn hr.tu hVB).cell 13 (HRP.out vL).2
                    rw [if_pos (by rfl)]
                    try simp only [Act.put, List.setIfInBounds_toArray, List.set_cons_zero, List.set_cons_succ]
                    go_simp
                    exact hK.out _ _ (fun j => if j = 7 then true else ℓ j) ⟨x163, x164, x165, x166, x167, x168, .pointer (some ⟨V, 13, none⟩), .int .i64 (wst + xg), x171, x172, x173, x174, x175, x176, x15, (by simp only [Act.put, List.setIfInBounds_toArray, List.set_cons_zero, List.set_cons_succ]), ⟨hr.cu, hr.tu, hr.f0, hr.f1, hr.f2, hr.f3, hr.f4, hr.f5, hr.f6, (fun _ => rfl), hr.f8, hr.f9, hr.f10, hr.f11, hr.f12, hr.f13, hr.f14, hr.c15⟩⟩ (if_pos rfl) (fun j hj => if_neg hj)
                  · obtain rfl := Option.some.inj ho
                    have g5 : ℓ 5 = true := hdep { on := 5, ground := Ground.data } (by simp) rfl
                    have g7 : ℓ 7 = true := hdep { on := 7, ground := Ground.data } (by simp) rfl
                    clear hdep ho
                    have hx168 := hr.f5 g5
                    have hx170 := hr.f7 g7
                    subst hx168 hx170
                    rw [if_pos (by rfl)]
                    try simp only [Act.put, List.setIfInBounds_toArray, List.set_cons_zero, List.set_cons_succ]
                    go_simp
                    exact hK.out _ _ (fun j => if j = 8 then true else ℓ j) ⟨x163, x164, x165, x166, x167, .int .i64 (pdv + xp), x169, .int .i64 (wst + xg), .int .i64 ((pdv + xp) + (wst + xg)), x172, x173, x174, x175, x176, x15, (by simp only [Act.put, List.setIfInBounds_toArray, List.set_cons_zero, List.set_cons_succ]), ⟨hr.cu, hr.tu, hr.f0, hr.f1, hr.f2, hr.f3, hr.f4, hr.f5, hr.f6, hr.f7, (fun _ => rfl), hr.f9, hr.f10, hr.f11, hr.f12, hr.f13, hr.f14, hr.c15⟩⟩ (if_pos rfl) (fun j hj => if_neg hj)
                  · obtain rfl := Option.some.inj ho
                    have g8 : ℓ 8 = true := hdep { on := 8, ground := Ground.data } (by simp) rfl
                    clear hdep ho
                    have hx171 := hr.f8 g8
                    subst hx171
                    rw [if_pos (by rfl)]
                    try simp only [Act.put, List.setIfInBounds_toArray, List.set_cons_zero, List.set_cons_succ]
                    go_simp
                    exact hK.out _ _ (fun j => if j = 9 then true else ℓ j) ⟨x163, x164, x165, x166, x167, x168, x169, x170, .int .i64 ((pdv + xp) + (wst + xg)), .int .i64 ((pdv + xp) + (wst + xg) + 1), x173, x174, x175, x176, x15, (by simp only [Act.put, List.setIfInBounds_toArray, List.set_cons_zero, List.set_cons_succ]), ⟨hr.cu, hr.tu, hr.f0, hr.f1, hr.f2, hr.f3, hr.f4, hr.f5, hr.f6, hr.f7, hr.f8, (fun _ => rfl), hr.f10, hr.f11, hr.f12, hr.f13, hr.f14, hr.c15⟩⟩ (if_pos rfl) (fun j hj => if_neg hj)
                  · obtain rfl := Option.some.inj ho
                    clear hdep ho
                    rw [if_pos (by rfl)]
                    try simp only [Act.put, List.setIfInBounds_toArray, List.set_cons_zero, List.set_cons_succ]
                    go_simp
                    exact hK.out _ _ (fun j => if j = 10 then true else ℓ j) ⟨x163, x164, x165, x166, x167, x168, x169, x170, x171, x172, .pointer (some ⟨B, 0, none⟩), x174, x175, x176, x15, (by simp only [Act.put, List.setIfInBounds_toArray, List.set_cons_zero, List.set_cons_succ]), ⟨hr.cu, hr.tu, hr.f0, hr.f1, hr.f2, hr.f3, hr.f4, hr.f5, hr.f6, hr.f7, hr.f8, hr.f9, (fun _ => rfl), hr.f11, hr.f12, hr.f13, hr.f14, hr.c15⟩⟩ (if_pos rfl) (fun j hj => if_neg hj)
                  · obtain rfl := Option.some.inj ho
                    have g10 : ℓ 10 = true := hdep { on := 10, ground := Ground.data } (by simp) rfl
                    clear hdep ho
                    have hx173 := hr.f10 g10
                    subst hx173
                    rw [if_pos (by rfl)]
                    try simp only [Act.put, List.setIfInBounds_toArray, List.set_cons_zero, List.set_cons_succ]
                    go_simp
                    refine Calls.mono (draw_below _ _ _ _ _ _ hr.cu (by omega) (by omega)) ?_
                    rintro e w9 ⟨x9, rfl, hx0, hx9, hc9, ht9⟩
                    have hr9 := hr.move hB30 hc9 ht9
                    exact hK.out _ _ (fun j => if j = 11 then true else ℓ j) ⟨x163, x164, x165, x166, x167, x168, x169, x170, x171, x172, .pointer (some ⟨B, 0, none⟩), .int .i64 x9, x175, x176, x15, (by simp only [Act.put, List.setIfInBounds_toArray, List.set_cons_zero, List.set_cons_succ]), ⟨hr9.cu, hr9.tu, hr9.f0, hr9.f1, hr9.f2, hr9.f3, hr9.f4, hr9.f5, hr9.f6, hr9.f7, hr9.f8, hr9.f9, hr9.f10, (fun _ => ⟨x9, rfl, hx0, hx9⟩), hr9.f12, hr9.f13, hr9.f14, hr9.c15⟩⟩ (if_pos rfl) (fun j hj => if_neg hj)
                  · obtain rfl := Option.some.inj ho
                    have g9 : ℓ 9 = true := hdep { on := 9, ground := Ground.data } (by simp) rfl
                    have g11 : ℓ 11 = true := hdep { on := 11, ground := Ground.data } (by simp) rfl
                    clear hdep ho
                    have hx172 := hr.f9 g9
                    subst hx172
                    revert hK
                    obtain ⟨x9, hx174, hx0, hx9⟩ := hr.f11 g11
                    subst hx174
                    intro hK
                    have hwx : IntKind.i64.wrap ((pdv + xp) + (wst + xg) + 1 + x9) = (pdv + xp) + (wst + xg) + 1 + x9 := by rw [IntKind.wrap_i64]; omega
                    rw [if_pos (by rfl)]
                    try simp only [Act.put, List.setIfInBounds_toArray, List.set_cons_zero, List.set_cons_succ]
                    go_simp
                    exact hK.out _ _ (fun j => if j = 12 then true else ℓ j) ⟨x163, x164, x165, x166, x167, x168, x169, x170, x171, .int .i64 ((pdv + xp) + (wst + xg) + 1), x173, .int .i64 x9, .int .i64 ((pdv + xp) + (wst + xg) + 1 + x9), x176, x15, (by simp only [Act.put, List.setIfInBounds_toArray, List.set_cons_zero, List.set_cons_succ]), ⟨hr.cu, hr.tu, hr.f0, hr.f1, hr.f2, hr.f3, hr.f4, hr.f5, hr.f6, hr.f7, hr.f8, hr.f9, hr.f10, hr.f11, (fun _ => ⟨x9, rfl, hx0, hx9⟩), hr.f13, hr.f14, hr.c15⟩⟩ (if_pos rfl) (fun j hj => if_neg hj)
                  · obtain rfl := Option.some.inj ho
                    have g2 : ℓ 2 = true := hdep { on := 2, ground := Ground.data } (by simp) rfl
                    have g3 : ℓ 3 = true := hdep { on := 3, ground := Ground.data } (by simp) rfl
                    have g12 : ℓ 12 = true := hdep { on := 12, ground := Ground.data } (by simp) rfl
                    clear hdep ho
                    have hx165 := hr.f2 g2
                    have hx166 := hr.f3 g3
                    subst hx165 hx166
                    revert hK
                    obtain ⟨x9, hx175, hx0, hx9⟩ := hr.f12 g12
                    subst hx175
                    intro hK
                    have hl := hl15 (by omega)
                    rw [if_pos (by rfl)]
                    try simp only [Act.put, List.setIfInBounds_toArray, List.set_cons_zero, List.set_cons_succ]
                    go_simp
                    exact hK.out _ _ (fun j => if j = 13 then true else ℓ j) ⟨x163, x164, .int .i64 rr, .int .i64 st, x167, x168, x169, x170, x171, x172, x173, x174, .int .i64 ((pdv + xp) + (wst + xg) + 1 + x9), .agg #[.int .i64 rr, .int .i64 st, .int .i64 ((pdv + xp) + (wst + xg) + 1 + x9)], x15, (by simp only [Act.put, List.setIfInBounds_toArray, List.set_cons_zero, List.set_cons_succ]), ⟨hr.cu, hr.tu, hr.f0, hr.f1, hr.f2, hr.f3, hr.f4, hr.f5, hr.f6, hr.f7, hr.f8, hr.f9, hr.f10, hr.f11, hr.f12, (fun _ => ⟨x9, rfl, hx0, hx9⟩), hr.f14, (fun h => absurd (hl.symm.trans h) (by decide))⟩⟩ (if_pos rfl) (fun j hj => if_neg hj)
                  · obtain rfl := Option.some.inj ho
                    clear hdep ho
                    have hl := hl15 (by omega)
                    rw [if_pos (by rfl)]
                    try simp only [Act.put, List.setIfInBounds_toArray, List.set_cons_zero, List.set_cons_succ]
                    go_simp
                    have hbel : Below w'.heap.size w' (w'.alloc (.cells #[.int .i64 0, .int .i64 0, .int .i64 0] 42)) := (Below.refl _ _).alloc (Nat.le_refl _) _
                    have hr9 := hr.move hB30 (hr.cu.below hbel) (Turn.of_below hbel)
                    exact hK.out _ _ (fun j => if j = 14 then true else ℓ j) ⟨x163, x164, x165, x166, x167, x168, x169, x170, x171, x172, x173, x174, x175, x176, .pointer (some ⟨w'.heap.size, 0, none⟩), (by simp only [Act.put, List.setIfInBounds_toArray, List.set_cons_zero, List.set_cons_succ]), ⟨hr9.cu, hr9.tu, hr9.f0, hr9.f1, hr9.f2, hr9.f3, hr9.f4, hr9.f5, hr9.f6, hr9.f7, hr9.f8, hr9.f9, hr9.f10, hr9.f11, hr9.f12, hr9.f13, (fun _ => ⟨_, rfl, hr.tu.size, 0, 0, 0, Bk.new _ _ _ _ rfl, fun h => absurd (hl.symm.trans h) (by decide)⟩), (fun h => absurd (hl.symm.trans h) (by decide))⟩⟩ (if_pos rfl) (fun j hj => if_neg hj)
                  · obtain rfl := Option.some.inj ho
                    have g13 : ℓ 13 = true := hdep { on := 13, ground := Ground.data } (by simp) rfl
                    have g14 : ℓ 14 = true := hdep { on := 14, ground := Ground.data } (by simp) rfl
                    clear hdep ho
                    revert hK
                    obtain ⟨x9, hx176, hx0, hx9⟩ := hr.f13 g13
                    obtain ⟨b, hx15, hbl, y0, y1, y2, hk8, hz8⟩ := hr.f14 g14
                    clear hz8
                    subst hx176 hx15
                    intro hK
                    have q0 := hk8.cell 0 _ rfl
                    have q1 := hk8.cell 1 _ rfl
                    have q2' := hk8.cell 2 _ rfl
                    have z0 := hk8.free 0
                    have z1 := hk8.free 1
                    have z2 := hk8.free 2
                    rw [if_pos (by rfl)]
                    try simp only [Act.put, List.setIfInBounds_toArray, List.set_cons_zero, List.set_cons_succ]
                    go_simp
                    have hk9 : Bk (((w'.setCell ⟨b, 0, none⟩ (.int .i64 rr)).setCell ⟨b, 1, none⟩ (.int .i64 st)).setCell ⟨b, 2, none⟩ (.int .i64 ((pdv + xp) + (wst + xg) + 1 + x9))) b #[.int .i64 rr, .int .i64 st, .int .i64 ((pdv + xp) + (wst + xg) + 1 + x9)] := ((hk8.set 0 _ (by simp) rfl).set 1 _ (by simp) rfl).set 2 _ (by simp) rfl
                    have htu : Turn B w30 (((w'.setCell ⟨b, 0, none⟩ (.int .i64 rr)).setCell ⟨b, 1, none⟩ (.int .i64 st)).setCell ⟨b, 2, none⟩ (.int .i64 ((pdv + xp) + (wst + xg) + 1 + x9))) := turn_far (turn_far (turn_far hr.tu hbl _ _) hbl _ _) hbl _ _
                    have hbb : B ≠ b := by omega
                    have hfa : ∀ b' off, a = some ⟨b', off, none⟩ → 0 < zs.length → b' ≠ b := fun b' off e h0 => by have := HLA.out b' off e h0; omega
                    have hcu : Cur (((w'.setCell ⟨b, 0, none⟩ (.int .i64 rr)).setCell ⟨b, 1, none⟩ (.int .i64 st)).setCell ⟨b, 2, none⟩ (.int .i64 ((pdv + xp) + (wst + xg) + 1 + x9))) B a zs cap := cur_far (cur_far (cur_far hr.cu _ _ _ hbb hfa) _ _ _ hbb hfa) _ _ _ hbb hfa
                    exact hK.out _ _ (fun j => if j = 15 then true else ℓ j) ⟨x163, x164, x165, x166, x167, x168, x169, x170, x171, x172, x173, x174, x175, .agg #[.int .i64 rr, .int .i64 st, .int .i64 ((pdv + xp) + (wst + xg) + 1 + x9)], .pointer (some ⟨b, 0, none⟩), (by simp only [Act.put, List.setIfInBounds_toArray, List.set_cons_zero, List.set_cons_succ]), ⟨hcu, htu, hr.f0, hr.f1, hr.f2, hr.f3, hr.f4, hr.f5, hr.f6, hr.f7, hr.f8, hr.f9, hr.f10, hr.f11, hr.f12, (fun _ => ⟨x9, rfl, hx0, hx9⟩), (fun _ => ⟨b, rfl, hbl, _, _, _, hk9, fun _ => ⟨x9, rfl, rfl, rfl, hx0, hx9⟩⟩), (fun _ => ⟨g13, g14⟩)⟩⟩ (if_pos rfl) (fun j hj => if_neg hj)
                · rintro a' w' ℓ ℓ' hℓ hI
                  rw [← show ℓ = ℓ' from funext hℓ]
                  exact hI
            go_wp2
            refine wp_region_inv (by kernel_rfl) (by kernel_rfl) (fun AC ℓ a' w' => ∃ (x0 x1 x2 x3 x4 x5 x6 x7 : Value), a' = ((((((((AC.put (some 124) x0).put (some 125) x1).put (some 126) x2).put (some 127) x3).put (some 128) x4).put (some 129) x5).put (some 130) x6).put (some 131) x7) ∧ PA w w20 B a zs cap V 17 L2 76 4 j RR QQ EE vL i es.flatten w' (ℓ 0) (ℓ 1) (ℓ 2) (ℓ 3) (ℓ 4) (ℓ 5) (ℓ 6) (ℓ 7) (ℓ 8) x0 x1 x2 x3 x4 x5 x6 x7) ?_ ?_ ?_ ?_
            · exact ⟨u124, u125, u126, u127, u128, u129, u130, u131, (by simp only [Act.put, List.setIfInBounds_toArray, List.set_cons_zero, List.set_cons_succ]), ⟨⟨HLJ.out.tw.size, HLJ.out.tw.block⟩, (fun _ => HLJ.out.st.step (HLJ.out.st.ct.cur.drewN 1) ((Turn.refl _ _).drewN 1)), (fun _ => owns_turn HLJ.out.own ((Turn.refl B _).drewN 1) (by omega)), (fun g => by cases g), (fun g => by cases g), (fun g => by cases g), (fun g => by cases g), (fun g => by cases g), (fun g => by cases g), (fun g => by cases g), (fun g => by cases g), (fun g => by cases g), (fun g => by cases g), (fun g => by cases g), (fun g => by cases g)⟩⟩
            · intro ℓ a' w21b hI hall
              obtain ⟨x0, x1, x2, x3, x4, x5, x6, x7, rfl, hr⟩ := hI
              have hall' : ∀ i, i < 9 → ℓ i = true := hall
              obtain ⟨g, c, cs, hx6, hQ, hown⟩ := hr.f6 (hall' 6 (by omega))
              have hs := hr.f8 (hall' 8 (by omega))
              subst hx6
              have HLK : Hid (∃ vL es, LI w w20 B a zs cap V L2 76 4 RR QQ w21b vL es (i + 1)) := ⟨_, es ++ [cs], by simp [HLJ.out.len], fun e he => by
                rcases List.mem_append.1 he with h | h
                · exact HLJ.out.q e h
                · simp only [List.mem_singleton] at h; rw [h]; exact hQ, by simpa using hown, hr.tw, hs⟩
              clear hr hall hall' hs hown hQ HLJ
              simp only [Act.put, List.setIfInBounds_toArray, List.set_cons_zero, List.set_cons_succ]
              go_wp2
              go_roundw
              case rel => exact ⟨i + 1, by omega, by go_num, HLK⟩
              case measure => simp [intOf]; omega
            · intro ℓ a' w' ii o hI ho hi hL hdep K hK
              obtain ⟨x0, x1, x2, x3, x4, x5, x6, x7, rfl, hr⟩ := hI
              have hi7 : ii < 9 := hi
              have hcs : ii = 0 ∨ ii = 1 ∨ ii = 2 ∨ ii = 3 ∨ ii = 4 ∨ ii = 5 ∨ ii = 6 ∨ ii = 7 ∨ ii = 8 := by omega
              have hno : ∀ jj, ℓ jj = true → ii = jj → False := fun jj h e => by subst e; rw [h] at hL; cases hL
              have hl6 : ii = 1 ∨ ii = 4 ∨ ii = 5 ∨ ii = 6 → ℓ 6 = false := fun hh => by
                cases h6 : ℓ 6
                · rfl
                · exfalso
                  rcases hh with e | e | e | e
                  · exact hno 1 (hr.c6 h6).1 e
                  · exact hno 4 (hr.c5 (hr.c6 h6).2) e
                  · exact hno 5 (hr.c6 h6).2 e
                  · exact hno 6 h6 e
              have hl8 : ii = 1 ∨ ii = 4 ∨ ii = 5 ∨ ii = 6 ∨ ii = 8 → ℓ 8 = false := fun hh => by
                cases h8 : ℓ 8
                · rfl
                · exfalso
                  by_cases e8 : ii = 8
                  · exact hno 8 h8 e8
                  · have := hl6 (by omega)
                    rw [hr.c8 h8] at this; cases this
              clear hi hi7 hno
              rcases hcs with rfl | rfl | rfl | rfl | rfl | rfl | rfl | rfl | rfl
              · obtain rfl := Option.some.inj ho
                clear hdep ho
                rw [if_pos (by rfl)]
                try simp only [Act.put, List.setIfInBounds_toArray, List.set_cons_zero, List.set_cons_succ]
                go_simp
                exact hK.out _ _ (fun j => if j = 0 then true else ℓ j) ⟨.pointer (some ⟨V, 17, none⟩), x1, x2, x3, x4, x5, x6, x7, (by simp only [Act.put, List.setIfInBounds_toArray, List.set_cons_zero, List.set_cons_succ]), ⟨hr.tw, hr.st, hr.ow, (fun _ => rfl), hr.f1, hr.f2, hr.f3, hr.f4, hr.f5, hr.f6, hr.f7, hr.f8, hr.c5, hr.c6, hr.c8⟩⟩ (if_pos rfl) (fun j hj => if_neg hj)
              · obtain rfl := Option.some.inj ho
                have g0 : ℓ 0 = true := hdep { on := 0, ground := Ground.data } (by simp) rfl
                clear hdep ho
                have h8 := hl8 (by omega)
                have hx0 := hr.f0 g0
                subst hx0
                have cc : w'.cell? ⟨V, 17, none⟩ = some vL := (hr.st h8).rv.cell 17 (HRG.out vL)
                rw [if_pos (by rfl)]
                try simp only [Act.put, List.setIfInBounds_toArray, List.set_cons_zero, List.set_cons_succ]
                go_simp
                exact hK.out _ _ (fun j => if j = 1 then true else ℓ j) ⟨.pointer (some ⟨V, 17, none⟩), vL, x2, x3, x4, x5, x6, x7, (by simp only [Act.put, List.setIfInBounds_toArray, List.set_cons_zero, List.set_cons_succ]), ⟨hr.tw, hr.st, hr.ow, hr.f0, (fun _ => rfl), hr.f2, hr.f3, hr.f4, hr.f5, hr.f6, hr.f7, hr.f8, hr.c5, (fun h => ⟨rfl, (hr.c6 h).2⟩), hr.c8⟩⟩ (if_pos rfl) (fun j hj => if_neg hj)
              · obtain rfl := Option.some.inj ho
                clear hdep ho
                rw [if_pos (by rfl)]
                try simp only [Act.put, List.setIfInBounds_toArray, List.set_cons_zero, List.set_cons_succ]
                go_simp
                exact hK.out _ _ (fun j => if j = 2 then true else ℓ j) ⟨x0, x1, .pointer (some ⟨B, 0, none⟩), x3, x4, x5, x6, x7, (by simp only [Act.put, List.setIfInBounds_toArray, List.set_cons_zero, List.set_cons_succ]), ⟨hr.tw, hr.st, hr.ow, hr.f0, hr.f1, (fun _ => rfl), hr.f3, hr.f4, hr.f5, hr.f6, hr.f7, hr.f8, hr.c5, hr.c6, hr.c8⟩⟩ (if_pos rfl) (fun j hj => if_neg hj)
              · obtain rfl := Option.some.inj ho
                clear hdep ho
                rw [if_pos (by rfl)]
                try simp only [Act.put, List.setIfInBounds_toArray, List.set_cons_zero, List.set_cons_succ]
                go_simp
                exact hK.out _ _ (fun j => if j = 3 then true else ℓ j) ⟨x0, x1, x2, .int .i64 (j : Int), x4, x5, x6, x7, (by simp only [Act.put, List.setIfInBounds_toArray, List.set_cons_zero, List.set_cons_succ]), ⟨hr.tw, hr.st, hr.ow, hr.f0, hr.f1, hr.f2, (fun _ => rfl), hr.f4, hr.f5, hr.f6, hr.f7, hr.f8, hr.c5, hr.c6, hr.c8⟩⟩ (if_pos rfl) (fun j hj => if_neg hj)
              · obtain rfl := Option.some.inj ho
                have g2 : ℓ 2 = true := hdep { on := 2, ground := Ground.data } (by simp) rfl
                have g3 : ℓ 3 = true := hdep { on := 3, ground := Ground.data } (by simp) rfl
                clear hdep ho
                have h8 := hl8 (by omega)
                have h6 := hl6 (by omega)
                have hx2 := hr.f2 g2
                have hx3 := hr.f3 g3
                subst hx2 hx3
                rw [if_pos (by rfl)]
                try simp only [Act.put, List.setIfInBounds_toArray, List.set_cons_zero, List.set_cons_succ]
                go_simp
                refine Calls.mono (draw_rown _ _ _ _ _ _ (hr.st h8).ct.cur (by omega)) ?_
                rintro e w9 ⟨kk, ff, tt, dd, rfl, hch, hc9, ht9⟩
                have hBL : B < L2 := by have := (hr.st h8).ct.lo; have := (hr.st h8).hV; omega
                exact hK.out _ _ (fun j => if j = 4 then true else ℓ j) ⟨x0, x1, .pointer (some ⟨B, 0, none⟩), .int .i64 (j : Int), crw kk ff tt dd, x5, x6, x7, (by simp only [Act.put, List.setIfInBounds_toArray, List.set_cons_zero, List.set_cons_succ]), ⟨(hr.tw.turn ht9 (.inl rfl)), (fun _ => (hr.st h8).step hc9 ht9), (fun h => owns_turn (hr.ow h) ht9 hBL), hr.f0, hr.f1, hr.f2, hr.f3, (fun _ => ⟨[.int .i64 kk, .int .i64 ff, .int .i64 tt, .int .i64 dd], by rw [HEE.out], by rw [HQQ.out]; exact ⟨kk, ff, tt, dd, rfl, hch⟩⟩), (fun h => by obtain ⟨ge, cs, e1, e2, e3⟩ := hr.f5 h; exact absurd (hr.c5 h) (by rw [hL]; decide)), (fun h => absurd (h6.symm.trans h) (by decide)), hr.f7, (fun h => absurd (h8.symm.trans h) (by decide)), (fun _ => rfl), hr.c6, hr.c8⟩⟩ (if_pos rfl) (fun j hj => if_neg hj)
              · obtain rfl := Option.some.inj ho
                have g4 : ℓ 4 = true := hdep { on := 4, ground := Ground.data } (by simp) rfl
                clear hdep ho
                have h8 := hl8 (by omega)
                have h6 := hl6 (by omega)
                revert hK
                obtain ⟨cs, hx4, hq⟩ := hr.f4 g4
                have hq' := hq
                rw [HQQ.out] at hq'
                obtain ⟨kk, ff, tt, dd, hcs, hch⟩ := hq'
                have hx4' : x4 = crw kk ff tt dd := by rw [hx4, HEE.out, hcs] <;> rfl
                clear hx4
                subst hx4'
                intro hK
                rw [if_pos (by rfl)]
                try simp only [Act.put, List.setIfInBounds_toArray, List.set_cons_zero, List.set_cons_succ]
                go_simp
                have hbel : Below w'.heap.size w' (w'.alloc (.cells #[.int .i64 kk, .int .i64 ff, .int .i64 tt, .int .i64 dd] 76)) := (Below.refl _ _).alloc (Nat.le_refl _) _
                have hLw : L2 ≤ w'.heap.size := by rw [← HL2.out]; exact hr.tw.size
                exact hK.out _ _ (fun j => if j = 5 then true else ℓ j) ⟨x0, x1, x2, x3, crw kk ff tt dd, .slice (some ⟨w'.heap.size, 0, none⟩) 1 1, x6, x7, (by simp only [Act.put, List.setIfInBounds_toArray, List.set_cons_zero, List.set_cons_succ]), ⟨(hr.tw.below hbel (by rw [HL2.out]; exact hLw)), (fun h => (hr.st h).alloc _), (fun h => owns_below (hr.ow h) hbel), hr.f0, hr.f1, hr.f2, hr.f3, hr.f4, (fun _ => ⟨_, cs, rfl, hq, fun _ => by rw [hcs]; exact Bk.new _ _ _ _ rfl⟩), (fun h => absurd (h6.symm.trans h) (by decide)), hr.f7, (fun h => absurd (h8.symm.trans h) (by decide)), (fun _ => g4), (fun h => ⟨(hr.c6 h).1, rfl⟩), hr.c8⟩⟩ (if_pos rfl) (fun j hj => if_neg hj)
              · obtain rfl := Option.some.inj ho
                have g1 : ℓ 1 = true := hdep { on := 1, ground := Ground.data } (by simp) rfl
                have g5 : ℓ 5 = true := hdep { on := 5, ground := Ground.data } (by simp) rfl
                clear hdep ho
                have h8 := hl8 (by omega)
                have h6 := hl6 (by omega)
                have hx1 := hr.f1 g1
                revert hK
                obtain ⟨ge, cs, hx5, hq, hbk⟩ := hr.f5 g5
                subst hx1 hx5
                intro hK
                have hLw : L2 ≤ w'.heap.size := by rw [← HL2.out]; exact hr.tw.size
                have hql := HQL.out cs hq
                rw [if_pos (by rfl)]
                try simp only [Act.put, List.setIfInBounds_toArray, List.set_cons_zero, List.set_cons_succ]
                refine wp_append_lies w' (.tmp 125) (.tmp 129) 30 rfl L2 76 iE (.agg #[.int .i64 0, .int .i64 0, .int .i64 0, .int .i64 0]) 4 32 Tryz.underlying30 HIE.out.1 HIE.out.2.1 HIE.out.2.2.1 HIE.out.2.2.2 rfl (by omega) x1 i es.flatten rfl (hr.ow h6) ⟨ge, 0, none⟩ 1 1 cs rfl (by rw [hql.1]) (by simpa using news_of (hbk h6)) hql.2 (by omega) (by unfold maxLen; omega) (by omega) hLw _ rfl ?_
                intro g c wA hown hgrow hat hlt
                have hb : Below L2 w' wA := grown_below hgrow (fun kk e => ((hr.ow h6).lt kk e).1) hLw
                exact hK.out _ _ (fun j => if j = 6 then true else ℓ j) ⟨x0, x1, x2, x3, x4, .slice (some ⟨ge, 0, none⟩) 1 1, .slice (some ⟨g, 0, none⟩) (i + 1) c, x7, (by show Act.put _ (some 130) _ = _; simp only [Act.put, List.setIfInBounds_toArray, List.set_cons_zero, List.set_cons_succ]), ⟨(hr.tw.below hb (Nat.le_of_eq HL2.out)), (fun h => (hr.st h).belowC hb hVL), (fun h => by cases h), hr.f0, hr.f1, hr.f2, hr.f3, hr.f4, (fun _ => ⟨ge, cs, rfl, hq, fun h => by cases h⟩), (fun _ => ⟨g, c, cs, rfl, hq, hown⟩), hr.f7, (fun h => absurd (h8.symm.trans h) (by decide)), hr.c5, (fun _ => ⟨g1, g5⟩), (fun _ => rfl)⟩⟩ (if_pos rfl) (fun j hj => if_neg hj)
              · obtain rfl := Option.some.inj ho
                clear hdep ho
                rw [if_pos (by rfl)]
                try simp only [Act.put, List.setIfInBounds_toArray, List.set_cons_zero, List.set_cons_succ]
                go_simp
                exact hK.out _ _ (fun j => if j = 7 then true else ℓ j) ⟨x0, x1, x2, x3, x4, x5, x6, .pointer (some ⟨V, 17, none⟩), (by simp only [Act.put, List.setIfInBounds_toArray, List.set_cons_zero, List.set_cons_succ]), ⟨hr.tw, hr.st, hr.ow, hr.f0, hr.f1, hr.f2, hr.f3, hr.f4, hr.f5, hr.f6, (fun _ => rfl), hr.f8, hr.c5, hr.c6, hr.c8⟩⟩ (if_pos rfl) (fun j hj => if_neg hj)
              · obtain rfl := Option.some.inj ho
                have g6 : ℓ 6 = true := hdep { on := 6, ground := Ground.data } (by simp) rfl
                have g7 : ℓ 7 = true := hdep { on := 7, ground := Ground.data } (by simp) rfl
                clear hdep ho
                have h8 := hl8 (by omega)
                have hx7 := hr.f7 g7
                revert hK
                obtain ⟨g, c, cs, hx6, hq, hown⟩ := hr.f6 g6
                subst hx6 hx7
                intro hK
                have cc : w'.cell? ⟨V, 17, none⟩ = some vL := (hr.st h8).rv.cell 17 (HRG.out vL)
                have zz := (hr.st h8).rv.free 17
                rw [if_pos (by rfl)]
                try simp only [Act.put, List.setIfInBounds_toArray, List.set_cons_zero, List.set_cons_succ]
                go_simp
                exact hK.out _ _ (fun j => if j = 8 then true else ℓ j) ⟨x0, x1, x2, x3, x4, x5, .slice (some ⟨g, 0, none⟩) (i + 1) c, .pointer (some ⟨V, 17, none⟩), (by simp only [Act.put, List.setIfInBounds_toArray, List.set_cons_zero, List.set_cons_succ]), ⟨(hr.tw.turn (turn_set w' V 17 _) (.inr rfl)), (fun h => by cases h), (fun h => owns_far (hr.ow h) hVL), hr.f0, hr.f1, hr.f2, hr.f3, hr.f4, (fun h => by obtain ⟨ge, cs2, e1, e2, e3⟩ := hr.f5 h; exact ⟨ge, cs2, e1, e2, fun h2 => absurd (g6.symm.trans h2) (by decide)⟩), (fun _ => ⟨g, c, cs, rfl, hq, owns_far hown hVL⟩), hr.f7, (fun _ => (hr.st h8).set 17 _ (HRS.out _ _)), hr.c5, hr.c6, (fun _ => g6)⟩⟩ (if_pos rfl) (fun j hj => if_neg hj)
            · rintro a' w' ℓ ℓ' hℓ hI
              rw [← show ℓ = ℓ' from funext hℓ]
              exact hI
        go_wp2
        refine wp_region_inv (by kernel_rfl) (by kernel_rfl) (fun AC ℓ a' w' => ∃ (x0 x1 x2 x3 x4 x5 x6 x7 : Value), a' = ((((((((AC.put (some 110) x0).put (some 111) x1).put (some 112) x2).put (some 113) x3).put (some 114) x4).put (some 115) x5).put (some 116) x6).put (some 117) x7) ∧ PA w w15 B a zs cap V 16 L2 3 1 j RR QQ EE vL i es.flatten w' (ℓ 0) (ℓ 1) (ℓ 2) (ℓ 3) (ℓ 4) (ℓ 5) (ℓ 6) (ℓ 7) (ℓ 8) x0 x1 x2 x3 x4 x5 x6 x7) ?_ ?_ ?_ ?_
        · exact ⟨u110, u111, u112, u113, u114, u115, u116, u117, (by simp only [Act.put, List.setIfInBounds_toArray, List.set_cons_zero, List.set_cons_succ]), ⟨⟨HLJ.out.tw.size, HLJ.out.tw.block⟩, (fun _ => HLJ.out.st.step (HLJ.out.st.ct.cur.drewN 1) ((Turn.refl _ _).drewN 1)), (fun _ => owns_turn HLJ.out.own ((Turn.refl B _).drewN 1) (by omega)), (fun g => by cases g), (fun g => by cases g), (fun g => by cases g), (fun g => by cases g), (fun g => by cases g), (fun g => by cases g), (fun g => by cases g), (fun g => by cases g), (fun g => by cases g), (fun g => by cases g), (fun g => by cases g), (fun g => by cases g)⟩⟩
        · intro ℓ a' w21 hI hall
          obtain ⟨x0, x1, x2, x3, x4, x5, x6, x7, rfl, hr⟩ := hI
          have hall' : ∀ i, i < 9 → ℓ i = true := hall
          obtain ⟨g, c, cs, hx6, hQ, hown⟩ := hr.f6 (hall' 6 (by omega))
          have hs := hr.f8 (hall' 8 (by omega))
          subst hx6
          have HLK : Hid (∃ vL es, LI w w15 B a zs cap V L2 3 1 RR QQ w21 vL es (i + 1)) := ⟨_, es ++ [cs], by simp [HLJ.out.len], fun e he => by
            rcases List.mem_append.1 he with h | h
            · exact HLJ.out.q e h
            · simp only [List.mem_singleton] at h; rw [h]; exact hQ, by simpa using hown, hr.tw, hs⟩
          clear hr hall hall' hs hown hQ HLJ
          simp only [Act.put, List.setIfInBounds_toArray, List.set_cons_zero, List.set_cons_succ]
          go_wp2
          go_roundw
          case rel => exact ⟨i + 1, by omega, by go_num, HLK⟩
          case measure => simp [intOf]; omega
        · intro ℓ a' w' ii o hI ho hi hL hdep K hK
          obtain ⟨x0, x1, x2, x3, x4, x5, x6, x7, rfl, hr⟩ := hI
          have hi7 : ii < 9 := hi
          have hcs : ii = 0 ∨ ii = 1 ∨ ii = 2 ∨ ii = 3 ∨ ii = 4 ∨ ii = 5 ∨ ii = 6 ∨ ii = 7 ∨ ii = 8 := by omega
          have hno : ∀ jj, ℓ jj = true → ii = jj → False := fun jj h e => by subst e; rw [h] at hL; cases hL
          have hl6 : ii = 1 ∨ ii = 4 ∨ ii = 5 ∨ ii = 6 → ℓ 6 = false := fun hh => by
            cases h6 : ℓ 6
            · rfl
            · exfalso
              rcases hh with e | e | e | e
              · exact hno 1 (hr.c6 h6).1 e
              · exact hno 4 (hr.c5 (hr.c6 h6).2) e
              · exact hno 5 (hr.c6 h6).2 e
              · exact hno 6 h6 e
          have hl8 : ii = 1 ∨ ii = 4 ∨ ii = 5 ∨ ii = 6 ∨ ii = 8 → ℓ 8 = false := fun hh => by
            cases h8 : ℓ 8
            · rfl
            · exfalso
              by_cases e8 : ii = 8
              · exact hno 8 h8 e8
              · have := hl6 (by omega)
                rw [hr.c8 h8] at this; cases this
          clear hi hi7 hno
          rcases hcs with rfl | rfl | rfl | rfl | rfl | rfl | rfl | rfl | rfl
          · obtain rfl := Option.some.inj ho
            clear hdep ho
            rw [if_pos (by rfl)]
            try simp only [Act.put, List.setIfInBounds_toArray, List.set_cons_zero, List.set_cons_succ]
            go_simp
            exact hK.out _ _ (fun j => if j = 0 then true else ℓ j) ⟨.pointer (some ⟨V, 16, none⟩), x1, x2, x3, x4, x5, x6, x7, (by simp only [Act.put, List.setIfInBounds_toArray, List.set_cons_zero, List.set_cons_succ]), ⟨hr.tw, hr.st, hr.ow, (fun _ => rfl), hr.f1, hr.f2, hr.f3, hr.f4, hr.f5, hr.f6, hr.f7, hr.f8, hr.c5, hr.c6, hr.c8⟩⟩ (if_pos rfl) (fun j hj => if_neg hj)
          · obtain rfl := Option.some.inj ho
            have g0 : ℓ 0 = true := hdep { on := 0, ground := Ground.data } (by simp) rfl
            clear hdep ho
            have h8 := hl8 (by omega)
            have hx0 := hr.f0 g0
            subst hx0
            have cc : w'.cell? ⟨V, 16, none⟩ = some vL := (hr.st h8).rv.cell 16 (HRG.out vL)
            rw [if_pos (by rfl)]
            try simp only [Act.put, List.setIfInBounds_toArray, List.set_cons_zero, List.set_cons_succ]
            go_simp
            exact hK.out _ _ (fun j => if j = 1 then true else ℓ j) ⟨.pointer (some ⟨V, 16, none⟩), vL, x2, x3, x4, x5, x6, x7, (by simp only [Act.put, List.setIfInBounds_toArray, List.set_cons_zero, List.set_cons_succ]), ⟨hr.tw, hr.st, hr.ow, hr.f0, (fun _ => rfl), hr.f2, hr.f3, hr.f4, hr.f5, hr.f6, hr.f7, hr.f8, hr.c5, (fun h => ⟨rfl, (hr.c6 h).2⟩), hr.c8⟩⟩ (if_pos rfl) (fun j hj => if_neg hj)
          · obtain rfl := Option.some.inj ho
            clear hdep ho
            rw [if_pos (by rfl)]
            try simp only [Act.put, List.setIfInBounds_toArray, List.set_cons_zero, List.set_cons_succ]
            go_simp
            exact hK.out _ _ (fun j => if j = 2 then true else ℓ j) ⟨x0, x1, .pointer (some ⟨B, 0, none⟩), x3, x4, x5, x6, x7, (by simp only [Act.put, List.setIfInBounds_toArray, List.set_cons_zero, List.set_cons_succ]), ⟨hr.tw, hr.st, hr.ow, hr.f0, hr.f1, (fun _ => rfl), hr.f3, hr.f4, hr.f5, hr.f6, hr.f7, hr.f8, hr.c5, hr.c6, hr.c8⟩⟩ (if_pos rfl) (fun j hj => if_neg hj)
          · obtain rfl := Option.some.inj ho
            clear hdep ho
            rw [if_pos (by rfl)]
            try simp only [Act.put, List.setIfInBounds_toArray, List.set_cons_zero, List.set_cons_succ]
            go_simp
            exact hK.out _ _ (fun j => if j = 3 then true else ℓ j) ⟨x0, x1, x2, .int .i64 (j : Int), x4, x5, x6, x7, (by simp only [Act.put, List.setIfInBounds_toArray, List.set_cons_zero, List.set_cons_succ]), ⟨hr.tw, hr.st, hr.ow, hr.f0, hr.f1, hr.f2, (fun _ => rfl), hr.f4, hr.f5, hr.f6, hr.f7, hr.f8, hr.c5, hr.c6, hr.c8⟩⟩ (if_pos rfl) (fun j hj => if_neg hj)
          · obtain rfl := Option.some.inj ho
            have g2 : ℓ 2 = true := hdep { on := 2, ground := Ground.data } (by simp) rfl
            have g3 : ℓ 3 = true := hdep { on := 3, ground := Ground.data } (by simp) rfl
            clear hdep ho
            have h8 := hl8 (by omega)
            have h6 := hl6 (by omega)
            have hx2 := hr.f2 g2
            have hx3 := hr.f3 g3
            subst hx2 hx3
            rw [if_pos (by rfl)]
            try simp only [Act.put, List.setIfInBounds_toArray, List.set_cons_zero, List.set_cons_succ]
            go_simp
            refine Calls.mono (draw_below _ _ _ _ _ _ (hr.st h8).ct.cur (by omega) (by omega)) ?_
            rintro e w9 ⟨y, rfl, hy0, hy1, hc9, ht9⟩
            have hBL : B < L2 := by have := (hr.st h8).ct.lo; have := (hr.st h8).hV; omega
            exact hK.out _ _ (fun j => if j = 4 then true else ℓ j) ⟨x0, x1, .pointer (some ⟨B, 0, none⟩), .int .i64 (j : Int), .int .i64 y, x5, x6, x7, (by simp only [Act.put, List.setIfInBounds_toArray, List.set_cons_zero, List.set_cons_succ]), ⟨(hr.tw.turn ht9 (.inl rfl)), (fun _ => (hr.st h8).step hc9 ht9), (fun h => owns_turn (hr.ow h) ht9 hBL), hr.f0, hr.f1, hr.f2, hr.f3, (fun _ => ⟨[.int .i64 y], by rw [HEE.out]; rfl, by rw [HQQ.out]; exact ⟨y, rfl, hy0, hy1⟩⟩), (fun h => by obtain ⟨ge, cs, e1, e2, e3⟩ := hr.f5 h; exact absurd (hr.c5 h) (by rw [hL]; decide)), (fun h => absurd (h6.symm.trans h) (by decide)), hr.f7, (fun h => absurd (h8.symm.trans h) (by decide)), (fun _ => rfl), hr.c6, hr.c8⟩⟩ (if_pos rfl) (fun j hj => if_neg hj)
          · obtain rfl := Option.some.inj ho
            have g4 : ℓ 4 = true := hdep { on := 4, ground := Ground.data } (by simp) rfl
            clear hdep ho
            have h8 := hl8 (by omega)
            have h6 := hl6 (by omega)
            revert hK
            obtain ⟨cs, hx4, hq⟩ := hr.f4 g4
            have hq' := hq
            rw [HQQ.out] at hq'
            obtain ⟨y, hcs, hy0, hy1⟩ := hq'
            have hx4' : x4 = .int .i64 y := by rw [hx4, HEE.out, hcs] <;> rfl
            clear hx4
            subst hx4'
            intro hK
            rw [if_pos (by rfl)]
            try simp only [Act.put, List.setIfInBounds_toArray, List.set_cons_zero, List.set_cons_succ]
            go_simp
            have hbel : Below w'.heap.size w' (w'.alloc (.cells #[.int .i64 y] 3)) := (Below.refl _ _).alloc (Nat.le_refl _) _
            have hLw : L2 ≤ w'.heap.size := by rw [← HL2.out]; exact hr.tw.size
            exact hK.out _ _ (fun j => if j = 5 then true else ℓ j) ⟨x0, x1, x2, x3, .int .i64 y, .slice (some ⟨w'.heap.size, 0, none⟩) 1 1, x6, x7, (by simp only [Act.put, List.setIfInBounds_toArray, List.set_cons_zero, List.set_cons_succ]), ⟨(hr.tw.below hbel (by rw [HL2.out]; exact hLw)), (fun h => (hr.st h).alloc _), (fun h => owns_below (hr.ow h) hbel), hr.f0, hr.f1, hr.f2, hr.f3, hr.f4, (fun _ => ⟨_, cs, rfl, hq, fun _ => by rw [hcs]; exact Bk.new _ _ _ _ rfl⟩), (fun h => absurd (h6.symm.trans h) (by decide)), hr.f7, (fun h => absurd (h8.symm.trans h) (by decide)), (fun _ => g4), (fun h => ⟨(hr.c6 h).1, rfl⟩), hr.c8⟩⟩ (if_pos rfl) (fun j hj => if_neg hj)
          · obtain rfl := Option.some.inj ho
            have g1 : ℓ 1 = true := hdep { on := 1, ground := Ground.data } (by simp) rfl
            have g5 : ℓ 5 = true := hdep { on := 5, ground := Ground.data } (by simp) rfl
            clear hdep ho
            have h8 := hl8 (by omega)
            have h6 := hl6 (by omega)
            have hx1 := hr.f1 g1
            revert hK
            obtain ⟨ge, cs, hx5, hq, hbk⟩ := hr.f5 g5
            subst hx1 hx5
            intro hK
            have hLw : L2 ≤ w'.heap.size := by rw [← HL2.out]; exact hr.tw.size
            have hql := HQL.out cs hq
            rw [if_pos (by rfl)]
            try simp only [Act.put, List.setIfInBounds_toArray, List.set_cons_zero, List.set_cons_succ]
            refine wp_append_lies w' (.tmp 111) (.tmp 115) 29 rfl L2 3 iE (.int .i64 0) 1 8 Tryz.underlying29 HIE.out.1 HIE.out.2.1 HIE.out.2.2.1 HIE.out.2.2.2 rfl (by omega) x1 i es.flatten rfl (hr.ow h6) ⟨ge, 0, none⟩ 1 1 cs rfl (by rw [hql.1]) (by simpa using news_of (hbk h6)) hql.2 (by omega) (by unfold maxLen; omega) (by omega) hLw _ rfl ?_
            intro g c wA hown hgrow hat hlt
            have hb : Below L2 w' wA := grown_below hgrow (fun kk e => ((hr.ow h6).lt kk e).1) hLw
            exact hK.out _ _ (fun j => if j = 6 then true else ℓ j) ⟨x0, x1, x2, x3, x4, .slice (some ⟨ge, 0, none⟩) 1 1, .slice (some ⟨g, 0, none⟩) (i + 1) c, x7, (by show Act.put _ (some 116) _ = _; simp only [Act.put, List.setIfInBounds_toArray, List.set_cons_zero, List.set_cons_succ]), ⟨(hr.tw.below hb (Nat.le_of_eq HL2.out)), (fun h => (hr.st h).belowC hb hVL), (fun h => by cases h), hr.f0, hr.f1, hr.f2, hr.f3, hr.f4, (fun _ => ⟨ge, cs, rfl, hq, fun h => by cases h⟩), (fun _ => ⟨g, c, cs, rfl, hq, hown⟩), hr.f7, (fun h => absurd (h8.symm.trans h) (by decide)), hr.c5, (fun _ => ⟨g1, g5⟩), (fun _ => rfl)⟩⟩ (if_pos rfl) (fun j hj => if_neg hj)
          · obtain rfl := Option.some.inj ho
            clear hdep ho
            rw [if_pos (by rfl)]
            try simp only [Act.put, List.setIfInBounds_toArray, List.set_cons_zero, List.set_cons_succ]
            go_simp
            exact hK.out _ _ (fun j => if j = 7 then true else ℓ j) ⟨x0, x1, x2, x3, x4, x5, x6, .pointer (some ⟨V, 16, none⟩), (by simp only [Act.put, List.setIfInBounds_toArray, List.set_cons_zero, List.set_cons_succ]), ⟨hr.tw, hr.st, hr.ow, hr.f0, hr.f1, hr.f2, hr.f3, hr.f4, hr.f5, hr.f6, (fun _ => rfl), hr.f8, hr.c5, hr.c6, hr.c8⟩⟩ (if_pos rfl) (fun j hj => if_neg hj)
          · obtain rfl := Option.some.inj ho
            have g6 : ℓ 6 = true := hdep { on := 6, ground := Ground.data } (by simp) rfl
            have g7 : ℓ 7 = true := hdep { on := 7, ground := Ground.data } (by simp) rfl
            clear hdep ho
            have h8 := hl8 (by omega)
            have hx7 := hr.f7 g7
            revert hK
            obtain ⟨g, c, cs, hx6, hq, hown⟩ := hr.f6 g6
            subst hx6 hx7
            intro hK
            have cc : w'.cell? ⟨V, 16, none⟩ = some vL := (hr.st h8).rv.cell 16 (HRG.out vL)
            have zz := (hr.st h8).rv.free 16
            rw [if_pos (by rfl)]
            try simp only [Act.put, List.setIfInBounds_toArray, List.set_cons_zero, List.set_cons_succ]
            go_simp
            exact hK.out _ _ (fun j => if j = 8 then true else ℓ j) ⟨x0, x1, x2, x3, x4, x5, .slice (some ⟨g, 0, none⟩) (i + 1) c, .pointer (some ⟨V, 16, none⟩), (by simp only [Act.put, List.setIfInBounds_toArray, List.set_cons_zero, List.set_cons_succ]), ⟨(hr.tw.turn (turn_set w' V 16 _) (.inr rfl)), (fun h => by cases h), (fun h => owns_far (hr.ow h) hVL), hr.f0, hr.f1, hr.f2, hr.f3, hr.f4, (fun h => by obtain ⟨ge, cs2, e1, e2, e3⟩ := hr.f5 h; exact ⟨ge, cs2, e1, e2, fun h2 => absurd (g6.symm.trans h2) (by decide)⟩), (fun _ => ⟨g, c, cs, rfl, hq, owns_far hown hVL⟩), hr.f7, (fun _ => (hr.st h8).set 16 _ (HRS.out _ _)), hr.c5, hr.c6, (fun _ => g6)⟩⟩ (if_pos rfl) (fun j hj => if_neg hj)
        · rintro a' w' ℓ ℓ' hℓ hI
          rw [← show ℓ = ℓ' from funext hℓ]
          exact hI
    have hjn' : (j : Int) < (N : Int) := by omega
    have hj6 : (j : Int) < 6 := by omega
    have hj0 : (0 : Int) ≤ (j : Int) := by omega
    obtain ⟨vP, ps, Y, A, hPI, hSt⟩ := HR.out
    have HPI : Hid (PI wr V at0 j vP ps Y A) := hPI
    have HST : Hid (Sta w wr B a zs cap V (rowT q2 vP nilS nilS nilS)) := hSt
    have hBr : B < wr.heap.size := hSt.ct.cur.lt
    have HLA : Hid (∀ b off, a = some ⟨b, off, none⟩ → 0 < zs.length → b < wr.heap.size) := seg_lt hSt.ct.cur.seg
    clear hPI hSt HR
    obtain ⟨nm, HNM⟩ : ∃ nm, Hid (nmL.getD j ByteArray.empty = nm) := ⟨_, rfl⟩
    have HNA : Hid (nmA[j]? = some (.string nm)) := by rw [← HNM.out]; exact nmA_at j (by omega)
    go_wp2
    refine wp_region_inv (by kernel_rfl) (by kernel_rfl) (fun AC ℓ a' w' => ∃ (x56 x57 x58 x59 x60 x61 x62 x8 : Value), a' = ((((((((AC.put (some 56) x56).put (some 57) x57).put (some 58) x58).put (some 59) x59).put (some 60) x60).put (some 61) x61).put (some 62) x62).put (some 8) x8) ∧ P7 wr w' B a zs cap j nm (ℓ 0) (ℓ 1) (ℓ 2) (ℓ 3) (ℓ 4) (ℓ 5) (ℓ 6) (ℓ 7) (ℓ 8) x56 x57 x58 x59 x60 x61 x62 x8) ?_ ?_ ?_ ?_
    · exact ⟨u56, u57, u58, u59, u60, u61, u62, u8, (by simp only [Act.put, List.setIfInBounds_toArray, List.set_cons_zero, List.set_cons_succ]), ⟨HST.out.ct.cur.drewN 1, (Turn.refl _ _).drewN 1, (fun g _ => by cases g), (fun g => by cases g), (fun g _ => by cases g), (fun g => by cases g), (fun g => by cases g), (fun g => by cases g), (fun g => by cases g), (fun g => by cases g), (fun g => by cases g), (fun g => by cases g), (fun g => by cases g), (fun g => by cases g)⟩⟩
    · intro ℓ a' w7 hI hall
      obtain ⟨x56, x57, x58, x59, x60, x61, x62, x8, rfl, hr⟩ := hI
      have hall' : ∀ i, i < 9 → ℓ i = true := hall
      obtain ⟨b, hx8, hbl, y, hk8, hz8⟩ := hr.f7 (hall' 7 (by omega))
      obtain ⟨k, m, hy, hp⟩ := hz8 (hall' 8 (by omega))
      subst hx8 hy
      have HP : Hid (polOk k m = true) := hp
      have HS7 : Hid (Sta w w7 B a zs cap V (rowT q2 vP nilS nilS nilS)) := HST.out.step hr.cu hr.tu
      have hBV : B ≤ V := by have := HST.out.ct.lo; have := HST.out.hV; omega
      have HP7 : Hid (PI w7 V at0 j vP ps Y A) := HPI.out.turn hr.tu hBV
      have HK7 : Hid (Bk w7 b (rwA ⟨nm, 0, k, m, none, 0, 0⟩)) := hk8
      have hVb : V < b := Nat.lt_of_lt_of_le HST.out.rv.lt hbl
      have HBP : Hid (vP.ownBlock ≠ some b ∧ ∀ i, i < j → ∀ b' off, (Y i).wa = some ⟨b', off, none⟩ → 0 < (Y i).wn → b' ≠ b) := HPI.out.far hbl
      clear hr hall hall' hk8 HST HPI hp HLA HNA
      simp only [Act.put, List.setIfInBounds_toArray, List.set_cons_zero, List.set_cons_succ]
      have h9V : V < w7.heap.size := HS7.out.rv.lt
      have HS8 : Hid (Sta w (w7.alloc (.cells #[.int .i64 at0, .int .i64 128, .int .i64 5] 74)) B a zs cap V (rowT q2 vP nilS nilS nilS)) := HS7.out.alloc _
      have HP8 : Hid (PI (w7.alloc (.cells #[.int .i64 at0, .int .i64 128, .int .i64 5] 74)) V at0 j vP ps Y A) := HP7.out.turn (Turn.of_below ((Below.refl _ _).alloc (Nat.le_refl _) _)) hBV
      have HK8 : Hid (Bk (w7.alloc (.cells #[.int .i64 at0, .int .i64 128, .int .i64 5] 74)) b (rwA ⟨nm, 0, k, m, none, 0, 0⟩)) := HK7.out.alloc _
      have H98 : Hid (Bk (w7.alloc (.cells #[.int .i64 at0, .int .i64 128, .int .i64 5] 74)) w7.heap.size #[.int .i64 at0, .int .i64 128, .int .i64 5]) := Bk.new _ _ _ _ rfl
      obtain ⟨g9, HG9⟩ : ∃ g9, Hid (w7.heap.size = g9) := ⟨_, rfl⟩
      have hg9 : V < g9 := by rw [← HG9.out]; exact h9V
      have hb9 : b < g9 := by rw [← HG9.out]; exact HK7.out.lt
      go_wp2_with fail
      rw [HG9.out] at H98 ⊢
      clear HS7 HP7 HK7 h9V HG9
      revert HS8 HP8 HK8 H98
      generalize (w7.alloc (.cells #[.int .i64 at0, .int .i64 128, .int .i64 5] 74)) = w8
      intro HS8 HP8 HK8 H98
      refine (draw_below _ _ _ _ _ _ HS8.out.ct.cur (by omega) (by omega)).mono ?_
      rintro e w9 ⟨px, rfl, hpx0, hpx1, hc, ht⟩
      have HS9 : Hid (Sta w w9 B a zs cap V (rowT q2 vP nilS nilS nilS)) := HS8.out.step hc ht
      have HP9 : Hid (PI w9 V at0 j vP ps Y A) := HP8.out.turn ht hBV
      have HK9 : Hid (Bk w9 b (rwA ⟨nm, 0, k, m, none, 0, 0⟩)) := HK8.out.turn ht (by omega)
      have H99 : Hid (Bk w9 g9 #[.int .i64 at0, .int .i64 128, .int .i64 5]) := H98.out.turn ht (by omega)
      clear hc ht HS8 HP8 HK8 H98
      have hq1 : IntKind.i64.wrap (at0 + 128) = at0 + 128 := by rw [IntKind.wrap_i64]; omega
      have hq2' : IntKind.i64.wrap (4 * px) = 4 * px := by rw [IntKind.wrap_i64]; omega
      have hq3 : IntKind.i64.wrap (at0 + 128 + 4 * px) = at0 + 128 + 4 * px := by rw [IntKind.wrap_i64]; omega
      go_wp2_with fail
      refine (draw_below _ _ _ _ _ _ HS9.out.ct.cur (by omega) (by omega)).mono ?_
      rintro e w10 ⟨py, rfl, hpy0, hpy1, hc, ht⟩
      have HS10 : Hid (Sta w w10 B a zs cap V (rowT q2 vP nilS nilS nilS)) := HS9.out.step hc ht
      have HP10 : Hid (PI w10 V at0 j vP ps Y A) := HP9.out.turn ht hBV
      have HK10 : Hid (Bk w10 b (rwA ⟨nm, 0, k, m, none, 0, 0⟩)) := HK9.out.turn ht (by omega)
      have H910 : Hid (Bk w10 g9 #[.int .i64 at0, .int .i64 128, .int .i64 5]) := H99.out.turn ht (by omega)
      clear hc ht HS9 HP9 HK9 H99
      have hq4 : IntKind.i64.wrap (4 * py) = 4 * py := by rw [IntKind.wrap_i64]; omega
      have hq5 : IntKind.i64.wrap (32 + 4 * py) = 32 + 4 * py := by rw [IntKind.wrap_i64]; omega
      have HS11 : Hid (Sta w (w10.alloc (.cells #[.int .i64 (at0 + 128 + 4 * px), .int .i64 (32 + 4 * py), .int .i64 3] 74)) B a zs cap V (rowT q2 vP nilS nilS nilS)) := HS10.out.alloc _
      have HP11 : Hid (PI (w10.alloc (.cells #[.int .i64 (at0 + 128 + 4 * px), .int .i64 (32 + 4 * py), .int .i64 3] 74)) V at0 j vP ps Y A) := HP10.out.turn (Turn.of_below ((Below.refl _ _).alloc (Nat.le_refl _) _)) hBV
      have HK11 : Hid (Bk (w10.alloc (.cells #[.int .i64 (at0 + 128 + 4 * px), .int .i64 (32 + 4 * py), .int .i64 3] 74)) b (rwA ⟨nm, 0, k, m, none, 0, 0⟩)) := HK10.out.alloc _
      have H911 : Hid (Bk (w10.alloc (.cells #[.int .i64 (at0 + 128 + 4 * px), .int .i64 (32 + 4 * py), .int .i64 3] 74)) g9 #[.int .i64 at0, .int .i64 128, .int .i64 5]) := H910.out.alloc _
      have HD11 : Hid (Bk (w10.alloc (.cells #[.int .i64 (at0 + 128 + 4 * px), .int .i64 (32 + 4 * py), .int .i64 3] 74)) w10.heap.size #[.int .i64 (at0 + 128 + 4 * px), .int .i64 (32 + 4 * py), .int .i64 3]) := Bk.new _ _ _ _ rfl
      obtain ⟨gD, HGD⟩ : ∃ gD, Hid (w10.heap.size = gD) := ⟨_, rfl⟩
      have hgD : g9 < gD := by rw [← HGD.out]; exact H910.out.lt
      go_wp2_with fail
      rw [HGD.out] at HD11 ⊢
      clear HS10 HP10 HK10 H910 HGD
      revert HS11 HP11 HK11 H911 HD11
      generalize (w10.alloc (.cells #[.int .i64 (at0 + 128 + 4 * px), .int .i64 (32 + 4 * py), .int .i64 3] 74)) = w11'
      intro HS11 HP11 HK11 H911 HD11
      clear hq1 hq2' hq3 hq4 hq5
      refine (draw_below _ _ _ _ _ _ HS11.out.ct.cur (by omega) (by omega)).mono ?_
      rintro e w12 ⟨pe, rfl, hpe0, hpe1, hc, ht⟩
      have HS12 : Hid (Sta w w12 B a zs cap V (rowT q2 vP nilS nilS nilS)) := HS11.out.step hc ht
      have HP12 : Hid (PI w12 V at0 j vP ps Y A) := HP11.out.turn ht hBV
      have HK12 : Hid (Bk w12 b (rwA ⟨nm, 0, k, m, none, 0, 0⟩)) := HK11.out.turn ht (by omega)
      have H912 : Hid (Bk w12 g9 #[.int .i64 at0, .int .i64 128, .int .i64 5]) := H911.out.turn ht (by omega)
      have HD12 : Hid (Bk w12 gD #[.int .i64 (at0 + 128 + 4 * px), .int .i64 (32 + 4 * py), .int .i64 3]) := HD11.out.turn ht (by omega)
      clear hc ht HS11 HP11 HK11 H911 HD11
      have hq6 : IntKind.i64.wrap (4 * pe) = 4 * pe := by rw [IntKind.wrap_i64]; omega
      have hq7 : IntKind.i64.wrap (at0 + 4 * pe) = at0 + 4 * pe := by rw [IntKind.wrap_i64]; omega
      have e1 := HK12.out.cell 1 _ rfl
      have ez1 := HK12.out.free 1
      have HS13' : Hid (Sta w (w12.setCell ⟨b, 1, none⟩ (.int .i64 (at0 + 4 * pe))) B a zs cap V (rowT q2 vP nilS nilS nilS)) := HS12.out.far _ _ _ hVb
      have HP13 : Hid (PI (w12.setCell ⟨b, 1, none⟩ (.int .i64 (at0 + 4 * pe))) V at0 j vP ps Y A) := HP12.out.setb b 1 _ HBP.out
      have HK13 : Hid (Bk (w12.setCell ⟨b, 1, none⟩ (.int .i64 (at0 + 4 * pe))) b (rwA ⟨nm, at0 + 4 * pe, k, m, none, 0, 0⟩)) := HK12.out.set 1 _ (by simp) rfl
      have H913 : Hid (Bk (w12.setCell ⟨b, 1, none⟩ (.int .i64 (at0 + 4 * pe))) g9 #[.int .i64 at0, .int .i64 128, .int .i64 5]) := H912.out.other _ _ _ (by omega)
      have HD13 : Hid (Bk (w12.setCell ⟨b, 1, none⟩ (.int .i64 (at0 + 4 * pe))) gD #[.int .i64 (at0 + 128 + 4 * px), .int .i64 (32 + 4 * py), .int .i64 3]) := HD12.out.other _ _ _ (by omega)
      have c90 := H913.out.cell 0 _ rfl
      have c91 := H913.out.cell 1 _ rfl
      have c92 := H913.out.cell 2 _ rfl
      have cD0 := HD13.out.cell 0 _ rfl
      have cD1 := HD13.out.cell 1 _ rfl
      have cD2 := HD13.out.cell 2 _ rfl
      have HKF : Hid (Bk ((w12.setCell ⟨b, 1, none⟩ (.int .i64 (at0 + 4 * pe))).alloc (.cells #[.int .i64 at0, .int .i64 128, .int .i64 5, .int .i64 (at0 + 128 + 4 * px), .int .i64 (32 + 4 * py), .int .i64 3] 74)) b (rwA ⟨nm, at0 + 4 * pe, k, m, none, 0, 0⟩)) := HK13.out.alloc _
      have c4 := HKF.out.cell 4 _ rfl
      have z4 := HKF.out.free 4
      obtain ⟨gW, HGW⟩ : ∃ gW, Hid (w12.heap.size = gW) := ⟨_, rfl⟩
      have hgW : gD < gW := by rw [← HGW.out]; exact HD12.out.lt
      have HGV : Hid ((w12.setCell ⟨b, 1, none⟩ (.int .i64 (at0 + 4 * pe))).heap.size = gW) := by show _ = _; rw [← HGW.out]; simp [World.setCell]
      have HSd : Hid (Sta w (((w12.setCell ⟨b, 1, none⟩ (.int .i64 (at0 + 4 * pe))).alloc (.cells #[.int .i64 at0, .int .i64 128, .int .i64 5, .int .i64 (at0 + 128 + 4 * px), .int .i64 (32 + 4 * py), .int .i64 3] 74)).setCell ⟨b, 4, none⟩ (.slice (some ⟨gW, 0, none⟩) 2 2)) B a zs cap V (rowT q2 vP nilS nilS nilS)) := (HS13'.out.alloc _).far _ _ _ hVb
      have HPd : Hid (PI (((w12.setCell ⟨b, 1, none⟩ (.int .i64 (at0 + 4 * pe))).alloc (.cells #[.int .i64 at0, .int .i64 128, .int .i64 5, .int .i64 (at0 + 128 + 4 * px), .int .i64 (32 + 4 * py), .int .i64 3] 74)).setCell ⟨b, 4, none⟩ (.slice (some ⟨gW, 0, none⟩) 2 2)) V at0 j vP ps Y A) := (HP13.out.turn (Turn.of_below ((Below.refl _ _).alloc (Nat.le_refl _) _)) hBV).setb b 4 _ HBP.out
      have HKd : Hid (Bk (((w12.setCell ⟨b, 1, none⟩ (.int .i64 (at0 + 4 * pe))).alloc (.cells #[.int .i64 at0, .int .i64 128, .int .i64 5, .int .i64 (at0 + 128 + 4 * px), .int .i64 (32 + 4 * py), .int .i64 3] 74)).setCell ⟨b, 4, none⟩ (.slice (some ⟨gW, 0, none⟩) 2 2)) b (rwA ⟨nm, at0 + 4 * pe, k, m, some ⟨gW, 0, none⟩, 2, 2⟩)) := HKF.out.set 4 _ (by simp) rfl
      have HDd : Hid (Bk (((w12.setCell ⟨b, 1, none⟩ (.int .i64 (at0 + 4 * pe))).alloc (.cells #[.int .i64 at0, .int .i64 128, .int .i64 5, .int .i64 (at0 + 128 + 4 * px), .int .i64 (32 + 4 * py), .int .i64 3] 74)).setCell ⟨b, 4, none⟩ (.slice (some ⟨gW, 0, none⟩) 2 2)) gD #[.int .i64 (at0 + 128 + 4 * px), .int .i64 (32 + 4 * py), .int .i64 3]) := (HD13.out.alloc _).other _ _ _ (by omega)
      have HWd : Hid (Bk (((w12.setCell ⟨b, 1, none⟩ (.int .i64 (at0 + 4 * pe))).alloc (.cells #[.int .i64 at0, .int .i64 128, .int .i64 5, .int .i64 (at0 + 128 + 4 * px), .int .i64 (32 + 4 * py), .int .i64 3] 74)).setCell ⟨b, 4, none⟩ (.slice (some ⟨gW, 0, none⟩) 2 2)) gW #[.int .i64 at0, .int .i64 128, .int .i64 5, .int .i64 (at0 + 128 + 4 * px), .int .i64 (32 + 4 * py), .int .i64 3]) := (Bk.new (w12.setCell ⟨b, 1, none⟩ (.int .i64 (at0 + 4 * pe))) _ _ gW HGV.out.symm).other _ _ _ (by omega)
      have HWL : Hid (∀ i, i < j → ∀ b' off, (Y i).wa = some ⟨b', off, none⟩ → 0 < (Y i).wn → b' ≠ gW) := (HP12.out.far (b := gW) (by rw [← HGW.out]; exact Nat.le_refl _)).2
      have HWO : Hid (vP.ownBlock ≠ some gW) := (HP12.out.far (b := gW) (by rw [← HGW.out]; exact Nat.le_refl _)).1
      go_wp2
      rw [HGW.out]
      clear HS12 HP12 HK12 H912 HD12 HS13' HP13 HK13 H913 HD13 HKF c90 c91 c92 cD0 cD1 cD2 c4 z4 e1 ez1 hq6 hq7 HGW HGV
      revert HSd HPd HKd HDd HWd
      generalize (((w12.setCell ⟨b, 1, none⟩ (.int .i64 (at0 + 4 * pe))).alloc (.cells #[.int .i64 at0, .int .i64 128, .int .i64 5, .int .i64 (at0 + 128 + 4 * px), .int .i64 (32 + 4 * py), .int .i64 3] 74)).setCell ⟨b, 4, none⟩ (.slice (some ⟨gW, 0, none⟩) 2 2)) = wD
      intro HSd HPd HKd HDd HWd
      have hqs : IntKind.i64.wrap (at0 + 128 + 4 * px + (32 + 4 * py)) = at0 + 128 + 4 * px + (32 + 4 * py) := by rw [IntKind.wrap_i64]; omega
      refine wp_region_inv (by kernel_rfl) (by kernel_rfl) (fun AC ℓ a' w' => ∃ (x86 x87 x88 x89 x90 x91 x92 x93 x94 x6 : Value), a' = ((((((((((AC.put (some 86) x86).put (some 87) x87).put (some 88) x88).put (some 89) x89).put (some 90) x90).put (some 91) x91).put (some 92) x92).put (some 93) x93).put (some 94) x94).put (some 6) x6) ∧ P12 wD w' B a zs cap gD (at0 + 128 + 4 * px) (32 + 4 * py) (ℓ 0) (ℓ 1) (ℓ 2) (ℓ 3) (ℓ 4) (ℓ 5) (ℓ 6) (ℓ 7) (ℓ 8) (ℓ 9) x86 x87 x88 x89 x90 x91 x92 x93 x94 x6) ?_ ?_ ?_ ?_
      · exact ⟨u86, u87, u88, u89, u90, u91, u92, u93, u94, .int .i64 at0, (by simp only [Act.put, List.setIfInBounds_toArray, List.set_cons_zero, List.set_cons_succ]), ⟨HSd.out.ct.cur.drewN 1, (Turn.refl _ _).drewN 1, (fun g => by cases g), (fun g => by cases g), (fun g => by cases g), (fun g => by cases g), (fun g => by cases g), (fun g => by cases g), (fun g => by cases g), (fun g => by cases g), (fun g => by cases g), (fun g => by cases g)⟩⟩
      · intro ℓ a' w13 hI hall
        obtain ⟨x86, x87, x88, x89, x90, x91, x92, x93, x94, x6, rfl, hr⟩ := hI
        have hall' : ∀ i, i < 10 → ℓ i = true := hall
        obtain ⟨pz, hx6, hpz0, hpz1⟩ := hr.f9 (hall' 9 (by omega))
        subst hx6
        have HSe : Hid (Sta w w13 B a zs cap V (rowT q2 vP nilS nilS nilS)) := HSd.out.step hr.cu hr.tu
        have HPe : Hid (PI w13 V at0 j vP ps Y A) := HPd.out.turn hr.tu hBV
        have HKe : Hid (Bk w13 b (rwA ⟨nm, at0 + 4 * pe, k, m, some ⟨gW, 0, none⟩, 2, 2⟩)) := HKd.out.turn hr.tu (by omega)
        have HWe : Hid (Bk w13 gW #[.int .i64 at0, .int .i64 128, .int .i64 5, .int .i64 (at0 + 128 + 4 * px), .int .i64 (32 + 4 * py), .int .i64 3]) := HWd.out.turn hr.tu (by omega)
        clear hr hall hall' HSd HPd HKd HDd HWd hqs
        simp only [Act.put, List.setIfInBounds_toArray, List.set_cons_zero, List.set_cons_succ]
        have k15 : w13.cell? ⟨V, 15, none⟩ = some vP := HSe.out.rv.cell 15 rfl
        have r0 := HKe.out.cell 0 _ rfl
        have r1 := HKe.out.cell 1 _ rfl
        have r2 := HKe.out.cell 2 _ rfl
        have r3 := HKe.out.cell 3 _ rfl
        have r4 := HKe.out.cell 4 _ rfl
        obtain ⟨iP, hiP⟩ := part_info'
        have HI : Hid (Tryz.prog.info? 72 = some iP ∧ iP.zero = some (.agg #[.string ByteArray.empty, .int .i64 0, .int .i64 0, .int .i64 0, .slice none 0 0]) ∧ iP.size = 5 ∧ iP.bytes = 64) := hiP
        clear hiP
        have HSf : Hid (Sta w (w13.alloc (.cells (rwA ⟨nm, at0 + 4 * pe, k, m, some ⟨gW, 0, none⟩, 2, 2⟩) 72)) B a zs cap V (rowT q2 vP nilS nilS nilS)) := HSe.out.alloc _
        have HPf : Hid (PI (w13.alloc (.cells (rwA ⟨nm, at0 + 4 * pe, k, m, some ⟨gW, 0, none⟩, 2, 2⟩) 72)) V at0 j vP ps Y A) := HPe.out.turn (Turn.of_below ((Below.refl _ _).alloc (Nat.le_refl _) _)) hBV
        have HWf : Hid (Bk (w13.alloc (.cells (rwA ⟨nm, at0 + 4 * pe, k, m, some ⟨gW, 0, none⟩, 2, 2⟩) 72)) gW #[.int .i64 at0, .int .i64 128, .int .i64 5, .int .i64 (at0 + 128 + 4 * px), .int .i64 (32 + 4 * py), .int .i64 3]) := HWe.out.alloc _
        have HEf : Hid (Bk (w13.alloc (.cells (rwA ⟨nm, at0 + 4 * pe, k, m, some ⟨gW, 0, none⟩, 2, 2⟩) 72)) w13.heap.size (rwA ⟨nm, at0 + 4 * pe, k, m, some ⟨gW, 0, none⟩, 2, 2⟩)) := Bk.new _ _ _ _ rfl
        have HPD : Hid (PD j at0 ⟨nm, at0 + 4 * pe, k, m, [(at0, 128, 5), (at0 + 128 + 4 * px, 32 + 4 * py, 3)]⟩ (at0 + 128 + 4 * px + (32 + 4 * py) + 4 * pz)) := ⟨px, py, pz, pe, by omega, ⟨hpy0, hpy1⟩, ⟨hpz0, hpz1⟩, by omega, HNM.out.symm, rfl, HP.out, rfl, rfl⟩
        have HZ : Hid (∀ g cap1 X, X.ownsRow (V + 1) 72 5 (.slice (some ⟨g, 0, none⟩) (j + 1) cap1) (j + 1) (flr j (fun i => rwL (Y i)) ++ rwL ⟨nm, at0 + 4 * pe, k, m, some ⟨gW, 0, none⟩, 2, 2⟩) → (w13.alloc (.cells (rwA ⟨nm, at0 + 4 * pe, k, m, some ⟨gW, 0, none⟩, 2, 2⟩) 72)).grownBy X vP.ownBlock → (vP.ownBlock = some g ∨ g = (w13.alloc (.cells (rwA ⟨nm, at0 + 4 * pe, k, m, some ⟨gW, 0, none⟩, 2, 2⟩) 72)).heap.size) → Sta w X B a zs cap V (rowT q2 vP nilS nilS nilS) ∧ (∃ vP' ps' Y' A', PI (X.setCell ⟨V, 15, none⟩ (.slice (some ⟨g, 0, none⟩) (j + 1) cap1)) V (at0 + 128 + 4 * px + (32 + 4 * py) + 4 * pz) (j + 1) vP' ps' Y' A' ∧ Sta w (X.setCell ⟨V, 15, none⟩ (.slice (some ⟨g, 0, none⟩) (j + 1) cap1)) B a zs cap V (rowT q2 vP' nilS nilS nilS))) := fun g cap1 X h1 h2 h3 => by
          have hb : Below (V + 1) (w13.alloc (.cells (rwA ⟨nm, at0 + 4 * pe, k, m, some ⟨gW, 0, none⟩, 2, 2⟩) 72)) X := grown_below h2 (fun kk e => (HPf.out.own.lt kk e).1) (by have := HSf.out.rv.lt; omega)
          have hs := HSf.out.belowC hb (Nat.lt_succ_self V)
          obtain ⟨ps', Y', A', hp'⟩ := HPf.out.push HWf.out (by omega) HWO.out HWL.out HPD.out h1 h2 h3 (.slice (some ⟨g, 0, none⟩) (j + 1) cap1)
          exact ⟨hs, _, ps', Y', A', hp', hs.set 15 _ (by simp)⟩
        have hown := HPf.out.own
        have hbase : V + 1 ≤ (w13.alloc (.cells (rwA ⟨nm, at0 + 4 * pe, k, m, some ⟨gW, 0, none⟩, 2, 2⟩) 72)).heap.size := HSf.out.rv.lt
        have hj4 : j + 1 ≤ 4 := by omega
        go_wp2_with (at_builtin; (refine wpList_append_lies _ rfl (.tmp 96) (.tmp 98) 28 rfl (V + 1) 72 iP (.agg #[.string ByteArray.empty, .int .i64 0, .int .i64 0, .int .i64 0, .slice none 0 0]) 5 64 Tryz.underlying28 HI.out.1 HI.out.2.1 HI.out.2.2.1 HI.out.2.2.2 rfl (by omega) vP j (flr j (fun i => rwL (Y i))) rfl hown ⟨w13.heap.size, 0, none⟩ 1 1 (rwL ⟨nm, at0 + 4 * pe, k, m, some ⟨gW, 0, none⟩, 2, 2⟩) rfl rfl (news_of HEf.out) (one_row _) (by omega) (by unfold maxLen; omega) (by omega) hbase _ rfl ?_; intro g cap1 wA hown1 hgrow hat hlt1; have HY : Hid _ := HZ.out g cap1 wA hown1 hgrow hat; have k15' := HY.out.1.rv.cell 15 rfl; have z15 := HY.out.1.rv.free 15; clear hown1 hgrow hat hlt1))
        exact ⟨⟨j + 1, at0 + 128 + 4 * px + (32 + 4 * py) + 4 * pz, by omega, by omega, by omega, by go_num, rfl, HY.out.2⟩, by simp [intOf]; omega⟩
      · intro ℓ a' w' i o hI ho hi hL hdep K hK
        obtain ⟨x86, x87, x88, x89, x90, x91, x92, x93, x94, x6, rfl, hr⟩ := hI
        have hi7 : i < 10 := hi
        have hcs : i = 0 ∨ i = 1 ∨ i = 2 ∨ i = 3 ∨ i = 4 ∨ i = 5 ∨ i = 6 ∨ i = 7 ∨ i = 8 ∨ i = 9 := by omega
        clear hi hi7
        rcases hcs with rfl | rfl | rfl | rfl | rfl | rfl | rfl | rfl | rfl | rfl
        · obtain rfl := Option.some.inj ho
          clear hdep ho
          rw [if_pos (by rfl)]
          try simp only [Act.put, List.setIfInBounds_toArray, List.set_cons_zero, List.set_cons_succ]
          go_simp
          exact hK.out _ _ (fun j => if j = 0 then true else ℓ j) ⟨.pointer (some ⟨gD, 0, none⟩), x87, x88, x89, x90, x91, x92, x93, x94, x6, (by simp only [Act.put, List.setIfInBounds_toArray, List.set_cons_zero, List.set_cons_succ]), ⟨hr.cu, hr.tu, (fun _ => rfl), hr.f1, hr.f2, hr.f3, hr.f4, hr.f5, hr.f6, hr.f7, hr.f8, hr.f9⟩⟩ (if_pos rfl) (fun j hj => if_neg hj)
        · obtain rfl := Option.some.inj ho
          have g0 : ℓ 0 = true := hdep { on := 0, ground := Ground.data } (by simp) rfl
          clear hdep ho
          have hx86 := hr.f0 g0
          subst hx86
          have cc := (HDd.out.turn hr.tu (by omega)).cell 0 _ rfl
          rw [if_pos (by rfl)]
          try simp only [Act.put, List.setIfInBounds_toArray, List.set_cons_zero, List.set_cons_succ]
          go_simp
          exact hK.out _ _ (fun j => if j = 1 then true else ℓ j) ⟨.pointer (some ⟨gD, 0, none⟩), .int .i64 (at0 + 128 + 4 * px), x88, x89, x90, x91, x92, x93, x94, x6, (by simp only [Act.put, List.setIfInBounds_toArray, List.set_cons_zero, List.set_cons_succ]), ⟨hr.cu, hr.tu, hr.f0, (fun _ => rfl), hr.f2, hr.f3, hr.f4, hr.f5, hr.f6, hr.f7, hr.f8, hr.f9⟩⟩ (if_pos rfl) (fun j hj => if_neg hj)
        · obtain rfl := Option.some.inj ho
          clear hdep ho
          rw [if_pos (by rfl)]
          try simp only [Act.put, List.setIfInBounds_toArray, List.set_cons_zero, List.set_cons_succ]
          go_simp
          exact hK.out _ _ (fun j => if j = 2 then true else ℓ j) ⟨x86, x87, .pointer (some ⟨gD, 1, none⟩), x89, x90, x91, x92, x93, x94, x6, (by simp only [Act.put, List.setIfInBounds_toArray, List.set_cons_zero, List.set_cons_succ]), ⟨hr.cu, hr.tu, hr.f0, hr.f1, (fun _ => rfl), hr.f3, hr.f4, hr.f5, hr.f6, hr.f7, hr.f8, hr.f9⟩⟩ (if_pos rfl) (fun j hj => if_neg hj)
        · obtain rfl := Option.some.inj ho
          have g2 : ℓ 2 = true := hdep { on := 2, ground := Ground.data } (by simp) rfl
          clear hdep ho
          have hx88 := hr.f2 g2
          subst hx88
          have cc := (HDd.out.turn hr.tu (by omega)).cell 1 _ rfl
          rw [if_pos (by rfl)]
          try simp only [Act.put, List.setIfInBounds_toArray, List.set_cons_zero, List.set_cons_succ]
          go_simp
          exact hK.out _ _ (fun j => if j = 3 then true else ℓ j) ⟨x86, x87, .pointer (some ⟨gD, 1, none⟩), .int .i64 (32 + 4 * py), x90, x91, x92, x93, x94, x6, (by simp only [Act.put, List.setIfInBounds_toArray, List.set_cons_zero, List.set_cons_succ]), ⟨hr.cu, hr.tu, hr.f0, hr.f1, hr.f2, (fun _ => rfl), hr.f4, hr.f5, hr.f6, hr.f7, hr.f8, hr.f9⟩⟩ (if_pos rfl) (fun j hj => if_neg hj)
        · obtain rfl := Option.some.inj ho
          have g1 : ℓ 1 = true := hdep { on := 1, ground := Ground.data } (by simp) rfl
          have g3 : ℓ 3 = true := hdep { on := 3, ground := Ground.data } (by simp) rfl
          clear hdep ho
          have hx87 := hr.f1 g1
          have hx89 := hr.f3 g3
          subst hx87 hx89
          rw [if_pos (by rfl)]
          try simp only [Act.put, List.setIfInBounds_toArray, List.set_cons_zero, List.set_cons_succ]
          go_simp
          exact hK.out _ _ (fun j => if j = 4 then true else ℓ j) ⟨x86, .int .i64 (at0 + 128 + 4 * px), x88, .int .i64 (32 + 4 * py), .int .i64 ((at0 + 128 + 4 * px) + (32 + 4 * py)), x91, x92, x93, x94, x6, (by simp only [Act.put, List.setIfInBounds_toArray, List.set_cons_zero, List.set_cons_succ]), ⟨hr.cu, hr.tu, hr.f0, hr.f1, hr.f2, hr.f3, (fun _ => rfl), hr.f5, hr.f6, hr.f7, hr.f8, hr.f9⟩⟩ (if_pos rfl) (fun j hj => if_neg hj)
        · obtain rfl := Option.some.inj ho
          clear hdep ho
          rw [if_pos (by rfl)]
          try simp only [Act.put, List.setIfInBounds_toArray, List.set_cons_zero, List.set_cons_succ]
          go_simp
          exact hK.out _ _ (fun j => if j = 5 then true else ℓ j) ⟨x86, x87, x88, x89, x90, .pointer (some ⟨B, 0, none⟩), x92, x93, x94, x6, (by simp only [Act.put, List.setIfInBounds_toArray, List.set_cons_zero, List.set_cons_succ]), ⟨hr.cu, hr.tu, hr.f0, hr.f1, hr.f2, hr.f3, hr.f4, (fun _ => rfl), hr.f6, hr.f7, hr.f8, hr.f9⟩⟩ (if_pos rfl) (fun j hj => if_neg hj)
        · obtain rfl := Option.some.inj ho
          have g5 : ℓ 5 = true := hdep { on := 5, ground := Ground.data } (by simp) rfl
          clear hdep ho
          have hx91 := hr.f5 g5
          subst hx91
          rw [if_pos (by rfl)]
          try simp only [Act.put, List.setIfInBounds_toArray, List.set_cons_zero, List.set_cons_succ]
          go_simp
          refine Calls.mono (draw_below _ _ _ _ _ _ hr.cu (by omega) (by omega)) ?_
          rintro e w9 ⟨pz, rfl, hpz0, hpz1, hc9, ht9⟩
          exact hK.out _ _ (fun j => if j = 6 then true else ℓ j) ⟨x86, x87, x88, x89, x90, .pointer (some ⟨B, 0, none⟩), .int .i64 pz, x93, x94, x6, (by simp only [Act.put, List.setIfInBounds_toArray, List.set_cons_zero, List.set_cons_succ]), ⟨hc9, (hr.tu.trans ht9), hr.f0, hr.f1, hr.f2, hr.f3, hr.f4, hr.f5, (fun _ => ⟨pz, rfl, hpz0, hpz1⟩), hr.f7, hr.f8, hr.f9⟩⟩ (if_pos rfl) (fun j hj => if_neg hj)
        · obtain rfl := Option.some.inj ho
          have g6 : ℓ 6 = true := hdep { on := 6, ground := Ground.data } (by simp) rfl
          clear hdep ho
          revert hK
          obtain ⟨pz, hx92, hpz0, hpz1⟩ := hr.f6 g6
          subst hx92
          intro hK
          have hqz : IntKind.i64.wrap (4 * pz) = 4 * pz := by rw [IntKind.wrap_i64]; omega
          rw [if_pos (by rfl)]
          try simp only [Act.put, List.setIfInBounds_toArray, List.set_cons_zero, List.set_cons_succ]
          go_simp
          exact hK.out _ _ (fun j => if j = 7 then true else ℓ j) ⟨x86, x87, x88, x89, x90, x91, .int .i64 pz, .int .i64 (4 * pz), x94, x6, (by simp only [Act.put, List.setIfInBounds_toArray, List.set_cons_zero, List.set_cons_succ]), ⟨hr.cu, hr.tu, hr.f0, hr.f1, hr.f2, hr.f3, hr.f4, hr.f5, hr.f6, (fun _ => ⟨pz, rfl, hpz0, hpz1⟩), hr.f8, hr.f9⟩⟩ (if_pos rfl) (fun j hj => if_neg hj)
        · obtain rfl := Option.some.inj ho
          have g4 : ℓ 4 = true := hdep { on := 4, ground := Ground.data } (by simp) rfl
          have g7 : ℓ 7 = true := hdep { on := 7, ground := Ground.data } (by simp) rfl
          clear hdep ho
          revert hK
          have hx90 := hr.f4 g4
          obtain ⟨pz, hx93, hpz0, hpz1⟩ := hr.f7 g7
          subst hx90 hx93
          intro hK
          have hqz : IntKind.i64.wrap ((at0 + 128 + 4 * px) + (32 + 4 * py) + 4 * pz) = (at0 + 128 + 4 * px) + (32 + 4 * py) + 4 * pz := by rw [IntKind.wrap_i64]; omega
          rw [if_pos (by rfl)]
          try simp only [Act.put, List.setIfInBounds_toArray, List.set_cons_zero, List.set_cons_succ]
          go_simp
          exact hK.out _ _ (fun j => if j = 8 then true else ℓ j) ⟨x86, x87, x88, x89, .int .i64 ((at0 + 128 + 4 * px) + (32 + 4 * py)), x91, x92, .int .i64 (4 * pz), .int .i64 ((at0 + 128 + 4 * px) + (32 + 4 * py) + 4 * pz), x6, (by simp only [Act.put, List.setIfInBounds_toArray, List.set_cons_zero, List.set_cons_succ]), ⟨hr.cu, hr.tu, hr.f0, hr.f1, hr.f2, hr.f3, hr.f4, hr.f5, hr.f6, hr.f7, (fun _ => ⟨pz, rfl, hpz0, hpz1⟩), hr.f9⟩⟩ (if_pos rfl) (fun j hj => if_neg hj)
        · obtain rfl := Option.some.inj ho
          have g8 : ℓ 8 = true := hdep { on := 8, ground := Ground.data } (by simp) rfl
          clear hdep ho
          revert hK
          obtain ⟨pz, hx94, hpz0, hpz1⟩ := hr.f8 g8
          subst hx94
          intro hK
          rw [if_pos (by rfl)]
          try simp only [Act.put, List.setIfInBounds_toArray, List.set_cons_zero, List.set_cons_succ]
          go_simp
          exact hK.out _ _ (fun j => if j = 9 then true else ℓ j) ⟨x86, x87, x88, x89, x90, x91, x92, x93, .int .i64 ((at0 + 128 + 4 * px) + (32 + 4 * py) + 4 * pz), .int .i64 ((at0 + 128 + 4 * px) + (32 + 4 * py) + 4 * pz), (by simp only [Act.put, List.setIfInBounds_toArray, List.set_cons_zero, List.set_cons_succ]), ⟨hr.cu, hr.tu, hr.f0, hr.f1, hr.f2, hr.f3, hr.f4, hr.f5, hr.f6, hr.f7, hr.f8, (fun _ => ⟨pz, rfl, hpz0, hpz1⟩)⟩⟩ (if_pos rfl) (fun j hj => if_neg hj)
      · rintro a' w' ℓ ℓ' hℓ hI
        rw [← show ℓ = ℓ' from funext hℓ]
        exact hI
    · intro ℓ a' w' i o hI ho hi hL hdep K hK
      obtain ⟨x56, x57, x58, x59, x60, x61, x62, x8, rfl, hr⟩ := hI
      have hi7 : i < 9 := hi
      have hcs : i = 0 ∨ i = 1 ∨ i = 2 ∨ i = 3 ∨ i = 4 ∨ i = 5 ∨ i = 6 ∨ i = 7 ∨ i = 8 := by omega
      have hl8 : i = 0 ∨ i = 2 ∨ i = 3 ∨ i = 6 ∨ i = 7 → ℓ 8 = false := fun hh => by
        cases h8 : ℓ 8
        · rfl
        · have e6 := (hr.c8 h8).1
          have e7 := (hr.c8 h8).2
          have e3 := hr.c6 e6
          have e2 := hr.c3 e3
          have e0 := hr.c2 e2
          rcases hh with rfl | rfl | rfl | rfl | rfl
          · rw [e0] at hL; cases hL
          · rw [e2] at hL; cases hL
          · rw [e3] at hL; cases hL
          · rw [e6] at hL; cases hL
          · rw [e7] at hL; cases hL
      clear hi hi7
      rcases hcs with rfl | rfl | rfl | rfl | rfl | rfl | rfl | rfl | rfl
      · obtain rfl := Option.some.inj ho
        clear hdep ho
        have hl := hl8 (by omega)
        rw [if_pos (by rfl)]
        try simp only [Act.put, List.setIfInBounds_toArray, List.set_cons_zero, List.set_cons_succ]
        go_simp
        have hbel : Below w'.heap.size w' (w'.alloc (.cells nmA 9)) := (Below.refl _ _).alloc (Nat.le_refl _) _
        have hr9 := hr.move hBr (hr.cu.below hbel) (Turn.of_below hbel)
        exact hK.out _ _ (fun j => if j = 0 then true else ℓ j) ⟨.slice (some ⟨w'.heap.size, 0, none⟩) 6 6, x57, x58, x59, x60, x61, x62, x8, (by simp only [Act.put, List.setIfInBounds_toArray, List.set_cons_zero, List.set_cons_succ]), ⟨hr9.cu, hr9.tu, (fun _ _ => ⟨_, rfl, hr.tu.size, Bk.new _ _ _ _ rfl⟩), hr9.f1, hr9.f2, hr9.f3, hr9.f4, hr9.f5, hr9.f6, hr9.f7, (fun _ => rfl), hr9.c3, hr9.c6, hr9.c8⟩⟩ (if_pos rfl) (fun j hj => if_neg hj)
      · obtain rfl := Option.some.inj ho
        clear hdep ho
        rw [if_pos (by rfl)]
        try simp only [Act.put, List.setIfInBounds_toArray, List.set_cons_zero, List.set_cons_succ]
        go_simp
        exact hK.out _ _ (fun j => if j = 1 then true else ℓ j) ⟨x56, .int .i64 (j : Int), x58, x59, x60, x61, x62, x8, (by simp only [Act.put, List.setIfInBounds_toArray, List.set_cons_zero, List.set_cons_succ]), ⟨hr.cu, hr.tu, hr.f0, (fun _ => rfl), hr.f2, hr.f3, hr.f4, hr.f5, hr.f6, hr.f7, hr.c2, hr.c3, hr.c6, hr.c8⟩⟩ (if_pos rfl) (fun j hj => if_neg hj)
      · obtain rfl := Option.some.inj ho
        have g0 : ℓ 0 = true := hdep { on := 0, ground := Ground.data } (by simp) rfl
        have g1 : ℓ 1 = true := hdep { on := 1, ground := Ground.data } (by simp) rfl
        clear hdep ho
        have hl := hl8 (by omega)
        revert hK
        obtain ⟨g, hx56, hg, hk⟩ := hr.f0 g0 hl
        have hx57 := hr.f1 g1
        subst hx56 hx57
        intro hK
        rw [if_pos (by rfl)]
        try simp only [Act.put, List.setIfInBounds_toArray, List.set_cons_zero, List.set_cons_succ]
        go_simp
        exact hK.out _ _ (fun j => if j = 2 then true else ℓ j) ⟨.slice (some ⟨g, 0, none⟩) 6 6, .int .i64 (j : Int), .pointer (some ⟨g, j, none⟩), x59, x60, x61, x62, x8, (by simp only [Act.put, List.setIfInBounds_toArray, List.set_cons_zero, List.set_cons_succ]), ⟨hr.cu, hr.tu, hr.f0, hr.f1, (fun _ _ => ⟨g, rfl, hg, hk⟩), hr.f3, hr.f4, hr.f5, hr.f6, hr.f7, (fun _ => g0), (fun _ => rfl), hr.c6, hr.c8⟩⟩ (if_pos rfl) (fun j hj => if_neg hj)
      · obtain rfl := Option.some.inj ho
        have g2 : ℓ 2 = true := hdep { on := 2, ground := Ground.data } (by simp) rfl
        clear hdep ho
        have hl := hl8 (by omega)
        revert hK
        obtain ⟨g, hx58, hg, hk⟩ := hr.f2 g2 hl
        subst hx58
        intro hK
        have cc := hk.cell j _ HNA.out
        rw [if_pos (by rfl)]
        try simp only [Act.put, List.setIfInBounds_toArray, List.set_cons_zero, List.set_cons_succ]
        go_simp
        exact hK.out _ _ (fun j => if j = 3 then true else ℓ j) ⟨x56, x57, .pointer (some ⟨g, j, none⟩), .string nm, x60, x61, x62, x8, (by simp only [Act.put, List.setIfInBounds_toArray, List.set_cons_zero, List.set_cons_succ]), ⟨hr.cu, hr.tu, hr.f0, hr.f1, hr.f2, (fun _ => rfl), hr.f4, hr.f5, hr.f6, hr.f7, hr.c2, (fun _ => g2), (fun _ => rfl), hr.c8⟩⟩ (if_pos rfl) (fun j hj => if_neg hj)
      · obtain rfl := Option.some.inj ho
        clear hdep ho
        rw [if_pos (by rfl)]
        try simp only [Act.put, List.setIfInBounds_toArray, List.set_cons_zero, List.set_cons_succ]
        go_simp
        exact hK.out _ _ (fun j => if j = 4 then true else ℓ j) ⟨x56, x57, x58, x59, .pointer (some ⟨B, 0, none⟩), x61, x62, x8, (by simp only [Act.put, List.setIfInBounds_toArray, List.set_cons_zero, List.set_cons_succ]), ⟨hr.cu, hr.tu, hr.f0, hr.f1, hr.f2, hr.f3, (fun _ => rfl), hr.f5, hr.f6, hr.f7, hr.c2, hr.c3, hr.c6, hr.c8⟩⟩ (if_pos rfl) (fun j hj => if_neg hj)
      · obtain rfl := Option.some.inj ho
        have g4 : ℓ 4 = true := hdep { on := 4, ground := Ground.data } (by simp) rfl
        clear hdep ho
        have hx60 := hr.f4 g4
        subst hx60
        rw [if_pos (by rfl)]
        try simp only [Act.put, List.setIfInBounds_toArray, List.set_cons_zero, List.set_cons_succ]
        go_simp
        refine Calls.mono (draw_policy _ _ _ _ _ hr.cu) ?_
        rintro e w9 ⟨k, m, rfl, hp, hc9, ht9⟩
        have hr9 := hr.move hBr hc9 ht9
        exact hK.out _ _ (fun j => if j = 5 then true else ℓ j) ⟨x56, x57, x58, x59, .pointer (some ⟨B, 0, none⟩), pol k m, x62, x8, (by simp only [Act.put, List.setIfInBounds_toArray, List.set_cons_zero, List.set_cons_succ]), ⟨hr9.cu, hr9.tu, hr9.f0, hr9.f1, hr9.f2, hr9.f3, hr9.f4, (fun _ => ⟨k, m, rfl, hp⟩), hr9.f6, hr9.f7, hr9.c2, hr9.c3, hr9.c6, hr9.c8⟩⟩ (if_pos rfl) (fun j hj => if_neg hj)
      · obtain rfl := Option.some.inj ho
        have g3 : ℓ 3 = true := hdep { on := 3, ground := Ground.data } (by simp) rfl
        have g5 : ℓ 5 = true := hdep { on := 5, ground := Ground.data } (by simp) rfl
        clear hdep ho
        have hl := hl8 (by omega)
        have hx59 := hr.f3 g3
        obtain ⟨k, m, hx61, hp⟩ := hr.f5 g5
        subst hx59 hx61
        rw [if_pos (by rfl)]
        try simp only [Act.put, List.setIfInBounds_toArray, List.set_cons_zero, List.set_cons_succ]
        go_simp
        exact hK.out _ _ (fun j => if j = 6 then true else ℓ j) ⟨x56, x57, x58, .string nm, x60, pol k m, rwV ⟨nm, 0, k, m, none, 0, 0⟩, x8, (by simp only [Act.put, List.setIfInBounds_toArray, List.set_cons_zero, List.set_cons_succ]), ⟨hr.cu, hr.tu, hr.f0, hr.f1, hr.f2, hr.f3, hr.f4, hr.f5, (fun _ => ⟨k, m, rfl, hp⟩), hr.f7, hr.c2, hr.c3, (fun _ => g3), (fun h => ⟨rfl, (hr.c8 h).2⟩)⟩⟩ (if_pos rfl) (fun j hj => if_neg hj)
      · obtain rfl := Option.some.inj ho
        clear hdep ho
        have hl := hl8 (by omega)
        rw [if_pos (by rfl)]
        try simp only [Act.put, List.setIfInBounds_toArray, List.set_cons_zero, List.set_cons_succ]
        go_simp
        have hbel : Below w'.heap.size w' (w'.alloc (.cells (rwA ⟨ByteArray.empty, 0, 0, 0, none, 0, 0⟩) 72)) := (Below.refl _ _).alloc (Nat.le_refl _) _
        have hr9 := hr.move hBr (hr.cu.below hbel) (Turn.of_below hbel)
        exact hK.out _ _ (fun j => if j = 7 then true else ℓ j) ⟨x56, x57, x58, x59, x60, x61, x62, .pointer (some ⟨w'.heap.size, 0, none⟩), (by simp only [Act.put, List.setIfInBounds_toArray, List.set_cons_zero, List.set_cons_succ]), ⟨hr9.cu, hr9.tu, hr9.f0, hr9.f1, hr9.f2, hr9.f3, hr9.f4, hr9.f5, hr9.f6, (fun _ => ⟨_, rfl, hr.tu.size, ⟨ByteArray.empty, 0, 0, 0, none, 0, 0⟩, Bk.new _ _ _ _ rfl, fun h => absurd (hl.symm.trans h) (by decide)⟩), hr9.c2, hr9.c3, hr9.c6, (fun h => absurd (hl.symm.trans h) (by decide))⟩⟩ (if_pos rfl) (fun j hj => if_neg hj)
      · obtain rfl := Option.some.inj ho
        have g6 : ℓ 6 = true := hdep { on := 6, ground := Ground.data } (by simp) rfl
        have g7 : ℓ 7 = true := hdep { on := 7, ground := Ground.data } (by simp) rfl
        clear hdep ho
        revert hK
        obtain ⟨k, m, hx62, hp⟩ := hr.f6 g6
        obtain ⟨b, hx8, hbl, y, hk8, hz8⟩ := hr.f7 g7
        clear hz8
        subst hx62 hx8
        intro hK
        have q0 := hk8.cell 0 _ rfl
        have q1 := hk8.cell 1 _ rfl
        have q2' := hk8.cell 2 _ rfl
        have q3 := hk8.cell 3 _ rfl
        have q4 := hk8.cell 4 _ rfl
        have z0 := hk8.free 0
        have z1 := hk8.free 1
        have z2 := hk8.free 2
        have z3 := hk8.free 3
        have z4 := hk8.free 4
        rw [if_pos (by rfl)]
        try simp only [Act.put, List.setIfInBounds_toArray, List.set_cons_zero, List.set_cons_succ]
        go_simp
        have hk9 : Bk (((((w'.setCell ⟨b, 0, none⟩ (.string nm)).setCell ⟨b, 1, none⟩ (.int .i64 0)).setCell ⟨b, 2, none⟩ (.int .i64 k)).setCell ⟨b, 3, none⟩ (.int .i64 m)).setCell ⟨b, 4, none⟩ (.slice none 0 0)) b (rwA ⟨nm, 0, k, m, none, 0, 0⟩) := ((((hk8.set 0 _ (by simp) rfl).set 1 _ (by simp) rfl).set 2 _ (by simp) rfl).set 3 _ (by simp) rfl).set 4 _ (by simp) rfl
        have htu : Turn B wr (((((w'.setCell ⟨b, 0, none⟩ (.string nm)).setCell ⟨b, 1, none⟩ (.int .i64 0)).setCell ⟨b, 2, none⟩ (.int .i64 k)).setCell ⟨b, 3, none⟩ (.int .i64 m)).setCell ⟨b, 4, none⟩ (.slice none 0 0)) := turn_far (turn_far (turn_far (turn_far (turn_far hr.tu hbl _ _) hbl _ _) hbl _ _) hbl _ _) hbl _ _
        have hbb : B ≠ b := by omega
        have hfa : ∀ b' off, a = some ⟨b', off, none⟩ → 0 < zs.length → b' ≠ b := fun b' off e h0 => by have := HLA.out b' off e h0; omega
        have hcu : Cur (((((w'.setCell ⟨b, 0, none⟩ (.string nm)).setCell ⟨b, 1, none⟩ (.int .i64 0)).setCell ⟨b, 2, none⟩ (.int .i64 k)).setCell ⟨b, 3, none⟩ (.int .i64 m)).setCell ⟨b, 4, none⟩ (.slice none 0 0)) B a zs cap := cur_far (cur_far (cur_far (cur_far (cur_far hr.cu _ _ _ hbb hfa) _ _ _ hbb hfa) _ _ _ hbb hfa) _ _ _ hbb hfa) _ _ _ hbb hfa
        exact hK.out _ _ (fun j => if j = 8 then true else ℓ j) ⟨x56, x57, x58, x59, x60, x61, rwV ⟨nm, 0, k, m, none, 0, 0⟩, .pointer (some ⟨b, 0, none⟩), (by simp only [Act.put, List.setIfInBounds_toArray, List.set_cons_zero, List.set_cons_succ]), ⟨hcu, htu, (fun _ h => by cases h), hr.f1, (fun _ h => by cases h), hr.f3, hr.f4, hr.f5, (fun _ => ⟨k, m, rfl, hp⟩), (fun _ => ⟨b, rfl, hbl, _, hk9, fun _ => ⟨k, m, rfl, hp⟩⟩), hr.c2, hr.c3, hr.c6, (fun _ => ⟨g6, g7⟩)⟩⟩ (if_pos rfl) (fun j hj => if_neg hj)
    · rintro a' w' ℓ ℓ' hℓ hI
      rw [← show ℓ = ℓ' from funext hℓ]
      exact hI
end Go.Proofs.YtlomcdgfcocmmaaGreatDoor
