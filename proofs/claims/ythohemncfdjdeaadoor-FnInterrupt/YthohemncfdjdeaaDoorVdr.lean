
/-
  What the draw of virtual registers and of a device returns: words in their bounds. Conditions: the bytes drawn from are at most 1048576.
-/
import Derived.Test.YthohemncfdjdeaaDoorVcw
import Derived.Test.YthohemncfdjdeaaDoorDraw
namespace Go.Proofs.YthohemncfdjdeaaDoor
open Go.ChangeShapes Go.WideShapes Go.ChangeAt Go.RowKit Go.Deep
set_option linter.unusedVariables false

/-- The block 'X' holds these registers and may be written. -/
structure OV (w : World) (X : Nat) (o : Bool) (v s c k : Int) (t n : Bool) (p : Int) : Prop where
  vc : VC w X o v s c k t n p
  free : ∀ i, w.frozen? ⟨X, i, none⟩ = false
theorem OV.new (w : World) (T : TypeId) (o : Bool) (v s c k : Int) (t n : Bool) (p : Int) : OV (w.alloc (.cells (vrow o v s c k t n p) T)) w.heap.size o v s c k t n p :=
  ⟨VC.new _ _ _ _ _ _ _ _ _ _, fun i => new_free _ _ _ i⟩
theorem OV.turn {w w' : World} {B X : Nat} {o : Bool} {v s c k : Int} {t n : Bool} {p : Int} (h : OV w X o v s c k t n p) (ht : Turn B w w') (hX : X ≠ B) : OV w' X o v s c k t n p :=
  ⟨⟨(ht.cell h.vc.lt hX).trans h.vc.c0, (ht.cell h.vc.lt hX).trans h.vc.c1, (ht.cell h.vc.lt hX).trans h.vc.c2, (ht.cell h.vc.lt hX).trans h.vc.c3, (ht.cell h.vc.lt hX).trans h.vc.c4, (ht.cell h.vc.lt hX).trans h.vc.c5, (ht.cell h.vc.lt hX).trans h.vc.c6, (ht.cell h.vc.lt hX).trans h.vc.c7⟩,
   fun i => (ht.frozen h.vc.lt hX).trans (h.free i)⟩
theorem OV.below {w w' : World} {X : Nat} {o : Bool} {v s c k : Int} {t n : Bool} {p : Int} (h : OV w X o v s c k t n p) (hb : Below w.heap.size w w') : OV w' X o v s c k t n p :=
  ⟨h.vc.kept hb h.vc.lt, fun i => (hb.frozen (p := ⟨X, i, none⟩) h.vc.lt).trans (h.free i)⟩
theorem OV.set7 {w : World} {X : Nat} {o : Bool} {v s c k : Int} {t n : Bool} {p : Int} (h : OV w X o v s c k t n p) (q : Int) : OV (w.setCell ⟨X, 7, none⟩ (.int .u32 q)) X o v s c k t n q :=
  ⟨⟨other_cell h.vc.c0 (by decide), other_cell h.vc.c1 (by decide), other_cell h.vc.c2 (by decide), other_cell h.vc.c3 (by decide), other_cell h.vc.c4 (by decide), other_cell h.vc.c5 (by decide), other_cell h.vc.c6 (by decide), same_cell h.vc.c7⟩,
   fun i => by simpa using h.free i⟩
theorem OV.far {w : World} {X Y : Nat} {o : Bool} {v s c k : Int} {t n : Bool} {p : Int} (h : OV w X o v s c k t n p) (hXY : X ≠ Y) (j : Nat) (u : Value) : OV (w.setCell ⟨Y, j, none⟩ u) X o v s c k t n p :=
  h.turn (B := Y) ((Turn.refl _ _).setCell j u) hXY
theorem cur_far {w : World} {B : Nat} {a : Option Addr} {zs : List Int} {cap : Nat} (h : Cur w B a zs cap) (Y j : Nat) (u : Value) (hY : B ≠ Y) (hf : ∀ b off, a = some ⟨b, off, none⟩ → 0 < zs.length → b ≠ Y) : Cur (w.setCell ⟨Y, j, none⟩ u) B a zs cap := by
  have ht : Turn Y w (w.setCell ⟨Y, j, none⟩ u) := (Turn.refl _ _).setCell j u
  obtain ⟨i, hi, e1⟩ := h.c1
  obtain ⟨x, e2⟩ := h.c2
  exact ⟨by simpa using h.lt, (ht.cell h.lt hY).trans h.c0, ⟨i, hi, (ht.cell h.lt hY).trans e1⟩, ⟨x, (ht.cell h.lt hY).trans e2⟩, fun i => (ht.frozen h.lt hY).trans (h.free i), h.seg.turn ht hf, h.far, h.byte, h.small⟩
theorem turn_far {B Y : Nat} {w X : World} (h : Turn B w X) (hY : w.heap.size ≤ Y) (j : Nat) (u : Value) : Turn B w (X.setCell ⟨Y, j, none⟩ u) :=
  ⟨h.os, h.tape, h.output, by simpa [World.setCell] using h.size, fun k hk hn => (Below.heap_setCell _ _ _ _ (by show k ≠ Y; omega)).trans (h.block k hk hn)⟩
theorem turn8 {B R : Nat} {w X : World} (h : Turn B w X) (hR : w.heap.size ≤ R) (a0 a1 a2 a3 a4 a5 a6 a7 : Value) :
    Turn B w ((((((((X.setCell ⟨R, 0, none⟩ a0).setCell ⟨R, 1, none⟩ a1).setCell ⟨R, 2, none⟩ a2).setCell ⟨R, 3, none⟩ a3).setCell ⟨R, 4, none⟩ a4).setCell ⟨R, 5, none⟩ a5).setCell ⟨R, 6, none⟩ a6).setCell ⟨R, 7, none⟩ a7) := by
  have g0 := turn_far h hR 0 a0
  have g1 := turn_far g0 hR 1 a1
  have g2 := turn_far g1 hR 2 a2
  have g3 := turn_far g2 hR 3 a3
  have g4 := turn_far g3 hR 4 a4
  have g5 := turn_far g4 hR 5 a5
  have g6 := turn_far g5 hR 6 a6
  exact turn_far g6 hR 7 a7
theorem cur8 {B R : Nat} {X : World} {a : Option Addr} {zs : List Int} {cap : Nat} (h : Cur X B a zs cap) (hY : B ≠ R) (hf : ∀ b off, a = some ⟨b, off, none⟩ → 0 < zs.length → b ≠ R) (a0 a1 a2 a3 a4 a5 a6 a7 : Value) :
    Cur ((((((((X.setCell ⟨R, 0, none⟩ a0).setCell ⟨R, 1, none⟩ a1).setCell ⟨R, 2, none⟩ a2).setCell ⟨R, 3, none⟩ a3).setCell ⟨R, 4, none⟩ a4).setCell ⟨R, 5, none⟩ a5).setCell ⟨R, 6, none⟩ a6).setCell ⟨R, 7, none⟩ a7) B a zs cap := by
  have g0 := cur_far h R 0 a0 hY hf
  have g1 := cur_far g0 R 1 a1 hY hf
  have g2 := cur_far g1 R 2 a2 hY hf
  have g3 := cur_far g2 R 3 a3 hY hf
  have g4 := cur_far g3 R 4 a4 hY hf
  have g5 := cur_far g4 R 5 a5 hY hf
  have g6 := cur_far g5 R 6 a6 hY hf
  exact cur_far g6 R 7 a7 hY hf
set_option maxHeartbeats 400000 in
theorem draw_once (w : World) (B : Nat) (a : Option Addr) (zs : List Int) (cap : Nat) (n : Int) (hc : Cur w B a zs cap) (h1 : 1 ≤ n) (h2 : n ≤ 4294967296) :
    Calls Tryd.prog 43 #[.pointer (some ⟨B, 0, none⟩), .int .i64 n] w fun e w' => ∃ x : Bool, e = .returned (.bool x) ∧ Cur w' B a zs cap ∧ Turn B w w' := by
  go_enter Tryd.func43, Tryd.ntmps43
  go_wp2_with fail
  refine (draw_below _ _ _ _ _ _ hc h1 h2).mono ?_
  rintro e w1 ⟨x, rfl, hx0, hx1, hc1, ht1⟩
  go_wp2
  go_ret
  exact ⟨_, rfl, hc1, ht1⟩
set_option maxHeartbeats 1000000 in
theorem draw_word (w : World) (B : Nat) (a : Option Addr) (zs : List Int) (cap : Nat) (hc : Cur w B a zs cap) :
    Calls Tryd.prog 44 #[.pointer (some ⟨B, 0, none⟩)] w fun e w' => ∃ x : Int, e = .returned (.int .u32 x) ∧ 0 ≤ x ∧ x ≤ 4294967295 ∧ Cur w' B a zs cap ∧ Turn B w w' := by
  go_enter Tryd.func44, Tryd.ntmps44
  go_wp2_with fail
  refine (draw_below _ _ _ _ _ _ hc (by omega) (by omega)).mono ?_
  rintro e w1 ⟨x, rfl, hx0, hx1, hc1, ht1⟩
  by_cases x0 : x = 0
  · have hb : (x == 0) = true := by simp [x0]
    clear x0
    go_wp2_with fail
    refine (draw_pick _ B w1.heap.size _ _ _ [0, 1, 2, 31, 32, 255, 256, 2147483647, 2147483648, 4294967295, 4294967294] (hc1.below ((Below.refl _ _).alloc (Nat.le_refl _) _)) (own_lit .i64 w1 3 _) (by have := hc1.lt; omega) (by decide) (by decide)).mono ?_
    rintro e w2 ⟨y, rfl, hy, hc2, ht2⟩
    have hy2 : 0 ≤ y ∧ y ≤ 4294967295 := by simp at hy; omega
    obtain ⟨hy0, hy1⟩ := hy2
    clear hy
    go_wp2
    go_ret
    exact ⟨_, rfl, by omega, by omega, hc2, (ht1.alloc _).trans ht2⟩
  · have hb : (x == 0) = false := beq_eq_false_iff_ne.2 x0
    clear x0
    by_cases x1 : x = 1
    · have hb1 : (x == 1) = true := by simp [x1]
      clear x1
      go_wp2_with fail
      refine (draw_below _ _ _ _ _ _ hc1 (by omega) (by omega)).mono ?_
      rintro e w2 ⟨y, rfl, hy0, hy1, hc2, ht2⟩
      go_wp2
      go_ret
      exact ⟨_, rfl, by omega, by omega, hc2, ht1.trans ht2⟩
    · have hb1 : (x == 1) = false := beq_eq_false_iff_ne.2 x1
      clear x1
      go_wp2_with fail
      refine (draw_below _ _ _ _ _ _ hc1 (by omega) (by omega)).mono ?_
      rintro e w2 ⟨y, rfl, hy0, hy1, hc2, ht2⟩
      go_wp2_with fail
      refine (draw_below _ _ _ _ _ _ hc2 (by omega) (by omega)).mono ?_
      rintro e w3 ⟨z, rfl, hz0, hz1, hc3, ht3⟩
      go_wp2
      go_ret
      exact ⟨_, rfl, by omega, by omega, hc3, (ht1.trans ht2).trans ht3⟩
set_option maxHeartbeats 2000000 in
theorem draw_virt (w : World) (B : Nat) (a : Option Addr) (zs : List Int) (cap : Nat) (hc : Cur w B a zs cap) :
    Calls Tryd.prog 26 #[.pointer (some ⟨B, 0, none⟩)] w fun e w' => ∃ o v s c k t n p, e = .returned (vrt o v s c k t n p) ∧ 0 ≤ k ∧ k ≤ 4294967295 ∧ 0 ≤ p ∧ p ≤ 4294967295 ∧ Cur w' B a zs cap ∧ Turn B w w' := by
  have hBl : B < w.heap.size := hc.lt
  have HR : Hid (OV (w.alloc (.cells (vrow false 0 0 0 0 false false 0) 26)) w.heap.size false 0 0 0 0 false false 0) := OV.new _ _ _ _ _ _ _ _ _ _
  have HC : Hid (Cur (w.alloc (.cells (vrow false 0 0 0 0 false false 0) 26)) B a zs cap) := hc.below ((Below.refl _ _).alloc (Nat.le_refl _) _)
  have HU : Hid (Turn B w (w.alloc (.cells (vrow false 0 0 0 0 false false 0) 26))) := (Turn.refl _ _).alloc _
  have HSL : Hid (∀ b off, a = some ⟨b, off, none⟩ → 0 < zs.length → b < w.heap.size) := seg_lt hc.seg
  clear hc
  have hRB : w.heap.size ≠ B := by omega
  go_enter Tryd.func26, Tryd.ntmps26
  go_wp2_with fail
  refine (draw_once _ _ _ _ _ 4 HC.out (by omega) (by omega)).mono ?_
  rintro e w1 ⟨b1, rfl, hc1, ht1⟩
  replace HR : Hid _ := HR.out.turn ht1 hRB
  replace HU : Hid _ := HU.out.trans ht1
  replace HC : Hid _ := hc1
  clear ht1 hc1
  go_wp2_with fail
  refine (draw_word _ _ _ _ _ HC.out).mono ?_
  rintro e w2 ⟨v, rfl, v1, v2, hc2, ht2⟩
  replace HR : Hid _ := HR.out.turn ht2 hRB
  replace HU : Hid _ := HU.out.trans ht2
  replace HC : Hid _ := hc2
  clear ht2 hc2
  go_wp2_with fail
  refine (draw_word _ _ _ _ _ HC.out).mono ?_
  rintro e w3 ⟨s, rfl, s1, s2, hc3, ht3⟩
  replace HR : Hid _ := HR.out.turn ht3 hRB
  replace HU : Hid _ := HU.out.trans ht3
  replace HC : Hid _ := hc3
  clear ht3 hc3
  go_wp2_with fail
  refine (draw_below _ _ _ _ _ 34 HC.out (by omega) (by omega)).mono ?_
  rintro e w4 ⟨c, rfl, c1, c2, hc4, ht4⟩
  replace HR : Hid _ := HR.out.turn ht4 hRB
  replace HU : Hid _ := HU.out.trans ht4
  replace HC : Hid _ := hc4
  clear ht4 hc4
  go_wp2_with fail
  refine (draw_below _ _ _ _ _ 500 HC.out (by omega) (by omega)).mono ?_
  rintro e w5 ⟨k, rfl, k1, k2, hc5, ht5⟩
  replace HR : Hid _ := HR.out.turn ht5 hRB
  replace HU : Hid _ := HU.out.trans ht5
  replace HC : Hid _ := hc5
  clear ht5 hc5
  go_wp2_with fail
  refine (draw_once _ _ _ _ _ 2 HC.out (by omega) (by omega)).mono ?_
  rintro e w6 ⟨t, rfl, hc6, ht6⟩
  replace HR : Hid _ := HR.out.turn ht6 hRB
  replace HU : Hid _ := HU.out.trans ht6
  replace HC : Hid _ := hc6
  clear ht6 hc6
  go_wp2_with fail
  refine (draw_once _ _ _ _ _ 4 HC.out (by omega) (by omega)).mono ?_
  rintro e w7 ⟨n, rfl, hc7, ht7⟩
  replace HR : Hid _ := HR.out.turn ht7 hRB
  replace HU : Hid _ := HU.out.trans ht7
  replace HC : Hid _ := hc7
  clear ht7 hc7
  have hRl : w.heap.size < w7.heap.size := HR.out.vc.lt
  have HY : Hid (OV (w7.alloc (.cells (vrow (!b1) v s c k t n 0) 26)) w7.heap.size (!b1) v s c k t n 0) := OV.new _ _ _ _ _ _ _ _ _ _
  replace HR : Hid _ := HR.out.below ((Below.refl _ w7).alloc (Nat.le_refl _) (.cells (vrow (!b1) v s c k t n 0) 26))
  replace HC : Hid _ := HC.out.below ((Below.refl _ w7).alloc (Nat.le_refl _) (.cells (vrow (!b1) v s c k t n 0) 26))
  replace HU : Hid _ := HU.out.alloc (.cells (vrow (!b1) v s c k t n 0) 26)
  go_wp2_with fail
  refine (draw_once _ _ _ _ _ 2 HC.out (by omega) (by omega)).mono ?_
  rintro e w8 ⟨b2, rfl, hc8, ht8⟩
  have hYB : w7.heap.size ≠ B := by omega
  replace HR : Hid _ := HR.out.turn ht8 hRB
  replace HY : Hid _ := HY.out.turn ht8 hYB
  replace HU : Hid _ := HU.out.trans ht8
  replace HC : Hid _ := hc8
  clear ht8 hc8
  have hYR : w.heap.size ≠ w7.heap.size := by omega
  have HSY : Hid (∀ b off, a = some ⟨b, off, none⟩ → 0 < zs.length → b ≠ w7.heap.size) := fun b off e h => by have := HSL.out b off e h; omega
  have HSR : Hid (∀ b off, a = some ⟨b, off, none⟩ → 0 < zs.length → b ≠ w.heap.size) := fun b off e h => by have := HSL.out b off e h; omega
  clear HSL
  obtain ⟨Y, hY⟩ : ∃ Y, Y = w7.heap.size := ⟨_, rfl⟩
  rw [← hY] at hYB hRl hYR HY HSY ⊢
  clear hY
  cases b2
  rotate_left
  · go_wp2_with fail
    refine (draw_below _ _ _ _ _ 32 HC.out (by omega) (by omega)).mono ?_
    rintro e w9 ⟨x, rfl, x1, x2, hc9, ht9⟩
    replace HR : Hid _ := HR.out.turn ht9 hRB
    replace HY : Hid _ := HY.out.turn ht9 hYB
    replace HU : Hid _ := HU.out.trans ht9
    replace HC : Hid _ := hc9
    clear ht9 hc9
    have c7 := HY.out.vc.c7
    have f7 := HY.out.free 7
    go_wp2_with fail
    clear c7 f7
    obtain ⟨q, hq⟩ : ∃ q, q = (2 : Int) ^ x.toNat % 4294967296 := ⟨_, rfl⟩
    have q1 : 0 ≤ q := by rw [hq]; exact Int.emod_nonneg _ (by decide)
    have q2 : q ≤ 4294967295 := by rw [hq]; exact Int.le_of_lt_add_one (Int.emod_lt_of_pos _ (by decide))
    rw [← hq]
    clear hq
    replace HY : Hid _ := HY.out.set7 q
    replace HR : Hid _ := HR.out.far hYR 7 (.int .u32 q)
    replace HU : Hid _ := turn_far HU.out (Nat.le_of_lt hRl) 7 (.int .u32 q)
    replace HC : Hid _ := cur_far HC.out Y 7 (.int .u32 q) (Ne.symm hYB) HSY.out
    refine (draw_once _ _ _ _ _ 3 HC.out (by omega) (by omega)).mono ?_
    rintro e w10 ⟨b3, rfl, hc8, ht8⟩
    replace HR : Hid _ := HR.out.turn ht8 hRB
    replace HY : Hid _ := HY.out.turn ht8 hYB
    replace HU : Hid _ := HU.out.trans ht8
    replace HC : Hid _ := hc8
    clear ht8 hc8
    cases b3
    · skip
      obtain ⟨c0, c10, c20, c3, c4, c5, c6, c7⟩ := HY.out.vc
      have f7 := HY.out.free 7
      obtain ⟨r0, r1, r2, r3, r4, r5, r6, r7⟩ := HR.out.vc
      have z0 := HR.out.free 0
      have z1 := HR.out.free 1
      have z2 := HR.out.free 2
      have z3 := HR.out.free 3
      have z4 := HR.out.free 4
      have z5 := HR.out.free 5
      have z6 := HR.out.free 6
      have z7 := HR.out.free 7
      go_wp2
      clear c0 c10 c20 c3 c4 c5 c6 c7 f7 r0 r1 r2 r3 r4 r5 r6 r7 z0 z1 z2 z3 z4 z5 z6 z7
      have hs := set8 HR.out.vc (!b1) v s c k t n q
      have hC8 := cur8 HC.out (by omega) HSR.out (.bool !b1) (.int .u32 v) (.int .u32 s) (.int .u32 c) (.int .u32 k) (.bool t) (.bool n) (.int .u32 q)
      have hT8 := turn8 HU.out (Nat.le_refl _) (.bool !b1) (.int .u32 v) (.int .u32 s) (.int .u32 c) (.int .u32 k) (.bool t) (.bool n) (.int .u32 q)
      revert hs hC8 hT8
      generalize ((((((((w10).setCell ⟨w.heap.size, 0, none⟩ (.bool !b1)).setCell ⟨w.heap.size, 1, none⟩ (.int .u32 v)).setCell ⟨w.heap.size, 2, none⟩ (.int .u32 s)).setCell ⟨w.heap.size, 3, none⟩ (.int .u32 c)).setCell ⟨w.heap.size, 4, none⟩ (.int .u32 k)).setCell ⟨w.heap.size, 5, none⟩ (.bool t)).setCell ⟨w.heap.size, 6, none⟩ (.bool n)).setCell ⟨w.heap.size, 7, none⟩ (.int .u32 q) = W8
      intro hs hC8 hT8
      obtain ⟨e0, e1, e2, e3, e4, e5, e6, e7⟩ := hs
      exact bodyPost_ret (v := vrt (!b1) v s c k t n q) (by simp [results, Tryd.results26, go_sem, e0, e1, e2, e3, e4, e5, e6, e7]) rfl ⟨!b1, v, s, c, k, t, n, q, rfl, k1, by omega, by omega, by omega, hC8, hT8⟩
    · skip
      go_wp2_with fail
      refine (draw_word _ _ _ _ _ HC.out).mono ?_
      rintro e w11 ⟨y, rfl, y1, y2, hc8, ht8⟩
      replace HR : Hid _ := HR.out.turn ht8 hRB
      replace HY : Hid _ := HY.out.turn ht8 hYB
      replace HU : Hid _ := HU.out.trans ht8
      replace HC : Hid _ := hc8
      clear ht8 hc8
      obtain ⟨c0, c10, c20, c3, c4, c5, c6, c7⟩ := HY.out.vc
      have f7 := HY.out.free 7
      obtain ⟨r0, r1, r2, r3, r4, r5, r6, r7⟩ := HR.out.vc
      have z0 := HR.out.free 0
      have z1 := HR.out.free 1
      have z2 := HR.out.free 2
      have z3 := HR.out.free 3
      have z4 := HR.out.free 4
      have z5 := HR.out.free 5
      have z6 := HR.out.free 6
      have z7 := HR.out.free 7
      go_wp2
      clear c0 c10 c20 c3 c4 c5 c6 c7 f7 r0 r1 r2 r3 r4 r5 r6 r7 z0 z1 z2 z3 z4 z5 z6 z7
      replace HR : Hid _ := HR.out.far hYR 7 (.int .u32 y)
      replace HU : Hid _ := turn_far HU.out (Nat.le_of_lt hRl) 7 (.int .u32 y)
      replace HC : Hid _ := cur_far HC.out Y 7 (.int .u32 y) (Ne.symm hYB) HSY.out
      have hs := set8 HR.out.vc (!b1) v s c k t n y
      have hC8 := cur8 HC.out (by omega) HSR.out (.bool !b1) (.int .u32 v) (.int .u32 s) (.int .u32 c) (.int .u32 k) (.bool t) (.bool n) (.int .u32 y)
      have hT8 := turn8 HU.out (Nat.le_refl _) (.bool !b1) (.int .u32 v) (.int .u32 s) (.int .u32 c) (.int .u32 k) (.bool t) (.bool n) (.int .u32 y)
      revert hs hC8 hT8
      generalize (((((((((w11.setCell ⟨Y, 7, none⟩ (.int .u32 y))).setCell ⟨w.heap.size, 0, none⟩ (.bool !b1)).setCell ⟨w.heap.size, 1, none⟩ (.int .u32 v)).setCell ⟨w.heap.size, 2, none⟩ (.int .u32 s)).setCell ⟨w.heap.size, 3, none⟩ (.int .u32 c)).setCell ⟨w.heap.size, 4, none⟩ (.int .u32 k)).setCell ⟨w.heap.size, 5, none⟩ (.bool t)).setCell ⟨w.heap.size, 6, none⟩ (.bool n)).setCell ⟨w.heap.size, 7, none⟩ (.int .u32 y) = W8
      intro hs hC8 hT8
      obtain ⟨e0, e1, e2, e3, e4, e5, e6, e7⟩ := hs
      exact bodyPost_ret (v := vrt (!b1) v s c k t n y) (by simp [results, Tryd.results26, go_sem, e0, e1, e2, e3, e4, e5, e6, e7]) rfl ⟨!b1, v, s, c, k, t, n, y, rfl, k1, by omega, by omega, by omega, hC8, hT8⟩
  · go_wp2_with fail
    refine (draw_once _ _ _ _ _ 3 HC.out (by omega) (by omega)).mono ?_
    rintro e w9 ⟨b3, rfl, hc8, ht8⟩
    replace HR : Hid _ := HR.out.turn ht8 hRB
    replace HY : Hid _ := HY.out.turn ht8 hYB
    replace HU : Hid _ := HU.out.trans ht8
    replace HC : Hid _ := hc8
    clear ht8 hc8
    cases b3
    · skip
      obtain ⟨c0, c10, c20, c3, c4, c5, c6, c7⟩ := HY.out.vc
      have f7 := HY.out.free 7
      obtain ⟨r0, r1, r2, r3, r4, r5, r6, r7⟩ := HR.out.vc
      have z0 := HR.out.free 0
      have z1 := HR.out.free 1
      have z2 := HR.out.free 2
      have z3 := HR.out.free 3
      have z4 := HR.out.free 4
      have z5 := HR.out.free 5
      have z6 := HR.out.free 6
      have z7 := HR.out.free 7
      go_wp2
      clear c0 c10 c20 c3 c4 c5 c6 c7 f7 r0 r1 r2 r3 r4 r5 r6 r7 z0 z1 z2 z3 z4 z5 z6 z7
      have hs := set8 HR.out.vc (!b1) v s c k t n 0
      have hC8 := cur8 HC.out (by omega) HSR.out (.bool !b1) (.int .u32 v) (.int .u32 s) (.int .u32 c) (.int .u32 k) (.bool t) (.bool n) (.int .u32 0)
      have hT8 := turn8 HU.out (Nat.le_refl _) (.bool !b1) (.int .u32 v) (.int .u32 s) (.int .u32 c) (.int .u32 k) (.bool t) (.bool n) (.int .u32 0)
      revert hs hC8 hT8
      generalize ((((((((w9).setCell ⟨w.heap.size, 0, none⟩ (.bool !b1)).setCell ⟨w.heap.size, 1, none⟩ (.int .u32 v)).setCell ⟨w.heap.size, 2, none⟩ (.int .u32 s)).setCell ⟨w.heap.size, 3, none⟩ (.int .u32 c)).setCell ⟨w.heap.size, 4, none⟩ (.int .u32 k)).setCell ⟨w.heap.size, 5, none⟩ (.bool t)).setCell ⟨w.heap.size, 6, none⟩ (.bool n)).setCell ⟨w.heap.size, 7, none⟩ (.int .u32 0) = W8
      intro hs hC8 hT8
      obtain ⟨e0, e1, e2, e3, e4, e5, e6, e7⟩ := hs
      exact bodyPost_ret (v := vrt (!b1) v s c k t n 0) (by simp [results, Tryd.results26, go_sem, e0, e1, e2, e3, e4, e5, e6, e7]) rfl ⟨!b1, v, s, c, k, t, n, 0, rfl, k1, by omega, by omega, by omega, hC8, hT8⟩
    · skip
      go_wp2_with fail
      refine (draw_word _ _ _ _ _ HC.out).mono ?_
      rintro e w10 ⟨y, rfl, y1, y2, hc8, ht8⟩
      replace HR : Hid _ := HR.out.turn ht8 hRB
      replace HY : Hid _ := HY.out.turn ht8 hYB
      replace HU : Hid _ := HU.out.trans ht8
      replace HC : Hid _ := hc8
      clear ht8 hc8
      obtain ⟨c0, c10, c20, c3, c4, c5, c6, c7⟩ := HY.out.vc
      have f7 := HY.out.free 7
      obtain ⟨r0, r1, r2, r3, r4, r5, r6, r7⟩ := HR.out.vc
      have z0 := HR.out.free 0
      have z1 := HR.out.free 1
      have z2 := HR.out.free 2
      have z3 := HR.out.free 3
      have z4 := HR.out.free 4
      have z5 := HR.out.free 5
      have z6 := HR.out.free 6
      have z7 := HR.out.free 7
      go_wp2
      clear c0 c10 c20 c3 c4 c5 c6 c7 f7 r0 r1 r2 r3 r4 r5 r6 r7 z0 z1 z2 z3 z4 z5 z6 z7
      replace HR : Hid _ := HR.out.far hYR 7 (.int .u32 y)
      replace HU : Hid _ := turn_far HU.out (Nat.le_of_lt hRl) 7 (.int .u32 y)
      replace HC : Hid _ := cur_far HC.out Y 7 (.int .u32 y) (Ne.symm hYB) HSY.out
      have hs := set8 HR.out.vc (!b1) v s c k t n y
      have hC8 := cur8 HC.out (by omega) HSR.out (.bool !b1) (.int .u32 v) (.int .u32 s) (.int .u32 c) (.int .u32 k) (.bool t) (.bool n) (.int .u32 y)
      have hT8 := turn8 HU.out (Nat.le_refl _) (.bool !b1) (.int .u32 v) (.int .u32 s) (.int .u32 c) (.int .u32 k) (.bool t) (.bool n) (.int .u32 y)
      revert hs hC8 hT8
      generalize (((((((((w10.setCell ⟨Y, 7, none⟩ (.int .u32 y))).setCell ⟨w.heap.size, 0, none⟩ (.bool !b1)).setCell ⟨w.heap.size, 1, none⟩ (.int .u32 v)).setCell ⟨w.heap.size, 2, none⟩ (.int .u32 s)).setCell ⟨w.heap.size, 3, none⟩ (.int .u32 c)).setCell ⟨w.heap.size, 4, none⟩ (.int .u32 k)).setCell ⟨w.heap.size, 5, none⟩ (.bool t)).setCell ⟨w.heap.size, 6, none⟩ (.bool n)).setCell ⟨w.heap.size, 7, none⟩ (.int .u32 y) = W8
      intro hs hC8 hT8
      obtain ⟨e0, e1, e2, e3, e4, e5, e6, e7⟩ := hs
      exact bodyPost_ret (v := vrt (!b1) v s c k t n y) (by simp [results, Tryd.results26, go_sem, e0, e1, e2, e3, e4, e5, e6, e7]) rfl ⟨!b1, v, s, c, k, t, n, y, rfl, k1, by omega, by omega, by omega, hC8, hT8⟩
end Go.Proofs.YthohemncfdjdeaaDoor
