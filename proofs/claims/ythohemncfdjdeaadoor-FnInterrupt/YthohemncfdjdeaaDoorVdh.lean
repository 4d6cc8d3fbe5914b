
/-
  What the draw of virtual registers and a device returns. Conditions: the bytes drawn from are at most 1048576.
-/
import Derived.Test.YthohemncfdjdeaaDoorVdr
import Derived.Deep.RegionWith
namespace Go.Proofs.YthohemncfdjdeaaDoor
open Go.ChangeShapes Go.WideShapes Go.ChangeAt Go.RowKit Go.Deep
set_option linter.unusedVariables false

theorem turn_cell {w w' : World} {B b j : Nat} {v : Value} (ht : Turn B w w') (hn : b ≠ B) (h : w.cell? ⟨b, j, none⟩ = some v) : w'.cell? ⟨b, j, none⟩ = some v :=
  (ht.cell (World.block_lt_of_cell? w _ h) hn).trans h
theorem turn_free {w w' : World} {B b j : Nat} {v : Value} (ht : Turn B w w') (hn : b ≠ B) (hc : w.cell? ⟨b, j, none⟩ = some v) (h : w.frozen? ⟨b, j, none⟩ = false) : w'.frozen? ⟨b, j, none⟩ = false :=
  (ht.frozen (World.block_lt_of_cell? w _ hc) hn).trans h
theorem cur_drew {w : World} {B : Nat} {a : Option Addr} {zs : List Int} {cap : Nat} (h : Cur w B a zs cap) : Cur w.drew B a zs cap :=
  ⟨h.lt, h.c0, h.c1, h.c2, h.free, h.seg.below (Below.refl _ _).drew, h.far, h.byte, h.small⟩
set_option maxHeartbeats 2000000 in
theorem draw_hold (w : World) (a : Option Addr) (zs : List Int) (cap n0 : Nat) (hs : Seg .u8 w a zs) (hb : ∀ z ∈ zs, (Lit.int .u8 z).wf = true) (hn : n0 ≤ 1048576) (hl : zs.length = n0) :
    Calls Tryd.prog 15 #[.slice a n0 cap] w fun e w' => ∃ o v s c k t n p d, e = .returned (.tuple #[vrt o v s c k t n p, .int .i64 d]) ∧ 0 ≤ k ∧ k ≤ 4294967295 ∧ 0 ≤ p ∧ p ≤ 4294967295 ∧ -1 ≤ d ∧ d ≤ 33 ∧ Below w.heap.size w w' := by
  have HR : Hid (OV (w.alloc (.cells (vrow false 0 0 0 0 false false 0) 26)) w.heap.size false 0 0 0 0 false false 0) := OV.new _ _ _ _ _ _ _ _ _ _
  have HN : Hid (∀ X, Below w.heap.size w X → Calls Tryd.prog 25 #[.slice a n0 cap] X fun e w' => e = .returned (.pointer (some ⟨X.heap.size, 0, none⟩)) ∧ Cur w' X.heap.size a zs cap ∧ Below X.heap.size X w') := fun X hX => by
    have := draw_new X a zs cap (hs.below hX) hb (by omega)
    rw [hl] at this
    exact this
  have HB : Hid (Below w.heap.size w (w.alloc (.cells (vrow false 0 0 0 0 false false 0) 26))) := (Below.refl _ _).alloc (Nat.le_refl _) _
  clear hs hb hl
  go_enter Tryd.func15, Tryd.ntmps15
  go_wp2_with fail
  refine (HN.out _ HB.out).mono ?_
  rintro e w1 ⟨rfl, hc1, hb1⟩
  replace HR : Hid _ := HR.out.below hb1
  replace HB : Hid _ := HB.out.trans (hb1.mono HB.out.size)
  have hRB : w.heap.size ≠ (w.alloc (.cells (vrow false 0 0 0 0 false false 0) 26)).heap.size := by simp
  have hRB2 : w.heap.size ≤ (w.alloc (.cells (vrow false 0 0 0 0 false false 0) 26)).heap.size := by simp
  clear hb1 HN
  revert hRB hRB2 hc1
  generalize (w.alloc (.cells (vrow false 0 0 0 0 false false 0) 26)).heap.size = B
  intro hc1 hRB hRB2
  have HC : Hid (Cur w1 B a zs cap) := hc1
  clear hc1
  go_wp2_with fail
  refine (draw_virt _ _ _ _ _ HC.out).mono ?_
  rintro e w2 ⟨o, v, s, c, k, t, n, p, rfl, k1, k2, p1, p2, hc2, ht2⟩
  replace HR : Hid _ := HR.out.turn ht2 hRB
  replace HB : Hid _ := HB.out.trans (ht2.below hRB2 HB.out.size)
  replace HC : Hid _ := hc2
  clear hc2 ht2
  obtain ⟨w3, HW⟩ : ∃ w3, Hid (w3 = w2.alloc (.cells (vrow o v s c k t n p) 26)) := ⟨_, rfl⟩
  have hZB : w2.heap.size ≠ B := by have := HC.out.lt; omega
  have hZR : w.heap.size ≠ w2.heap.size := by have := HR.out.vc.lt; omega
  replace HR : Hid (OV w3 w.heap.size false 0 0 0 0 false false 0) := by
    show OV _ _ _ _ _ _ _ _ _ _
    rw [HW.out]; exact HR.out.below ((Below.refl _ w2).alloc (Nat.le_refl _) _)
  have hb : Below w.heap.size w w3 := by rw [HW.out]; exact HB.out.trans ((Below.refl _ w2).alloc HB.out.size _)
  have hc : Cur w3 B a zs cap := by rw [HW.out]; exact HC.out.below ((Below.refl _ w2).alloc (Nat.le_refl _) _)
  obtain ⟨c0, c10, c2, c3, c4, c5, c6, c7⟩ : VC w3 w2.heap.size o v s c k t n p := by rw [HW.out]; exact VC.new _ _ _ _ _ _ _ _ _ _
  obtain ⟨r0, r1, r2, r3, r4, r5, r6, r7⟩ := HR.out.vc
  have z0 := HR.out.free 0
  have z1 := HR.out.free 1
  have z2 := HR.out.free 2
  have z3 := HR.out.free 3
  have z4 := HR.out.free 4
  have z5 := HR.out.free 5
  have z6 := HR.out.free 6
  have z7 := HR.out.free 7
  clear HR HB HC
  go_wp2
  rw [← HW.out]
  clear HW
  obtain ⟨Z, hZ⟩ : ∃ Z, Z = w2.heap.size := ⟨_, rfl⟩
  rw [← hZ] at hZB hZR c0 c10 c2 c3 c4 c5 c6 c7 ⊢
  clear hZ
  replace hc : Hid _ := hc
  replace hb : Hid _ := hb
  go_region_with (go_at_call 27; refine (draw_below _ _ _ _ _ 35 (by first | exact hc.out | exact cur_drew hc.out) (by omega) (by omega)).mono ?_; rintro e9 w9 ⟨x, rfl, x1, x2, hc9, ht9⟩; replace hb : Hid _ := (by first | exact hb.out.trans (ht9.below hRB2 hb.out.size) | exact hb.out.drew.trans (ht9.below hRB2 hb.out.drew.size)); replace z0 := turn_free ht9 hRB r0 z0; replace z1 := turn_free ht9 hRB r1 z1; replace z2 := turn_free ht9 hRB r2 z2; replace z3 := turn_free ht9 hRB r3 z3; replace z4 := turn_free ht9 hRB r4 z4; replace z5 := turn_free ht9 hRB r5 z5; replace z6 := turn_free ht9 hRB r6 z6; replace z7 := turn_free ht9 hRB r7 z7; replace c0 := turn_cell ht9 hZB c0; replace c10 := turn_cell ht9 hZB c10; replace c2 := turn_cell ht9 hZB c2; replace c3 := turn_cell ht9 hZB c3; replace c4 := turn_cell ht9 hZB c4; replace c5 := turn_cell ht9 hZB c5; replace c6 := turn_cell ht9 hZB c6; replace c7 := turn_cell ht9 hZB c7; replace r0 := turn_cell ht9 hRB r0; replace r1 := turn_cell ht9 hRB r1; replace r2 := turn_cell ht9 hRB r2; replace r3 := turn_cell ht9 hRB r3; replace r4 := turn_cell ht9 hRB r4; replace r5 := turn_cell ht9 hRB r5; replace r6 := turn_cell ht9 hRB r6; replace r7 := turn_cell ht9 hRB r7; clear hc ht9 hc9)
  all_goals go_wp2
  all_goals
    have hw : IntKind.i64.wrap (x - 1) = x - 1 := by rw [IntKind.wrap_i64]; omega
    have hs := set8 ⟨r0, r1, r2, r3, r4, r5, r6, r7⟩ o v s c k t n p
    have hB := below8 hb.out (Nat.le_refl _) (.bool o) (.int .u32 v) (.int .u32 s) (.int .u32 c) (.int .u32 k) (.bool t) (.bool n) (.int .u32 p)
    clear c0 c10 c2 c3 c4 c5 c6 c7 r0 r1 r2 r3 r4 r5 r6 r7 z0 z1 z2 z3 z4 z5 z6 z7 hb
    revert hs hB
    generalize ((((((((w9).setCell ⟨w.heap.size, 0, none⟩ (.bool o)).setCell ⟨w.heap.size, 1, none⟩ (.int .u32 v)).setCell ⟨w.heap.size, 2, none⟩ (.int .u32 s)).setCell ⟨w.heap.size, 3, none⟩ (.int .u32 c)).setCell ⟨w.heap.size, 4, none⟩ (.int .u32 k)).setCell ⟨w.heap.size, 5, none⟩ (.bool t)).setCell ⟨w.heap.size, 6, none⟩ (.bool n)).setCell ⟨w.heap.size, 7, none⟩ (.int .u32 p) = W
    intro hs hB
    obtain ⟨e0, e1, e2, e3, e4, e5, e6, e7⟩ := hs
    exact bodyPost_ret (v := .tuple #[vrt o v s c k t n p, .int .i64 (x - 1)]) (by simp [results, Tryd.results15, go_sem, e0, e1, e2, e3, e4, e5, e6, e7, hw]) rfl ⟨o, v, s, c, k, t, n, p, x - 1, rfl, k1, k2, p1, p2, by omega, by omega, hB⟩
end Go.Proofs.YthohemncfdjdeaaDoor
