
/-
  The likeness of two tables that the laws ask for. Conditions: the lengths are at most 1048576.
-/
import Derived.Test.YtofibnmbgfggkaaGreatDoorBas
import Derived.Test.YtofibnmbgfggkaaGreatDoorTbt
namespace Go.Proofs.YtofibnmbgfggkaaGreatDoor
open Go.ChangeShapes Go.WideShapes Go.ChangeAt Go.RowKit Go.Deep Go.Joins
set_option linter.unusedVariables false

theorem eq_shp (x y z : Int) (w : World) : Calls Tryz.prog 36 #[shp x y z, shp x y z] w fun e w' => e = .returned (.bool true) ∧ Below w.heap.size w w' := by
  go_enter Tryz.func36, Tryz.ntmps36
  go_wp2
  go_ret
  exact ⟨rfl, ((Below.refl _ _).alloc (Nat.le_refl _) _).alloc (by simp) _⟩
theorem eq_cst (b m e s k t l : Int) (w : World) : Calls Tryz.prog 37 #[cst b m e s k t l, cst b m e s k t l] w fun e w' => e = .returned (.bool true) ∧ Below w.heap.size w w' := by
  go_enter Tryz.func37, Tryz.ntmps37
  go_wp2
  go_ret
  exact ⟨rfl, ((Below.refl _ _).alloc (Nat.le_refl _) _).alloc (by simp) _⟩
set_option maxRecDepth 40000 in
set_option maxHeartbeats 8000000 in
theorem eq_tab (t : Tb) (a b : Ad) (w : World) (ha : TM 0 w t a) (hb : TM 0 w t b) (hs : TS a) (hp : b.pn = a.pn) (hd : b.dn = a.dn) (hc : b.cn = a.cn) (hss : b.sn = a.sn) :
    Calls Tryz.prog 12 #[tbV t a, tbV t b] w fun e w' => e = .returned (.bool true) ∧ Below w.heap.size w w' := by
  have HA : Hid (∀ X, Below w.heap.size w X → TM 0 X t a) := fun X hX => ha.below hX
  have HBT : Hid (∀ X, Below w.heap.size w X → TM 0 X t b) := fun X hX => hb.below hX
  have HS : Hid (TS a) := hs
  have E1 : Hid (∀ X, Below w.heap.size w X → Calls Tryz.prog 38 #[.slice a.pa a.pn a.pc, .slice b.pa a.pn b.pc] X fun e w' => e = .returned (.bool true) ∧ Below X.heap.size X w') := fun X hX => eq_parts a.pa b.pa a.pc b.pc a.pn t.ps a.Y b.Y X (HA.out X hX).p (hp ▸ (HBT.out X hX).p) HS.out.p (fun i hi => (HS.out.w i hi).1)
  have E2 : Hid (∀ X, Below w.heap.size w X → Calls Tryz.prog 39 #[.slice a.da a.dn a.dc, .slice b.da a.dn b.dc] X fun e w' => e = .returned (.bool true) ∧ Below X.heap.size X w') := fun X hX => in_eqs a.da b.da a.dc b.dc a.dn t.ds X (HA.out X hX).d.seg (hd ▸ (HBT.out X hX).d.seg) HS.out.d
  have E3 : Hid (∀ X, Below w.heap.size w X → Calls Tryz.prog 40 #[.slice a.ca a.cn a.cc, .slice b.ca a.cn b.cc] X fun e w' => e = .returned (.bool true) ∧ Below X.heap.size X w') := fun X hX => ch_eqs a.ca b.ca a.cc b.cc a.cn t.cs X (HA.out X hX).c.seg (hc ▸ (HBT.out X hX).c.seg) HS.out.c
  have E4 : Hid (∀ X, Below w.heap.size w X → Calls Tryz.prog 41 #[.slice a.sa a.sn a.sc, .slice b.sa a.sn b.sc] X fun e w' => e = .returned (.bool true) ∧ Below X.heap.size X w') := fun X hX => sl_eqs a.sa b.sa a.sc b.sc a.sn t.ss X (HA.out X hX).s.seg (hss ▸ (HBT.out X hX).s.seg) HS.out.s
  simp only [tbV, hp, hd, hc, hss]
  clear ha hb hs HA HBT HS hp hd hc hss
  have HB0 : Hid (Below w.heap.size w ((w.alloc (.cells #[.int .i64 t.mem, .int .i64 t.s1, .int .i64 t.s2, .int .i64 t.s3, .int .i64 t.tlb, .int .i64 t.c1, .int .i64 t.c2, .int .i64 t.c3, .int .i64 t.c4, .int .i64 t.c5, .int .i64 t.c6, .int .i64 t.c7, .int .i64 t.pad, .int .i64 t.grd, .int .i64 t.maj, .slice a.pa a.pn a.pc, .slice a.da a.dn a.dc, .slice a.ca a.cn a.cc, .slice a.sa a.sn a.sc] 40)).alloc (.cells #[.int .i64 t.mem, .int .i64 t.s1, .int .i64 t.s2, .int .i64 t.s3, .int .i64 t.tlb, .int .i64 t.c1, .int .i64 t.c2, .int .i64 t.c3, .int .i64 t.c4, .int .i64 t.c5, .int .i64 t.c6, .int .i64 t.c7, .int .i64 t.pad, .int .i64 t.grd, .int .i64 t.maj, .slice b.pa a.pn b.pc, .slice b.da a.dn b.dc, .slice b.ca a.cn b.cc, .slice b.sa a.sn b.sc] 40))) := ((Below.refl _ _).alloc (Nat.le_refl _) _).alloc (by simp) _
  have KA0 : Hid (CellsAt ((w.alloc (.cells #[.int .i64 t.mem, .int .i64 t.s1, .int .i64 t.s2, .int .i64 t.s3, .int .i64 t.tlb, .int .i64 t.c1, .int .i64 t.c2, .int .i64 t.c3, .int .i64 t.c4, .int .i64 t.c5, .int .i64 t.c6, .int .i64 t.c7, .int .i64 t.pad, .int .i64 t.grd, .int .i64 t.maj, .slice a.pa a.pn a.pc, .slice a.da a.dn a.dc, .slice a.ca a.cn a.cc, .slice a.sa a.sn a.sc] 40)).alloc (.cells #[.int .i64 t.mem, .int .i64 t.s1, .int .i64 t.s2, .int .i64 t.s3, .int .i64 t.tlb, .int .i64 t.c1, .int .i64 t.c2, .int .i64 t.c3, .int .i64 t.c4, .int .i64 t.c5, .int .i64 t.c6, .int .i64 t.c7, .int .i64 t.pad, .int .i64 t.grd, .int .i64 t.maj, .slice b.pa a.pn b.pc, .slice b.da a.dn b.dc, .slice b.ca a.cn b.cc, .slice b.sa a.sn b.sc] 40)) w.heap.size 0 [.int .i64 t.mem, .int .i64 t.s1, .int .i64 t.s2, .int .i64 t.s3, .int .i64 t.tlb, .int .i64 t.c1, .int .i64 t.c2, .int .i64 t.c3, .int .i64 t.c4, .int .i64 t.c5, .int .i64 t.c6, .int .i64 t.c7, .int .i64 t.pad, .int .i64 t.grd, .int .i64 t.maj, .slice a.pa a.pn a.pc, .slice a.da a.dn a.dc, .slice a.ca a.cn a.cc, .slice a.sa a.sn a.sc]) := (CellsAt.new w [.int .i64 t.mem, .int .i64 t.s1, .int .i64 t.s2, .int .i64 t.s3, .int .i64 t.tlb, .int .i64 t.c1, .int .i64 t.c2, .int .i64 t.c3, .int .i64 t.c4, .int .i64 t.c5, .int .i64 t.c6, .int .i64 t.c7, .int .i64 t.pad, .int .i64 t.grd, .int .i64 t.maj, .slice a.pa a.pn a.pc, .slice a.da a.dn a.dc, .slice a.ca a.cn a.cc, .slice a.sa a.sn a.sc] _ _ rfl).alloc _
  have KC0 : Hid (CellsAt ((w.alloc (.cells #[.int .i64 t.mem, .int .i64 t.s1, .int .i64 t.s2, .int .i64 t.s3, .int .i64 t.tlb, .int .i64 t.c1, .int .i64 t.c2, .int .i64 t.c3, .int .i64 t.c4, .int .i64 t.c5, .int .i64 t.c6, .int .i64 t.c7, .int .i64 t.pad, .int .i64 t.grd, .int .i64 t.maj, .slice a.pa a.pn a.pc, .slice a.da a.dn a.dc, .slice a.ca a.cn a.cc, .slice a.sa a.sn a.sc] 40)).alloc (.cells #[.int .i64 t.mem, .int .i64 t.s1, .int .i64 t.s2, .int .i64 t.s3, .int .i64 t.tlb, .int .i64 t.c1, .int .i64 t.c2, .int .i64 t.c3, .int .i64 t.c4, .int .i64 t.c5, .int .i64 t.c6, .int .i64 t.c7, .int .i64 t.pad, .int .i64 t.grd, .int .i64 t.maj, .slice b.pa a.pn b.pc, .slice b.da a.dn b.dc, .slice b.ca a.cn b.cc, .slice b.sa a.sn b.sc] 40)) (w.heap.size + 1) 0 [.int .i64 t.mem, .int .i64 t.s1, .int .i64 t.s2, .int .i64 t.s3, .int .i64 t.tlb, .int .i64 t.c1, .int .i64 t.c2, .int .i64 t.c3, .int .i64 t.c4, .int .i64 t.c5, .int .i64 t.c6, .int .i64 t.c7, .int .i64 t.pad, .int .i64 t.grd, .int .i64 t.maj, .slice b.pa a.pn b.pc, .slice b.da a.dn b.dc, .slice b.ca a.cn b.cc, .slice b.sa a.sn b.sc]) := CellsAt.new _ [.int .i64 t.mem, .int .i64 t.s1, .int .i64 t.s2, .int .i64 t.s3, .int .i64 t.tlb, .int .i64 t.c1, .int .i64 t.c2, .int .i64 t.c3, .int .i64 t.c4, .int .i64 t.c5, .int .i64 t.c6, .int .i64 t.c7, .int .i64 t.pad, .int .i64 t.grd, .int .i64 t.maj, .slice b.pa a.pn b.pc, .slice b.da a.dn b.dc, .slice b.ca a.cn b.cc, .slice b.sa a.sn b.sc] _ _ (by simp)
  go_enter Tryz.func12, Tryz.ntmps12
  go_wp2_with fail
  refine (eq_shp t.s1 t.s2 t.s3 _).mono ?_
  rintro e1 w1 ⟨rfl, hb1⟩
  have HB1 : Hid (Below w.heap.size w w1) := HB0.out.trans (hb1.mono HB0.out.size)
  have KA1 : Hid (CellsAt w1 w.heap.size 0 [.int .i64 t.mem, .int .i64 t.s1, .int .i64 t.s2, .int .i64 t.s3, .int .i64 t.tlb, .int .i64 t.c1, .int .i64 t.c2, .int .i64 t.c3, .int .i64 t.c4, .int .i64 t.c5, .int .i64 t.c6, .int .i64 t.c7, .int .i64 t.pad, .int .i64 t.grd, .int .i64 t.maj, .slice a.pa a.pn a.pc, .slice a.da a.dn a.dc, .slice a.ca a.cn a.cc, .slice a.sa a.sn a.sc]) := KA0.out.below hb1
  have KC1 : Hid (CellsAt w1 (w.heap.size + 1) 0 [.int .i64 t.mem, .int .i64 t.s1, .int .i64 t.s2, .int .i64 t.s3, .int .i64 t.tlb, .int .i64 t.c1, .int .i64 t.c2, .int .i64 t.c3, .int .i64 t.c4, .int .i64 t.c5, .int .i64 t.c6, .int .i64 t.c7, .int .i64 t.pad, .int .i64 t.grd, .int .i64 t.maj, .slice b.pa a.pn b.pc, .slice b.da a.dn b.dc, .slice b.ca a.cn b.cc, .slice b.sa a.sn b.sc]) := KC0.out.below hb1
  clear hb1 HB0 KA0 KC0
  have a4 : w1.cell? ⟨w.heap.size, 4, none⟩ = some (.int .i64 t.tlb) := cell0 KA1.out 4 rfl
  have c4 : w1.cell? ⟨w.heap.size + 1, 4, none⟩ = some (.int .i64 t.tlb) := cell0 KC1.out 4 rfl
  have a5 : w1.cell? ⟨w.heap.size, 5, none⟩ = some (.int .i64 t.c1) := cell0 KA1.out 5 rfl
  have c5 : w1.cell? ⟨w.heap.size + 1, 5, none⟩ = some (.int .i64 t.c1) := cell0 KC1.out 5 rfl
  have a6 : w1.cell? ⟨w.heap.size, 6, none⟩ = some (.int .i64 t.c2) := cell0 KA1.out 6 rfl
  have c6 : w1.cell? ⟨w.heap.size + 1, 6, none⟩ = some (.int .i64 t.c2) := cell0 KC1.out 6 rfl
  have a7 : w1.cell? ⟨w.heap.size, 7, none⟩ = some (.int .i64 t.c3) := cell0 KA1.out 7 rfl
  have c7 : w1.cell? ⟨w.heap.size + 1, 7, none⟩ = some (.int .i64 t.c3) := cell0 KC1.out 7 rfl
  have a8 : w1.cell? ⟨w.heap.size, 8, none⟩ = some (.int .i64 t.c4) := cell0 KA1.out 8 rfl
  have c8 : w1.cell? ⟨w.heap.size + 1, 8, none⟩ = some (.int .i64 t.c4) := cell0 KC1.out 8 rfl
  have a9 : w1.cell? ⟨w.heap.size, 9, none⟩ = some (.int .i64 t.c5) := cell0 KA1.out 9 rfl
  have c9 : w1.cell? ⟨w.heap.size + 1, 9, none⟩ = some (.int .i64 t.c5) := cell0 KC1.out 9 rfl
  have a10 : w1.cell? ⟨w.heap.size, 10, none⟩ = some (.int .i64 t.c6) := cell0 KA1.out 10 rfl
  have c10 : w1.cell? ⟨w.heap.size + 1, 10, none⟩ = some (.int .i64 t.c6) := cell0 KC1.out 10 rfl
  have a11 : w1.cell? ⟨w.heap.size, 11, none⟩ = some (.int .i64 t.c7) := cell0 KA1.out 11 rfl
  have c11 : w1.cell? ⟨w.heap.size + 1, 11, none⟩ = some (.int .i64 t.c7) := cell0 KC1.out 11 rfl
  go_wp2_with fail
  refine Calls.mono (eq_cst t.c1 t.c2 t.c3 t.c4 t.c5 t.c6 t.c7 _) ?_
  clear a4 c4 a5 c5 a6 c6 a7 c7 a8 c8 a9 c9 a10 c10 a11 c11
  rintro e2 w2 ⟨rfl, hb2⟩
  have HB2 : Hid (Below w.heap.size w w2) := HB1.out.trans (hb2.mono HB1.out.size)
  have KA2 : Hid (CellsAt w2 w.heap.size 0 [.int .i64 t.mem, .int .i64 t.s1, .int .i64 t.s2, .int .i64 t.s3, .int .i64 t.tlb, .int .i64 t.c1, .int .i64 t.c2, .int .i64 t.c3, .int .i64 t.c4, .int .i64 t.c5, .int .i64 t.c6, .int .i64 t.c7, .int .i64 t.pad, .int .i64 t.grd, .int .i64 t.maj, .slice a.pa a.pn a.pc, .slice a.da a.dn a.dc, .slice a.ca a.cn a.cc, .slice a.sa a.sn a.sc]) := KA1.out.below hb2
  have KC2 : Hid (CellsAt w2 (w.heap.size + 1) 0 [.int .i64 t.mem, .int .i64 t.s1, .int .i64 t.s2, .int .i64 t.s3, .int .i64 t.tlb, .int .i64 t.c1, .int .i64 t.c2, .int .i64 t.c3, .int .i64 t.c4, .int .i64 t.c5, .int .i64 t.c6, .int .i64 t.c7, .int .i64 t.pad, .int .i64 t.grd, .int .i64 t.maj, .slice b.pa a.pn b.pc, .slice b.da a.dn b.dc, .slice b.ca a.cn b.cc, .slice b.sa a.sn b.sc]) := KC1.out.below hb2
  clear hb2 HB1 KA1 KC1
  have a12 : w2.cell? ⟨w.heap.size, 12, none⟩ = some (.int .i64 t.pad) := cell0 KA2.out 12 rfl
  have c12 : w2.cell? ⟨w.heap.size + 1, 12, none⟩ = some (.int .i64 t.pad) := cell0 KC2.out 12 rfl
  have a13 : w2.cell? ⟨w.heap.size, 13, none⟩ = some (.int .i64 t.grd) := cell0 KA2.out 13 rfl
  have c13 : w2.cell? ⟨w.heap.size + 1, 13, none⟩ = some (.int .i64 t.grd) := cell0 KC2.out 13 rfl
  have a14 : w2.cell? ⟨w.heap.size, 14, none⟩ = some (.int .i64 t.maj) := cell0 KA2.out 14 rfl
  have c14 : w2.cell? ⟨w.heap.size + 1, 14, none⟩ = some (.int .i64 t.maj) := cell0 KC2.out 14 rfl
  have a15 : w2.cell? ⟨w.heap.size, 15, none⟩ = some (.slice a.pa a.pn a.pc) := cell0 KA2.out 15 rfl
  have c15 : w2.cell? ⟨w.heap.size + 1, 15, none⟩ = some (.slice b.pa a.pn b.pc) := cell0 KC2.out 15 rfl
  go_wp2_with fail
  refine Calls.mono (E1.out _ HB2.out) ?_
  clear a12 c12 a13 c13 a14 c14 a15 c15
  rintro e3 w3 ⟨rfl, hb3⟩
  have HB3 : Hid (Below w.heap.size w w3) := HB2.out.trans (hb3.mono HB2.out.size)
  have KA3 : Hid (CellsAt w3 w.heap.size 0 [.int .i64 t.mem, .int .i64 t.s1, .int .i64 t.s2, .int .i64 t.s3, .int .i64 t.tlb, .int .i64 t.c1, .int .i64 t.c2, .int .i64 t.c3, .int .i64 t.c4, .int .i64 t.c5, .int .i64 t.c6, .int .i64 t.c7, .int .i64 t.pad, .int .i64 t.grd, .int .i64 t.maj, .slice a.pa a.pn a.pc, .slice a.da a.dn a.dc, .slice a.ca a.cn a.cc, .slice a.sa a.sn a.sc]) := KA2.out.below hb3
  have KC3 : Hid (CellsAt w3 (w.heap.size + 1) 0 [.int .i64 t.mem, .int .i64 t.s1, .int .i64 t.s2, .int .i64 t.s3, .int .i64 t.tlb, .int .i64 t.c1, .int .i64 t.c2, .int .i64 t.c3, .int .i64 t.c4, .int .i64 t.c5, .int .i64 t.c6, .int .i64 t.c7, .int .i64 t.pad, .int .i64 t.grd, .int .i64 t.maj, .slice b.pa a.pn b.pc, .slice b.da a.dn b.dc, .slice b.ca a.cn b.cc, .slice b.sa a.sn b.sc]) := KC2.out.below hb3
  clear hb3 HB2 KA2 KC2
  have a16 : w3.cell? ⟨w.heap.size, 16, none⟩ = some (.slice a.da a.dn a.dc) := cell0 KA3.out 16 rfl
  have c16 : w3.cell? ⟨w.heap.size + 1, 16, none⟩ = some (.slice b.da a.dn b.dc) := cell0 KC3.out 16 rfl
  go_wp2_with fail
  refine Calls.mono (E2.out _ HB3.out) ?_
  clear a16 c16
  rintro e4 w4 ⟨rfl, hb4⟩
  have HB4 : Hid (Below w.heap.size w w4) := HB3.out.trans (hb4.mono HB3.out.size)
  have KA4 : Hid (CellsAt w4 w.heap.size 0 [.int .i64 t.mem, .int .i64 t.s1, .int .i64 t.s2, .int .i64 t.s3, .int .i64 t.tlb, .int .i64 t.c1, .int .i64 t.c2, .int .i64 t.c3, .int .i64 t.c4, .int .i64 t.c5, .int .i64 t.c6, .int .i64 t.c7, .int .i64 t.pad, .int .i64 t.grd, .int .i64 t.maj, .slice a.pa a.pn a.pc, .slice a.da a.dn a.dc, .slice a.ca a.cn a.cc, .slice a.sa a.sn a.sc]) := KA3.out.below hb4
  have KC4 : Hid (CellsAt w4 (w.heap.size + 1) 0 [.int .i64 t.mem, .int .i64 t.s1, .int .i64 t.s2, .int .i64 t.s3, .int .i64 t.tlb, .int .i64 t.c1, .int .i64 t.c2, .int .i64 t.c3, .int .i64 t.c4, .int .i64 t.c5, .int .i64 t.c6, .int .i64 t.c7, .int .i64 t.pad, .int .i64 t.grd, .int .i64 t.maj, .slice b.pa a.pn b.pc, .slice b.da a.dn b.dc, .slice b.ca a.cn b.cc, .slice b.sa a.sn b.sc]) := KC3.out.below hb4
  clear hb4 HB3 KA3 KC3
  have a17 : w4.cell? ⟨w.heap.size, 17, none⟩ = some (.slice a.ca a.cn a.cc) := cell0 KA4.out 17 rfl
  have c17 : w4.cell? ⟨w.heap.size + 1, 17, none⟩ = some (.slice b.ca a.cn b.cc) := cell0 KC4.out 17 rfl
  go_wp2_with fail
  refine Calls.mono (E3.out _ HB4.out) ?_
  clear a17 c17
  rintro e5 w5 ⟨rfl, hb5⟩
  have HB5 : Hid (Below w.heap.size w w5) := HB4.out.trans (hb5.mono HB4.out.size)
  have KA5 : Hid (CellsAt w5 w.heap.size 0 [.int .i64 t.mem, .int .i64 t.s1, .int .i64 t.s2, .int .i64 t.s3, .int .i64 t.tlb, .int .i64 t.c1, .int .i64 t.c2, .int .i64 t.c3, .int .i64 t.c4, .int .i64 t.c5, .int .i64 t.c6, .int .i64 t.c7, .int .i64 t.pad, .int .i64 t.grd, .int .i64 t.maj, .slice a.pa a.pn a.pc, .slice a.da a.dn a.dc, .slice a.ca a.cn a.cc, .slice a.sa a.sn a.sc]) := KA4.out.below hb5
  have KC5 : Hid (CellsAt w5 (w.heap.size + 1) 0 [.int .i64 t.mem, .int .i64 t.s1, .int .i64 t.s2, .int .i64 t.s3, .int .i64 t.tlb, .int .i64 t.c1, .int .i64 t.c2, .int .i64 t.c3, .int .i64 t.c4, .int .i64 t.c5, .int .i64 t.c6, .int .i64 t.c7, .int .i64 t.pad, .int .i64 t.grd, .int .i64 t.maj, .slice b.pa a.pn b.pc, .slice b.da a.dn b.dc, .slice b.ca a.cn b.cc, .slice b.sa a.sn b.sc]) := KC4.out.below hb5
  clear hb5 HB4 KA4 KC4
  have a18 : w5.cell? ⟨w.heap.size, 18, none⟩ = some (.slice a.sa a.sn a.sc) := cell0 KA5.out 18 rfl
  have c18 : w5.cell? ⟨w.heap.size + 1, 18, none⟩ = some (.slice b.sa a.sn b.sc) := cell0 KC5.out 18 rfl
  go_wp2_with fail
  refine Calls.mono (E4.out _ HB5.out) ?_
  clear a18 c18
  rintro e6 w6 ⟨rfl, hb6⟩
  have HB6 : Hid (Below w.heap.size w w6) := HB5.out.trans (hb6.mono HB5.out.size)
  have KA6 : Hid (CellsAt w6 w.heap.size 0 [.int .i64 t.mem, .int .i64 t.s1, .int .i64 t.s2, .int .i64 t.s3, .int .i64 t.tlb, .int .i64 t.c1, .int .i64 t.c2, .int .i64 t.c3, .int .i64 t.c4, .int .i64 t.c5, .int .i64 t.c6, .int .i64 t.c7, .int .i64 t.pad, .int .i64 t.grd, .int .i64 t.maj, .slice a.pa a.pn a.pc, .slice a.da a.dn a.dc, .slice a.ca a.cn a.cc, .slice a.sa a.sn a.sc]) := KA5.out.below hb6
  have KC6 : Hid (CellsAt w6 (w.heap.size + 1) 0 [.int .i64 t.mem, .int .i64 t.s1, .int .i64 t.s2, .int .i64 t.s3, .int .i64 t.tlb, .int .i64 t.c1, .int .i64 t.c2, .int .i64 t.c3, .int .i64 t.c4, .int .i64 t.c5, .int .i64 t.c6, .int .i64 t.c7, .int .i64 t.pad, .int .i64 t.grd, .int .i64 t.maj, .slice b.pa a.pn b.pc, .slice b.da a.dn b.dc, .slice b.ca a.cn b.cc, .slice b.sa a.sn b.sc]) := KC5.out.below hb6
  clear hb6 HB5 KA5 KC5
  go_wp2
  go_ret
  exact ⟨rfl, HB6.out⟩
end Go.Proofs.YtofibnmbgfggkaaGreatDoor
