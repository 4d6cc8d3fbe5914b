
/-
  The specification's step at one op, over a guest of the call's own. Conditions: the guest's registers are words.
-/
import Derived.Test.YtjlhkjiccibgdaaGreatDoorCs0
namespace Go.Proofs.YtjlhkjiccibgdaaGreatDoor
open Go.ChangeShapes Go.WideShapes Go.ChangeAt Go.RowKit Go.Deep
set_option linter.unusedVariables false

set_option maxRecDepth 20000 in
set_option maxHeartbeats 4000000 in
theorem sp18 (lo hi rc n mc A B C cap : Nat) (ra ma a : Option Addr) (pc m cy v : Int) (rs : List Int) (D : Nat → List Int) (w : World) (hfl : ∀ X, Below w.heap.size w X → Calls Tryz.prog 43 #[.slice a n cap, .int .u32 ((rs.getD B 0 + m) % 4294967296), .int .i64 1, .int .i64 2] X fun e w' => e = .returned (.int .i64 0) ∧ Below X.heap.size X w') (D1 : Nat → List Int) (hpt : ∀ X, Below w.heap.size w X → Sep X lo hi ra ma rs n D → Calls Tryz.prog 44 #[.slice a n cap, gst ra 16 rc pc ma n mc, .int .i64 ((rs.getD B 0 + m) % 4294967296), .int .i64 1, .int .u32 (rs.getD A 0)] X fun e w' => e = .returned (.tuple #[]) ∧ Betw lo hi X w' ∧ Sep w' lo hi ra ma rs n D1)
    (hS : Sep w lo hi ra ma rs n D) (hl : rs.length = 16) (hw : ∀ z ∈ rs, (Lit.int .u32 z).wf = true) (hA : A ≤ 15) (hBB : B ≤ 15) (hC : C ≤ 15) (hm0 : -8192 ≤ m) (hm1 : m ≤ 8191) (hp0 : 0 ≤ pc) (hp1 : pc ≤ 4294967295) (hlh : lo ≤ hi) (hhi : hi ≤ w.heap.size)
    (hft : ∀ X, Below w.heap.size w X → Calls Tryz.prog 38 #[.slice a n cap, gst ra 16 rc pc ma n mc] X fun e w' => e = .returned (.tuple #[.int .u32 v, .int .i64 0]) ∧ Below X.heap.size X w')
    (hdc : ∀ X, Below w.heap.size w X → Calls Tryz.prog 39 #[.int .u32 v] X fun e w' => e = .returned (.tuple #[Is.ins 18 A B C m, .bool true]) ∧ Below X.heap.size X w') :
    Calls Tryz.prog 20 #[.slice a n cap, gst ra 16 rc pc ma n mc, .int .i64 cy] w fun e w' => e = .returned (stp ra 16 rc ((pc + 4) % 4294967296) ma n mc 0 18 ((rs.getD B 0 + m) % 4294967296) true false) ∧ Betw lo hi w w' ∧ Sep w' lo hi ra ma rs n D1 := by
  have HFL : Hid (∀ X, Below w.heap.size w X → Calls Tryz.prog 43 #[.slice a n cap, .int .u32 ((rs.getD B 0 + m) % 4294967296), .int .i64 1, .int .i64 2] X fun e w' => e = .returned (.int .i64 0) ∧ Below X.heap.size X w') := hfl
  clear hfl
  have HPT : Hid (∀ X, Below w.heap.size w X → Sep X lo hi ra ma rs n D → Calls Tryz.prog 44 #[.slice a n cap, gst ra 16 rc pc ma n mc, .int .i64 ((rs.getD B 0 + m) % 4294967296), .int .i64 1, .int .u32 (rs.getD A 0)] X fun e w' => e = .returned (.tuple #[]) ∧ Betw lo hi X w' ∧ Sep w' lo hi ra ma rs n D1) := hpt
  clear hpt
  obtain ⟨R, off, rfl, hR, hR1, hR2, hc⟩ := regs_as hS hl
  have hA' : (A : Int) < 16 := by omega
  have hB' : (B : Int) < 16 := by omega
  have hC' : (C : Int) < 16 := by omega
  obtain ⟨a1, a2⟩ := wf_reg hw hl A (by omega)
  obtain ⟨b1, b2⟩ := wf_reg hw hl B (by omega)
  obtain ⟨c1, c2⟩ := wf_reg hw hl C (by omega)
  have HE : Hid ((w.cell? ⟨R, off + A, none⟩ = some (.int .u32 (rs.getD A 0))) ∧ (w.cell? ⟨R, off + B, none⟩ = some (.int .u32 (rs.getD B 0))) ∧ (w.cell? ⟨R, off + C, none⟩ = some (.int .u32 (rs.getD C 0)))) := ⟨hc A (by omega), hc B (by omega), hc C (by omega)⟩
  generalize rs.getD A 0 = ua at *
  generalize rs.getD B 0 = ub at *
  generalize rs.getD C 0 = uc at *
  have HFT : Hid (∀ X, Below w.heap.size w X → Calls Tryz.prog 38 #[.slice a n cap, gst (some ⟨R, off, none⟩) 16 rc pc ma n mc] X fun e w' => e = .returned (.tuple #[.int .u32 v, .int .i64 0]) ∧ Below X.heap.size X w') := hft
  have HDC : Hid (∀ X, Below w.heap.size w X → Calls Tryz.prog 39 #[.int .u32 v] X fun e w' => e = .returned (.tuple #[Is.ins 18 A B C m, .bool true]) ∧ Below X.heap.size X w') := hdc
  have HS : Hid (Sep w lo hi (some ⟨R, off, none⟩) ma rs n D) := hS
  obtain ⟨ra, hra⟩ : ∃ ra, ra = some (⟨R, off, none⟩ : Addr) := ⟨_, rfl⟩
  have hb0 : Below w.heap.size w (((w.alloc (.cells #[.slice ra 16 rc, .int .u32 pc, .slice ma n mc] 30)).alloc (.cells (srow none 0 0 0 none 0 0 0 0 0 false false) 32)).alloc (.cells (srow ra 16 rc pc ma n mc 0 (-1) (-1) false false) 32)) := (((Below.refl _ w).alloc (Nat.le_refl _) _).alloc (by simp) _).alloc (by simp; omega) _
  have K4 : Bk (((w.alloc (.cells #[.slice ra 16 rc, .int .u32 pc, .slice ma n mc] 30)).alloc (.cells (srow none 0 0 0 none 0 0 0 0 0 false false) 32)).alloc (.cells (srow ra 16 rc pc ma n mc 0 (-1) (-1) false false) 32)) w.heap.size #[.slice ra 16 rc, .int .u32 pc, .slice ma n mc] := ((Bk.new w #[.slice ra 16 rc, .int .u32 pc, .slice ma n mc] 30 w.heap.size rfl).alloc _).alloc _
  have K6 : Bk (((w.alloc (.cells #[.slice ra 16 rc, .int .u32 pc, .slice ma n mc] 30)).alloc (.cells (srow none 0 0 0 none 0 0 0 0 0 false false) 32)).alloc (.cells (srow ra 16 rc pc ma n mc 0 (-1) (-1) false false) 32)) (w.heap.size + 1) (srow none 0 0 0 none 0 0 0 0 0 false false) := (Bk.new (w.alloc (.cells #[.slice ra 16 rc, .int .u32 pc, .slice ma n mc] 30)) (srow none 0 0 0 none 0 0 0 0 0 false false) 32 (w.heap.size + 1) (by simp)).alloc _
  have K7 : Bk (((w.alloc (.cells #[.slice ra 16 rc, .int .u32 pc, .slice ma n mc] 30)).alloc (.cells (srow none 0 0 0 none 0 0 0 0 0 false false) 32)).alloc (.cells (srow ra 16 rc pc ma n mc 0 (-1) (-1) false false) 32)) (w.heap.size + 1 + 1) (srow ra 16 rc pc ma n mc 0 (-1) (-1) false false) := Bk.new ((w.alloc (.cells #[.slice ra 16 rc, .int .u32 pc, .slice ma n mc] 30)).alloc (.cells (srow none 0 0 0 none 0 0 0 0 0 false false) 32)) (srow ra 16 rc pc ma n mc 0 (-1) (-1) false false) 32 (w.heap.size + 1 + 1) (by simp)
  rw [hra] at hb0 K4 K6 K7
  have HB : Hid (Below w.heap.size w _) := hb0
  have HK : Hid (Bk _ w.heap.size _ ∧ Bk _ (w.heap.size + 1) _ ∧ Bk _ (w.heap.size + 1 + 1) _) := ⟨K4, K6, K7⟩
  clear hS hc hw hft hdc hb0 K4 K6 K7 hra
  go_enter Tryz.func20, Tryz.ntmps20
  go_wp2_with fail
  refine (HFT.out _ HB.out).mono ?_
  rintro e w1 ⟨rfl, hb1⟩
  have HB1 : Hid (Below w.heap.size w w1) := HB.out.trans (hb1.mono HB.out.size)
  have HK1 : Hid (Bk w1 w.heap.size #[.slice (some ⟨R, off, none⟩) 16 rc, .int .u32 pc, .slice ma n mc] ∧ Bk w1 (w.heap.size + 1) (srow none 0 0 0 none 0 0 0 0 0 false false) ∧ Bk w1 (w.heap.size + 1 + 1) (srow (some ⟨R, off, none⟩) 16 rc pc ma n mc 0 (-1) (-1) false false)) := ⟨HK.out.1.below hb1, HK.out.2.1.below hb1, HK.out.2.2.below hb1⟩
  clear hb1 HB HK HFT
  go_wp2_with fail
  refine (HDC.out _ HB1.out).mono ?_
  rintro e w2 ⟨rfl, hb2⟩
  have HB2 : Hid (Below w.heap.size w w2) := HB1.out.trans (hb2.mono HB1.out.size)
  have HK2 : Hid (Bk w2 w.heap.size #[.slice (some ⟨R, off, none⟩) 16 rc, .int .u32 pc, .slice ma n mc] ∧ Bk w2 (w.heap.size + 1) (srow none 0 0 0 none 0 0 0 0 0 false false) ∧ Bk w2 (w.heap.size + 1 + 1) (srow (some ⟨R, off, none⟩) 16 rc pc ma n mc 0 (-1) (-1) false false)) := ⟨HK1.out.1.below hb2, HK1.out.2.1.below hb2, HK1.out.2.2.below hb2⟩
  clear hb2 HB1 HK1 HDC
  have g0 := HK2.out.1.cell 0 _ rfl
  have g1 := HK2.out.1.cell 1 _ rfl
  have g2 := HK2.out.1.cell 2 _ rfl
  have o4 := HK2.out.2.2.cell 4 _ rfl
  have of4 := HK2.out.2.2.free 4
  have z2 : w.heap.size + 1 + 1 < w2.heap.size := HK2.out.2.2.lt
  have z0 : w.heap.size < w2.heap.size := by omega
  have z1 : w.heap.size + 1 < w2.heap.size := by omega
  go_wp2
  have hbW : Below w.heap.size w ((w2.setCell ⟨w.heap.size + 1 + 1, 4, none⟩ (.int .i64 18)).alloc (.cells #[.int .i64 18, .int .i64 A, .int .i64 B, .int .i64 C, .int .i64 m] 66)) := (HB2.out.setCell (p := ⟨w.heap.size + 1 + 1, 4, none⟩) (by show w.heap.size ≤ w.heap.size + 1 + 1; omega) _).alloc (by simpa using HB2.out.size) _
  have hI : Bk ((w2.setCell ⟨w.heap.size + 1 + 1, 4, none⟩ (.int .i64 18)).alloc (.cells #[.int .i64 18, .int .i64 A, .int .i64 B, .int .i64 C, .int .i64 m] 66)) w2.heap.size #[.int .i64 18, .int .i64 A, .int .i64 B, .int .i64 C, .int .i64 m] := Bk.new (w2.setCell ⟨w.heap.size + 1 + 1, 4, none⟩ (.int .i64 18)) #[.int .i64 18, .int .i64 A, .int .i64 B, .int .i64 C, .int .i64 m] 66 w2.heap.size (by simp)
  have k4 : Bk ((w2.setCell ⟨w.heap.size + 1 + 1, 4, none⟩ (.int .i64 18)).alloc (.cells #[.int .i64 18, .int .i64 A, .int .i64 B, .int .i64 C, .int .i64 m] 66)) w.heap.size #[.slice (some ⟨R, off, none⟩) 16 rc, .int .u32 pc, .slice ma n mc] := (HK2.out.1.other (w.heap.size + 1 + 1) 4 (.int .i64 18) (by omega)).alloc _
  have k6 : Bk ((w2.setCell ⟨w.heap.size + 1 + 1, 4, none⟩ (.int .i64 18)).alloc (.cells #[.int .i64 18, .int .i64 A, .int .i64 B, .int .i64 C, .int .i64 m] 66)) (w.heap.size + 1) (srow none 0 0 0 none 0 0 0 0 0 false false) := (HK2.out.2.1.other (w.heap.size + 1 + 1) 4 (.int .i64 18) (by omega)).alloc _
  have k7 : Bk ((w2.setCell ⟨w.heap.size + 1 + 1, 4, none⟩ (.int .i64 18)).alloc (.cells #[.int .i64 18, .int .i64 A, .int .i64 B, .int .i64 C, .int .i64 m] 66)) (w.heap.size + 1 + 1) (srow (some ⟨R, off, none⟩) 16 rc pc ma n mc 0 18 (-1) false false) := (HK2.out.2.2.set 4 (.int .i64 18) (by simp) (srow_op rfl)).alloc _
  revert hbW hI k4 k6 k7
  generalize (w2.setCell ⟨w.heap.size + 1 + 1, 4, none⟩ (.int .i64 18)).alloc (.cells #[.int .i64 18, .int .i64 A, .int .i64 B, .int .i64 C, .int .i64 m] 66) = V
  intro hbW hI k4 k6 k7
  replace HS : Hid (Sep V lo hi (some ⟨R, off, none⟩) ma rs n D) := Sep.below HS.out hbW
  have e1 := kept_cell hbW HE.out.1
  have e2 := kept_cell hbW HE.out.2.1
  have e3 := kept_cell hbW HE.out.2.2
  have K : Hid (Bk V w.heap.size #[.slice (some ⟨R, off, none⟩) 16 rc, .int .u32 pc, .slice ma n mc] ∧ Bk V (w.heap.size + 1) (srow none 0 0 0 none 0 0 0 0 0 false false) ∧ Bk V (w.heap.size + 1 + 1) (srow (some ⟨R, off, none⟩) 16 rc pc ma n mc 0 18 (-1) false false)) := ⟨k4, k6, k7⟩
  have HI : Hid (Bk V w2.heap.size #[.int .i64 18, .int .i64 A, .int .i64 B, .int .i64 C, .int .i64 m]) := hI
  replace g0 := k4.cell 0 _ rfl
  replace g1 := k4.cell 1 _ rfl
  replace g2 := k4.cell 2 _ rfl
  have i0 := hI.cell 0 _ rfl
  have i1 := hI.cell 1 _ rfl
  have i2 := hI.cell 2 _ rfl
  have i3 := hI.cell 3 _ rfl
  have i4 := hI.cell 4 _ rfl
  replace hbW : Hid (Below w.heap.size w V) := hbW
  clear hI k4 k6 k7 o4 of4 HB2 HK2 HE
  go_quiet (fail)
  have HBS : Hid (BS w (V.drewN nq) lo hi (some ⟨R, off, none⟩) ma rs n D) := ⟨Below.betw (below_drewN hbW.out _), Sep.below HS.out (below_drewN (Below.refl _ _) _)⟩
  have HB9 : Hid (Below w.heap.size w (V.drewN nq)) := below_drewN hbW.out _
  have K9 : Hid (Bk (V.drewN nq) w.heap.size #[.slice (some ⟨R, off, none⟩) 16 rc, .int .u32 pc, .slice ma n mc] ∧ Bk (V.drewN nq) (w.heap.size + 1) (srow none 0 0 0 none 0 0 0 0 0 false false) ∧ Bk (V.drewN nq) (w.heap.size + 1 + 1) (srow (some ⟨R, off, none⟩) 16 rc pc ma n mc 0 18 (-1) false false)) := ⟨K.out.1.below (below_drewN (Below.refl _ _) _), K.out.2.1.below (below_drewN (Below.refl _ _) _), K.out.2.2.below (below_drewN (Below.refl _ _) _)⟩
  have I9 : Hid (Bk (V.drewN nq) w2.heap.size #[.int .i64 18, .int .i64 A, .int .i64 B, .int .i64 C, .int .i64 m]) := HI.out.below (below_drewN (Below.refl _ _) _)
  have E9 : Hid ((V.drewN nq).cell? ⟨R, off + C, none⟩ = some (.int .u32 uc)) := e3
  clear K HI HS hbW g0 g1 g2 i0 i1 i2 i3 i4 e1 e2 e3
  revert HBS HB9 K9 I9 E9
  generalize V.drewN nq = w9
  intro HBS HB9 K9 I9 E9
  have i0 := I9.out.cell 0 _ rfl
  have i1 := I9.out.cell 1 _ rfl
  have i3 := I9.out.cell 3 _ rfl
  go_wp2_with (first | (go_at_call 40; (first | refine (Is.in_yes _ _ _ _ (by omega) (by omega)).mono ?_ | refine (Is.in_no _ _ _ _ (by omega)).mono ?_); rintro e77 w77 ⟨rfl, h9⟩; rw [h9]; clear h9 w77))
  refine (HFL.out _ HB9.out).mono ?_
  rintro e9 w7 ⟨rfl, hb7⟩
  replace HBS : Hid (BS w w7 lo hi (some ⟨R, off, none⟩) ma rs n D) := ⟨HBS.out.1.trans (Below.betw hb7), Sep.below HBS.out.2 hb7⟩
  replace HB9 : Hid (Below w.heap.size w w7) := HB9.out.trans (hb7.mono HB9.out.size)
  replace K9 : Hid (Bk w7 w.heap.size #[.slice (some ⟨R, off, none⟩) 16 rc, .int .u32 pc, .slice ma n mc] ∧ Bk w7 (w.heap.size + 1) (srow none 0 0 0 none 0 0 0 0 0 false false) ∧ Bk w7 (w.heap.size + 1 + 1) (srow (some ⟨R, off, none⟩) 16 rc pc ma n mc 0 18 (-1) false false)) := ⟨K9.out.1.below hb7, K9.out.2.1.below hb7, K9.out.2.2.below hb7⟩
  replace I9 : Hid (Bk w7 w2.heap.size #[.int .i64 18, .int .i64 A, .int .i64 B, .int .i64 C, .int .i64 m]) := I9.out.below hb7
  clear hb7 E9 i0 i1 i3 HFL
  have g0 := K9.out.1.cell 0 _ rfl
  have g1 := K9.out.1.cell 1 _ rfl
  have g2 := K9.out.1.cell 2 _ rfl
  have gf := K9.out.1.free
  have r0 := K9.out.2.1.cell 0 _ rfl
  have r1 := K9.out.2.1.cell 1 _ rfl
  have r2 := K9.out.2.1.cell 2 _ rfl
  have r3 := K9.out.2.1.cell 3 _ rfl
  have r4 := K9.out.2.1.cell 4 _ rfl
  have r5 := K9.out.2.1.cell 5 _ rfl
  have r6 := K9.out.2.1.cell 6 _ rfl
  have r7 := K9.out.2.1.cell 7 _ rfl
  have rf := K9.out.2.1.free
  have o0 := K9.out.2.2.cell 0 _ rfl
  have o1 := K9.out.2.2.cell 1 _ rfl
  have o2 := K9.out.2.2.cell 2 _ rfl
  have o3 := K9.out.2.2.cell 3 _ rfl
  have o4 := K9.out.2.2.cell 4 _ rfl
  have o5 := K9.out.2.2.cell 5 _ rfl
  have o6 := K9.out.2.2.cell 6 _ rfl
  have o7 := K9.out.2.2.cell 7 _ rfl
  have of := K9.out.2.2.free
  go_wp2_with fail
  have HBS2 : Hid (BS w ((w7.setCell ⟨w.heap.size + 1 + 1, 5, none⟩ (.int .i64 ((ub + m) % 4294967296))).setCell ⟨w.heap.size + 1 + 1, 6, none⟩ (.bool true)) lo hi (some ⟨R, off, none⟩) ma rs n D) := (HBS.out.set hhi (b := w.heap.size + 1 + 1) (by omega) 5 _).set hhi (b := w.heap.size + 1 + 1) (by omega) 6 _
  have HB8 : Hid (Below w.heap.size w ((w7.setCell ⟨w.heap.size + 1 + 1, 5, none⟩ (.int .i64 ((ub + m) % 4294967296))).setCell ⟨w.heap.size + 1 + 1, 6, none⟩ (.bool true))) := (HB9.out.setCell (p := ⟨w.heap.size + 1 + 1, 5, none⟩) (by show w.heap.size ≤ w.heap.size + 1 + 1; omega) _).setCell (p := ⟨w.heap.size + 1 + 1, 6, none⟩) (by show w.heap.size ≤ w.heap.size + 1 + 1; omega) _
  have K8 : Hid (Bk ((w7.setCell ⟨w.heap.size + 1 + 1, 5, none⟩ (.int .i64 ((ub + m) % 4294967296))).setCell ⟨w.heap.size + 1 + 1, 6, none⟩ (.bool true)) w.heap.size #[.slice (some ⟨R, off, none⟩) 16 rc, .int .u32 pc, .slice ma n mc] ∧ Bk ((w7.setCell ⟨w.heap.size + 1 + 1, 5, none⟩ (.int .i64 ((ub + m) % 4294967296))).setCell ⟨w.heap.size + 1 + 1, 6, none⟩ (.bool true)) (w.heap.size + 1) (srow none 0 0 0 none 0 0 0 0 0 false false) ∧ Bk ((w7.setCell ⟨w.heap.size + 1 + 1, 5, none⟩ (.int .i64 ((ub + m) % 4294967296))).setCell ⟨w.heap.size + 1 + 1, 6, none⟩ (.bool true)) (w.heap.size + 1 + 1) (srow (some ⟨R, off, none⟩) 16 rc pc ma n mc 0 18 ((ub + m) % 4294967296) true false)) := ⟨(K9.out.1.other (w.heap.size + 1 + 1) 5 _ (by omega)).other (w.heap.size + 1 + 1) 6 _ (by omega), (K9.out.2.1.other (w.heap.size + 1 + 1) 5 _ (by omega)).other (w.heap.size + 1 + 1) 6 _ (by omega), (K9.out.2.2.set 5 _ (by simp) (srow_to rfl)).set 6 _ (by simp) srow_wr⟩
  clear HBS K9 I9 HB9 g0 g1 g2 gf rf of r0 o0 r1 o1 r2 o2 r3 o3 r4 o4 r5 o5 r6 o6 r7 o7
  revert HBS2 HB8 K8
  generalize ((w7.setCell ⟨w.heap.size + 1 + 1, 5, none⟩ (.int .i64 ((ub + m) % 4294967296))).setCell ⟨w.heap.size + 1 + 1, 6, none⟩ (.bool true)) = w6
  intro HBS2 HB8 K8
  refine (HPT.out _ HB8.out HBS2.out.2).mono ?_
  rintro e9 w8 ⟨rfl, hbt, hsp⟩
  have HBS : Hid (BS w w8 lo hi (some ⟨R, off, none⟩) ma rs n D1) := ⟨HBS2.out.1.trans hbt, hsp⟩
  have K9 : Hid (Bk w8 w.heap.size #[.slice (some ⟨R, off, none⟩) 16 rc, .int .u32 pc, .slice ma n mc] ∧ Bk w8 (w.heap.size + 1) (srow none 0 0 0 none 0 0 0 0 0 false false) ∧ Bk w8 (w.heap.size + 1 + 1) (srow (some ⟨R, off, none⟩) 16 rc pc ma n mc 0 18 ((ub + m) % 4294967296) true false)) := ⟨K8.out.1.betw hbt (.inr (by omega)), K8.out.2.1.betw hbt (.inr (by omega)), K8.out.2.2.betw hbt (.inr (by omega))⟩
  clear hbt hsp HBS2 K8 HB8 HPT
  have g0 := K9.out.1.cell 0 _ rfl
  have g1 := K9.out.1.cell 1 _ rfl
  have g2 := K9.out.1.cell 2 _ rfl
  have gf := K9.out.1.free
  have r0 := K9.out.2.1.cell 0 _ rfl
  have r1 := K9.out.2.1.cell 1 _ rfl
  have r2 := K9.out.2.1.cell 2 _ rfl
  have r3 := K9.out.2.1.cell 3 _ rfl
  have r4 := K9.out.2.1.cell 4 _ rfl
  have r5 := K9.out.2.1.cell 5 _ rfl
  have r6 := K9.out.2.1.cell 6 _ rfl
  have r7 := K9.out.2.1.cell 7 _ rfl
  have rf := K9.out.2.1.free
  have o0 := K9.out.2.2.cell 0 _ rfl
  have o1 := K9.out.2.2.cell 1 _ rfl
  have o2 := K9.out.2.2.cell 2 _ rfl
  have o3 := K9.out.2.2.cell 3 _ rfl
  have o4 := K9.out.2.2.cell 4 _ rfl
  have o5 := K9.out.2.2.cell 5 _ rfl
  have o6 := K9.out.2.2.cell 6 _ rfl
  have o7 := K9.out.2.2.cell 7 _ rfl
  have of := K9.out.2.2.free
  go_wp2
  have h8 := (((((HBS.out.set hhi (b := w.heap.size) (Nat.le_refl _) 1 (.int .u32 ((pc + 4) % 4294967296))).set hhi (b := w.heap.size + 1 + 1) (by omega) 0 (.slice (some ⟨R, off, none⟩) 16 rc)).set hhi (b := w.heap.size + 1 + 1) (by omega) 1 (.int .u32 ((pc + 4) % 4294967296))).set hhi (b := w.heap.size + 1 + 1) (by omega) 2 (.slice ma n mc))).set8 hhi (b := w.heap.size + 1) (by omega) (.slice (some ⟨R, off, none⟩) 16 rc) (.int .u32 ((pc + 4) % 4294967296)) (.slice ma n mc) (.int .i64 0) (.int .i64 18) (.int .i64 ((ub + m) % 4294967296)) (.bool true) (.bool false)
  have k8 := bk8 ((((K9.out.2.1.other (w.heap.size) 1 (.int .u32 ((pc + 4) % 4294967296)) (by omega)).other (w.heap.size + 1 + 1) 0 (.slice (some ⟨R, off, none⟩) 16 rc) (by omega)).other (w.heap.size + 1 + 1) 1 (.int .u32 ((pc + 4) % 4294967296)) (by omega)).other (w.heap.size + 1 + 1) 2 (.slice ma n mc) (by omega)) (.slice (some ⟨R, off, none⟩) 16 rc) (.int .u32 ((pc + 4) % 4294967296)) (.slice ma n mc) (.int .i64 0) (.int .i64 18) (.int .i64 ((ub + m) % 4294967296)) (.bool true) (.bool false)
  clear HBS K9 g0 g1 g2 gf rf of r0 o0 r1 o1 r2 o2 r3 o3 r4 o4 r5 o5 r6 o6 r7 o7
  revert h8 k8
  generalize (((((((((((w8.setCell ⟨w.heap.size, 1, none⟩ (.int .u32 ((pc + 4) % 4294967296))).setCell ⟨w.heap.size + 1 + 1, 0, none⟩ (.slice (some ⟨R, off, none⟩) 16 rc)).setCell ⟨w.heap.size + 1 + 1, 1, none⟩ (.int .u32 ((pc + 4) % 4294967296))).setCell ⟨w.heap.size + 1 + 1, 2, none⟩ (.slice ma n mc)).setCell ⟨w.heap.size + 1, 0, none⟩ (.slice (some ⟨R, off, none⟩) 16 rc)).setCell ⟨w.heap.size + 1, 1, none⟩ (.int .u32 ((pc + 4) % 4294967296))).setCell ⟨w.heap.size + 1, 2, none⟩ (.slice ma n mc)).setCell ⟨w.heap.size + 1, 3, none⟩ (.int .i64 0)).setCell ⟨w.heap.size + 1, 4, none⟩ (.int .i64 18)).setCell ⟨w.heap.size + 1, 5, none⟩ (.int .i64 ((ub + m) % 4294967296))).setCell ⟨w.heap.size + 1, 6, none⟩ (.bool true)).setCell ⟨w.heap.size + 1, 7, none⟩ (.bool false) = Wf
  intro h8 k8
  have q0 := k8.cell 0 _ rfl
  have q1 := k8.cell 1 _ rfl
  have q2 := k8.cell 2 _ rfl
  have q3 := k8.cell 3 _ rfl
  have q4 := k8.cell 4 _ rfl
  have q5 := k8.cell 5 _ rfl
  have q6 := k8.cell 6 _ rfl
  have q7 := k8.cell 7 _ rfl
  exact bodyPost_ret (v := stp (some ⟨R, off, none⟩) 16 rc ((pc + 4) % 4294967296) ma n mc 0 18 ((ub + m) % 4294967296) true false) (by simp [results, Tryz.results20, go_sem, q0, q1, q2, q3, q4, q5, q6, q7]) rfl ⟨stp_pc (by first | rfl | omega), h8.1, h8.2⟩
set_option maxRecDepth 20000 in
set_option maxHeartbeats 4000000 in
theorem sp18b (lo hi rc n mc A B C cap : Nat) (ra ma a : Option Addr) (pc m cy v : Int) (rs : List Int) (D : Nat → List Int) (w : World) (r : Int) (hr : (r == 0) = false) (hfl : ∀ X, Below w.heap.size w X → Calls Tryz.prog 43 #[.slice a n cap, .int .u32 ((rs.getD B 0 + m) % 4294967296), .int .i64 1, .int .i64 2] X fun e w' => e = .returned (.int .i64 r) ∧ Below X.heap.size X w')
    (hS : Sep w lo hi ra ma rs n D) (hl : rs.length = 16) (hw : ∀ z ∈ rs, (Lit.int .u32 z).wf = true) (hA : A ≤ 15) (hBB : B ≤ 15) (hC : C ≤ 15) (hm0 : -8192 ≤ m) (hm1 : m ≤ 8191) (hp0 : 0 ≤ pc) (hp1 : pc ≤ 4294967295) (hlh : lo ≤ hi) (hhi : hi ≤ w.heap.size)
    (hft : ∀ X, Below w.heap.size w X → Calls Tryz.prog 38 #[.slice a n cap, gst ra 16 rc pc ma n mc] X fun e w' => e = .returned (.tuple #[.int .u32 v, .int .i64 0]) ∧ Below X.heap.size X w')
    (hdc : ∀ X, Below w.heap.size w X → Calls Tryz.prog 39 #[.int .u32 v] X fun e w' => e = .returned (.tuple #[Is.ins 18 A B C m, .bool true]) ∧ Below X.heap.size X w') :
    Calls Tryz.prog 20 #[.slice a n cap, gst ra 16 rc pc ma n mc, .int .i64 cy] w fun e w' => e = .returned (stp ra 16 rc pc ma n mc r 18 (-1) false false) ∧ Betw lo hi w w' ∧ Sep w' lo hi ra ma rs n D := by
  have HFL : Hid (∀ X, Below w.heap.size w X → Calls Tryz.prog 43 #[.slice a n cap, .int .u32 ((rs.getD B 0 + m) % 4294967296), .int .i64 1, .int .i64 2] X fun e w' => e = .returned (.int .i64 r) ∧ Below X.heap.size X w') := hfl
  clear hfl
  obtain ⟨R, off, rfl, hR, hR1, hR2, hc⟩ := regs_as hS hl
  have hA' : (A : Int) < 16 := by omega
  have hB' : (B : Int) < 16 := by omega
  have hC' : (C : Int) < 16 := by omega
  obtain ⟨a1, a2⟩ := wf_reg hw hl A (by omega)
  obtain ⟨b1, b2⟩ := wf_reg hw hl B (by omega)
  obtain ⟨c1, c2⟩ := wf_reg hw hl C (by omega)
  have HE : Hid ((w.cell? ⟨R, off + A, none⟩ = some (.int .u32 (rs.getD A 0))) ∧ (w.cell? ⟨R, off + B, none⟩ = some (.int .u32 (rs.getD B 0))) ∧ (w.cell? ⟨R, off + C, none⟩ = some (.int .u32 (rs.getD C 0)))) := ⟨hc A (by omega), hc B (by omega), hc C (by omega)⟩
  generalize rs.getD A 0 = ua at *
  generalize rs.getD B 0 = ub at *
  generalize rs.getD C 0 = uc at *
  have HFT : Hid (∀ X, Below w.heap.size w X → Calls Tryz.prog 38 #[.slice a n cap, gst (some ⟨R, off, none⟩) 16 rc pc ma n mc] X fun e w' => e = .returned (.tuple #[.int .u32 v, .int .i64 0]) ∧ Below X.heap.size X w') := hft
  have HDC : Hid (∀ X, Below w.heap.size w X → Calls Tryz.prog 39 #[.int .u32 v] X fun e w' => e = .returned (.tuple #[Is.ins 18 A B C m, .bool true]) ∧ Below X.heap.size X w') := hdc
  have HS : Hid (Sep w lo hi (some ⟨R, off, none⟩) ma rs n D) := hS
  obtain ⟨ra, hra⟩ : ∃ ra, ra = some (⟨R, off, none⟩ : Addr) := ⟨_, rfl⟩
  have hb0 : Below w.heap.size w (((w.alloc (.cells #[.slice ra 16 rc, .int .u32 pc, .slice ma n mc] 30)).alloc (.cells (srow none 0 0 0 none 0 0 0 0 0 false false) 32)).alloc (.cells (srow ra 16 rc pc ma n mc 0 (-1) (-1) false false) 32)) := (((Below.refl _ w).alloc (Nat.le_refl _) _).alloc (by simp) _).alloc (by simp; omega) _
  have K4 : Bk (((w.alloc (.cells #[.slice ra 16 rc, .int .u32 pc, .slice ma n mc] 30)).alloc (.cells (srow none 0 0 0 none 0 0 0 0 0 false false) 32)).alloc (.cells (srow ra 16 rc pc ma n mc 0 (-1) (-1) false false) 32)) w.heap.size #[.slice ra 16 rc, .int .u32 pc, .slice ma n mc] := ((Bk.new w #[.slice ra 16 rc, .int .u32 pc, .slice ma n mc] 30 w.heap.size rfl).alloc _).alloc _
  have K6 : Bk (((w.alloc (.cells #[.slice ra 16 rc, .int .u32 pc, .slice ma n mc] 30)).alloc (.cells (srow none 0 0 0 none 0 0 0 0 0 false false) 32)).alloc (.cells (srow ra 16 rc pc ma n mc 0 (-1) (-1) false false) 32)) (w.heap.size + 1) (srow none 0 0 0 none 0 0 0 0 0 false false) := (Bk.new (w.alloc (.cells #[.slice ra 16 rc, .int .u32 pc, .slice ma n mc] 30)) (srow none 0 0 0 none 0 0 0 0 0 false false) 32 (w.heap.size + 1) (by simp)).alloc _
  have K7 : Bk (((w.alloc (.cells #[.slice ra 16 rc, .int .u32 pc, .slice ma n mc] 30)).alloc (.cells (srow none 0 0 0 none 0 0 0 0 0 false false) 32)).alloc (.cells (srow ra 16 rc pc ma n mc 0 (-1) (-1) false false) 32)) (w.heap.size + 1 + 1) (srow ra 16 rc pc ma n mc 0 (-1) (-1) false false) := Bk.new ((w.alloc (.cells #[.slice ra 16 rc, .int .u32 pc, .slice ma n mc] 30)).alloc (.cells (srow none 0 0 0 none 0 0 0 0 0 false false) 32)) (srow ra 16 rc pc ma n mc 0 (-1) (-1) false false) 32 (w.heap.size + 1 + 1) (by simp)
  rw [hra] at hb0 K4 K6 K7
  have HB : Hid (Below w.heap.size w _) := hb0
  have HK : Hid (Bk _ w.heap.size _ ∧ Bk _ (w.heap.size + 1) _ ∧ Bk _ (w.heap.size + 1 + 1) _) := ⟨K4, K6, K7⟩
  clear hS hc hw hft hdc hb0 K4 K6 K7 hra
  go_enter Tryz.func20, Tryz.ntmps20
  go_wp2_with fail
  refine (HFT.out _ HB.out).mono ?_
  rintro e w1 ⟨rfl, hb1⟩
  have HB1 : Hid (Below w.heap.size w w1) := HB.out.trans (hb1.mono HB.out.size)
  have HK1 : Hid (Bk w1 w.heap.size #[.slice (some ⟨R, off, none⟩) 16 rc, .int .u32 pc, .slice ma n mc] ∧ Bk w1 (w.heap.size + 1) (srow none 0 0 0 none 0 0 0 0 0 false false) ∧ Bk w1 (w.heap.size + 1 + 1) (srow (some ⟨R, off, none⟩) 16 rc pc ma n mc 0 (-1) (-1) false false)) := ⟨HK.out.1.below hb1, HK.out.2.1.below hb1, HK.out.2.2.below hb1⟩
  clear hb1 HB HK HFT
  go_wp2_with fail
  refine (HDC.out _ HB1.out).mono ?_
  rintro e w2 ⟨rfl, hb2⟩
  have HB2 : Hid (Below w.heap.size w w2) := HB1.out.trans (hb2.mono HB1.out.size)
  have HK2 : Hid (Bk w2 w.heap.size #[.slice (some ⟨R, off, none⟩) 16 rc, .int .u32 pc, .slice ma n mc] ∧ Bk w2 (w.heap.size + 1) (srow none 0 0 0 none 0 0 0 0 0 false false) ∧ Bk w2 (w.heap.size + 1 + 1) (srow (some ⟨R, off, none⟩) 16 rc pc ma n mc 0 (-1) (-1) false false)) := ⟨HK1.out.1.below hb2, HK1.out.2.1.below hb2, HK1.out.2.2.below hb2⟩
  clear hb2 HB1 HK1 HDC
  have g0 := HK2.out.1.cell 0 _ rfl
  have g1 := HK2.out.1.cell 1 _ rfl
  have g2 := HK2.out.1.cell 2 _ rfl
  have o4 := HK2.out.2.2.cell 4 _ rfl
  have of4 := HK2.out.2.2.free 4
  have z2 : w.heap.size + 1 + 1 < w2.heap.size := HK2.out.2.2.lt
  have z0 : w.heap.size < w2.heap.size := by omega
  have z1 : w.heap.size + 1 < w2.heap.size := by omega
  go_wp2
  have hbW : Below w.heap.size w ((w2.setCell ⟨w.heap.size + 1 + 1, 4, none⟩ (.int .i64 18)).alloc (.cells #[.int .i64 18, .int .i64 A, .int .i64 B, .int .i64 C, .int .i64 m] 66)) := (HB2.out.setCell (p := ⟨w.heap.size + 1 + 1, 4, none⟩) (by show w.heap.size ≤ w.heap.size + 1 + 1; omega) _).alloc (by simpa using HB2.out.size) _
  have hI : Bk ((w2.setCell ⟨w.heap.size + 1 + 1, 4, none⟩ (.int .i64 18)).alloc (.cells #[.int .i64 18, .int .i64 A, .int .i64 B, .int .i64 C, .int .i64 m] 66)) w2.heap.size #[.int .i64 18, .int .i64 A, .int .i64 B, .int .i64 C, .int .i64 m] := Bk.new (w2.setCell ⟨w.heap.size + 1 + 1, 4, none⟩ (.int .i64 18)) #[.int .i64 18, .int .i64 A, .int .i64 B, .int .i64 C, .int .i64 m] 66 w2.heap.size (by simp)
  have k4 : Bk ((w2.setCell ⟨w.heap.size + 1 + 1, 4, none⟩ (.int .i64 18)).alloc (.cells #[.int .i64 18, .int .i64 A, .int .i64 B, .int .i64 C, .int .i64 m] 66)) w.heap.size #[.slice (some ⟨R, off, none⟩) 16 rc, .int .u32 pc, .slice ma n mc] := (HK2.out.1.other (w.heap.size + 1 + 1) 4 (.int .i64 18) (by omega)).alloc _
  have k6 : Bk ((w2.setCell ⟨w.heap.size + 1 + 1, 4, none⟩ (.int .i64 18)).alloc (.cells #[.int .i64 18, .int .i64 A, .int .i64 B, .int .i64 C, .int .i64 m] 66)) (w.heap.size + 1) (srow none 0 0 0 none 0 0 0 0 0 false false) := (HK2.out.2.1.other (w.heap.size + 1 + 1) 4 (.int .i64 18) (by omega)).alloc _
  have k7 : Bk ((w2.setCell ⟨w.heap.size + 1 + 1, 4, none⟩ (.int .i64 18)).alloc (.cells #[.int .i64 18, .int .i64 A, .int .i64 B, .int .i64 C, .int .i64 m] 66)) (w.heap.size + 1 + 1) (srow (some ⟨R, off, none⟩) 16 rc pc ma n mc 0 18 (-1) false false) := (HK2.out.2.2.set 4 (.int .i64 18) (by simp) (srow_op rfl)).alloc _
  revert hbW hI k4 k6 k7
  generalize (w2.setCell ⟨w.heap.size + 1 + 1, 4, none⟩ (.int .i64 18)).alloc (.cells #[.int .i64 18, .int .i64 A, .int .i64 B, .int .i64 C, .int .i64 m] 66) = V
  intro hbW hI k4 k6 k7
  replace HS : Hid (Sep V lo hi (some ⟨R, off, none⟩) ma rs n D) := Sep.below HS.out hbW
  have e1 := kept_cell hbW HE.out.1
  have e2 := kept_cell hbW HE.out.2.1
  have e3 := kept_cell hbW HE.out.2.2
  have K : Hid (Bk V w.heap.size #[.slice (some ⟨R, off, none⟩) 16 rc, .int .u32 pc, .slice ma n mc] ∧ Bk V (w.heap.size + 1) (srow none 0 0 0 none 0 0 0 0 0 false false) ∧ Bk V (w.heap.size + 1 + 1) (srow (some ⟨R, off, none⟩) 16 rc pc ma n mc 0 18 (-1) false false)) := ⟨k4, k6, k7⟩
  have HI : Hid (Bk V w2.heap.size #[.int .i64 18, .int .i64 A, .int .i64 B, .int .i64 C, .int .i64 m]) := hI
  replace g0 := k4.cell 0 _ rfl
  replace g1 := k4.cell 1 _ rfl
  replace g2 := k4.cell 2 _ rfl
  have i0 := hI.cell 0 _ rfl
  have i1 := hI.cell 1 _ rfl
  have i2 := hI.cell 2 _ rfl
  have i3 := hI.cell 3 _ rfl
  have i4 := hI.cell 4 _ rfl
  replace hbW : Hid (Below w.heap.size w V) := hbW
  clear hI k4 k6 k7 o4 of4 HB2 HK2 HE
  go_quiet (fail)
  have HBS : Hid (BS w (V.drewN nq) lo hi (some ⟨R, off, none⟩) ma rs n D) := ⟨Below.betw (below_drewN hbW.out _), Sep.below HS.out (below_drewN (Below.refl _ _) _)⟩
  have HB9 : Hid (Below w.heap.size w (V.drewN nq)) := below_drewN hbW.out _
  have K9 : Hid (Bk (V.drewN nq) w.heap.size #[.slice (some ⟨R, off, none⟩) 16 rc, .int .u32 pc, .slice ma n mc] ∧ Bk (V.drewN nq) (w.heap.size + 1) (srow none 0 0 0 none 0 0 0 0 0 false false) ∧ Bk (V.drewN nq) (w.heap.size + 1 + 1) (srow (some ⟨R, off, none⟩) 16 rc pc ma n mc 0 18 (-1) false false)) := ⟨K.out.1.below (below_drewN (Below.refl _ _) _), K.out.2.1.below (below_drewN (Below.refl _ _) _), K.out.2.2.below (below_drewN (Below.refl _ _) _)⟩
  have I9 : Hid (Bk (V.drewN nq) w2.heap.size #[.int .i64 18, .int .i64 A, .int .i64 B, .int .i64 C, .int .i64 m]) := HI.out.below (below_drewN (Below.refl _ _) _)
  have E9 : Hid ((V.drewN nq).cell? ⟨R, off + C, none⟩ = some (.int .u32 uc)) := e3
  clear K HI HS hbW g0 g1 g2 i0 i1 i2 i3 i4 e1 e2 e3
  revert HBS HB9 K9 I9 E9
  generalize V.drewN nq = w9
  intro HBS HB9 K9 I9 E9
  have i0 := I9.out.cell 0 _ rfl
  have i1 := I9.out.cell 1 _ rfl
  have i3 := I9.out.cell 3 _ rfl
  go_wp2_with (first | (go_at_call 40; (first | refine (Is.in_yes _ _ _ _ (by omega) (by omega)).mono ?_ | refine (Is.in_no _ _ _ _ (by omega)).mono ?_); rintro e77 w77 ⟨rfl, h9⟩; rw [h9]; clear h9 w77))
  refine (HFL.out _ HB9.out).mono ?_
  rintro e9 w7 ⟨rfl, hb7⟩
  replace HBS : Hid (BS w w7 lo hi (some ⟨R, off, none⟩) ma rs n D) := ⟨HBS.out.1.trans (Below.betw hb7), Sep.below HBS.out.2 hb7⟩
  replace HB9 : Hid (Below w.heap.size w w7) := HB9.out.trans (hb7.mono HB9.out.size)
  replace K9 : Hid (Bk w7 w.heap.size #[.slice (some ⟨R, off, none⟩) 16 rc, .int .u32 pc, .slice ma n mc] ∧ Bk w7 (w.heap.size + 1) (srow none 0 0 0 none 0 0 0 0 0 false false) ∧ Bk w7 (w.heap.size + 1 + 1) (srow (some ⟨R, off, none⟩) 16 rc pc ma n mc 0 18 (-1) false false)) := ⟨K9.out.1.below hb7, K9.out.2.1.below hb7, K9.out.2.2.below hb7⟩
  replace I9 : Hid (Bk w7 w2.heap.size #[.int .i64 18, .int .i64 A, .int .i64 B, .int .i64 C, .int .i64 m]) := I9.out.below hb7
  clear hb7 E9 i0 i1 i3 HFL
  have g0 := K9.out.1.cell 0 _ rfl
  have g1 := K9.out.1.cell 1 _ rfl
  have g2 := K9.out.1.cell 2 _ rfl
  have gf := K9.out.1.free
  have r0 := K9.out.2.1.cell 0 _ rfl
  have r1 := K9.out.2.1.cell 1 _ rfl
  have r2 := K9.out.2.1.cell 2 _ rfl
  have r3 := K9.out.2.1.cell 3 _ rfl
  have r4 := K9.out.2.1.cell 4 _ rfl
  have r5 := K9.out.2.1.cell 5 _ rfl
  have r6 := K9.out.2.1.cell 6 _ rfl
  have r7 := K9.out.2.1.cell 7 _ rfl
  have rf := K9.out.2.1.free
  have o0 := K9.out.2.2.cell 0 _ rfl
  have o1 := K9.out.2.2.cell 1 _ rfl
  have o2 := K9.out.2.2.cell 2 _ rfl
  have o3 := K9.out.2.2.cell 3 _ rfl
  have o4 := K9.out.2.2.cell 4 _ rfl
  have o5 := K9.out.2.2.cell 5 _ rfl
  have o6 := K9.out.2.2.cell 6 _ rfl
  have o7 := K9.out.2.2.cell 7 _ rfl
  have of := K9.out.2.2.free
  go_wp2
  have h8 := (HBS.out.set hhi (b := w.heap.size + 1 + 1) (by omega) 3 (.int .i64 r)).set8 hhi (b := w.heap.size + 1) (by omega) (.slice (some ⟨R, off, none⟩) 16 rc) (.int .u32 pc) (.slice ma n mc) (.int .i64 r) (.int .i64 18) (.int .i64 (-1)) (.bool false) (.bool false)
  have k8 := bk8 (K9.out.2.1.other (w.heap.size + 1 + 1) 3 (.int .i64 r) (by omega)) (.slice (some ⟨R, off, none⟩) 16 rc) (.int .u32 pc) (.slice ma n mc) (.int .i64 r) (.int .i64 18) (.int .i64 (-1)) (.bool false) (.bool false)
  clear HBS K9 I9 HB9 g0 g1 g2 gf rf of r0 o0 r1 o1 r2 o2 r3 o3 r4 o4 r5 o5 r6 o6 r7 o7
  revert h8 k8
  generalize (((((((((w7.setCell ⟨w.heap.size + 1 + 1, 3, none⟩ (.int .i64 r))).setCell ⟨w.heap.size + 1, 0, none⟩ (.slice (some ⟨R, off, none⟩) 16 rc)).setCell ⟨w.heap.size + 1, 1, none⟩ (.int .u32 pc)).setCell ⟨w.heap.size + 1, 2, none⟩ (.slice ma n mc)).setCell ⟨w.heap.size + 1, 3, none⟩ (.int .i64 r)).setCell ⟨w.heap.size + 1, 4, none⟩ (.int .i64 18)).setCell ⟨w.heap.size + 1, 5, none⟩ (.int .i64 (-1))).setCell ⟨w.heap.size + 1, 6, none⟩ (.bool false)).setCell ⟨w.heap.size + 1, 7, none⟩ (.bool false) = Wf
  intro h8 k8
  have q0 := k8.cell 0 _ rfl
  have q1 := k8.cell 1 _ rfl
  have q2 := k8.cell 2 _ rfl
  have q3 := k8.cell 3 _ rfl
  have q4 := k8.cell 4 _ rfl
  have q5 := k8.cell 5 _ rfl
  have q6 := k8.cell 6 _ rfl
  have q7 := k8.cell 7 _ rfl
  exact bodyPost_ret (v := stp (some ⟨R, off, none⟩) 16 rc pc ma n mc r 18 (-1) false false) (by simp [results, Tryz.results20, go_sem, q0, q1, q2, q3, q4, q5, q6, q7]) rfl ⟨rfl, h8.1, h8.2⟩
end Go.Proofs.YtjlhkjiccibgdaaGreatDoor
