
/-
  Ends and devices of a partition: the program's own answer. Conditions: the tables are sound, the lists lie in memory.
-/
import Derived.Test.YtknipnenipdgiaaGreatDoorBas
import Derived.Test.YtknipnenipdgiaaGreatDoorSpe
import Derived.Test.YtknipnenipdgiaaGreatDoorEnt
import Derived.Test.YtknipnenipdgiaaGreatDoorRul
import Derived.Test.YtknipnenipdgiaaGreatDoorIns
import Derived.Test.YtknipnenipdgiaaGreatDoorLsw
namespace Go.Proofs.YtknipnenipdgiaaGreatDoor
open Go.ChangeShapes Go.WideShapes Go.ChangeAt Go.RowKit Go.Deep Go.Joins
set_option linter.unusedVariables false

set_option maxRecDepth 40000 in
set_option maxHeartbeats 8000000 in
theorem is_to (t : Tb) (a : Ad) (p x : Int) (q : Bool) (w : World) (hm : TM 0 w t a) (hw : TW t a) (hs : TS a) (hq : q = true ↔ ((0 ≤ x ∧ x < (a.cn : Int)) ∧ (t.cs.getD x.toNat ch0).2.2.1 = p)) :
    Calls Tryz.prog 150 #[tbV t a, .int .i64 p, .int .i64 x] w fun e w' => e = .returned (.bool q) ∧ Below w.heap.size w w' := by
  have HB0 : Hid (Below w.heap.size w (w.alloc (.cells (tbA t a) 60))) := (Below.refl _ _).alloc (Nat.le_refl _) _
  have HX0 : Hid (TBx (w.alloc (.cells (tbA t a) 60)) w.heap.size t a) := TBx.new w t a _ rfl
  have HS : Hid (GSeg 4 (w.alloc (.cells (tbA t a) 60)) a.ca a.cn (chX t.cs)) := (hm.below HB0.out).c.seg
  have hn : a.cn ≤ 1048576 := hs.c
  clear hm hw hs
  by_cases h0 : 0 ≤ x
  rotate_left
  · have HT : Hid (q = false) := not_true hq (fun h => h0 h.1.1)
    clear hq HX0 HS
    go_enter Tryz.func150, Tryz.ntmps150
    go_wp2
    go_ret
    exact ⟨ret_bool HT.out.symm, HB0.out⟩
  have kk : (w.alloc (.cells (tbA t a) 60)).cell? ⟨w.heap.size, 17, none⟩ = some (.slice a.ca a.cn a.cc) := HX0.out.cell 17 rfl
  by_cases h1 : x < (a.cn : Int)
  rotate_left
  · have HT : Hid (q = false) := not_true hq (fun h => h1 h.1.2)
    clear hq HX0 HS
    go_enter Tryz.func150, Tryz.ntmps150
    go_wp2
    go_ret
    exact ⟨ret_bool HT.out.symm, HB0.out⟩
  obtain ⟨X, rfl⟩ : ∃ X : Nat, x = (X : Int) := ⟨x.toNat, by omega⟩
  have HQ : Hid (q = true ↔ (t.cs.getD X ch0).2.2.1 = p) := hq.trans ⟨fun h => h.2, fun h => ⟨⟨h0, h1⟩, h⟩⟩
  have hX : X < a.cn := by omega
  obtain ⟨b1, o1, hsa, hbl1, p1⟩ := HS.out.at X hX
  rw [hsa] at kk
  simp only [chX] at p1
  generalize t.cs.getD X ch0 = y at p1 HQ
  obtain ⟨c0, c1, c2, c3⟩ := ch_cells p1
  obtain ⟨x1, x2, x3, x4⟩ := y
  simp only at c0 c1 c2 c3 HQ
  clear hq HX0 HS p1 hbl1 hsa
  by_cases e : x3 = p
  · have HT : Hid (q = true) := HQ.out.2 e
    have he : (x3 == p) = true := eqb_yes e
    clear HQ e
    go_enter Tryz.func150, Tryz.ntmps150
    go_wp2
    go_ret
    exact ⟨ret_bool HT.out.symm, HB0.out⟩
  · have HT : Hid (q = false) := not_true HQ.out e
    have he : (x3 == p) = false := eqb_no e
    clear HQ e
    go_enter Tryz.func150, Tryz.ntmps150
    go_wp2
    go_ret
    exact ⟨ret_bool HT.out.symm, HB0.out⟩
set_option maxRecDepth 40000 in
set_option maxHeartbeats 8000000 in
theorem is_from (t : Tb) (a : Ad) (p x : Int) (q : Bool) (w : World) (hm : TM 0 w t a) (hw : TW t a) (hs : TS a) (hq : q = true ↔ ((0 ≤ x ∧ x < (a.cn : Int)) ∧ (t.cs.getD x.toNat ch0).2.1 = p)) :
    Calls Tryz.prog 145 #[tbV t a, .int .i64 p, .int .i64 x] w fun e w' => e = .returned (.bool q) ∧ Below w.heap.size w w' := by
  have HB0 : Hid (Below w.heap.size w (w.alloc (.cells (tbA t a) 60))) := (Below.refl _ _).alloc (Nat.le_refl _) _
  have HX0 : Hid (TBx (w.alloc (.cells (tbA t a) 60)) w.heap.size t a) := TBx.new w t a _ rfl
  have HS : Hid (GSeg 4 (w.alloc (.cells (tbA t a) 60)) a.ca a.cn (chX t.cs)) := (hm.below HB0.out).c.seg
  have hn : a.cn ≤ 1048576 := hs.c
  clear hm hw hs
  by_cases h0 : 0 ≤ x
  rotate_left
  · have HT : Hid (q = false) := not_true hq (fun h => h0 h.1.1)
    clear hq HX0 HS
    go_enter Tryz.func145, Tryz.ntmps145
    go_wp2
    go_ret
    exact ⟨ret_bool HT.out.symm, HB0.out⟩
  have kk : (w.alloc (.cells (tbA t a) 60)).cell? ⟨w.heap.size, 17, none⟩ = some (.slice a.ca a.cn a.cc) := HX0.out.cell 17 rfl
  by_cases h1 : x < (a.cn : Int)
  rotate_left
  · have HT : Hid (q = false) := not_true hq (fun h => h1 h.1.2)
    clear hq HX0 HS
    go_enter Tryz.func145, Tryz.ntmps145
    go_wp2
    go_ret
    exact ⟨ret_bool HT.out.symm, HB0.out⟩
  obtain ⟨X, rfl⟩ : ∃ X : Nat, x = (X : Int) := ⟨x.toNat, by omega⟩
  have HQ : Hid (q = true ↔ (t.cs.getD X ch0).2.1 = p) := hq.trans ⟨fun h => h.2, fun h => ⟨⟨h0, h1⟩, h⟩⟩
  have hX : X < a.cn := by omega
  obtain ⟨b1, o1, hsa, hbl1, p1⟩ := HS.out.at X hX
  rw [hsa] at kk
  simp only [chX] at p1
  generalize t.cs.getD X ch0 = y at p1 HQ
  obtain ⟨c0, c1, c2, c3⟩ := ch_cells p1
  obtain ⟨x1, x2, x3, x4⟩ := y
  simp only at c0 c1 c2 c3 HQ
  clear hq HX0 HS p1 hbl1 hsa
  by_cases e : x2 = p
  · have HT : Hid (q = true) := HQ.out.2 e
    have he : (x2 == p) = true := eqb_yes e
    clear HQ e
    go_enter Tryz.func145, Tryz.ntmps145
    go_wp2
    go_ret
    exact ⟨ret_bool HT.out.symm, HB0.out⟩
  · have HT : Hid (q = false) := not_true HQ.out e
    have he : (x2 == p) = false := eqb_no e
    clear HQ e
    go_enter Tryz.func145, Tryz.ntmps145
    go_wp2
    go_ret
    exact ⟨ret_bool HT.out.symm, HB0.out⟩
set_option maxRecDepth 40000 in
set_option maxHeartbeats 8000000 in
theorem is_owner (t : Tb) (a : Ad) (p x : Int) (q : Bool) (w : World) (hm : TM 0 w t a) (hw : TW t a) (hs : TS a) (hq : q = true ↔ ((0 ≤ x ∧ x < (a.dn : Int)) ∧ t.ds.getD x.toNat 0 = p)) :
    Calls Tryz.prog 107 #[tbV t a, .int .i64 p, .int .i64 x] w fun e w' => e = .returned (.bool q) ∧ Below w.heap.size w w' := by
  have HB0 : Hid (Below w.heap.size w (w.alloc (.cells (tbA t a) 60))) := (Below.refl _ _).alloc (Nat.le_refl _) _
  have HX0 : Hid (TBx (w.alloc (.cells (tbA t a) 60)) w.heap.size t a) := TBx.new w t a _ rfl
  have HS : Hid (GSeg 1 (w.alloc (.cells (tbA t a) 60)) a.da a.dn (inX t.ds)) := (hm.below HB0.out).d.seg
  have hn : a.dn ≤ 1048576 := hs.d
  clear hm hw hs
  by_cases h0 : 0 ≤ x
  rotate_left
  · have HT : Hid (q = false) := not_true hq (fun h => h0 h.1.1)
    clear hq HX0 HS
    go_enter Tryz.func107, Tryz.ntmps107
    go_wp2
    go_ret
    exact ⟨ret_bool HT.out.symm, HB0.out⟩
  have kk : (w.alloc (.cells (tbA t a) 60)).cell? ⟨w.heap.size, 16, none⟩ = some (.slice a.da a.dn a.dc) := HX0.out.cell 16 rfl
  by_cases h1 : x < (a.dn : Int)
  rotate_left
  · have HT : Hid (q = false) := not_true hq (fun h => h1 h.1.2)
    clear hq HX0 HS
    go_enter Tryz.func107, Tryz.ntmps107
    go_wp2
    go_ret
    exact ⟨ret_bool HT.out.symm, HB0.out⟩
  obtain ⟨X, rfl⟩ : ∃ X : Nat, x = (X : Int) := ⟨x.toNat, by omega⟩
  have HQ : Hid (q = true ↔ t.ds.getD X 0 = p) := hq.trans ⟨fun h => h.2, fun h => ⟨⟨h0, h1⟩, h⟩⟩
  have hX : X < a.dn := by omega
  obtain ⟨b1, o1, hsa, hbl1, p1⟩ := HS.out.at X hX
  rw [hsa] at kk
  rw [Nat.mul_one] at p1
  simp only [inX] at p1
  have c0 := in_cell p1
  generalize t.ds.getD X 0 = x1 at c0 HQ
  clear hq HX0 HS p1 hbl1 hsa
  by_cases e : x1 = p
  · have HT : Hid (q = true) := HQ.out.2 e
    have he : (x1 == p) = true := eqb_yes e
    clear HQ e
    go_enter Tryz.func107, Tryz.ntmps107
    go_wp2
    go_ret
    exact ⟨ret_bool HT.out.symm, HB0.out⟩
  · have HT : Hid (q = false) := not_true HQ.out e
    have he : (x1 == p) = false := eqb_no e
    clear HQ e
    go_enter Tryz.func107, Tryz.ntmps107
    go_wp2
    go_ret
    exact ⟨ret_bool HT.out.symm, HB0.out⟩
set_option maxRecDepth 20000 in
theorem e_endsOk1 : ∀ args (v : World), (callFunc 144 args).run Tryz.prog v = .ok (.enter 144 args) v := enters_of Tryz.func144 (by kernel_rfl) rfl
set_option maxRecDepth 20000 in
theorem e_endsOk2 : ∀ args (v : World), (callFunc 146 args).run Tryz.prog v = .ok (.enter 146 args) v := enters_of Tryz.func146 (by kernel_rfl) rfl
set_option maxRecDepth 20000 in
theorem e_endsOk3 : ∀ args (v : World), (callFunc 149 args).run Tryz.prog v = .ok (.enter 149 args) v := enters_of Tryz.func149 (by kernel_rfl) rfl
set_option maxRecDepth 20000 in
theorem e_endsOk4 : ∀ args (v : World), (callFunc 151 args).run Tryz.prog v = .ok (.enter 151 args) v := enters_of Tryz.func151 (by kernel_rfl) rfl
set_option maxRecDepth 20000 in
theorem e_devicesOk1 : ∀ args (v : World), (callFunc 153 args).run Tryz.prog v = .ok (.enter 153 args) v := enters_of Tryz.func153 (by kernel_rfl) rfl
set_option maxRecDepth 20000 in
theorem e_devicesOk2 : ∀ args (v : World), (callFunc 155 args).run Tryz.prog v = .ok (.enter 155 args) v := enters_of Tryz.func155 (by kernel_rfl) rfl
set_option maxRecDepth 40000 in
set_option maxHeartbeats 8000000 in
theorem fr_one (t : Tb) (a : Ad) (p : Int) (i : Nat) (q : Bool) (B C : Nat) (X : World) (hx : TBx X B t a) (hp : X.cell? ⟨C, 0, none⟩ = some (.int .i64 p)) (hm : TM 0 X t a) (hw : TW t a) (hs : TS a) (hi : i < a.cn) (hq : q = true ↔ (t.cs.getD i ch0).2.1 = p) :
    Calls Tryz.prog 144 #[.int .i64 (i : Int), .pointer (some ⟨B, 0, none⟩), .pointer (some ⟨C, 0, none⟩)] X fun e w' => e = .returned (.bool q) ∧ Below X.heap.size X w' := by
  have HX0 : Hid (TBx X B t a) := hx
  have HF : Hid (Calls Tryz.prog 145 #[tbV t a, .int .i64 p, .int .i64 (i : Int)] X fun e w' => e = .returned (.bool q) ∧ Below X.heap.size X w') := is_from t a p (i : Int) q X hm hw hs (hq.trans ⟨fun h => ⟨⟨by omega, by omega⟩, by rw [Int.toNat_natCast]; exact h⟩, fun h => by have := h.2; rw [Int.toNat_natCast] at this; exact this⟩)
  have hCl : C < X.heap.size := World.block_lt_of_cell? X _ hp
  clear hx hm hw hs hq
  go_enter Tryz.func144, Tryz.ntmps144
  go_wp2_with (first | (refine wpList_load_row rfl 60 (.tmp 1) rfl B rfl 60 (tbA t a) (0, 0) _ HX0.out Tryz.underlying60 rfl (by kernel_rfl) ?_) | fail)
  refine Calls.mono HF.out ?_
  rintro e w1 ⟨rfl, hb1⟩
  have HB1 : Hid (Below X.heap.size X w1) := hb1
  clear hb1 HX0 hp HF
  go_wp2
  go_ret
  exact ⟨rfl, HB1.out⟩
set_option maxRecDepth 40000 in
set_option maxHeartbeats 8000000 in
theorem to_one (t : Tb) (a : Ad) (p : Int) (i : Nat) (q : Bool) (B C : Nat) (X : World) (hx : TBx X B t a) (hp : X.cell? ⟨C, 0, none⟩ = some (.int .i64 p)) (hm : TM 0 X t a) (hw : TW t a) (hs : TS a) (hi : i < a.cn) (hq : q = true ↔ (t.cs.getD i ch0).2.2.1 = p) :
    Calls Tryz.prog 149 #[.int .i64 (i : Int), .pointer (some ⟨B, 0, none⟩), .pointer (some ⟨C, 0, none⟩)] X fun e w' => e = .returned (.bool q) ∧ Below X.heap.size X w' := by
  have HX0 : Hid (TBx X B t a) := hx
  have HF : Hid (Calls Tryz.prog 150 #[tbV t a, .int .i64 p, .int .i64 (i : Int)] X fun e w' => e = .returned (.bool q) ∧ Below X.heap.size X w') := is_to t a p (i : Int) q X hm hw hs (hq.trans ⟨fun h => ⟨⟨by omega, by omega⟩, by rw [Int.toNat_natCast]; exact h⟩, fun h => by have := h.2; rw [Int.toNat_natCast] at this; exact this⟩)
  have hCl : C < X.heap.size := World.block_lt_of_cell? X _ hp
  clear hx hm hw hs hq
  go_enter Tryz.func149, Tryz.ntmps149
  go_wp2_with (first | (refine wpList_load_row rfl 60 (.tmp 1) rfl B rfl 60 (tbA t a) (0, 0) _ HX0.out Tryz.underlying60 rfl (by kernel_rfl) ?_) | fail)
  refine Calls.mono HF.out ?_
  rintro e w1 ⟨rfl, hb1⟩
  have HB1 : Hid (Below X.heap.size X w1) := hb1
  clear hb1 HX0 hp HF
  go_wp2
  go_ret
  exact ⟨rfl, HB1.out⟩
set_option maxRecDepth 40000 in
set_option maxHeartbeats 8000000 in
theorem ow_one (t : Tb) (a : Ad) (p : Int) (i : Nat) (q : Bool) (B C : Nat) (X : World) (hx : TBx X B t a) (hp : X.cell? ⟨C, 0, none⟩ = some (.int .i64 p)) (hm : TM 0 X t a) (hw : TW t a) (hs : TS a) (hi : i < a.dn) (hq : q = true ↔ t.ds.getD i 0 = p) :
    Calls Tryz.prog 153 #[.int .i64 (i : Int), .pointer (some ⟨B, 0, none⟩), .pointer (some ⟨C, 0, none⟩)] X fun e w' => e = .returned (.bool q) ∧ Below X.heap.size X w' := by
  have HX0 : Hid (TBx X B t a) := hx
  have HF : Hid (Calls Tryz.prog 107 #[tbV t a, .int .i64 p, .int .i64 (i : Int)] X fun e w' => e = .returned (.bool q) ∧ Below X.heap.size X w') := is_owner t a p (i : Int) q X hm hw hs (hq.trans ⟨fun h => ⟨⟨by omega, by omega⟩, by rw [Int.toNat_natCast]; exact h⟩, fun h => by have := h.2; rw [Int.toNat_natCast] at this; exact this⟩)
  have hCl : C < X.heap.size := World.block_lt_of_cell? X _ hp
  clear hx hm hw hs hq
  go_enter Tryz.func153, Tryz.ntmps153
  go_wp2_with (first | (refine wpList_load_row rfl 60 (.tmp 1) rfl B rfl 60 (tbA t a) (0, 0) _ HX0.out Tryz.underlying60 rfl (by kernel_rfl) ?_) | fail)
  refine Calls.mono HF.out ?_
  rintro e w1 ⟨rfl, hb1⟩
  have HB1 : Hid (Below X.heap.size X w1) := hb1
  clear hb1 HX0 hp HF
  go_wp2
  go_ret
  exact ⟨rfl, HB1.out⟩
set_option maxRecDepth 40000 in
set_option maxHeartbeats 8000000 in
theorem right_out (t : Tb) (a : Ad) (i : Nat) (h : Int) (ai : Option Addr) (n ci : Nat) (q : Bool) (B : Nat) (X : World) (hx : TBx X B t a) (hm : TM 0 X t a) (hw : TW t a) (hs : TS a) (hsd : Sd t) (hi : i < a.cn) (hn : n ≤ 1048576) (hq : q = true ↔ OOk (t.cs.getD i ch0).1 (t.cs.getD i ch0).2.2.2 h n) :
    Calls Tryz.prog 146 #[.int .i64 (i : Int), .agg #[.int .i64 h, .slice ai n ci], .pointer (some ⟨B, 0, none⟩)] X fun e w' => e = .returned (.bool q) ∧ Below X.heap.size X w' := by
  have hb0 : Below X.heap.size X (X.alloc (.cells #[.int .i64 h, .slice ai n ci] 200)) := (Below.refl _ _).alloc (Nat.le_refl _) _
  have HB0 : Hid (Below X.heap.size X (X.alloc (.cells #[.int .i64 h, .slice ai n ci] 200))) := hb0
  have hcn : a.cn ≤ 1048576 := hs.c
  have hi' : (i : Int) < (a.cn : Int) := by omega
  have k17 : (X.alloc (.cells #[.int .i64 h, .slice ai n ci] 200)).cell? ⟨B, 17, none⟩ = some (.slice a.ca a.cn a.cc) := (hx.below hb0).cell 17 rfl
  have s0 : (X.alloc (.cells #[.int .i64 h, .slice ai n ci] 200)).cell? ⟨X.heap.size, 0, none⟩ = some (.int .i64 h) := cell0 (CellsAt.new X [.int .i64 h, .slice ai n ci] _ _ rfl) 0 rfl
  have s1 : (X.alloc (.cells #[.int .i64 h, .slice ai n ci] 200)).cell? ⟨X.heap.size, 1, none⟩ = some (.slice ai n ci) := cell0 (CellsAt.new X [.int .i64 h, .slice ai n ci] _ _ rfl) 1 rfl
  obtain ⟨b1, o1, hsa, hbl1, p1⟩ := (hm.below hb0).c.seg.at i hi
  rw [hsa] at k17
  have hck := sd_chk hsd (i := i) (by rw [hw.cl]; exact hi)
  simp only [chX] at p1
  clear hx hm hw hs hsd
  generalize t.cs.getD i ch0 = x at p1 hck hq
  obtain ⟨c0, c1, c2, c3⟩ := ch_cells p1
  obtain ⟨x1, x2, x3, x4⟩ := x
  simp only at c0 c1 c2 c3 hck hq
  have HCO : Hid (∀ Y : Gr (X.alloc (.cells #[.int .i64 h, .slice ai n ci] 200)), Calls Tryz.prog 147 #[crw x1 x2 x3 x4, .agg #[.int .i64 h, .slice ai n ci]] Y.w fun e w' => e = .returned (.bool q) ∧ Below Y.w.heap.size Y.w w') := fun Y => out_ok x1 x2 x3 x4 h ai n ci q Y.w hck hn hq
  clear p1 hbl1 hsa hck hb0 hq
  go_enter Tryz.func146, Tryz.ntmps146
  go_wp2
  have R0 := fun Y => gr_cell (W0 := (X.alloc (.cells #[.int .i64 h, .slice ai n ci] 200))) c0 Y
  have R1 := fun Y => gr_cell (W0 := (X.alloc (.cells #[.int .i64 h, .slice ai n ci] 200))) c1 Y
  have R2 := fun Y => gr_cell (W0 := (X.alloc (.cells #[.int .i64 h, .slice ai n ci] 200))) c2 Y
  have R3 := fun Y => gr_cell (W0 := (X.alloc (.cells #[.int .i64 h, .slice ai n ci] 200))) c3 Y
  have K17 := fun Y => gr_cell (W0 := (X.alloc (.cells #[.int .i64 h, .slice ai n ci] 200))) k17 Y
  have S0 := fun Y => gr_cell (W0 := (X.alloc (.cells #[.int .i64 h, .slice ai n ci] 200))) s0 Y
  have S1 := fun Y => gr_cell (W0 := (X.alloc (.cells #[.int .i64 h, .slice ai n ci] 200))) s1 Y
  have hgr := gr_some (X.alloc (.cells #[.int .i64 h, .slice ai n ci] 200))
  refine region_alike (by kernel_rfl) (by kernel_rfl) ?_
  repeat (go_big_quiet_step (first | (go_at_call 147; exact gr_call (HCO.out _))))
  refine wpQuiet_nil ?_
  intro _ hw'
  obtain ⟨X8, rfl⟩ := hw'
  have HB8 : Hid (Below X.heap.size X X8.w) := HB0.out.trans (X8.h.mono HB0.out.size)
  go_wp2
  go_ret
  exact ⟨rfl, HB8.out⟩
set_option maxRecDepth 40000 in
set_option maxHeartbeats 8000000 in
theorem right_in (t : Tb) (a : Ad) (i : Nat) (ai : Option Addr) (n ci : Nat) (q : Bool) (B : Nat) (X : World) (hx : TBx X B t a) (hm : TM 0 X t a) (hw : TW t a) (hs : TS a) (hsd : Sd t) (hi : i < a.cn) (hn : n ≤ 1048576) (hq : q = true ↔ IOk (t.cs.getD i ch0).1 (t.cs.getD i ch0).2.2.2 n) :
    Calls Tryz.prog 151 #[.int .i64 (i : Int), .agg #[.slice ai n ci], .pointer (some ⟨B, 0, none⟩)] X fun e w' => e = .returned (.bool q) ∧ Below X.heap.size X w' := by
  have hb0 : Below X.heap.size X (X.alloc (.cells #[.slice ai n ci] 202)) := (Below.refl _ _).alloc (Nat.le_refl _) _
  have HB0 : Hid (Below X.heap.size X (X.alloc (.cells #[.slice ai n ci] 202))) := hb0
  have hcn : a.cn ≤ 1048576 := hs.c
  have hi' : (i : Int) < (a.cn : Int) := by omega
  have k17 : (X.alloc (.cells #[.slice ai n ci] 202)).cell? ⟨B, 17, none⟩ = some (.slice a.ca a.cn a.cc) := (hx.below hb0).cell 17 rfl
  have s0 : (X.alloc (.cells #[.slice ai n ci] 202)).cell? ⟨X.heap.size, 0, none⟩ = some (.slice ai n ci) := cell0 (CellsAt.new X [.slice ai n ci] _ _ rfl) 0 rfl
  obtain ⟨b1, o1, hsa, hbl1, p1⟩ := (hm.below hb0).c.seg.at i hi
  rw [hsa] at k17
  have hck := sd_chk hsd (i := i) (by rw [hw.cl]; exact hi)
  simp only [chX] at p1
  clear hx hm hw hs hsd
  generalize t.cs.getD i ch0 = x at p1 hck hq
  obtain ⟨c0, c1, c2, c3⟩ := ch_cells p1
  obtain ⟨x1, x2, x3, x4⟩ := x
  simp only at c0 c1 c2 c3 hck hq
  have HCO : Hid (∀ Y : Gr (X.alloc (.cells #[.slice ai n ci] 202)), Calls Tryz.prog 152 #[crw x1 x2 x3 x4, .agg #[.slice ai n ci]] Y.w fun e w' => e = .returned (.bool q) ∧ Below Y.w.heap.size Y.w w') := fun Y => in_ok x1 x2 x3 x4 ai n ci q Y.w hck hn hq
  clear p1 hbl1 hsa hck hb0 hq
  go_enter Tryz.func151, Tryz.ntmps151
  go_wp2
  have R0 := fun Y => gr_cell (W0 := (X.alloc (.cells #[.slice ai n ci] 202))) c0 Y
  have R1 := fun Y => gr_cell (W0 := (X.alloc (.cells #[.slice ai n ci] 202))) c1 Y
  have R2 := fun Y => gr_cell (W0 := (X.alloc (.cells #[.slice ai n ci] 202))) c2 Y
  have R3 := fun Y => gr_cell (W0 := (X.alloc (.cells #[.slice ai n ci] 202))) c3 Y
  have K17 := fun Y => gr_cell (W0 := (X.alloc (.cells #[.slice ai n ci] 202))) k17 Y
  have S0 := fun Y => gr_cell (W0 := (X.alloc (.cells #[.slice ai n ci] 202))) s0 Y
  have hgr := gr_some (X.alloc (.cells #[.slice ai n ci] 202))
  refine region_alike (by kernel_rfl) (by kernel_rfl) ?_
  repeat (go_big_quiet_step (first | (go_at_call 152; exact gr_call (HCO.out _))))
  refine wpQuiet_nil ?_
  intro _ hw'
  obtain ⟨X8, rfl⟩ := hw'
  have HB8 : Hid (Below X.heap.size X X8.w) := HB0.out.trans (X8.h.mono HB0.out.size)
  go_wp2
  go_ret
  exact ⟨rfl, HB8.out⟩
set_option maxRecDepth 40000 in
set_option maxHeartbeats 8000000 in
theorem right_dev (i : Nat) (ai bi : Option Addr) (n ci m di : Nat) (q : Bool) (X : World) (hq : q = true ↔ (n ≤ 8 ∧ m ≤ 8)) :
    Calls Tryz.prog 155 #[.int .i64 (i : Int), .agg #[.slice ai n ci, .slice bi m di]] X fun e w' => e = .returned (.bool q) ∧ Below X.heap.size X w' := by
  have HB0 : Hid (Below X.heap.size X (X.alloc (.cells #[.slice ai n ci, .slice bi m di] 163))) := (Below.refl _ _).alloc (Nat.le_refl _) _
  have HF : Hid (∀ Y, Calls Tryz.prog 156 #[.agg #[.slice ai n ci, .slice bi m di]] Y fun e w' => e = .returned (.bool q) ∧ Below Y.heap.size Y w') := fun Y => impl_devok ai bi n ci m di q Y hq
  clear hq
  go_enter Tryz.func155, Tryz.ntmps155
  go_wp2_with fail
  refine Calls.mono (HF.out _) ?_
  rintro e w1 ⟨rfl, hb1⟩
  have HB1 : Hid (Below X.heap.size X w1) := HB0.out.trans (hb1.mono HB0.out.size)
  clear hb1
  go_wp2
  go_ret
  exact ⟨rfl, HB1.out⟩
theorem not_iff_false {b : Bool} {P : Prop} (h : b = true ↔ P) : b = false ↔ ¬ P := by cases b <;> simp_all
set_option maxRecDepth 40000 in
set_option maxHeartbeats 8000000 in
theorem devices_ok (t : Tb) (a : Ad) (p : Int) (A : Option Addr) (n cap : Nat) (G U : Nat → List Int) (q : Bool) (w : World) (hm : TM 0 w t a) (hw : TW t a) (hs : TS a) (hv : VSeg w A n G U) (hn : n ≤ 1048576) (hq : q = true ↔ (n = t.ds.length ∧ DevsP t p G U t.ds.length)) :
    Calls Tryz.prog 67 #[tbV t a, .int .i64 p, .slice A n cap] w fun e w' => e = .returned (.bool q) ∧ Below w.heap.size w w' := by
  have HB0 : Hid (Below w.heap.size w ((w.alloc (.cells (tbA t a) 60)).alloc (.cells #[.int .i64 p] 3))) := ((Below.refl _ _).alloc (Nat.le_refl _) _).alloc (by simp) _
  have HX0 : Hid (TBx ((w.alloc (.cells (tbA t a) 60)).alloc (.cells #[.int .i64 p] 3)) w.heap.size t a) := (TBx.new w t a _ rfl).below ((Below.refl _ _).alloc (Nat.le_refl _) _)
  have HP0 : Hid (((w.alloc (.cells (tbA t a) 60)).alloc (.cells #[.int .i64 p] 3)).cell? ⟨w.heap.size + 1, 0, none⟩ = some (.int .i64 p)) := cell0 (CellsAt.new (w.alloc (.cells (tbA t a) 60)) [.int .i64 p] 3 _ (by simp)) 0 rfl
  have k16 : ((w.alloc (.cells (tbA t a) 60)).alloc (.cells #[.int .i64 p] 3)).cell? ⟨w.heap.size, 16, none⟩ = some (.slice a.da a.dn a.dc) := HX0.out.cell 16 rfl
  have hL : t.ds.length = a.dn := hw.dl
  have hdn : a.dn ≤ 1048576 := hs.d
  by_cases e1 : n = a.dn
  rotate_left
  · have h1 : ((n : Int) == (a.dn : Int)) = false := eqb_no (by omega)
    have HT : Hid (q = false) := not_true hq (fun g => e1 (by rw [g.1, hL]))
    clear hq e1 hm hw hs hv
    go_enter Tryz.func67, Tryz.ntmps67
    go_wp2
    go_ret
    exact ⟨ret_bool HT.out.symm, HB0.out⟩
  have h1 : ((n : Int) == (a.dn : Int)) = true := eqb_yes (by omega)
  have HEV : Hid (∀ X B C, Below w.heap.size w X → TBx X B t a → X.cell? ⟨C, 0, none⟩ = some (.int .i64 p) → Calls Tryz.prog 154 #[.slice A n cap, .func (.func 153) #[] #[.pointer (some ⟨B, 0, none⟩), .pointer (some ⟨C, 0, none⟩)], .func (.func 155) #[] #[]] X fun e w' => e = .returned (.bool q) ∧ Below X.heap.size X w') := fun X B C hX hB hC => by
    have hd : ∀ i, ∃ b : Bool, b = true ↔ t.ds.getD i 0 = p := fun i => told _
    have hr : ∀ i, ∃ b : Bool, b = true ↔ ((G i).length ≤ 8 ∧ (U i).length ≤ 8) := fun i => told _
    refine ents_dev A cap n G U (fun i => (hd i).choose) (fun i => (hr i).choose) q 153 155 #[.pointer (some ⟨B, 0, none⟩), .pointer (some ⟨C, 0, none⟩)] #[] X (VSeg.below hv hX) hn e_devicesOk1 e_devicesOk2 (fun i hi Z hZ => ?_) (fun i hi Z hZ ai ci bi di => ?_) (hq.trans ⟨fun g i hi => ?_, fun g => ?_⟩)
    · exact ow_one t a p i _ B C Z (hB.below hZ) (kept_cell hZ hC) ((hm.below hX).below hZ) hw hs (by omega) (hd i).choose_spec
    · exact right_dev i ai bi (G i).length ci (U i).length di _ Z (hr i).choose_spec
    · have g2 := g.2 i (by omega)
      exact ⟨fun h => (hr i).choose_spec.2 (g2.1 ((hd i).choose_spec.1 h)), fun h => g2.2 ((not_iff_false (hd i).choose_spec).1 h)⟩
    · refine ⟨by omega, fun i hi => ?_⟩
      have g2 := g i (by omega)
      exact ⟨fun h => (hr i).choose_spec.1 (g2.1 ((hd i).choose_spec.2 h)), fun h => g2.2 ((not_iff_false (hd i).choose_spec).2 h)⟩
  clear hq e1 hm hw hs hv
  go_enter Tryz.func67, Tryz.ntmps67
  go_wp2_with fail
  refine Calls.mono (HEV.out _ _ _ HB0.out HX0.out HP0.out) ?_
  rintro e w1 ⟨rfl, hb1⟩
  have HB1 : Hid (Below w.heap.size w w1) := HB0.out.trans (hb1.mono HB0.out.size)
  clear hb1
  go_wp2
  go_ret
  exact ⟨rfl, HB1.out⟩
set_option maxRecDepth 40000 in
set_option maxHeartbeats 8000000 in
theorem ends_ok (t : Tb) (a : Ad) (p : Int) (y : Ps) (d : Pd) (q : Bool) (w : World) (hm : TM 0 w t a) (hw : TW t a) (hs : TS a) (hsd : Sd t) (hps : PSeg w y d) (hf : PFit y d) (hq : q = true ↔ EndsP t p y d) :
    Calls Tryz.prog 66 #[tbV t a, .int .i64 p, psV y] w fun e w' => e = .returned (.bool q) ∧ Below w.heap.size w w' := by
  have hb2 : Below ((w.alloc (.cells (tbA t a) 60)).alloc (.cells #[.int .i64 p] 3)).heap.size ((w.alloc (.cells (tbA t a) 60)).alloc (.cells #[.int .i64 p] 3)) (((w.alloc (.cells (tbA t a) 60)).alloc (.cells #[.int .i64 p] 3)).alloc (.cells (psA y) 73)) := (Below.refl _ _).alloc (Nat.le_refl _) _
  have HB0 : Hid (Below w.heap.size w (((w.alloc (.cells (tbA t a) 60)).alloc (.cells #[.int .i64 p] 3)).alloc (.cells (psA y) 73))) := (((Below.refl _ _).alloc (Nat.le_refl _) _).alloc (by simp) _).alloc (by simp; omega) _
  have HX0 : Hid (TBx (((w.alloc (.cells (tbA t a) 60)).alloc (.cells #[.int .i64 p] 3)).alloc (.cells (psA y) 73)) w.heap.size t a) := ((TBx.new w t a _ rfl).below ((Below.refl _ _).alloc (Nat.le_refl _) _)).below hb2
  have HP0 : Hid ((((w.alloc (.cells (tbA t a) 60)).alloc (.cells #[.int .i64 p] 3)).alloc (.cells (psA y) 73)).cell? ⟨w.heap.size + 1, 0, none⟩ = some (.int .i64 p)) := kept_cell hb2 (cell0 (CellsAt.new (w.alloc (.cells (tbA t a) 60)) [.int .i64 p] 3 _ (by simp)) 0 rfl)
  have HK0 : Hid (PBx (((w.alloc (.cells (tbA t a) 60)).alloc (.cells #[.int .i64 p] 3)).alloc (.cells (psA y) 73)) (w.heap.size + 2) 73 y) := PBx.new _ _ y _ (by simp)
  have k17 : (((w.alloc (.cells (tbA t a) 60)).alloc (.cells #[.int .i64 p] 3)).alloc (.cells (psA y) 73)).cell? ⟨w.heap.size, 17, none⟩ = some (.slice a.ca a.cn a.cc) := HX0.out.cell 17 rfl
  have k24 : (((w.alloc (.cells (tbA t a) 60)).alloc (.cells #[.int .i64 p] 3)).alloc (.cells (psA y) 73)).cell? ⟨w.heap.size + 2, 24, none⟩ = some (.slice y.oa y.un y.uc) := HK0.out.cell 24 rfl
  have k25 : (((w.alloc (.cells (tbA t a) 60)).alloc (.cells #[.int .i64 p] 3)).alloc (.cells (psA y) 73)).cell? ⟨w.heap.size + 2, 25, none⟩ = some (.slice y.ia y.jn y.jc) := HK0.out.cell 25 rfl
  have hL : t.cs.length = a.cn := hw.cl
  have hcn : a.cn ≤ 1048576 := hs.c
  clear hb2
  by_cases e1 : y.un = a.cn
  rotate_left
  · have h1 : ((y.un : Int) != (a.cn : Int)) = true := neq_nat' e1
    have HT : Hid (q = false) := not_true hq (fun g => e1 (by rw [g.1.1, hL]))
    clear hq e1 hm hw hs hsd hps hf
    go_enter Tryz.func66, Tryz.ntmps66
    go_wp2
    go_ret
    exact ⟨ret_bool HT.out.symm, HB0.out⟩
  have h1 : ((y.un : Int) != (a.cn : Int)) = false := by rw [e1]; simp
  by_cases e2 : y.jn = a.cn
  rotate_left
  · have h2 : ((y.jn : Int) != (a.cn : Int)) = true := neq_nat' e2
    have HT : Hid (q = false) := not_true hq (fun g => e2 (by rw [g.1.2, hL]))
    clear hq e1 e2 hm hw hs hsd hps hf
    go_enter Tryz.func66, Tryz.ntmps66
    go_wp2
    go_ret
    exact ⟨ret_bool HT.out.symm, HB0.out⟩
  have h2 : ((y.jn : Int) != (a.cn : Int)) = false := by rw [e2]; simp
  obtain ⟨q1, hq1⟩ := told (OutsP t p d.H d.G t.cs.length)
  obtain ⟨q2, hq2⟩ := told (InsP t p d.I t.cs.length)
  have HQ : Hid (q = (q1 && q2)) := (bool_is hq (by rw [Bool.and_eq_true, hq1, hq2]; exact ⟨fun g => ⟨⟨by omega, by omega⟩, g⟩, fun g => g.2⟩)).symm
  have HEV : Hid (∀ X B C, Below w.heap.size w X → TBx X B t a → X.cell? ⟨C, 0, none⟩ = some (.int .i64 p) → Calls Tryz.prog 143 #[.slice y.oa y.un y.uc, .func (.func 144) #[] #[.pointer (some ⟨B, 0, none⟩), .pointer (some ⟨C, 0, none⟩)], .func (.func 146) #[] #[.pointer (some ⟨B, 0, none⟩)]] X fun e w' => e = .returned (.bool q1) ∧ Below X.heap.size X w') := fun X B C hX hB hC => by
    have hd : ∀ i, ∃ b : Bool, b = true ↔ (t.cs.getD i ch0).2.1 = p := fun i => told _
    have hr : ∀ i, ∃ b : Bool, b = true ↔ OOk (t.cs.getD i ch0).1 (t.cs.getD i ch0).2.2.2 (d.H i) (d.G i).length := fun i => told _
    refine ents_out y.oa y.uc y.un d.H d.G (fun i => (hd i).choose) (fun i => (hr i).choose) q1 144 146 #[.pointer (some ⟨B, 0, none⟩), .pointer (some ⟨C, 0, none⟩)] #[.pointer (some ⟨B, 0, none⟩)] X (hps.below hX).o (by omega) e_endsOk1 e_endsOk2 (fun i hi Z hZ => ?_) (fun i hi Z hZ ai ci => ?_) (hq1.trans ⟨fun g i hi => ?_, fun g => ?_⟩)
    · exact fr_one t a p i _ B C Z (hB.below hZ) (kept_cell hZ hC) ((hm.below hX).below hZ) hw hs (by omega) (hd i).choose_spec
    · exact right_out t a i (d.H i) ai (d.G i).length ci _ B Z (hB.below hZ) ((hm.below hX).below hZ) hw hs hsd (by omega) (Nat.le_trans (btot_row d.G hi) (by have := hf.zG; omega)) (hr i).choose_spec
    · have g2 := g i (by omega)
      exact ⟨fun h => (hr i).choose_spec.2 (g2.1 ((hd i).choose_spec.1 h)), fun h => g2.2 ((not_iff_false (hd i).choose_spec).1 h)⟩
    · refine fun i hi => ?_
      have g2 := g i (by omega)
      exact ⟨fun h => (hr i).choose_spec.1 (g2.1 ((hd i).choose_spec.2 h)), fun h => g2.2 ((not_iff_false (hd i).choose_spec).2 h)⟩
  have HIV : Hid (∀ X B C, Below w.heap.size w X → TBx X B t a → X.cell? ⟨C, 0, none⟩ = some (.int .i64 p) → Calls Tryz.prog 148 #[.slice y.ia y.jn y.jc, .func (.func 149) #[] #[.pointer (some ⟨B, 0, none⟩), .pointer (some ⟨C, 0, none⟩)], .func (.func 151) #[] #[.pointer (some ⟨B, 0, none⟩)]] X fun e w' => e = .returned (.bool q2) ∧ Below X.heap.size X w') := fun X B C hX hB hC => by
    have hd : ∀ i, ∃ b : Bool, b = true ↔ (t.cs.getD i ch0).2.2.1 = p := fun i => told _
    have hr : ∀ i, ∃ b : Bool, b = true ↔ IOk (t.cs.getD i ch0).1 (t.cs.getD i ch0).2.2.2 (d.I i).length := fun i => told _
    refine ents_in y.ia y.jc y.jn d.I (fun i => (hd i).choose) (fun i => (hr i).choose) q2 149 151 #[.pointer (some ⟨B, 0, none⟩), .pointer (some ⟨C, 0, none⟩)] #[.pointer (some ⟨B, 0, none⟩)] X (hps.below hX).i (by omega) e_endsOk3 e_endsOk4 (fun i hi Z hZ => ?_) (fun i hi Z hZ ai ci => ?_) (hq2.trans ⟨fun g i hi => ?_, fun g => ?_⟩)
    · exact to_one t a p i _ B C Z (hB.below hZ) (kept_cell hZ hC) ((hm.below hX).below hZ) hw hs (by omega) (hd i).choose_spec
    · exact right_in t a i ai (d.I i).length ci _ B Z (hB.below hZ) ((hm.below hX).below hZ) hw hs hsd (by omega) (Nat.le_trans (btot_row d.I hi) (by have := hf.zI; omega)) (hr i).choose_spec
    · have g2 := g i (by omega)
      exact ⟨fun h => (hr i).choose_spec.2 (g2.1 ((hd i).choose_spec.1 h)), fun h => g2.2 ((not_iff_false (hd i).choose_spec).1 h)⟩
    · refine fun i hi => ?_
      have g2 := g i (by omega)
      exact ⟨fun h => (hr i).choose_spec.1 (g2.1 ((hd i).choose_spec.2 h)), fun h => g2.2 ((not_iff_false (hd i).choose_spec).2 h)⟩
  clear hq e1 e2 hm hw hs hsd hps hf hq1 hq2
  go_enter Tryz.func66, Tryz.ntmps66
  go_wp2_with fail
  refine Calls.mono (HEV.out _ _ _ HB0.out HX0.out HP0.out) ?_
  rintro e w1 ⟨rfl, hb1⟩
  have HB1 : Hid (Below w.heap.size w w1) := HB0.out.trans (hb1.mono HB0.out.size)
  have HX1 : Hid (TBx w1 w.heap.size t a) := HX0.out.below hb1
  have HP1 : Hid (w1.cell? ⟨w.heap.size + 1, 0, none⟩ = some (.int .i64 p)) := kept_cell hb1 HP0.out
  have k25' : w1.cell? ⟨w.heap.size + 2, 25, none⟩ = some (.slice y.ia y.jn y.jc) := (HK0.out.below hb1).cell 25 rfl
  clear hb1 HB0 HX0 HP0 HK0 k17 k24 k25 HEV
  go_wp2_with fail
  refine Calls.mono (HIV.out _ _ _ HB1.out HX1.out HP1.out) ?_
  rintro e w2 ⟨rfl, hb2⟩
  have HB2 : Hid (Below w.heap.size w w2) := HB1.out.trans (hb2.mono HB1.out.size)
  clear hb2 HB1 HX1 HP1 k25' HIV
  cases q1
  · go_wp2
    go_ret
    exact ⟨ret_bool HQ.out.symm, HB2.out⟩
  · go_wp2
    go_ret
    exact ⟨ret_bool (by rw [HQ.out, Bool.true_and]), HB2.out⟩
end Go.Proofs.YtknipnenipdgiaaGreatDoor
