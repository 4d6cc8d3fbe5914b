
/-
  Rows of a feed on plain numbers: whether one is right for a partition; what the program asks of a row alone. Conditions: those that each fact names.
-/
import Derived.Test.YtiheojmknhgjfaaGreatDoorBas
import Derived.Test.YtiheojmknhgjfaaGreatDoorFdl
import Derived.Test.YtiheojmknhgjfaaGreatDoorRul
import Derived.Test.YtiheojmknhgjfaaGreatDoorIns
import Derived.Test.YtiheojmknhgjfaaGreatDoorGen
namespace Go.Proofs.YtiheojmknhgjfaaGreatDoor
open Go.ChangeShapes Go.WideShapes Go.ChangeAt Go.RowKit Go.Deep Go.Joins
set_option linter.unusedVariables false

def chM (x : chT) : Int := if x.1 = 0 then 1 else x.2.2.2
def FIn (t : Tb) (p at_ hd : Int) (wn : Nat) : Prop := ((0 ≤ at_ ∧ at_ < (t.cs.length : Int)) ∧ (t.cs.getD at_.toNat ch0).2.2.1 = p) ∧ hd = 0 ∧ 1 ≤ (wn : Int) ∧ (wn : Int) ≤ chM (t.cs.getD at_.toNat ch0)
def FHeld (t : Tb) (p at_ hd : Int) (wn : Nat) : Prop := ((0 ≤ at_ ∧ at_ < (t.cs.length : Int)) ∧ (t.cs.getD at_.toNat ch0).2.1 = p) ∧ (0 ≤ hd ∧ hd ≤ (t.cs.getD at_.toNat ch0).2.2.2) ∧ (wn : Int) = 0
def FDev (t : Tb) (p at_ hd : Int) (wn : Nat) : Prop := ((0 ≤ at_ ∧ at_ < (t.ds.length : Int)) ∧ t.ds.getD at_.toNat 0 = p) ∧ hd = 0 ∧ (wn : Int) = 1
def FRest (at_ hd : Int) (wn : Nat) : Prop := at_ = 0 ∧ hd = 0 ∧ (wn : Int) = 0
def FRow (t : Tb) (p kd at_ hd : Int) (wn : Nat) : Prop := (kd = 0 ∧ FIn t p at_ hd wn) ∨ (kd = 1 ∧ FHeld t p at_ hd wn) ∨ (kd = 2 ∧ FDev t p at_ hd wn) ∨ (kd = 3 ∧ FRest at_ hd wn)
theorem sd_ch {t : Tb} (h : Sd t) {i : Nat} (hi : i < t.cs.length) : ((t.cs.getD i ch0).1 = 0 ∧ (t.cs.getD i ch0).2.2.2 = 0) ∨ ((t.cs.getD i ch0).1 = 1 ∧ 1 ≤ (t.cs.getD i ch0).2.2.2 ∧ (t.cs.getD i ch0).2.2.2 ≤ 8) := by
  have h19 := h 19 (by omega)
  simp only [R] at h19
  exact chOk_k (h19 i hi).1
theorem sd_chk {t : Tb} (h : Sd t) {i : Nat} (hi : i < t.cs.length) : chOk (t.cs.getD i ch0).1 (t.cs.getD i ch0).2.1 (t.cs.getD i ch0).2.2.1 (t.cs.getD i ch0).2.2.2 = true := by
  have h19 := h 19 (by omega)
  simp only [R] at h19
  exact (h19 i hi).1
theorem eqb_yes {a b : Int} (h : a = b) : (a == b) = true := by simpa using h
theorem eqb_no {a b : Int} (h : ¬ a = b) : (a == b) = false := by simpa using h
set_option maxRecDepth 40000 in
set_option maxHeartbeats 8000000 in
theorem is_to (t : Tb) (a : Ad) (p x : Int) (q : Bool) (w : World) (hm : TM 0 w t a) (hw : TW t a) (hs : TS a) (hq : q = true ↔ ((0 ≤ x ∧ x < (a.cn : Int)) ∧ (t.cs.getD x.toNat ch0).2.2.1 = p)) :
    Calls Tryz.prog 68 #[tbV t a, .int .i64 p, .int .i64 x] w fun e w' => e = .returned (.bool q) ∧ Below w.heap.size w w' := by
  have HB0 : Hid (Below w.heap.size w (w.alloc (.cells (tbA t a) 42))) := (Below.refl _ _).alloc (Nat.le_refl _) _
  have HX0 : Hid (TBx (w.alloc (.cells (tbA t a) 42)) w.heap.size t a) := TBx.new w t a _ rfl
  have HS : Hid (GSeg 4 (w.alloc (.cells (tbA t a) 42)) a.ca a.cn (chX t.cs)) := (hm.below HB0.out).c.seg
  have hn : a.cn ≤ 1048576 := hs.c
  clear hm hw hs
  by_cases h0 : 0 ≤ x
  rotate_left
  · have HT : Hid (q = false) := not_true hq (fun h => h0 h.1.1)
    clear hq HX0 HS
    go_enter Tryz.func68, Tryz.ntmps68
    go_wp2
    go_ret
    exact ⟨ret_bool HT.out.symm, HB0.out⟩
  have kk : (w.alloc (.cells (tbA t a) 42)).cell? ⟨w.heap.size, 17, none⟩ = some (.slice a.ca a.cn a.cc) := HX0.out.cell 17 rfl
  by_cases h1 : x < (a.cn : Int)
  rotate_left
  · have HT : Hid (q = false) := not_true hq (fun h => h1 h.1.2)
    clear hq HX0 HS
    go_enter Tryz.func68, Tryz.ntmps68
    go_wp2
    go_ret
    exact ⟨ret_bool HT.out.symm, HB0.out⟩
  obtain ⟨X, rfl⟩ : ∃ X : Nat, x = (X : Int) := ⟨x.toNat, by omega⟩
  have HQ : Hid (q = true ↔ (t.cs.getD X ch0).2.2.1 = p) := hq.trans ⟨fun h => h.2, fun h => ⟨⟨h0, h1⟩, h⟩⟩
  have hX : X < a.cn := by omega
  obtain ⟨b1, o1, hsa, hbl1, p1⟩ := HS.out.at X hX
  rw [hsa] at kk
  simp only [chX] at p1
  generalize t.cs.getD X ch0 = y at p1 HQ
  obtain ⟨c0, c1, c2, c3⟩ := ch_cells p1
  obtain ⟨x1, x2, x3, x4⟩ := y
  simp only at c0 c1 c2 c3 HQ
  clear hq HX0 HS p1 hbl1 hsa
  by_cases e : x3 = p
  · have HT : Hid (q = true) := HQ.out.2 e
    have he : (x3 == p) = true := eqb_yes e
    clear HQ e
    go_enter Tryz.func68, Tryz.ntmps68
    go_wp2
    go_ret
    exact ⟨ret_bool HT.out.symm, HB0.out⟩
  · have HT : Hid (q = false) := not_true HQ.out e
    have he : (x3 == p) = false := eqb_no e
    clear HQ e
    go_enter Tryz.func68, Tryz.ntmps68
    go_wp2
    go_ret
    exact ⟨ret_bool HT.out.symm, HB0.out⟩
set_option maxRecDepth 40000 in
set_option maxHeartbeats 8000000 in
theorem is_from (t : Tb) (a : Ad) (p x : Int) (q : Bool) (w : World) (hm : TM 0 w t a) (hw : TW t a) (hs : TS a) (hq : q = true ↔ ((0 ≤ x ∧ x < (a.cn : Int)) ∧ (t.cs.getD x.toNat ch0).2.1 = p)) :
    Calls Tryz.prog 71 #[tbV t a, .int .i64 p, .int .i64 x] w fun e w' => e = .returned (.bool q) ∧ Below w.heap.size w w' := by
  have HB0 : Hid (Below w.heap.size w (w.alloc (.cells (tbA t a) 42))) := (Below.refl _ _).alloc (Nat.le_refl _) _
  have HX0 : Hid (TBx (w.alloc (.cells (tbA t a) 42)) w.heap.size t a) := TBx.new w t a _ rfl
  have HS : Hid (GSeg 4 (w.alloc (.cells (tbA t a) 42)) a.ca a.cn (chX t.cs)) := (hm.below HB0.out).c.seg
  have hn : a.cn ≤ 1048576 := hs.c
  clear hm hw hs
  by_cases h0 : 0 ≤ x
  rotate_left
  · have HT : Hid (q = false) := not_true hq (fun h => h0 h.1.1)
    clear hq HX0 HS
    go_enter Tryz.func71, Tryz.ntmps71
    go_wp2
    go_ret
    exact ⟨ret_bool HT.out.symm, HB0.out⟩
  have kk : (w.alloc (.cells (tbA t a) 42)).cell? ⟨w.heap.size, 17, none⟩ = some (.slice a.ca a.cn a.cc) := HX0.out.cell 17 rfl
  by_cases h1 : x < (a.cn : Int)
  rotate_left
  · have HT : Hid (q = false) := not_true hq (fun h => h1 h.1.2)
    clear hq HX0 HS
    go_enter Tryz.func71, Tryz.ntmps71
    go_wp2
    go_ret
    exact ⟨ret_bool HT.out.symm, HB0.out⟩
  obtain ⟨X, rfl⟩ : ∃ X : Nat, x = (X : Int) := ⟨x.toNat, by omega⟩
  have HQ : Hid (q = true ↔ (t.cs.getD X ch0).2.1 = p) := hq.trans ⟨fun h => h.2, fun h => ⟨⟨h0, h1⟩, h⟩⟩
  have hX : X < a.cn := by omega
  obtain ⟨b1, o1, hsa, hbl1, p1⟩ := HS.out.at X hX
  rw [hsa] at kk
  simp only [chX] at p1
  generalize t.cs.getD X ch0 = y at p1 HQ
  obtain ⟨c0, c1, c2, c3⟩ := ch_cells p1
  obtain ⟨x1, x2, x3, x4⟩ := y
  simp only at c0 c1 c2 c3 HQ
  clear hq HX0 HS p1 hbl1 hsa
  by_cases e : x2 = p
  · have HT : Hid (q = true) := HQ.out.2 e
    have he : (x2 == p) = true := eqb_yes e
    clear HQ e
    go_enter Tryz.func71, Tryz.ntmps71
    go_wp2
    go_ret
    exact ⟨ret_bool HT.out.symm, HB0.out⟩
  · have HT : Hid (q = false) := not_true HQ.out e
    have he : (x2 == p) = false := eqb_no e
    clear HQ e
    go_enter Tryz.func71, Tryz.ntmps71
    go_wp2
    go_ret
    exact ⟨ret_bool HT.out.symm, HB0.out⟩
set_option maxRecDepth 40000 in
set_option maxHeartbeats 8000000 in
theorem is_owner (t : Tb) (a : Ad) (p x : Int) (q : Bool) (w : World) (hm : TM 0 w t a) (hw : TW t a) (hs : TS a) (hq : q = true ↔ ((0 ≤ x ∧ x < (a.dn : Int)) ∧ t.ds.getD x.toNat 0 = p)) :
    Calls Tryz.prog 74 #[tbV t a, .int .i64 p, .int .i64 x] w fun e w' => e = .returned (.bool q) ∧ Below w.heap.size w w' := by
  have HB0 : Hid (Below w.heap.size w (w.alloc (.cells (tbA t a) 42))) := (Below.refl _ _).alloc (Nat.le_refl _) _
  have HX0 : Hid (TBx (w.alloc (.cells (tbA t a) 42)) w.heap.size t a) := TBx.new w t a _ rfl
  have HS : Hid (GSeg 1 (w.alloc (.cells (tbA t a) 42)) a.da a.dn (inX t.ds)) := (hm.below HB0.out).d.seg
  have hn : a.dn ≤ 1048576 := hs.d
  clear hm hw hs
  by_cases h0 : 0 ≤ x
  rotate_left
  · have HT : Hid (q = false) := not_true hq (fun h => h0 h.1.1)
    clear hq HX0 HS
    go_enter Tryz.func74, Tryz.ntmps74
    go_wp2
    go_ret
    exact ⟨ret_bool HT.out.symm, HB0.out⟩
  have kk : (w.alloc (.cells (tbA t a) 42)).cell? ⟨w.heap.size, 16, none⟩ = some (.slice a.da a.dn a.dc) := HX0.out.cell 16 rfl
  by_cases h1 : x < (a.dn : Int)
  rotate_left
  · have HT : Hid (q = false) := not_true hq (fun h => h1 h.1.2)
    clear hq HX0 HS
    go_enter Tryz.func74, Tryz.ntmps74
    go_wp2
    go_ret
    exact ⟨ret_bool HT.out.symm, HB0.out⟩
  obtain ⟨X, rfl⟩ : ∃ X : Nat, x = (X : Int) := ⟨x.toNat, by omega⟩
  have HQ : Hid (q = true ↔ t.ds.getD X 0 = p) := hq.trans ⟨fun h => h.2, fun h => ⟨⟨h0, h1⟩, h⟩⟩
  have hX : X < a.dn := by omega
  obtain ⟨b1, o1, hsa, hbl1, p1⟩ := HS.out.at X hX
  rw [hsa] at kk
  rw [Nat.mul_one] at p1
  simp only [inX] at p1
  have c0 := in_cell p1
  generalize t.ds.getD X 0 = x1 at c0 HQ
  clear hq HX0 HS p1 hbl1 hsa
  by_cases e : x1 = p
  · have HT : Hid (q = true) := HQ.out.2 e
    have he : (x1 == p) = true := eqb_yes e
    clear HQ e
    go_enter Tryz.func74, Tryz.ntmps74
    go_wp2
    go_ret
    exact ⟨ret_bool HT.out.symm, HB0.out⟩
  · have HT : Hid (q = false) := not_true HQ.out e
    have he : (x1 == p) = false := eqb_no e
    clear HQ e
    go_enter Tryz.func74, Tryz.ntmps74
    go_wp2
    go_ret
    exact ⟨ret_bool HT.out.symm, HB0.out⟩
theorem is_count (n m : Int) (w : World) : Calls Tryz.prog 102 #[.int .i64 n, .int .i64 m] w fun e w' => e = .returned (.bool (inr n 1 m)) ∧ w' = w := by
  by_cases h1 : 1 ≤ n
  · by_cases h2 : n ≤ m
    · rw [inr_yes ⟨h1, h2⟩]
      go_enter Tryz.func102, Tryz.ntmps102
      go_wp2
      go_ret
      exact ⟨rfl, rfl⟩
    · rw [inr_no (fun g => h2 g.2)]
      go_enter Tryz.func102, Tryz.ntmps102
      go_wp2
      go_ret
      exact ⟨rfl, rfl⟩
  · rw [inr_no (fun g => h1 g.1)]
    go_enter Tryz.func102, Tryz.ntmps102
    go_wp2
    go_ret
    exact ⟨rfl, rfl⟩
theorem names_words (cy kd at_ hd : Int) (wa : Option Addr) (wn wc : Nat) (m : Int) (q : Bool) (w : World) (hq : q = true ↔ (hd = 0 ∧ 1 ≤ (wn : Int) ∧ (wn : Int) ≤ m)) :
    Calls Tryz.prog 69 #[.agg #[.int .i64 cy, .int .i64 kd, .int .i64 at_, .int .i64 hd, .slice wa wn wc], .int .i64 m] w fun e w' => e = .returned (.bool q) ∧ Below w.heap.size w w' := by
  have HB0 : Hid (Below w.heap.size w (w.alloc (.cells #[.int .i64 cy, .int .i64 kd, .int .i64 at_, .int .i64 hd, .slice wa wn wc] 67))) := (Below.refl _ _).alloc (Nat.le_refl _) _
  have HQ : Hid (q = true ↔ (hd = 0 ∧ 1 ≤ (wn : Int) ∧ (wn : Int) ≤ m)) := hq
  clear hq
  by_cases h : hd = 0
  rotate_left
  · have HT : Hid (q = false) := not_true HQ.out (fun g => h g.1)
    have he : (hd == 0) = false := eqb_no h
    clear h HQ
    go_enter Tryz.func69, Tryz.ntmps69
    go_wp2
    go_ret
    exact ⟨ret_bool HT.out.symm, HB0.out⟩
  have HT : Hid (inr (wn : Int) 1 m = q) := bool_is HQ.out (by rw [inr_iff]; exact ⟨fun g => ⟨h, g⟩, fun g => g.2⟩)
  have he : (hd == 0) = true := eqb_yes h
  clear h HQ
  go_enter Tryz.func69, Tryz.ntmps69
  go_wp2_with fail
  refine Calls.mono (is_count _ _ _) ?_
  rintro e w1 ⟨rfl, rfl⟩
  rw [HT.out]
  go_wp2
  go_ret
  exact ⟨rfl, HB0.out⟩
theorem names_held (cy kd at_ hd : Int) (wa : Option Addr) (wn wc : Nat) (q : Bool) (w : World) (hq : q = true ↔ (wn : Int) = 0) :
    Calls Tryz.prog 72 #[.agg #[.int .i64 cy, .int .i64 kd, .int .i64 at_, .int .i64 hd, .slice wa wn wc]] w fun e w' => e = .returned (.bool q) ∧ Below w.heap.size w w' := by
  have HB0 : Hid (Below w.heap.size w (w.alloc (.cells #[.int .i64 cy, .int .i64 kd, .int .i64 at_, .int .i64 hd, .slice wa wn wc] 67))) := (Below.refl _ _).alloc (Nat.le_refl _) _
  have HT : Hid (((wn : Int) == 0) = q) := bool_is hq (by simp)
  clear hq
  go_enter Tryz.func72, Tryz.ntmps72
  go_wp2
  go_ret
  exact ⟨ret_bool HT.out, HB0.out⟩
theorem names_none (cy kd at_ hd : Int) (wa : Option Addr) (wn wc : Nat) (q : Bool) (w : World) (hq : q = true ↔ FRest at_ hd wn) :
    Calls Tryz.prog 75 #[.agg #[.int .i64 cy, .int .i64 kd, .int .i64 at_, .int .i64 hd, .slice wa wn wc]] w fun e w' => e = .returned (.bool q) ∧ Below w.heap.size w w' := by
  have HB0 : Hid (Below w.heap.size w (w.alloc (.cells #[.int .i64 cy, .int .i64 kd, .int .i64 at_, .int .i64 hd, .slice wa wn wc] 67))) := (Below.refl _ _).alloc (Nat.le_refl _) _
  have HQ : Hid (q = true ↔ FRest at_ hd wn) := hq
  clear hq
  by_cases h : at_ = 0
  rotate_left
  · have HT : Hid (q = false) := not_true HQ.out (fun g => h g.1)
    have he : (at_ == 0) = false := eqb_no h
    clear h HQ
    go_enter Tryz.func75, Tryz.ntmps75
    go_wp2
    go_ret
    exact ⟨ret_bool HT.out.symm, HB0.out⟩
  have he : (at_ == 0) = true := eqb_yes h
  by_cases h2 : hd = 0
  rotate_left
  · have HT : Hid (q = false) := not_true HQ.out (fun g => h2 g.2.1)
    have he2 : (hd == 0) = false := eqb_no h2
    clear h h2 HQ
    go_enter Tryz.func75, Tryz.ntmps75
    go_wp2
    go_ret
    exact ⟨ret_bool HT.out.symm, HB0.out⟩
  have he2 : (hd == 0) = true := eqb_yes h2
  have HT : Hid (((wn : Int) == 0) = q) := bool_is HQ.out (by simp [FRest, h, h2])
  clear h h2 HQ
  go_enter Tryz.func75, Tryz.ntmps75
  go_wp2
  go_ret
  exact ⟨ret_bool HT.out, HB0.out⟩
end Go.Proofs.YtiheojmknhgjfaaGreatDoor
