
/-
  Whether a row of a feed is right for a partition: the specification's answer. Conditions: the tables' lists lie in memory.
-/
import Derived.Test.YtiheojmknhgjfaaGreatDoorBas
import Derived.Test.YtiheojmknhgjfaaGreatDoorFkp
import Derived.Test.YtiheojmknhgjfaaGreatDoorCrs
import Derived.Test.YtiheojmknhgjfaaGreatDoorRul
namespace Go.Proofs.YtiheojmknhgjfaaGreatDoor
open Go.ChangeShapes Go.WideShapes Go.ChangeAt Go.RowKit Go.Deep Go.Joins
set_option linter.unusedVariables false

theorem spec_most (k f t d m : Int) (w : World) (HM : Hid ((if k = 0 then 1 else d) = m)) : Calls Tryz.prog 62 #[crw k f t d] w fun e w' => e = .returned (.int .i64 m) ∧ Below w.heap.size w w' := by
  have HB0 : Hid (Below w.heap.size w (w.alloc (.cells #[.int .i64 k, .int .i64 f, .int .i64 t, .int .i64 d] 106))) := (Below.refl _ _).alloc (Nat.le_refl _) _
  by_cases h : k = 0
  · have HT : Hid (1 = m) := by show _ = _; rw [← HM.out, if_pos h]
    have he : (k == 0) = true := eqb_yes h
    clear HM h
    go_enter Tryz.func62, Tryz.ntmps62
    go_wp2
    go_ret
    exact ⟨ret_int HT.out, HB0.out⟩
  · have HT : Hid (d = m) := by show _ = _; rw [← HM.out, if_neg h]
    have he : (k == 0) = false := eqb_no h
    clear HM h
    go_enter Tryz.func62, Tryz.ntmps62
    go_wp2
    go_ret
    exact ⟨ret_int HT.out, HB0.out⟩
set_option maxRecDepth 40000 in
set_option maxHeartbeats 8000000 in
theorem spec_row (t : Tb) (a : Ad) (p cy kd at_ hd : Int) (wa : Option Addr) (wn wc : Nat) (q : Bool) (w : World) (hm : TM 0 w t a) (hw : TW t a) (hs : TS a) (hwn : wn ≤ 1048576) (hq : q = true ↔ FRow t p kd at_ hd wn) :
    Calls Tryz.prog 25 #[tbV t a, .int .i64 p, .agg #[.int .i64 cy, .int .i64 kd, .int .i64 at_, .int .i64 hd, .slice wa wn wc]] w fun e w' => e = .returned (.bool q) ∧ Below w.heap.size w w' := by
  have HB0 : Hid (Below w.heap.size w ((w.alloc (.cells (tbA t a) 42)).alloc (.cells #[.int .i64 cy, .int .i64 kd, .int .i64 at_, .int .i64 hd, .slice wa wn wc] 67))) := ((Below.refl _ _).alloc (Nat.le_refl _) _).alloc (by simp) _
  have HX0 : Hid (TBx ((w.alloc (.cells (tbA t a) 42)).alloc (.cells #[.int .i64 cy, .int .i64 kd, .int .i64 at_, .int .i64 hd, .slice wa wn wc] 67)) w.heap.size t a) := (TBx.new w t a _ rfl).below ((Below.refl _ _).alloc (Nat.le_refl _) _)
  have KE : Hid (CellsAt ((w.alloc (.cells (tbA t a) 42)).alloc (.cells #[.int .i64 cy, .int .i64 kd, .int .i64 at_, .int .i64 hd, .slice wa wn wc] 67)) (w.heap.size + 1) 0 [.int .i64 cy, .int .i64 kd, .int .i64 at_, .int .i64 hd, .slice wa wn wc]) := CellsAt.new _ [.int .i64 cy, .int .i64 kd, .int .i64 at_, .int .i64 hd, .slice wa wn wc] _ _ (by simp)
  have HLC : t.cs.length = a.cn := hw.cl
  have HLD : t.ds.length = a.dn := hw.dl
  have hnc : a.cn ≤ 1048576 := hs.c
  have hnd : a.dn ≤ 1048576 := hs.d
  have HMM : Hid (∀ X, Below w.heap.size w X → TM 0 X t a) := fun X hX => hm.below hX
  have HQ : Hid (q = true ↔ FRow t p kd at_ hd wn) := hq
  clear hm hw hs hq
  by_cases k0 : kd = 0
  · subst k0
    have HQ1 : Hid (q = true ↔ FIn t p at_ hd wn) := HQ.out.trans ⟨fun h => by rcases h with h | h | h | h <;> (first | exact h.2 | (exact absurd h.1 (by decide))), fun h => .inl ⟨rfl, h⟩⟩
    clear HQ
    have hwc : IntKind.i64.wrap ((a.cn : Int) - 1) = (a.cn : Int) - 1 := by rw [IntKind.wrap_i64]; omega
    go_enter Tryz.func25, Tryz.ntmps25
    go_wp2
    revert HB0 HX0 KE
    generalize ((w.alloc (.cells (tbA t a) 42)).alloc (.cells #[.int .i64 cy, .int .i64 0, .int .i64 at_, .int .i64 hd, .slice wa wn wc] 67)) = V
    obtain ⟨N, hN⟩ : ∃ N, w.heap.size + 1 = N := ⟨_, rfl⟩
    rw [hN]
    intro HB0 HX0 KE
    clear hN
    by_cases hr : 0 ≤ at_ ∧ at_ < (a.cn : Int)
    rotate_left
    · have HT : Hid (q = false) := not_true HQ1.out (fun h => hr (by rw [← HLC]; exact h.1.1))
      have k17 : V.cell? ⟨w.heap.size, 17, none⟩ = some (.slice a.ca a.cn a.cc) := HX0.out.cell 17 rfl
      replace k17 := fun X => gr_cell (W0 := V) k17 X
      have HI : Hid (∀ X' : Gr V, Calls Tryz.prog 24 #[.int .i64 at_, .int .i64 0, .int .i64 ((a.cn : Int) - 1)] X'.w fun e w' => e = .returned (.bool false) ∧ Below X'.w.heap.size X'.w w') := fun X' => (in_any _ _ _ X'.w).mono fun e w' ⟨h1, h2⟩ => ⟨by rw [h1, inr_no (x := at_) (lo := 0) (hi := (a.cn : Int) - 1) (fun h => hr ⟨h.1, by omega⟩)], by rw [h2]; exact Below.refl _ _⟩
      clear hr HQ1
      have e0 : V.cell? ⟨N, 0, none⟩ = some (.int .i64 cy) := KE.out 0 _ rfl
      replace e0 := fun X => gr_cell (W0 := V) e0 X
      have e1 : V.cell? ⟨N, 1, none⟩ = some (.int .i64 0) := KE.out 1 _ rfl
      replace e1 := fun X => gr_cell (W0 := V) e1 X
      have e2 : V.cell? ⟨N, 2, none⟩ = some (.int .i64 at_) := KE.out 2 _ rfl
      replace e2 := fun X => gr_cell (W0 := V) e2 X
      have e3 : V.cell? ⟨N, 3, none⟩ = some (.int .i64 hd) := KE.out 3 _ rfl
      replace e3 := fun X => gr_cell (W0 := V) e3 X
      have e4 : V.cell? ⟨N, 4, none⟩ = some (.slice wa wn wc) := KE.out 4 _ rfl
      replace e4 := fun X => gr_cell (W0 := V) e4 X
      have hgr := gr_some V
      refine region_alike (by kernel_rfl) (by kernel_rfl) ?_
      repeat (go_big_quiet_step (first | (go_at_call 24; exact gr_call (HI.out _))))
      refine wpQuiet_nil ?_
      intro _ hw'
      obtain ⟨X1, rfl⟩ := hw'
      have HBE : Hid (Below w.heap.size w X1.w) := HB0.out.trans (X1.h.mono HB0.out.size)
      generalize X1.w = W2 at HBE ⊢
      clear hgr e0 e1 e2 e3 e4
      go_wp2
      go_ret
      exact ⟨ret_bool HT.out.symm, HBE.out⟩
    have hX0 : 0 ≤ at_ := hr.1
    obtain ⟨X, rfl⟩ : ∃ X : Nat, at_ = (X : Int) := ⟨at_.toNat, by omega⟩
    have hX : X < a.cn := by omega
    have hX' : (X : Int) < (a.cn : Int) := by omega
    have HI : Hid (∀ X' : Gr V, Calls Tryz.prog 24 #[.int .i64 (X : Int), .int .i64 0, .int .i64 ((a.cn : Int) - 1)] X'.w fun e w' => e = .returned (.bool true) ∧ Below X'.w.heap.size X'.w w') := fun X' => (in_any _ _ _ X'.w).mono fun e w' ⟨h1, h2⟩ => ⟨by rw [h1, inr_yes (x := (X : Int)) (lo := 0) (hi := (a.cn : Int) - 1) ⟨by omega, by omega⟩], by rw [h2]; exact Below.refl _ _⟩
    have HQ2 : Hid (q = true ↔ ((t.cs.getD X ch0).2.2.1 = p ∧ hd = 0 ∧ 1 ≤ (wn : Int) ∧ (wn : Int) ≤ (if (t.cs.getD X ch0).1 = 0 then 1 else (t.cs.getD X ch0).2.2.2))) := HQ1.out.trans ⟨fun h => ⟨h.1.2, h.2⟩, fun h => ⟨⟨by rw [HLC]; exact hr, h.1⟩, h.2⟩⟩
    clear HQ1 hr
    have k17 : V.cell? ⟨w.heap.size, 17, none⟩ = some (.slice a.ca a.cn a.cc) := HX0.out.cell 17 rfl
    obtain ⟨b1, o1, hsa, hbl1, p1⟩ := (HMM.out _ HB0.out).c.seg.at X hX
    rw [hsa] at k17
    simp only [chX] at p1
    generalize t.cs.getD X ch0 = y at p1 HQ2
    obtain ⟨c0, c1, c2, c3⟩ := ch_cells p1
    obtain ⟨x1, x2, x3, x4⟩ := y
    simp only at c0 c1 c2 c3 HQ2
    replace k17 := fun X => gr_cell (W0 := V) k17 X
    replace c0 := fun X => gr_cell (W0 := V) c0 X
    replace c1 := fun X => gr_cell (W0 := V) c1 X
    replace c2 := fun X => gr_cell (W0 := V) c2 X
    replace c3 := fun X => gr_cell (W0 := V) c3 X
    clear p1 hbl1 hsa
    by_cases e2' : x3 = p
    rotate_left
    · have HT : Hid (q = false) := not_true HQ2.out (fun h => e2' h.1)
      have he2 : (x3 == p) = false := eqb_no e2'
      clear HQ2 e2'
      have e0 : V.cell? ⟨N, 0, none⟩ = some (.int .i64 cy) := KE.out 0 _ rfl
      replace e0 := fun X => gr_cell (W0 := V) e0 X
      have e1 : V.cell? ⟨N, 1, none⟩ = some (.int .i64 0) := KE.out 1 _ rfl
      replace e1 := fun X => gr_cell (W0 := V) e1 X
      have e2 : V.cell? ⟨N, 2, none⟩ = some (.int .i64 (X : Int)) := KE.out 2 _ rfl
      replace e2 := fun X => gr_cell (W0 := V) e2 X
      have e3 : V.cell? ⟨N, 3, none⟩ = some (.int .i64 hd) := KE.out 3 _ rfl
      replace e3 := fun X => gr_cell (W0 := V) e3 X
      have e4 : V.cell? ⟨N, 4, none⟩ = some (.slice wa wn wc) := KE.out 4 _ rfl
      replace e4 := fun X => gr_cell (W0 := V) e4 X
      have hgr := gr_some V
      refine region_alike (by kernel_rfl) (by kernel_rfl) ?_
      repeat (go_big_quiet_step (first | (go_at_call 24; exact gr_call (HI.out _))))
      refine wpQuiet_nil ?_
      intro _ hw'
      obtain ⟨X1, rfl⟩ := hw'
      have HBE : Hid (Below w.heap.size w X1.w) := HB0.out.trans (X1.h.mono HB0.out.size)
      generalize X1.w = W2 at HBE ⊢
      clear hgr e0 e1 e2 e3 e4
      go_wp2
      go_ret
      exact ⟨ret_bool HT.out.symm, HBE.out⟩
    have he2 : (x3 == p) = true := eqb_yes e2'
    by_cases e3' : hd = 0
    rotate_left
    · have HT : Hid (q = false) := not_true HQ2.out (fun h => e3' h.2.1)
      have he3 : (hd == 0) = false := eqb_no e3'
      clear HQ2 e2' e3'
      have e0 : V.cell? ⟨N, 0, none⟩ = some (.int .i64 cy) := KE.out 0 _ rfl
      replace e0 := fun X => gr_cell (W0 := V) e0 X
      have e1 : V.cell? ⟨N, 1, none⟩ = some (.int .i64 0) := KE.out 1 _ rfl
      replace e1 := fun X => gr_cell (W0 := V) e1 X
      have e2 : V.cell? ⟨N, 2, none⟩ = some (.int .i64 (X : Int)) := KE.out 2 _ rfl
      replace e2 := fun X => gr_cell (W0 := V) e2 X
      have e3 : V.cell? ⟨N, 3, none⟩ = some (.int .i64 hd) := KE.out 3 _ rfl
      replace e3 := fun X => gr_cell (W0 := V) e3 X
      have e4 : V.cell? ⟨N, 4, none⟩ = some (.slice wa wn wc) := KE.out 4 _ rfl
      replace e4 := fun X => gr_cell (W0 := V) e4 X
      have hgr := gr_some V
      refine region_alike (by kernel_rfl) (by kernel_rfl) ?_
      repeat (go_big_quiet_step (first | (go_at_call 24; exact gr_call (HI.out _))))
      refine wpQuiet_nil ?_
      intro _ hw'
      obtain ⟨X1, rfl⟩ := hw'
      have HBE : Hid (Below w.heap.size w X1.w) := HB0.out.trans (X1.h.mono HB0.out.size)
      generalize X1.w = W2 at HBE ⊢
      clear hgr e0 e1 e2 e3 e4
      go_wp2
      go_ret
      exact ⟨ret_bool HT.out.symm, HBE.out⟩
    have he3 : (hd == 0) = true := eqb_yes e3'
    obtain ⟨m, HM⟩ : ∃ m, Hid ((if x1 = 0 then 1 else x4) = m) := ⟨_, rfl⟩
    rw [HM.out] at HQ2
    have HT : Hid (inr (wn : Int) 1 m = q) := bool_is HQ2.out (by rw [inr_iff]; exact ⟨fun h => ⟨e2', e3', h⟩, fun h => h.2.2⟩)
    have HMO : Hid (∀ X' : Gr V, Calls Tryz.prog 62 #[crw x1 x2 x3 x4] X'.w fun e w' => e = .returned (.int .i64 m) ∧ Below X'.w.heap.size X'.w w') := fun X' => spec_most x1 x2 x3 x4 m X'.w HM
    have HI2 : Hid (∀ X' : Gr V, Calls Tryz.prog 24 #[.int .i64 (wn : Int), .int .i64 1, .int .i64 m] X'.w fun e w' => e = .returned (.bool (inr (wn : Int) 1 m)) ∧ Below X'.w.heap.size X'.w w') := fun X' => (in_any _ _ _ X'.w).mono fun e w' ⟨h1, h2⟩ => ⟨h1, by rw [h2]; exact Below.refl _ _⟩
    clear HQ2 e2' e3' HM
    have e0 : V.cell? ⟨N, 0, none⟩ = some (.int .i64 cy) := KE.out 0 _ rfl
    replace e0 := fun X => gr_cell (W0 := V) e0 X
    have e1 : V.cell? ⟨N, 1, none⟩ = some (.int .i64 0) := KE.out 1 _ rfl
    replace e1 := fun X => gr_cell (W0 := V) e1 X
    have e2 : V.cell? ⟨N, 2, none⟩ = some (.int .i64 (X : Int)) := KE.out 2 _ rfl
    replace e2 := fun X => gr_cell (W0 := V) e2 X
    have e3 : V.cell? ⟨N, 3, none⟩ = some (.int .i64 hd) := KE.out 3 _ rfl
    replace e3 := fun X => gr_cell (W0 := V) e3 X
    have e4 : V.cell? ⟨N, 4, none⟩ = some (.slice wa wn wc) := KE.out 4 _ rfl
    replace e4 := fun X => gr_cell (W0 := V) e4 X
    have hgr := gr_some V
    refine region_alike (by kernel_rfl) (by kernel_rfl) ?_
    repeat (go_big_quiet_step (first | (go_at_call_of 24 (Value.int IntKind.i64 (X : Int)); exact gr_call (HI.out _)) | (go_at_call_of 24 (Value.int IntKind.i64 (wn : Int)); exact gr_call (HI2.out _)) | (go_at_call 62; exact gr_call (HMO.out _))))
    refine wpQuiet_nil ?_
    intro _ hw'
    obtain ⟨X1, rfl⟩ := hw'
    have HBE : Hid (Below w.heap.size w X1.w) := HB0.out.trans (X1.h.mono HB0.out.size)
    generalize X1.w = W2 at HBE ⊢
    clear hgr e0 e1 e2 e3 e4
    go_wp2
    go_ret
    exact ⟨ret_bool HT.out, HBE.out⟩
  by_cases k1 : kd = 1
  · subst k1
    have HQ1 : Hid (q = true ↔ FHeld t p at_ hd wn) := HQ.out.trans ⟨fun h => by rcases h with h | h | h | h <;> (first | exact h.2 | (exact absurd h.1 (by decide))), fun h => .inr (.inl ⟨rfl, h⟩)⟩
    clear HQ k0
    have hwc : IntKind.i64.wrap ((a.cn : Int) - 1) = (a.cn : Int) - 1 := by rw [IntKind.wrap_i64]; omega
    go_enter Tryz.func25, Tryz.ntmps25
    go_wp2
    revert HB0 HX0 KE
    generalize ((w.alloc (.cells (tbA t a) 42)).alloc (.cells #[.int .i64 cy, .int .i64 1, .int .i64 at_, .int .i64 hd, .slice wa wn wc] 67)) = V
    obtain ⟨N, hN⟩ : ∃ N, w.heap.size + 1 = N := ⟨_, rfl⟩
    rw [hN]
    intro HB0 HX0 KE
    clear hN
    by_cases hr : 0 ≤ at_ ∧ at_ < (a.cn : Int)
    rotate_left
    · have HT : Hid (q = false) := not_true HQ1.out (fun h => hr (by rw [← HLC]; exact h.1.1))
      have k17 : V.cell? ⟨w.heap.size, 17, none⟩ = some (.slice a.ca a.cn a.cc) := HX0.out.cell 17 rfl
      replace k17 := fun X => gr_cell (W0 := V) k17 X
      have HI : Hid (∀ X' : Gr V, Calls Tryz.prog 24 #[.int .i64 at_, .int .i64 0, .int .i64 ((a.cn : Int) - 1)] X'.w fun e w' => e = .returned (.bool false) ∧ Below X'.w.heap.size X'.w w') := fun X' => (in_any _ _ _ X'.w).mono fun e w' ⟨h1, h2⟩ => ⟨by rw [h1, inr_no (x := at_) (lo := 0) (hi := (a.cn : Int) - 1) (fun h => hr ⟨h.1, by omega⟩)], by rw [h2]; exact Below.refl _ _⟩
      clear hr HQ1
      have e0 : V.cell? ⟨N, 0, none⟩ = some (.int .i64 cy) := KE.out 0 _ rfl
      replace e0 := fun X => gr_cell (W0 := V) e0 X
      have e1 : V.cell? ⟨N, 1, none⟩ = some (.int .i64 1) := KE.out 1 _ rfl
      replace e1 := fun X => gr_cell (W0 := V) e1 X
      have e2 : V.cell? ⟨N, 2, none⟩ = some (.int .i64 at_) := KE.out 2 _ rfl
      replace e2 := fun X => gr_cell (W0 := V) e2 X
      have e3 : V.cell? ⟨N, 3, none⟩ = some (.int .i64 hd) := KE.out 3 _ rfl
      replace e3 := fun X => gr_cell (W0 := V) e3 X
      have e4 : V.cell? ⟨N, 4, none⟩ = some (.slice wa wn wc) := KE.out 4 _ rfl
      replace e4 := fun X => gr_cell (W0 := V) e4 X
      have hgr := gr_some V
      refine region_alike (by kernel_rfl) (by kernel_rfl) ?_
      repeat (go_big_quiet_step (first | (go_at_call 24; exact gr_call (HI.out _))))
      refine wpQuiet_nil ?_
      intro _ hw'
      obtain ⟨X1, rfl⟩ := hw'
      have HBE : Hid (Below w.heap.size w X1.w) := HB0.out.trans (X1.h.mono HB0.out.size)
      generalize X1.w = W2 at HBE ⊢
      clear hgr e0 e1 e2 e3 e4
      go_wp2
      go_ret
      exact ⟨ret_bool HT.out.symm, HBE.out⟩
    have hX0 : 0 ≤ at_ := hr.1
    obtain ⟨X, rfl⟩ : ∃ X : Nat, at_ = (X : Int) := ⟨at_.toNat, by omega⟩
    have hX : X < a.cn := by omega
    have hX' : (X : Int) < (a.cn : Int) := by omega
    have HI : Hid (∀ X' : Gr V, Calls Tryz.prog 24 #[.int .i64 (X : Int), .int .i64 0, .int .i64 ((a.cn : Int) - 1)] X'.w fun e w' => e = .returned (.bool true) ∧ Below X'.w.heap.size X'.w w') := fun X' => (in_any _ _ _ X'.w).mono fun e w' ⟨h1, h2⟩ => ⟨by rw [h1, inr_yes (x := (X : Int)) (lo := 0) (hi := (a.cn : Int) - 1) ⟨by omega, by omega⟩], by rw [h2]; exact Below.refl _ _⟩
    have HQ2 : Hid (q = true ↔ ((t.cs.getD X ch0).2.1 = p ∧ (0 ≤ hd ∧ hd ≤ (t.cs.getD X ch0).2.2.2) ∧ (wn : Int) = 0)) := HQ1.out.trans ⟨fun h => ⟨h.1.2, h.2⟩, fun h => ⟨⟨by rw [HLC]; exact hr, h.1⟩, h.2⟩⟩
    clear HQ1 hr
    have k17 : V.cell? ⟨w.heap.size, 17, none⟩ = some (.slice a.ca a.cn a.cc) := HX0.out.cell 17 rfl
    obtain ⟨b1, o1, hsa, hbl1, p1⟩ := (HMM.out _ HB0.out).c.seg.at X hX
    rw [hsa] at k17
    simp only [chX] at p1
    generalize t.cs.getD X ch0 = y at p1 HQ2
    obtain ⟨c0, c1, c2, c3⟩ := ch_cells p1
    obtain ⟨x1, x2, x3, x4⟩ := y
    simp only at c0 c1 c2 c3 HQ2
    replace k17 := fun X => gr_cell (W0 := V) k17 X
    replace c0 := fun X => gr_cell (W0 := V) c0 X
    replace c1 := fun X => gr_cell (W0 := V) c1 X
    replace c2 := fun X => gr_cell (W0 := V) c2 X
    replace c3 := fun X => gr_cell (W0 := V) c3 X
    clear p1 hbl1 hsa
    by_cases e2' : x2 = p
    rotate_left
    · have HT : Hid (q = false) := not_true HQ2.out (fun h => e2' h.1)
      have he2 : (x2 == p) = false := eqb_no e2'
      clear HQ2 e2'
      have e0 : V.cell? ⟨N, 0, none⟩ = some (.int .i64 cy) := KE.out 0 _ rfl
      replace e0 := fun X => gr_cell (W0 := V) e0 X
      have e1 : V.cell? ⟨N, 1, none⟩ = some (.int .i64 1) := KE.out 1 _ rfl
      replace e1 := fun X => gr_cell (W0 := V) e1 X
      have e2 : V.cell? ⟨N, 2, none⟩ = some (.int .i64 (X : Int)) := KE.out 2 _ rfl
      replace e2 := fun X => gr_cell (W0 := V) e2 X
      have e3 : V.cell? ⟨N, 3, none⟩ = some (.int .i64 hd) := KE.out 3 _ rfl
      replace e3 := fun X => gr_cell (W0 := V) e3 X
      have e4 : V.cell? ⟨N, 4, none⟩ = some (.slice wa wn wc) := KE.out 4 _ rfl
      replace e4 := fun X => gr_cell (W0 := V) e4 X
      have hgr := gr_some V
      refine region_alike (by kernel_rfl) (by kernel_rfl) ?_
      repeat (go_big_quiet_step (first | (go_at_call 24; exact gr_call (HI.out _))))
      refine wpQuiet_nil ?_
      intro _ hw'
      obtain ⟨X1, rfl⟩ := hw'
      have HBE : Hid (Below w.heap.size w X1.w) := HB0.out.trans (X1.h.mono HB0.out.size)
      generalize X1.w = W2 at HBE ⊢
      clear hgr e0 e1 e2 e3 e4
      go_wp2
      go_ret
      exact ⟨ret_bool HT.out.symm, HBE.out⟩
    have he2 : (x2 == p) = true := eqb_yes e2'
    by_cases e3' : 0 ≤ hd ∧ hd ≤ x4
    rotate_left
    · have HT : Hid (q = false) := not_true HQ2.out (fun h => e3' h.2.1)
      have HI2 : Hid (∀ X' : Gr V, Calls Tryz.prog 24 #[.int .i64 hd, .int .i64 0, .int .i64 x4] X'.w fun e w' => e = .returned (.bool false) ∧ Below X'.w.heap.size X'.w w') := fun X' => (in_any _ _ _ X'.w).mono fun e w' ⟨h1, h2⟩ => ⟨by rw [h1, inr_no e3'], by rw [h2]; exact Below.refl _ _⟩
      clear HQ2 e2' e3'
      have e0 : V.cell? ⟨N, 0, none⟩ = some (.int .i64 cy) := KE.out 0 _ rfl
      replace e0 := fun X => gr_cell (W0 := V) e0 X
      have e1 : V.cell? ⟨N, 1, none⟩ = some (.int .i64 1) := KE.out 1 _ rfl
      replace e1 := fun X => gr_cell (W0 := V) e1 X
      have e2 : V.cell? ⟨N, 2, none⟩ = some (.int .i64 (X : Int)) := KE.out 2 _ rfl
      replace e2 := fun X => gr_cell (W0 := V) e2 X
      have e3 : V.cell? ⟨N, 3, none⟩ = some (.int .i64 hd) := KE.out 3 _ rfl
      replace e3 := fun X => gr_cell (W0 := V) e3 X
      have e4 : V.cell? ⟨N, 4, none⟩ = some (.slice wa wn wc) := KE.out 4 _ rfl
      replace e4 := fun X => gr_cell (W0 := V) e4 X
      have hgr := gr_some V
      refine region_alike (by kernel_rfl) (by kernel_rfl) ?_
      repeat (go_big_quiet_step (first | (go_at_call_of 24 (Value.int IntKind.i64 (X : Int)); exact gr_call (HI.out _)) | (go_at_call_of 24 (Value.int IntKind.i64 hd); exact gr_call (HI2.out _))))
      refine wpQuiet_nil ?_
      intro _ hw'
      obtain ⟨X1, rfl⟩ := hw'
      have HBE : Hid (Below w.heap.size w X1.w) := HB0.out.trans (X1.h.mono HB0.out.size)
      generalize X1.w = W2 at HBE ⊢
      clear hgr e0 e1 e2 e3 e4
      go_wp2
      go_ret
      exact ⟨ret_bool HT.out.symm, HBE.out⟩
    have HI2 : Hid (∀ X' : Gr V, Calls Tryz.prog 24 #[.int .i64 hd, .int .i64 0, .int .i64 x4] X'.w fun e w' => e = .returned (.bool true) ∧ Below X'.w.heap.size X'.w w') := fun X' => (in_any _ _ _ X'.w).mono fun e w' ⟨h1, h2⟩ => ⟨by rw [h1, inr_yes e3'], by rw [h2]; exact Below.refl _ _⟩
    have HT : Hid (((wn : Int) == 0) = q) := bool_is HQ2.out (by rw [beq_iff_eq]; exact ⟨fun h => ⟨e2', e3', h⟩, fun h => h.2.2⟩)
    clear HQ2 e2' e3'
    have e0 : V.cell? ⟨N, 0, none⟩ = some (.int .i64 cy) := KE.out 0 _ rfl
    replace e0 := fun X => gr_cell (W0 := V) e0 X
    have e1 : V.cell? ⟨N, 1, none⟩ = some (.int .i64 1) := KE.out 1 _ rfl
    replace e1 := fun X => gr_cell (W0 := V) e1 X
    have e2 : V.cell? ⟨N, 2, none⟩ = some (.int .i64 (X : Int)) := KE.out 2 _ rfl
    replace e2 := fun X => gr_cell (W0 := V) e2 X
    have e3 : V.cell? ⟨N, 3, none⟩ = some (.int .i64 hd) := KE.out 3 _ rfl
    replace e3 := fun X => gr_cell (W0 := V) e3 X
    have e4 : V.cell? ⟨N, 4, none⟩ = some (.slice wa wn wc) := KE.out 4 _ rfl
    replace e4 := fun X => gr_cell (W0 := V) e4 X
    have hgr := gr_some V
    refine region_alike (by kernel_rfl) (by kernel_rfl) ?_
    repeat (go_big_quiet_step (first | (go_at_call_of 24 (Value.int IntKind.i64 (X : Int)); exact gr_call (HI.out _)) | (go_at_call_of 24 (Value.int IntKind.i64 hd); exact gr_call (HI2.out _))))
    refine wpQuiet_nil ?_
    intro _ hw'
    obtain ⟨X1, rfl⟩ := hw'
    have HBE : Hid (Below w.heap.size w X1.w) := HB0.out.trans (X1.h.mono HB0.out.size)
    generalize X1.w = W2 at HBE ⊢
    clear hgr e0 e1 e2 e3 e4
    go_wp2
    go_ret
    exact ⟨ret_bool HT.out, HBE.out⟩
  have hk0 : (kd == 0) = false := eqb_no k0
  have hk1 : (kd == 1) = false := eqb_no k1
  by_cases k2 : kd = 2
  · subst k2
    have HQ1 : Hid (q = true ↔ FDev t p at_ hd wn) := HQ.out.trans ⟨fun h => by rcases h with h | h | h | h <;> (first | exact h.2 | (exact absurd h.1 (by decide))), fun h => .inr (.inr (.inl ⟨rfl, h⟩))⟩
    clear HQ k0 k1 hk0 hk1
    have hwd : IntKind.i64.wrap ((a.dn : Int) - 1) = (a.dn : Int) - 1 := by rw [IntKind.wrap_i64]; omega
    have k16 : (((w.alloc (.cells (tbA t a) 42)).alloc (.cells #[.int .i64 cy, .int .i64 2, .int .i64 at_, .int .i64 hd, .slice wa wn wc] 67))).cell? ⟨w.heap.size, 16, none⟩ = some (.slice a.da a.dn a.dc) := HX0.out.cell 16 rfl
    go_enter Tryz.func25, Tryz.ntmps25
    go_wp2_with fail
    refine Calls.mono (in_any at_ 0 ((a.dn : Int) - 1) _) ?_
    rintro e w1 ⟨rfl, hw1⟩
    rw [hw1]
    clear hw1 k16
    revert HB0 HX0 KE
    generalize ((w.alloc (.cells (tbA t a) 42)).alloc (.cells #[.int .i64 cy, .int .i64 2, .int .i64 at_, .int .i64 hd, .slice wa wn wc] 67)) = V
    obtain ⟨N, hN⟩ : ∃ N, w.heap.size + 1 = N := ⟨_, rfl⟩
    rw [hN]
    intro HB0 HX0 KE
    clear hN
    have k16 : V.cell? ⟨w.heap.size, 16, none⟩ = some (.slice a.da a.dn a.dc) := HX0.out.cell 16 rfl
    by_cases hr : 0 ≤ at_ ∧ at_ < (a.dn : Int)
    rotate_left
    · have HT : Hid (q = false) := not_true HQ1.out (fun h => hr (by rw [← HLD]; exact h.1.1))
      rw [inr_no (x := at_) (lo := 0) (hi := (a.dn : Int) - 1) (fun h => hr ⟨h.1, by omega⟩)]
      clear hr HQ1
      go_wp2
      go_ret
      exact ⟨ret_bool HT.out.symm, HB0.out⟩
    rw [inr_yes (x := at_) (lo := 0) (hi := (a.dn : Int) - 1) ⟨hr.1, by omega⟩]
    have hX0 : 0 ≤ at_ := hr.1
    obtain ⟨X, rfl⟩ : ∃ X : Nat, at_ = (X : Int) := ⟨at_.toNat, by omega⟩
    have hX : X < a.dn := by omega
    have hX' : (X : Int) < (a.dn : Int) := by omega
    have HQ2 : Hid (q = true ↔ (t.ds.getD X 0 = p ∧ hd = 0 ∧ (wn : Int) = 1)) := HQ1.out.trans ⟨fun h => ⟨h.1.2, h.2⟩, fun h => ⟨⟨by rw [HLD]; exact hr, h.1⟩, h.2⟩⟩
    clear HQ1 hr
    obtain ⟨b1, o1, hsa, hbl1, p1⟩ := (HMM.out _ HB0.out).d.seg.at X hX
    rw [hsa] at k16
    rw [Nat.mul_one] at p1
    simp only [inX] at p1
    have c0 := in_cell p1
    generalize t.ds.getD X 0 = x1 at c0 HQ2
    have e2 : V.cell? ⟨N, 2, none⟩ = some (.int .i64 (X : Int)) := KE.out 2 _ rfl
    have e3 : V.cell? ⟨N, 3, none⟩ = some (.int .i64 hd) := KE.out 3 _ rfl
    have e4 : V.cell? ⟨N, 4, none⟩ = some (.slice wa wn wc) := KE.out 4 _ rfl
    clear p1 hbl1 hsa
    by_cases e2' : x1 = p
    rotate_left
    · have HT : Hid (q = false) := not_true HQ2.out (fun h => e2' h.1)
      have he2 : (x1 == p) = false := eqb_no e2'
      clear HQ2 e2'
      go_wp2
      go_ret
      exact ⟨ret_bool HT.out.symm, HB0.out⟩
    have he2 : (x1 == p) = true := eqb_yes e2'
    by_cases e3' : hd = 0
    rotate_left
    · have HT : Hid (q = false) := not_true HQ2.out (fun h => e3' h.2.1)
      have he3 : (hd == 0) = false := eqb_no e3'
      clear HQ2 e2' e3'
      go_wp2
      go_ret
      exact ⟨ret_bool HT.out.symm, HB0.out⟩
    have he3 : (hd == 0) = true := eqb_yes e3'
    have HT : Hid (((wn : Int) == 1) = q) := bool_is HQ2.out (by rw [beq_iff_eq]; exact ⟨fun h => ⟨e2', e3', h⟩, fun h => h.2.2⟩)
    clear HQ2 e2' e3'
    go_wp2
    go_ret
    exact ⟨ret_bool HT.out, HB0.out⟩
  have hk2 : (kd == 2) = false := eqb_no k2
  by_cases k3 : kd = 3
  · subst k3
    have HQ1 : Hid (q = true ↔ FRest at_ hd wn) := HQ.out.trans ⟨fun h => by rcases h with h | h | h | h <;> (first | exact h.2 | (exact absurd h.1 (by decide))), fun h => .inr (.inr (.inr ⟨rfl, h⟩))⟩
    clear HQ k0 k1 k2 hk0 hk1 hk2 KE HX0
    by_cases h : at_ = 0
    rotate_left
    · have HT : Hid (q = false) := not_true HQ1.out (fun g => h g.1)
      have he : (at_ == 0) = false := eqb_no h
      clear h HQ1
      go_enter Tryz.func25, Tryz.ntmps25
      go_wp2
      go_ret
      exact ⟨ret_bool HT.out.symm, HB0.out⟩
    have he : (at_ == 0) = true := eqb_yes h
    by_cases h2 : hd = 0
    rotate_left
    · have HT : Hid (q = false) := not_true HQ1.out (fun g => h2 g.2.1)
      have he2 : (hd == 0) = false := eqb_no h2
      clear h h2 HQ1
      go_enter Tryz.func25, Tryz.ntmps25
      go_wp2
      go_ret
      exact ⟨ret_bool HT.out.symm, HB0.out⟩
    have he2 : (hd == 0) = true := eqb_yes h2
    have HT : Hid (((wn : Int) == 0) = q) := bool_is HQ1.out (by simp [FRest, h, h2])
    clear h h2 HQ1
    go_enter Tryz.func25, Tryz.ntmps25
    go_wp2
    go_ret
    exact ⟨ret_bool HT.out, HB0.out⟩
  have hk3 : (kd == 3) = false := eqb_no k3
  have HT : Hid (q = false) := not_true HQ.out (fun h => by rcases h with h | h | h | h; exact k0 h.1; exact k1 h.1; exact k2 h.1; exact k3 h.1)
  clear HQ k0 k1 k2 k3 KE HX0
  go_enter Tryz.func25, Tryz.ntmps25
  go_wp2
  go_ret
  exact ⟨ret_bool HT.out.symm, HB0.out⟩
end Go.Proofs.YtiheojmknhgjfaaGreatDoor
