
/-
  Ends of channels and states of devices, right or not: both sides. Conditions: the channel is right; lengths are at most 1048576.
-/
import Derived.Test.YtknipnenipdgiaaGreatDoorBas
import Derived.Test.YtknipnenipdgiaaGreatDoorRul
import Derived.Test.YtknipnenipdgiaaGreatDoorCrs
import Derived.Test.YtknipnenipdgiaaGreatDoorGen
import Derived.BigQuiet
import Derived.Deep.QuietTactic
import Derived.Deep.RegionHeld3
namespace Go.Proofs.YtknipnenipdgiaaGreatDoor
open Go.ChangeShapes Go.WideShapes Go.ChangeAt Go.RowKit Go.Deep Go.Joins
set_option linter.unusedVariables false

theorem eqb_yes {a b : Int} (h : a = b) : (a == b) = true := by simpa using h
theorem eqb_no {a b : Int} (h : ¬ a = b) : (a == b) = false := by simpa using h
theorem neb_yes {a b : Int} (h : ¬ a = b) : (a != b) = true := by simpa using h
theorem neb_no {a b : Int} (h : a = b) : (a != b) = false := by simp [h]
/-- An end that sends, right: of a channel that is right. -/
def OOk (k d h : Int) (n : Nat) : Prop := (0 ≤ h ∧ h ≤ d) ∧ h + (n : Int) ≤ mostF k d
def IOk (k d : Int) (n : Nat) : Prop := (n : Int) ≤ mostF k d
set_option maxRecDepth 40000 in
set_option maxHeartbeats 8000000 in
theorem send_side (k f t d h : Int) (a : Option Addr) (n c : Nat) (w : World) : Calls Tryz.prog 211 #[crw k f t d, .agg #[.int .i64 h, .slice a n c]] w fun e w' => e = .returned (.agg #[.int .i64 k, .int .i64 f, .int .i64 t, .int .i64 d, .int .i64 h, .slice a n c]) ∧ Below w.heap.size w w' := by
  go_enter Tryz.func211, Tryz.ntmps211
  go_wp2
  exact bodyPost_ret (v := .agg #[.int .i64 k, .int .i64 f, .int .i64 t, .int .i64 d, .int .i64 h, .slice a n c]) (by simp [results, Tryz.results211, go_sem]) rfl ⟨rfl, (((Below.refl _ _).alloc (Nat.le_refl _) _).alloc (by simp) _).alloc (by simp; omega) _⟩
set_option maxRecDepth 40000 in
set_option maxHeartbeats 8000000 in
theorem is_right (k f t d : Int) (q : Bool) (w : World) (HQ : Hid (chOk k f t d = q)) : Calls Tryz.prog 252 #[crw k f t d] w fun e w' => e = .returned (.bool q) ∧ Below w.heap.size w w' := by
  have HB0 : Hid (Below w.heap.size w (w.alloc (.cells #[.int .i64 k, .int .i64 f, .int .i64 t, .int .i64 d] 258))) := (Below.refl _ _).alloc (Nat.le_refl _) _
  go_enter Tryz.func252, Tryz.ntmps252
  go_wp2_with fail
  refine Calls.mono (impl_chok k f t d q _ HQ) ?_
  rintro e w1 ⟨rfl, hb⟩
  have HB1 : Hid (Below w.heap.size w w1) := HB0.out.trans (hb.mono HB0.out.size)
  clear hb HB0
  go_wp2
  go_ret
  exact ⟨rfl, HB1.out⟩
set_option maxRecDepth 40000 in
set_option maxHeartbeats 8000000 in
theorem side_sound (k f t d h : Int) (a : Option Addr) (n c : Nat) (q : Bool) (w : World) (hc : chOk k f t d = true) (hn : n ≤ 1048576) (hq : q = true ↔ OOk k d h n) : Calls Tryz.prog 212 #[.agg #[.int .i64 k, .int .i64 f, .int .i64 t, .int .i64 d, .int .i64 h, .slice a n c]] w fun e w' => e = .returned (.bool q) ∧ Below w.heap.size w w' := by
  have hk := chOk_k hc
  have hbA : Below w.heap.size w (w.alloc (.cells #[.int .i64 k, .int .i64 f, .int .i64 t, .int .i64 d, .int .i64 h, .slice a n c] 260)) := (Below.refl _ _).alloc (Nat.le_refl _) _
  have HB0 : Hid (Below w.heap.size w (w.alloc (.cells #[.int .i64 k, .int .i64 f, .int .i64 t, .int .i64 d, .int .i64 h, .slice a n c] 260))) := hbA
  have KE : Hid (CellsAt (w.alloc (.cells #[.int .i64 k, .int .i64 f, .int .i64 t, .int .i64 d, .int .i64 h, .slice a n c] 260)) w.heap.size 0 [.int .i64 k, .int .i64 f, .int .i64 t, .int .i64 d, .int .i64 h, .slice a n c]) := CellsAt.new w [.int .i64 k, .int .i64 f, .int .i64 t, .int .i64 d, .int .i64 h, .slice a n c] _ _ rfl
  obtain ⟨m, HM⟩ : ∃ m, Hid (mostF k d = m) := ⟨_, rfl⟩
  have HIR : Hid (∀ X, Calls Tryz.prog 252 #[crw k f t d] X fun e w' => e = .returned (.bool true) ∧ Below X.heap.size X w') := fun X => is_right k f t d true X hc
  have HMO : Hid (∀ X, Calls Tryz.prog 253 #[crw k f t d] X fun e w' => e = .returned (.int .i64 m) ∧ Below X.heap.size X w') := fun X => impl_most k f t d m X HM
  have HQ : Hid (q = true ↔ ((0 ≤ h ∧ h ≤ d) ∧ h + (n : Int) ≤ m)) := by rw [← HM.out]; exact hq
  have hd8 : d ≤ 8 := by omega
  clear hc hq hbA hk HM
  go_enter Tryz.func212, Tryz.ntmps212
  go_wp2
  revert HB0 KE
  generalize w.alloc (.cells #[.int .i64 k, .int .i64 f, .int .i64 t, .int .i64 d, .int .i64 h, .slice a n c] 260) = V
  intro HB0 KE
  have HIG : Hid (∀ X : Gr V, Calls Tryz.prog 252 #[crw k f t d] X.w fun e w' => e = .returned (.bool true) ∧ Below X.w.heap.size X.w w') := fun X => HIR.out X.w
  have HMG : Hid (∀ X : Gr V, Calls Tryz.prog 253 #[crw k f t d] X.w fun e w' => e = .returned (.int .i64 m) ∧ Below X.w.heap.size X.w w') := fun X => HMO.out X.w
  have e0 : V.cell? ⟨w.heap.size, 0, none⟩ = some (.int .i64 k) := KE.out 0 _ rfl
  have e1 : V.cell? ⟨w.heap.size, 1, none⟩ = some (.int .i64 f) := KE.out 1 _ rfl
  have e2 : V.cell? ⟨w.heap.size, 2, none⟩ = some (.int .i64 t) := KE.out 2 _ rfl
  have e3 : V.cell? ⟨w.heap.size, 3, none⟩ = some (.int .i64 d) := KE.out 3 _ rfl
  have e4 : V.cell? ⟨w.heap.size, 4, none⟩ = some (.int .i64 h) := KE.out 4 _ rfl
  have e5 : V.cell? ⟨w.heap.size, 5, none⟩ = some (.slice a n c) := KE.out 5 _ rfl
  replace e0 := fun X => gr_cell (W0 := V) e0 X
  replace e1 := fun X => gr_cell (W0 := V) e1 X
  replace e2 := fun X => gr_cell (W0 := V) e2 X
  replace e3 := fun X => gr_cell (W0 := V) e3 X
  replace e4 := fun X => gr_cell (W0 := V) e4 X
  replace e5 := fun X => gr_cell (W0 := V) e5 X
  have hgr := gr_some V
  clear KE HIR HMO
  by_cases h1 : 0 ≤ h
  rotate_left
  · have HT : Hid (q = false) := not_true HQ.out (fun g => h1 g.1.1)
    have hd1 : decide (0 ≤ h) = false := decide_eq_false h1
    refine region_alike (by kernel_rfl) (by kernel_rfl) ?_
    repeat (first | (go_big_quiet_step (first | (go_at_call 252; exact gr_call (HIG.out _)) | (go_at_call 253; exact gr_call (HMG.out _)))) | (rw [hd1]) | (simp only [hd1]))
    refine wpQuiet_nil ?_
    intro _ hw'
    obtain ⟨X1, rfl⟩ := hw'
    have HBE : Hid (Below w.heap.size w X1.w) := HB0.out.trans (X1.h.mono HB0.out.size)
    generalize X1.w = W2 at HBE ⊢
    clear hgr HIG HMG e0 e1 e2 e3 e4 e5
    go_wp2
    go_ret
    exact ⟨ret_bool HT.out.symm, HBE.out⟩
  by_cases h2 : h ≤ d
  rotate_left
  · have HT : Hid (q = false) := not_true HQ.out (fun g => h2 g.1.2)
    have hd1 : decide (h ≤ d) = false := decide_eq_false h2
    refine region_alike (by kernel_rfl) (by kernel_rfl) ?_
    repeat (first | (go_big_quiet_step (first | (go_at_call 252; exact gr_call (HIG.out _)) | (go_at_call 253; exact gr_call (HMG.out _)))) | (rw [hd1]) | (simp only [hd1]))
    refine wpQuiet_nil ?_
    intro _ hw'
    obtain ⟨X1, rfl⟩ := hw'
    have HBE : Hid (Below w.heap.size w X1.w) := HB0.out.trans (X1.h.mono HB0.out.size)
    generalize X1.w = W2 at HBE ⊢
    clear hgr HIG HMG e0 e1 e2 e3 e4 e5
    go_wp2
    go_ret
    exact ⟨ret_bool HT.out.symm, HBE.out⟩
  have hwr : IntKind.i64.wrap (h + (n : Int)) = h + (n : Int) := by rw [IntKind.wrap_i64]; omega
  have HT : Hid (decide (h + (n : Int) ≤ m) = q) := bool_is HQ.out ⟨fun g => ⟨⟨h1, h2⟩, of_decide_eq_true g⟩, fun g => decide_eq_true g.2⟩
  obtain ⟨r, hd1⟩ : ∃ r, decide (h + (n : Int) ≤ m) = r := ⟨_, rfl⟩
  rw [hd1] at HT
  refine region_alike (by kernel_rfl) (by kernel_rfl) ?_
  repeat (first | (go_big_quiet_step (first | (go_at_call 252; exact gr_call (HIG.out _)) | (go_at_call 253; exact gr_call (HMG.out _)))) | (rw [hd1]) | (simp only [hd1]))
  refine wpQuiet_nil ?_
  intro _ hw'
  obtain ⟨X1, rfl⟩ := hw'
  have HBE : Hid (Below w.heap.size w X1.w) := HB0.out.trans (X1.h.mono HB0.out.size)
  generalize X1.w = W2 at HBE ⊢
  clear hgr HIG HMG e0 e1 e2 e3 e4 e5
  go_wp2
  go_ret
  exact ⟨ret_bool HT.out, HBE.out⟩
set_option maxRecDepth 40000 in
set_option maxHeartbeats 8000000 in
theorem out_ok (k f t d h : Int) (a : Option Addr) (n c : Nat) (q : Bool) (w : World) (hc : chOk k f t d = true) (hn : n ≤ 1048576) (hq : q = true ↔ OOk k d h n) : Calls Tryz.prog 147 #[crw k f t d, .agg #[.int .i64 h, .slice a n c]] w fun e w' => e = .returned (.bool q) ∧ Below w.heap.size w w' := by
  have HB0 : Hid (Below w.heap.size w ((w.alloc (.cells #[.int .i64 k, .int .i64 f, .int .i64 t, .int .i64 d] 198)).alloc (.cells #[.int .i64 h, .slice a n c] 200))) := ((Below.refl _ _).alloc (Nat.le_refl _) _).alloc (by simp) _
  have HS : Hid (∀ X, Calls Tryz.prog 212 #[.agg #[.int .i64 k, .int .i64 f, .int .i64 t, .int .i64 d, .int .i64 h, .slice a n c]] X fun e w' => e = .returned (.bool q) ∧ Below X.heap.size X w') := fun X => side_sound k f t d h a n c q X hc hn hq
  clear hc hq
  go_enter Tryz.func147, Tryz.ntmps147
  go_wp2_with fail
  refine Calls.mono (send_side k f t d h a n c _) ?_
  rintro e w1 ⟨rfl, hb⟩
  have HB1 : Hid (Below w.heap.size w w1) := HB0.out.trans (hb.mono HB0.out.size)
  clear hb HB0
  go_wp2_with fail
  refine Calls.mono (HS.out _) ?_
  rintro e w2 ⟨rfl, hb⟩
  have HB2 : Hid (Below w.heap.size w w2) := HB1.out.trans (hb.mono HB1.out.size)
  clear hb HB1
  go_wp2
  go_ret
  exact ⟨rfl, HB2.out⟩
set_option maxRecDepth 40000 in
set_option maxHeartbeats 8000000 in
theorem read_side (k f t d : Int) (a : Option Addr) (n c : Nat) (w : World) : Calls Tryz.prog 213 #[crw k f t d, .agg #[.slice a n c]] w fun e w' => e = .returned (.agg #[.int .i64 k, .int .i64 f, .int .i64 t, .int .i64 d, .slice a n c]) ∧ Below w.heap.size w w' := by
  go_enter Tryz.func213, Tryz.ntmps213
  go_wp2
  exact bodyPost_ret (v := .agg #[.int .i64 k, .int .i64 f, .int .i64 t, .int .i64 d, .slice a n c]) (by simp [results, Tryz.results213, go_sem]) rfl ⟨rfl, (((Below.refl _ _).alloc (Nat.le_refl _) _).alloc (by simp) _).alloc (by simp; omega) _⟩
set_option maxRecDepth 40000 in
set_option maxHeartbeats 8000000 in
theorem rside_sound (k f t d : Int) (a : Option Addr) (n c : Nat) (q : Bool) (w : World) (hc : chOk k f t d = true) (hn : n ≤ 1048576) (hq : q = true ↔ IOk k d n) : Calls Tryz.prog 214 #[.agg #[.int .i64 k, .int .i64 f, .int .i64 t, .int .i64 d, .slice a n c]] w fun e w' => e = .returned (.bool q) ∧ Below w.heap.size w w' := by
  have HB0 : Hid (Below w.heap.size w (w.alloc (.cells #[.int .i64 k, .int .i64 f, .int .i64 t, .int .i64 d, .slice a n c] 263))) := (Below.refl _ _).alloc (Nat.le_refl _) _
  have KE : Hid (CellsAt (w.alloc (.cells #[.int .i64 k, .int .i64 f, .int .i64 t, .int .i64 d, .slice a n c] 263)) w.heap.size 0 [.int .i64 k, .int .i64 f, .int .i64 t, .int .i64 d, .slice a n c]) := CellsAt.new w [.int .i64 k, .int .i64 f, .int .i64 t, .int .i64 d, .slice a n c] _ _ rfl
  obtain ⟨m, HM⟩ : ∃ m, Hid (mostF k d = m) := ⟨_, rfl⟩
  have HT : Hid (decide ((n : Int) ≤ m) = q) := bool_is hq (by unfold IOk; rw [HM.out]; exact ⟨of_decide_eq_true, decide_eq_true⟩)
  obtain ⟨r, hd1⟩ : ∃ r, decide ((n : Int) ≤ m) = r := ⟨_, rfl⟩
  rw [hd1] at HT
  have HIR : Hid (∀ X, Calls Tryz.prog 252 #[crw k f t d] X fun e w' => e = .returned (.bool true) ∧ Below X.heap.size X w') := fun X => is_right k f t d true X hc
  have HMO : Hid (∀ X, Calls Tryz.prog 253 #[crw k f t d] X fun e w' => e = .returned (.int .i64 m) ∧ Below X.heap.size X w') := fun X => impl_most k f t d m X HM
  clear hc hq HM
  go_enter Tryz.func214, Tryz.ntmps214
  go_wp2
  revert HB0 KE
  generalize w.alloc (.cells #[.int .i64 k, .int .i64 f, .int .i64 t, .int .i64 d, .slice a n c] 263) = V
  intro HB0 KE
  have HIG : Hid (∀ X : Gr V, Calls Tryz.prog 252 #[crw k f t d] X.w fun e w' => e = .returned (.bool true) ∧ Below X.w.heap.size X.w w') := fun X => HIR.out X.w
  have HMG : Hid (∀ X : Gr V, Calls Tryz.prog 253 #[crw k f t d] X.w fun e w' => e = .returned (.int .i64 m) ∧ Below X.w.heap.size X.w w') := fun X => HMO.out X.w
  have e0 : V.cell? ⟨w.heap.size, 0, none⟩ = some (.int .i64 k) := KE.out 0 _ rfl
  replace e0 := fun X => gr_cell (W0 := V) e0 X
  have e1 : V.cell? ⟨w.heap.size, 1, none⟩ = some (.int .i64 f) := KE.out 1 _ rfl
  replace e1 := fun X => gr_cell (W0 := V) e1 X
  have e2 : V.cell? ⟨w.heap.size, 2, none⟩ = some (.int .i64 t) := KE.out 2 _ rfl
  replace e2 := fun X => gr_cell (W0 := V) e2 X
  have e3 : V.cell? ⟨w.heap.size, 3, none⟩ = some (.int .i64 d) := KE.out 3 _ rfl
  replace e3 := fun X => gr_cell (W0 := V) e3 X
  have e4 : V.cell? ⟨w.heap.size, 4, none⟩ = some (.slice a n c) := KE.out 4 _ rfl
  replace e4 := fun X => gr_cell (W0 := V) e4 X
  have hgr := gr_some V
  clear KE HIR HMO
  refine region_alike (by kernel_rfl) (by kernel_rfl) ?_
  repeat (first | (go_big_quiet_step (first | (go_at_call 252; exact gr_call (HIG.out _)) | (go_at_call 253; exact gr_call (HMG.out _)))) | (rw [hd1]) | (simp only [hd1]))
  refine wpQuiet_nil ?_
  intro _ hw'
  obtain ⟨X1, rfl⟩ := hw'
  have HBE : Hid (Below w.heap.size w X1.w) := HB0.out.trans (X1.h.mono HB0.out.size)
  generalize X1.w = W2 at HBE ⊢
  clear hgr HIG HMG e0 e1 e2 e3 e4
  go_wp2
  go_ret
  exact ⟨ret_bool HT.out, HBE.out⟩
set_option maxRecDepth 40000 in
set_option maxHeartbeats 8000000 in
theorem in_ok (k f t d : Int) (a : Option Addr) (n c : Nat) (q : Bool) (w : World) (hc : chOk k f t d = true) (hn : n ≤ 1048576) (hq : q = true ↔ IOk k d n) : Calls Tryz.prog 152 #[crw k f t d, .agg #[.slice a n c]] w fun e w' => e = .returned (.bool q) ∧ Below w.heap.size w w' := by
  have HB0 : Hid (Below w.heap.size w ((w.alloc (.cells #[.int .i64 k, .int .i64 f, .int .i64 t, .int .i64 d] 198)).alloc (.cells #[.slice a n c] 202))) := ((Below.refl _ _).alloc (Nat.le_refl _) _).alloc (by simp) _
  have HS : Hid (∀ X, Calls Tryz.prog 214 #[.agg #[.int .i64 k, .int .i64 f, .int .i64 t, .int .i64 d, .slice a n c]] X fun e w' => e = .returned (.bool q) ∧ Below X.heap.size X w') := fun X => rside_sound k f t d a n c q X hc hn hq
  clear hc hq
  go_enter Tryz.func152, Tryz.ntmps152
  go_wp2_with fail
  refine Calls.mono (read_side k f t d a n c _) ?_
  rintro e w1 ⟨rfl, hb⟩
  have HB1 : Hid (Below w.heap.size w w1) := HB0.out.trans (hb.mono HB0.out.size)
  clear hb HB0
  go_wp2_with fail
  refine Calls.mono (HS.out _) ?_
  rintro e w2 ⟨rfl, hb⟩
  have HB2 : Hid (Below w.heap.size w w2) := HB1.out.trans (hb.mono HB1.out.size)
  clear hb HB1
  go_wp2
  go_ret
  exact ⟨rfl, HB2.out⟩
set_option maxRecDepth 40000 in
set_option maxHeartbeats 8000000 in
theorem spec_outok (k f t d h : Int) (a : Option Addr) (n c : Nat) (q : Bool) (w : World) (hc : chOk k f t d = true) (hn : n ≤ 1048576) (hq : q = true ↔ OOk k d h n) : Calls Tryz.prog 125 #[crw k f t d, .agg #[.int .i64 h, .slice a n c]] w fun e w' => e = .returned (.bool q) ∧ Below w.heap.size w w' := by
  have hk := chOk_k hc
  have hb0 : Below w.heap.size w ((w.alloc (.cells #[.int .i64 k, .int .i64 f, .int .i64 t, .int .i64 d] 198)).alloc (.cells #[.int .i64 h, .slice a n c] 200)) := ((Below.refl _ _).alloc (Nat.le_refl _) _).alloc (by simp) _
  have HB0 : Hid (Below w.heap.size w ((w.alloc (.cells #[.int .i64 k, .int .i64 f, .int .i64 t, .int .i64 d] 198)).alloc (.cells #[.int .i64 h, .slice a n c] 200))) := hb0
  have K1 : Hid (CellsAt ((w.alloc (.cells #[.int .i64 k, .int .i64 f, .int .i64 t, .int .i64 d] 198)).alloc (.cells #[.int .i64 h, .slice a n c] 200)) w.heap.size 0 [.int .i64 k, .int .i64 f, .int .i64 t, .int .i64 d]) := (CellsAt.new w [.int .i64 k, .int .i64 f, .int .i64 t, .int .i64 d] _ _ rfl).alloc _
  have K2 : Hid (CellsAt ((w.alloc (.cells #[.int .i64 k, .int .i64 f, .int .i64 t, .int .i64 d] 198)).alloc (.cells #[.int .i64 h, .slice a n c] 200)) (w.heap.size + 1) 0 [.int .i64 h, .slice a n c]) := CellsAt.new _ [.int .i64 h, .slice a n c] _ _ (by simp)
  have HC : Hid (∀ X, Calls Tryz.prog 198 #[crw k f t d] X fun e w' => e = .returned (.bool true) ∧ Below X.heap.size X w') := fun X => spec_chok k f t d true X hc
  have HQ : Hid (q = true ↔ OOk k d h n) := hq
  clear hc hq hb0
  go_enter Tryz.func125, Tryz.ntmps125
  go_wp2_with fail
  refine Calls.mono (HC.out _) ?_
  rintro e w1 ⟨rfl, hb⟩
  have HB1 : Hid (Below w.heap.size w w1) := HB0.out.trans (hb.mono HB0.out.size)
  have K3 : Hid (CellsAt w1 w.heap.size 0 [.int .i64 k, .int .i64 f, .int .i64 t, .int .i64 d]) := K1.out.below hb
  have K4 : Hid (CellsAt w1 (w.heap.size + 1) 0 [.int .i64 h, .slice a n c]) := K2.out.below hb
  clear hb HB0 K1 K2 HC
  have g0 : w1.cell? ⟨w.heap.size, 0, none⟩ = some (.int .i64 k) := K3.out 0 _ rfl
  have g3 : w1.cell? ⟨w.heap.size, 3, none⟩ = some (.int .i64 d) := K3.out 3 _ rfl
  have e0 : w1.cell? ⟨w.heap.size + 1, 0, none⟩ = some (.int .i64 h) := K4.out 0 _ rfl
  have e1 : w1.cell? ⟨w.heap.size + 1, 1, none⟩ = some (.slice a n c) := K4.out 1 _ rfl
  rcases hk with ⟨k0, d0⟩ | ⟨k0, d1, d2⟩
  · subst k0 d0
    by_cases hh : h = 0
    · subst hh
      have HT : Hid (decide ((n : Int) ≤ 1) = q) := bool_is HQ.out (by unfold OOk mostF; simp)
      clear HQ K3 K4
      go_wp2
      go_ret
      exact ⟨ret_bool HT.out, HB1.out⟩
    · have HT : Hid (q = false) := not_true HQ.out (fun g => hh (by have := g.1; omega))
      have he : (h == 0) = false := eqb_no hh
      clear HQ K3 K4 hh
      go_wp2
      go_ret
      exact ⟨ret_bool HT.out.symm, HB1.out⟩
  · subst k0
    have HQ2 : Hid (q = true ↔ ((0 ≤ h ∧ h ≤ d) ∧ h + (n : Int) ≤ d)) := HQ.out.trans (by unfold OOk mostF; simp)
    clear HQ
    go_wp2_with fail
    refine Calls.mono (in_any h 0 d _) ?_
    rintro e w2 ⟨rfl, hw2⟩
    subst hw2
    by_cases hh : 0 ≤ h ∧ h ≤ d
    rotate_left
    · have HT : Hid (q = false) := not_true HQ2.out (fun g => hh g.1)
      rw [inr_no hh]
      clear HQ2 K3 K4 hh
      go_wp2
      go_ret
      exact ⟨ret_bool HT.out.symm, HB1.out⟩
    rw [inr_yes hh]
    have hwr : IntKind.i64.wrap (h + (n : Int)) = h + (n : Int) := by rw [IntKind.wrap_i64]; omega
    have HT : Hid (decide (h + (n : Int) ≤ d) = q) := bool_is HQ2.out ⟨fun g => ⟨hh, of_decide_eq_true g⟩, fun g => decide_eq_true g.2⟩
    clear HQ2 K3 K4 hh
    go_wp2
    go_ret
    exact ⟨ret_bool HT.out, HB1.out⟩
set_option maxRecDepth 40000 in
set_option maxHeartbeats 8000000 in
theorem spec_inok (k f t d : Int) (a : Option Addr) (n c : Nat) (q : Bool) (w : World) (hc : chOk k f t d = true) (hn : n ≤ 1048576) (hq : q = true ↔ IOk k d n) : Calls Tryz.prog 126 #[crw k f t d, .agg #[.slice a n c]] w fun e w' => e = .returned (.bool q) ∧ Below w.heap.size w w' := by
  have hk := chOk_k hc
  have hb0 : Below w.heap.size w ((w.alloc (.cells #[.int .i64 k, .int .i64 f, .int .i64 t, .int .i64 d] 198)).alloc (.cells #[.slice a n c] 202)) := ((Below.refl _ _).alloc (Nat.le_refl _) _).alloc (by simp) _
  have HB0 : Hid (Below w.heap.size w ((w.alloc (.cells #[.int .i64 k, .int .i64 f, .int .i64 t, .int .i64 d] 198)).alloc (.cells #[.slice a n c] 202))) := hb0
  have K1 : Hid (CellsAt ((w.alloc (.cells #[.int .i64 k, .int .i64 f, .int .i64 t, .int .i64 d] 198)).alloc (.cells #[.slice a n c] 202)) w.heap.size 0 [.int .i64 k, .int .i64 f, .int .i64 t, .int .i64 d]) := (CellsAt.new w [.int .i64 k, .int .i64 f, .int .i64 t, .int .i64 d] _ _ rfl).alloc _
  have K2 : Hid (CellsAt ((w.alloc (.cells #[.int .i64 k, .int .i64 f, .int .i64 t, .int .i64 d] 198)).alloc (.cells #[.slice a n c] 202)) (w.heap.size + 1) 0 [.slice a n c]) := CellsAt.new _ [.slice a n c] _ _ (by simp)
  have HC : Hid (∀ X, Calls Tryz.prog 198 #[crw k f t d] X fun e w' => e = .returned (.bool true) ∧ Below X.heap.size X w') := fun X => spec_chok k f t d true X hc
  have HQ : Hid (q = true ↔ IOk k d n) := hq
  clear hc hq hb0
  go_enter Tryz.func126, Tryz.ntmps126
  go_wp2_with fail
  refine Calls.mono (HC.out _) ?_
  rintro e w1 ⟨rfl, hb⟩
  have HB1 : Hid (Below w.heap.size w w1) := HB0.out.trans (hb.mono HB0.out.size)
  have K3 : Hid (CellsAt w1 w.heap.size 0 [.int .i64 k, .int .i64 f, .int .i64 t, .int .i64 d]) := K1.out.below hb
  have K4 : Hid (CellsAt w1 (w.heap.size + 1) 0 [.slice a n c]) := K2.out.below hb
  clear hb HB0 K1 K2 HC
  have g0 : w1.cell? ⟨w.heap.size, 0, none⟩ = some (.int .i64 k) := K3.out 0 _ rfl
  have g3 : w1.cell? ⟨w.heap.size, 3, none⟩ = some (.int .i64 d) := K3.out 3 _ rfl
  have e0 : w1.cell? ⟨w.heap.size + 1, 0, none⟩ = some (.slice a n c) := K4.out 0 _ rfl
  rcases hk with ⟨k0, d0⟩ | ⟨k0, d1, d2⟩
  · subst k0 d0
    have HT : Hid (decide ((n : Int) ≤ 1) = q) := bool_is HQ.out (by unfold IOk mostF; simp)
    clear HQ K3 K4
    go_wp2
    go_ret
    exact ⟨ret_bool HT.out, HB1.out⟩
  · subst k0
    have HT : Hid (decide ((n : Int) ≤ d) = q) := bool_is HQ.out (by unfold IOk mostF; simp)
    clear HQ K3 K4
    go_wp2
    go_ret
    exact ⟨ret_bool HT.out, HB1.out⟩
set_option maxRecDepth 40000 in
set_option maxHeartbeats 8000000 in
theorem spec_devok (a b : Option Addr) (n c m e : Nat) (q : Bool) (w : World) (hq : q = true ↔ (n ≤ 8 ∧ m ≤ 8)) : Calls Tryz.prog 127 #[.agg #[.slice a n c, .slice b m e]] w fun x w' => x = .returned (.bool q) ∧ Below w.heap.size w w' := by
  have HB0 : Hid (Below w.heap.size w (w.alloc (.cells #[.slice a n c, .slice b m e] 163))) := (Below.refl _ _).alloc (Nat.le_refl _) _
  by_cases h1 : n ≤ 8
  · have h1' : (n : Int) ≤ 8 := by omega
    have HT : Hid (decide ((m : Int) ≤ 8) = q) := bool_is hq ⟨fun g => ⟨h1, by have := of_decide_eq_true g; omega⟩, fun g => decide_eq_true (by omega)⟩
    clear hq
    go_enter Tryz.func127, Tryz.ntmps127
    go_wp2
    go_ret
    exact ⟨ret_bool HT.out, HB0.out⟩
  · have h1' : ¬ (n : Int) ≤ 8 := by omega
    have HT : Hid (q = false) := not_true hq (fun g => h1 g.1)
    clear hq
    go_enter Tryz.func127, Tryz.ntmps127
    go_wp2
    go_ret
    exact ⟨ret_bool HT.out.symm, HB0.out⟩
set_option maxRecDepth 40000 in
set_option maxHeartbeats 8000000 in
theorem impl_devok (a b : Option Addr) (n c m e : Nat) (q : Bool) (w : World) (hq : q = true ↔ (n ≤ 8 ∧ m ≤ 8)) : Calls Tryz.prog 156 #[.agg #[.slice a n c, .slice b m e]] w fun x w' => x = .returned (.bool q) ∧ Below w.heap.size w w' := by
  have HB0 : Hid (Below w.heap.size w (w.alloc (.cells #[.slice a n c, .slice b m e] 163))) := (Below.refl _ _).alloc (Nat.le_refl _) _
  by_cases h1 : n ≤ 8
  · have h1' : (n : Int) ≤ 8 := by omega
    have HT : Hid (decide ((m : Int) ≤ 8) = q) := bool_is hq ⟨fun g => ⟨h1, by have := of_decide_eq_true g; omega⟩, fun g => decide_eq_true (by omega)⟩
    clear hq
    go_enter Tryz.func156, Tryz.ntmps156
    go_wp2
    go_ret
    exact ⟨ret_bool HT.out, HB0.out⟩
  · have h1' : ¬ (n : Int) ≤ 8 := by omega
    have HT : Hid (q = false) := not_true hq (fun g => h1 g.1)
    clear hq
    go_enter Tryz.func156, Tryz.ntmps156
    go_wp2
    go_ret
    exact ⟨ret_bool HT.out.symm, HB0.out⟩
end Go.Proofs.YtknipnenipdgiaaGreatDoor
