
/-
  Scripts as texts: the line of a command; what the program's cmdLine returns. Conditions: the lists lie in memory, names are short; DecText answers as it should (handed in).
-/
import Derived.Test.YtmnoghhdkdjnmaaGreatDoorBas
import Derived.Test.YtmnoghhdkdjnmaaGreatDoorPrn
import Derived.Test.YtmnoghhdkdjnmaaGreatDoorCms
import Derived.Test.YtmnoghhdkdjnmaaGreatDoorBnd
namespace Go.Proofs.YtmnoghhdkdjnmaaGreatDoor
open Go.ChangeShapes Go.WideShapes Go.ChangeAt Go.RowKit Go.Deep Go.Joins
set_option linter.unusedVariables false

namespace Sr
abbrev krun : ByteArray := ⟨#[114, 117, 110]⟩
abbrev kinp : ByteArray := ⟨#[105, 110, 112, 117, 116]⟩
abbrev kres : ByteArray := ⟨#[114, 101, 115, 116, 97, 114, 116]⟩
abbrev krunS : ByteArray := ⟨#[114, 117, 110, 32]⟩
abbrev kinpS : ByteArray := ⟨#[105, 110, 112, 117, 116, 32]⟩
abbrev kresS : ByteArray := ⟨#[114, 101, 115, 116, 97, 114, 116, 32]⟩
/-- The line of a command, without its newline. -/
def lineV (t : Tb) (x : cmT) : Option ByteArray :=
  if x.1 = 0 ∧ (0 ≤ x.2.1 ∧ x.2.1 ≤ 50000) ∧ x.2.2 = 0 then some (krunS ++ Pn.dt x.2.1)
  else if x.1 = 1 ∧ (0 ≤ x.2.1 ∧ x.2.1 ≤ 7) then some (kinpS ++ Pn.dt x.2.1 ++ Pn.sp ++ Pn.dt (IntKind.i64.wrap x.2.2))
  else if x.1 = 2 ∧ (0 ≤ x.2.1 ∧ x.2.1 < (t.ps.length : Int)) ∧ x.2.2 = 0 then some (kresS ++ (t.ps.getD x.2.1.toNat pt0).nm)
  else none
theorem wrap_rng (x : Int) : -9223372036854775808 ≤ IntKind.i64.wrap x ∧ IntKind.i64.wrap x ≤ 9223372036854775807 := by
  rw [IntKind.wrap_i64]
  omega
end Sr
theorem is_cycle (x : Int) (q : Bool) (w : World) (hq : decide (0 ≤ x ∧ x ≤ 50000) = q) : Calls Tryz.prog 64 #[.int .i64 x] w fun e w' => e = .returned (.bool q) ∧ w' = w := by
  by_cases h0 : 0 ≤ x
  · by_cases h1 : x ≤ 50000
    · have e1 : decide (x ≤ 50000) = true := decide_eq_true h1
      have e0 : decide (0 ≤ x) = true := decide_eq_true h0
      rw [decide_eq_true ⟨h0, h1⟩] at hq
      subst hq
      go_enter Tryz.func64, Tryz.ntmps64
      go_wp2
      go_ret
      exact ⟨rfl, rfl⟩
    · have e1 : decide (x ≤ 50000) = false := decide_eq_false h1
      have e0 : decide (0 ≤ x) = true := decide_eq_true h0
      rw [decide_eq_false (fun h => h1 h.2)] at hq
      subst hq
      go_enter Tryz.func64, Tryz.ntmps64
      go_wp2
      go_ret
      exact ⟨rfl, rfl⟩
  · have e0 : decide (0 ≤ x) = false := decide_eq_false h0
    rw [decide_eq_false (fun h => h0 h.1)] at hq
    subst hq
    go_enter Tryz.func64, Tryz.ntmps64
    go_wp2
    go_ret
    exact ⟨rfl, rfl⟩
theorem is_dev (x : Int) (q : Bool) (w : World) (hq : decide (0 ≤ x ∧ x < 8) = q) : Calls Tryz.prog 66 #[.int .i64 x] w fun e w' => e = .returned (.bool q) ∧ w' = w := by
  by_cases h0 : 0 ≤ x
  · by_cases h1 : x < 8
    · have e1 : decide (x < 8) = true := decide_eq_true h1
      have e0 : decide (0 ≤ x) = true := decide_eq_true h0
      rw [decide_eq_true ⟨h0, h1⟩] at hq
      subst hq
      go_enter Tryz.func66, Tryz.ntmps66
      go_wp2
      go_ret
      exact ⟨rfl, rfl⟩
    · have e1 : decide (x < 8) = false := decide_eq_false h1
      have e0 : decide (0 ≤ x) = true := decide_eq_true h0
      rw [decide_eq_false (fun h => h1 h.2)] at hq
      subst hq
      go_enter Tryz.func66, Tryz.ntmps66
      go_wp2
      go_ret
      exact ⟨rfl, rfl⟩
  · have e0 : decide (0 ≤ x) = false := decide_eq_false h0
    rw [decide_eq_false (fun h => h0 h.1)] at hq
    subst hq
    go_enter Tryz.func66, Tryz.ntmps66
    go_wp2
    go_ret
    exact ⟨rfl, rfl⟩
theorem tab_has (t : Tb) (a : Ad) (x : Int) (q : Bool) (w : World) (hq : decide (0 ≤ x ∧ x < (a.pn : Int)) = q) : Calls Tryz.prog 67 #[tbV t a, .int .i64 x] w fun e w' => e = .returned (.bool q) ∧ Below w.heap.size w w' := by
  have HBB : Hid (Below w.heap.size w (w.alloc (.cells (tbA t a) 43))) := (Below.refl _ _).alloc (Nat.le_refl _) _
  have HX : Hid (TBx (w.alloc (.cells (tbA t a) 43)) w.heap.size t a) := TBx.new w t a _ rfl
  have k15 : (w.alloc (.cells (tbA t a) 43)).cell? ⟨w.heap.size, 15, none⟩ = some (.slice a.pa a.pn a.pc) := HX.out.cell 15 rfl
  by_cases h0 : 0 ≤ x
  · by_cases h1 : x < (a.pn : Int)
    · have e1 : decide (x < (a.pn : Int)) = true := decide_eq_true h1
      have e0 : decide (0 ≤ x) = true := decide_eq_true h0
      rw [decide_eq_true ⟨h0, h1⟩] at hq
      subst hq
      go_enter Tryz.func67, Tryz.ntmps67
      go_wp2
      go_ret
      exact ⟨rfl, HBB.out⟩
    · have e1 : decide (x < (a.pn : Int)) = false := decide_eq_false h1
      have e0 : decide (0 ≤ x) = true := decide_eq_true h0
      rw [decide_eq_false (fun h => h1 h.2)] at hq
      subst hq
      go_enter Tryz.func67, Tryz.ntmps67
      go_wp2
      go_ret
      exact ⟨rfl, HBB.out⟩
  · have e0 : decide (0 ≤ x) = false := decide_eq_false h0
    rw [decide_eq_false (fun h => h0 h.1)] at hq
    subst hq
    go_enter Tryz.func67, Tryz.ntmps67
    go_wp2
    go_ret
    exact ⟨rfl, HBB.out⟩
def plC (x : cmT) : cmT := if x.1 = 1 then x else (x.1, x.2.1, 0)
set_option maxHeartbeats 2000000 in
theorem cm_plain (x1 x2 x3 : Int) (w : World) : Calls Tryz.prog 63 #[.agg #[.int .i64 x1, .int .i64 x2, .int .u32 x3]] w fun e w' => e = .returned (cmV (plC (x1, x2, x3))) ∧ Below w.heap.size w w' := by
  by_cases h : x1 = 1
  · have hb : (x1 != 1) = false := by simp [h]
    have hp : plC (x1, x2, x3) = (x1, x2, x3) := by unfold plC; rw [if_pos h]
    rw [hp]
    clear h hp
    go_enter Tryz.func63, Tryz.ntmps63
    go_wp2
    exact bodyPost_ret (v := .agg #[.int .i64 x1, .int .i64 x2, .int .u32 x3]) (by simp [results, Tryz.results63, go_sem]) rfl ⟨rfl, by first | exact ((Below.refl _ _).alloc (Nat.le_refl _) _).alloc (by simp) _ | trace_state⟩
  · have hb : (x1 != 1) = true := by simpa using h
    have hp : plC (x1, x2, x3) = (x1, x2, 0) := by unfold plC; rw [if_neg h]
    rw [hp]
    clear h hp
    go_enter Tryz.func63, Tryz.ntmps63
    go_wp2
    exact bodyPost_ret (v := .agg #[.int .i64 x1, .int .i64 x2, .int .u32 0]) (by simp [results, Tryz.results63, go_sem]) rfl ⟨rfl, by first | exact ((Below.refl _ _).alloc (Nat.le_refl _) _).alloc (by simp) _ | trace_state⟩
set_option maxRecDepth 40000 in
set_option maxHeartbeats 8000000 in
theorem cl_word (t : Tb) (a : Ad) (x1 x2 x3 : Int) (w : World) (h1 : ¬ x1 = 1) (h3 : ¬ x3 = 0) :
    Calls Tryz.prog 33 #[tbV t a, .agg #[.int .i64 x1, .int .i64 x2, .int .u32 x3]] w fun e w' => e = .returned (.tuple #[.string ⟨#[]⟩, .bool false]) ∧ Below w.heap.size w w' := by
  have HBB : Hid (Below w.heap.size w ((w.alloc (.cells (tbA t a) 43)).alloc (.cells #[.int .i64 x1, .int .i64 x2, .int .u32 x3] 62))) := ((Below.refl _ _).alloc (Nat.le_refl _) _).alloc (by simp) _
  have HX : Hid (TBx ((w.alloc (.cells (tbA t a) 43)).alloc (.cells #[.int .i64 x1, .int .i64 x2, .int .u32 x3] 62)) w.heap.size t a) := (TBx.new w t a _ rfl).below ((Below.refl _ _).alloc (Nat.le_refl _) _)
  have HR : Hid (CellsAt ((w.alloc (.cells (tbA t a) 43)).alloc (.cells #[.int .i64 x1, .int .i64 x2, .int .u32 x3] 62)) (w.heap.size + 1) 0 (cmL (x1, x2, x3))) := CellsAt.new (w.alloc (.cells (tbA t a) 43)) (cmL (x1, x2, x3)) 62 _ (by simp)
  have HPL : Hid (∀ X, Calls Tryz.prog 63 #[.agg #[.int .i64 x1, .int .i64 x2, .int .u32 x3]] X fun e w' => e = .returned (.agg #[.int .i64 x1, .int .i64 x2, .int .u32 0]) ∧ Below X.heap.size X w') := fun X => (cm_plain x1 x2 x3 X).mono fun e w' h => by
    have hp : plC (x1, x2, x3) = (x1, x2, 0) := by unfold plC; rw [if_neg (show ¬ x1 = 1 by omega)]
    rw [hp] at h
    exact h
  have e0 : ((w.alloc (.cells (tbA t a) 43)).alloc (.cells #[.int .i64 x1, .int .i64 x2, .int .u32 x3] 62)).cell? ⟨w.heap.size + 1, 0, none⟩ = some (.int .i64 x1) := cell0 HR.out 0 rfl
  have e1 : ((w.alloc (.cells (tbA t a) 43)).alloc (.cells #[.int .i64 x1, .int .i64 x2, .int .u32 x3] 62)).cell? ⟨w.heap.size + 1, 1, none⟩ = some (.int .i64 x2) := cell0 HR.out 1 rfl
  have e2 : ((w.alloc (.cells (tbA t a) 43)).alloc (.cells #[.int .i64 x1, .int .i64 x2, .int .u32 x3] 62)).cell? ⟨w.heap.size + 1, 2, none⟩ = some (.int .u32 x3) := cell0 HR.out 2 rfl
  replace e0 := fun X => gr_cell e0 X
  replace e1 := fun X => gr_cell e1 X
  replace e2 := fun X => gr_cell e2 X
  have hd := decide_eq_false h3
  have hd2 : (x3 == 0) = false := by simpa using h3
  clear h1
  go_enter Tryz.func33, Tryz.ntmps33
  go_wp2
  have hgr := gr_some ((w.alloc (.cells (tbA t a) 43)).alloc (.cells #[.int .i64 x1, .int .i64 x2, .int .u32 x3] 62))
  refine region_alike (by kernel_rfl) (by kernel_rfl) ?_
  repeat (go_big_quiet_step (first | (go_at_call 63; exact gr_call (HPL.out _))))
  refine wpQuiet_nil ?_
  intro _ hw'
  obtain ⟨X1, rfl⟩ := hw'
  replace e0 := e0 X1
  replace e1 := e1 X1
  replace e2 := e2 X1
  have hb2 := X1.h
  clear hgr
  generalize X1.w = W1 at hb2 e0 e1 e2 ⊢
  have HB1 : Hid (Below w.heap.size w W1) := HBB.out.trans (hb2.mono HBB.out.size)
  have HX1 : Hid (TBx W1 w.heap.size t a) := HX.out.below hb2
  clear hb2 HBB HX HR HPL
  go_wp2
  go_ret2
  exact ⟨rfl, HB1.out⟩
set_option maxRecDepth 40000 in
set_option maxHeartbeats 8000000 in
theorem cl_run (t : Tb) (a : Ad) (x1 x2 x3 : Int) (w : World) (h1 : x1 = 0) (h3 : x3 = 0) (hq : decide (0 ≤ x2 ∧ x2 ≤ 50000) = true) (d : ByteArray) (hd : Pn.dt x2 = d) (hdt : ∀ (z : Int) (X : World), -9223372036854775808 ≤ z → z ≤ 9223372036854775807 → Below w.heap.size w X → Calls Tryz.prog 65 #[.int .i64 z] X fun e w' => e = .returned (.string (Pn.dt z)) ∧ Below X.heap.size X w') :
    Calls Tryz.prog 33 #[tbV t a, .agg #[.int .i64 x1, .int .i64 x2, .int .u32 x3]] w fun e w' => e = .returned (.tuple #[.string (Sr.krunS ++ d), .bool true]) ∧ Below w.heap.size w w' := by
  subst h3
  have b0 : (x1 == 0) = true := by simp; omega
  have b1 : (x1 == 1) = false := by simp; omega
  have b2 : (x1 == 2) = false := by simp; omega
  have HQ : Hid (∀ X, Calls Tryz.prog 64 #[.int .i64 x2] X fun e w' => e = .returned (.bool true) ∧ w' = X) := fun X => is_cycle x2 _ X hq
  have HBB : Hid (Below w.heap.size w ((w.alloc (.cells (tbA t a) 43)).alloc (.cells #[.int .i64 x1, .int .i64 x2, .int .u32 0] 62))) := ((Below.refl _ _).alloc (Nat.le_refl _) _).alloc (by simp) _
  have HX : Hid (TBx ((w.alloc (.cells (tbA t a) 43)).alloc (.cells #[.int .i64 x1, .int .i64 x2, .int .u32 0] 62)) w.heap.size t a) := (TBx.new w t a _ rfl).below ((Below.refl _ _).alloc (Nat.le_refl _) _)
  have HR : Hid (CellsAt ((w.alloc (.cells (tbA t a) 43)).alloc (.cells #[.int .i64 x1, .int .i64 x2, .int .u32 0] 62)) (w.heap.size + 1) 0 (cmL (x1, x2, 0))) := CellsAt.new (w.alloc (.cells (tbA t a) 43)) (cmL (x1, x2, 0)) 62 _ (by simp)
  have HPL : Hid (∀ X, Calls Tryz.prog 63 #[.agg #[.int .i64 x1, .int .i64 x2, .int .u32 0]] X fun e w' => e = .returned (.agg #[.int .i64 x1, .int .i64 x2, .int .u32 0]) ∧ Below X.heap.size X w') := fun X => (cm_plain x1 x2 0 X).mono fun e w' h => by
    have hp : plC (x1, x2, 0) = (x1, x2, 0) := by unfold plC; rw [if_neg (show ¬ x1 = 1 by omega)]
    rw [hp] at h
    exact h
  have e0 : ((w.alloc (.cells (tbA t a) 43)).alloc (.cells #[.int .i64 x1, .int .i64 x2, .int .u32 0] 62)).cell? ⟨w.heap.size + 1, 0, none⟩ = some (.int .i64 x1) := cell0 HR.out 0 rfl
  have e1 : ((w.alloc (.cells (tbA t a) 43)).alloc (.cells #[.int .i64 x1, .int .i64 x2, .int .u32 0] 62)).cell? ⟨w.heap.size + 1, 1, none⟩ = some (.int .i64 x2) := cell0 HR.out 1 rfl
  have e2 : ((w.alloc (.cells (tbA t a) 43)).alloc (.cells #[.int .i64 x1, .int .i64 x2, .int .u32 0] 62)).cell? ⟨w.heap.size + 1, 2, none⟩ = some (.int .u32 0) := cell0 HR.out 2 rfl
  replace e0 := fun X => gr_cell e0 X
  replace e1 := fun X => gr_cell e1 X
  replace e2 := fun X => gr_cell e2 X
  have HDT : Hid (∀ X, Below w.heap.size w X → Calls Tryz.prog 65 #[.int .i64 x2] X fun e w' => e = .returned (.string d) ∧ Below X.heap.size X w') := fun X hX => by rw [← hd]; exact hdt x2 X (by have := of_decide_eq_true hq; omega) (by have := of_decide_eq_true hq; omega) hX
  have hsz : d.size ≤ 21 := by rw [← hd]; exact Pn.dt_size x2
  clear h1 hq hdt hd
  go_enter Tryz.func33, Tryz.ntmps33
  go_wp2
  have hgr := gr_some ((w.alloc (.cells (tbA t a) 43)).alloc (.cells #[.int .i64 x1, .int .i64 x2, .int .u32 0] 62))
  refine region_alike (by kernel_rfl) (by kernel_rfl) ?_
  repeat (go_big_quiet_step (first | (go_at_call 63; exact gr_call (HPL.out _))))
  refine wpQuiet_nil ?_
  intro _ hw'
  obtain ⟨X1, rfl⟩ := hw'
  replace e0 := e0 X1
  replace e1 := e1 X1
  replace e2 := e2 X1
  have hb2 := X1.h
  clear hgr
  generalize X1.w = W1 at hb2 e0 e1 e2 ⊢
  have HB1 : Hid (Below w.heap.size w W1) := HBB.out.trans (hb2.mono HBB.out.size)
  have HX1 : Hid (TBx W1 w.heap.size t a) := HX.out.below hb2
  clear hb2 HBB HX HR HPL
  go_wp2_with fail
  refine Calls.mono (HQ.out _) ?_
  rintro e W2 ⟨rfl, rfl⟩
  go_wp2_with fail
  refine Calls.mono (HDT.out _ HB1.out) ?_
  rintro e W3 ⟨rfl, hb3⟩
  have HB3 : Hid (Below w.heap.size w W3) := HB1.out.trans (hb3.mono HB1.out.size)
  clear hb3
  go_wp2
  go_ret2
  exact ⟨rfl, HB3.out⟩
set_option maxRecDepth 40000 in
set_option maxHeartbeats 8000000 in
theorem cl_runno (t : Tb) (a : Ad) (x1 x2 x3 : Int) (w : World) (h1 : x1 = 0) (h3 : x3 = 0) (hq : decide (0 ≤ x2 ∧ x2 ≤ 50000) = false) :
    Calls Tryz.prog 33 #[tbV t a, .agg #[.int .i64 x1, .int .i64 x2, .int .u32 x3]] w fun e w' => e = .returned (.tuple #[.string ⟨#[]⟩, .bool false]) ∧ Below w.heap.size w w' := by
  subst h3
  have b0 : (x1 == 0) = true := by simp; omega
  have b1 : (x1 == 1) = false := by simp; omega
  have b2 : (x1 == 2) = false := by simp; omega
  have HQ : Hid (∀ X, Calls Tryz.prog 64 #[.int .i64 x2] X fun e w' => e = .returned (.bool false) ∧ w' = X) := fun X => is_cycle x2 _ X hq
  have HBB : Hid (Below w.heap.size w ((w.alloc (.cells (tbA t a) 43)).alloc (.cells #[.int .i64 x1, .int .i64 x2, .int .u32 0] 62))) := ((Below.refl _ _).alloc (Nat.le_refl _) _).alloc (by simp) _
  have HX : Hid (TBx ((w.alloc (.cells (tbA t a) 43)).alloc (.cells #[.int .i64 x1, .int .i64 x2, .int .u32 0] 62)) w.heap.size t a) := (TBx.new w t a _ rfl).below ((Below.refl _ _).alloc (Nat.le_refl _) _)
  have HR : Hid (CellsAt ((w.alloc (.cells (tbA t a) 43)).alloc (.cells #[.int .i64 x1, .int .i64 x2, .int .u32 0] 62)) (w.heap.size + 1) 0 (cmL (x1, x2, 0))) := CellsAt.new (w.alloc (.cells (tbA t a) 43)) (cmL (x1, x2, 0)) 62 _ (by simp)
  have HPL : Hid (∀ X, Calls Tryz.prog 63 #[.agg #[.int .i64 x1, .int .i64 x2, .int .u32 0]] X fun e w' => e = .returned (.agg #[.int .i64 x1, .int .i64 x2, .int .u32 0]) ∧ Below X.heap.size X w') := fun X => (cm_plain x1 x2 0 X).mono fun e w' h => by
    have hp : plC (x1, x2, 0) = (x1, x2, 0) := by unfold plC; rw [if_neg (show ¬ x1 = 1 by omega)]
    rw [hp] at h
    exact h
  have e0 : ((w.alloc (.cells (tbA t a) 43)).alloc (.cells #[.int .i64 x1, .int .i64 x2, .int .u32 0] 62)).cell? ⟨w.heap.size + 1, 0, none⟩ = some (.int .i64 x1) := cell0 HR.out 0 rfl
  have e1 : ((w.alloc (.cells (tbA t a) 43)).alloc (.cells #[.int .i64 x1, .int .i64 x2, .int .u32 0] 62)).cell? ⟨w.heap.size + 1, 1, none⟩ = some (.int .i64 x2) := cell0 HR.out 1 rfl
  have e2 : ((w.alloc (.cells (tbA t a) 43)).alloc (.cells #[.int .i64 x1, .int .i64 x2, .int .u32 0] 62)).cell? ⟨w.heap.size + 1, 2, none⟩ = some (.int .u32 0) := cell0 HR.out 2 rfl
  replace e0 := fun X => gr_cell e0 X
  replace e1 := fun X => gr_cell e1 X
  replace e2 := fun X => gr_cell e2 X
  clear h1 hq
  go_enter Tryz.func33, Tryz.ntmps33
  go_wp2
  have hgr := gr_some ((w.alloc (.cells (tbA t a) 43)).alloc (.cells #[.int .i64 x1, .int .i64 x2, .int .u32 0] 62))
  refine region_alike (by kernel_rfl) (by kernel_rfl) ?_
  repeat (go_big_quiet_step (first | (go_at_call 63; exact gr_call (HPL.out _))))
  refine wpQuiet_nil ?_
  intro _ hw'
  obtain ⟨X1, rfl⟩ := hw'
  replace e0 := e0 X1
  replace e1 := e1 X1
  replace e2 := e2 X1
  have hb2 := X1.h
  clear hgr
  generalize X1.w = W1 at hb2 e0 e1 e2 ⊢
  have HB1 : Hid (Below w.heap.size w W1) := HBB.out.trans (hb2.mono HBB.out.size)
  have HX1 : Hid (TBx W1 w.heap.size t a) := HX.out.below hb2
  clear hb2 HBB HX HR HPL
  go_wp2_with fail
  refine Calls.mono (HQ.out _) ?_
  rintro e W2 ⟨rfl, rfl⟩
  go_wp2
  go_ret2
  exact ⟨rfl, HB1.out⟩
set_option maxRecDepth 40000 in
set_option maxHeartbeats 8000000 in
theorem cl_inp (t : Tb) (a : Ad) (x1 x2 x3 : Int) (w : World) (h1 : x1 = 1) (hq : decide (0 ≤ x2 ∧ x2 < 8) = true) (zx : Int) (dx dy : ByteArray) (hzx : IntKind.i64.wrap x3 = zx) (hdx : Pn.dt x2 = dx) (hdy : Pn.dt zx = dy) (hdt : ∀ (z : Int) (X : World), -9223372036854775808 ≤ z → z ≤ 9223372036854775807 → Below w.heap.size w X → Calls Tryz.prog 65 #[.int .i64 z] X fun e w' => e = .returned (.string (Pn.dt z)) ∧ Below X.heap.size X w') :
    Calls Tryz.prog 33 #[tbV t a, .agg #[.int .i64 x1, .int .i64 x2, .int .u32 x3]] w fun e w' => e = .returned (.tuple #[.string (Sr.kinpS ++ dx ++ Pn.sp ++ dy), .bool true]) ∧ Below w.heap.size w w' := by
  have b0 : (x1 == 0) = false := by simp; omega
  have b1 : (x1 == 1) = true := by simp; omega
  have b2 : (x1 == 2) = false := by simp; omega
  have HQ : Hid (∀ X, Calls Tryz.prog 66 #[.int .i64 x2] X fun e w' => e = .returned (.bool true) ∧ w' = X) := fun X => is_dev x2 _ X hq
  have HBB : Hid (Below w.heap.size w ((w.alloc (.cells (tbA t a) 43)).alloc (.cells #[.int .i64 x1, .int .i64 x2, .int .u32 x3] 62))) := ((Below.refl _ _).alloc (Nat.le_refl _) _).alloc (by simp) _
  have HX : Hid (TBx ((w.alloc (.cells (tbA t a) 43)).alloc (.cells #[.int .i64 x1, .int .i64 x2, .int .u32 x3] 62)) w.heap.size t a) := (TBx.new w t a _ rfl).below ((Below.refl _ _).alloc (Nat.le_refl _) _)
  have HR : Hid (CellsAt ((w.alloc (.cells (tbA t a) 43)).alloc (.cells #[.int .i64 x1, .int .i64 x2, .int .u32 x3] 62)) (w.heap.size + 1) 0 (cmL (x1, x2, x3))) := CellsAt.new (w.alloc (.cells (tbA t a) 43)) (cmL (x1, x2, x3)) 62 _ (by simp)
  have HPL : Hid (∀ X, Calls Tryz.prog 63 #[.agg #[.int .i64 x1, .int .i64 x2, .int .u32 x3]] X fun e w' => e = .returned (.agg #[.int .i64 x1, .int .i64 x2, .int .u32 x3]) ∧ Below X.heap.size X w') := fun X => (cm_plain x1 x2 x3 X).mono fun e w' h => by
    have hp : plC (x1, x2, x3) = (x1, x2, x3) := by unfold plC; rw [if_pos (show x1 = 1 by omega)]
    rw [hp] at h
    exact h
  have e0 : ((w.alloc (.cells (tbA t a) 43)).alloc (.cells #[.int .i64 x1, .int .i64 x2, .int .u32 x3] 62)).cell? ⟨w.heap.size + 1, 0, none⟩ = some (.int .i64 x1) := cell0 HR.out 0 rfl
  have e1 : ((w.alloc (.cells (tbA t a) 43)).alloc (.cells #[.int .i64 x1, .int .i64 x2, .int .u32 x3] 62)).cell? ⟨w.heap.size + 1, 1, none⟩ = some (.int .i64 x2) := cell0 HR.out 1 rfl
  have e2 : ((w.alloc (.cells (tbA t a) 43)).alloc (.cells #[.int .i64 x1, .int .i64 x2, .int .u32 x3] 62)).cell? ⟨w.heap.size + 1, 2, none⟩ = some (.int .u32 x3) := cell0 HR.out 2 rfl
  replace e0 := fun X => gr_cell e0 X
  replace e1 := fun X => gr_cell e1 X
  replace e2 := fun X => gr_cell e2 X
  have HDT : Hid (∀ X, Below w.heap.size w X → Calls Tryz.prog 65 #[.int .i64 x2] X fun e w' => e = .returned (.string dx) ∧ Below X.heap.size X w') := fun X hX => by rw [← hdx]; exact hdt x2 X (by have := of_decide_eq_true hq; omega) (by have := of_decide_eq_true hq; omega) hX
  have HDU : Hid (∀ X, Below w.heap.size w X → Calls Tryz.prog 65 #[.int .i64 zx] X fun e w' => e = .returned (.string dy) ∧ Below X.heap.size X w') := fun X hX => by rw [← hdy]; exact hdt _ X (by rw [← hzx]; exact (Sr.wrap_rng x3).1) (by rw [← hzx]; exact (Sr.wrap_rng x3).2) hX
  have hsz : dx.size ≤ 21 := by rw [← hdx]; exact Pn.dt_size x2
  have hsy : dy.size ≤ 21 := by rw [← hdy]; exact Pn.dt_size zx
  clear h1 hq hdt
  go_enter Tryz.func33, Tryz.ntmps33
  go_wp2
  have hgr := gr_some ((w.alloc (.cells (tbA t a) 43)).alloc (.cells #[.int .i64 x1, .int .i64 x2, .int .u32 x3] 62))
  refine region_alike (by kernel_rfl) (by kernel_rfl) ?_
  repeat (go_big_quiet_step (first | (go_at_call 63; exact gr_call (HPL.out _))))
  refine wpQuiet_nil ?_
  intro _ hw'
  obtain ⟨X1, rfl⟩ := hw'
  replace e0 := e0 X1
  replace e1 := e1 X1
  replace e2 := e2 X1
  have hb2 := X1.h
  clear hgr
  generalize X1.w = W1 at hb2 e0 e1 e2 ⊢
  have HB1 : Hid (Below w.heap.size w W1) := HBB.out.trans (hb2.mono HBB.out.size)
  have HX1 : Hid (TBx W1 w.heap.size t a) := HX.out.below hb2
  clear hb2 HBB HX HR HPL
  go_wp2_with fail
  refine Calls.mono (HQ.out _) ?_
  rintro e W2 ⟨rfl, rfl⟩
  have HDT2 : Hid (∀ Y : Gr W2, Calls Tryz.prog 65 #[.int .i64 x2] Y.w fun e w' => e = .returned (.string dx) ∧ Below Y.w.heap.size Y.w w') := fun Y => HDT.out _ (HB1.out.trans (Y.h.mono HB1.out.size))
  have HDU2 : Hid (∀ Y : Gr W2, Calls Tryz.prog 65 #[.int .i64 zx] Y.w fun e w' => e = .returned (.string dy) ∧ Below Y.w.heap.size Y.w w') := fun Y => HDU.out _ (HB1.out.trans (Y.h.mono HB1.out.size))
  clear HDT HDU hdx hdy
  go_wp2
  replace e1 := fun X => gr_cell e1 X
  replace e2 := fun X => gr_cell e2 X
  have hgr := gr_some W2
  refine region_alike (by kernel_rfl) (by kernel_rfl) ?_
  repeat (go_big_quiet_step (first | (go_at_call 65; exact gr_call (HDT2.out _)) | (go_at_call 65; exact gr_call (HDU2.out _))))
  refine wpQuiet_nil ?_
  intro _ hw'
  obtain ⟨X2, rfl⟩ := hw'
  have hb3 := X2.h
  clear hgr e1 e2
  generalize X2.w = W3 at hb3 ⊢
  have HB3 : Hid (Below w.heap.size w W3) := HB1.out.trans (hb3.mono HB1.out.size)
  clear hb3
  go_wp2
  go_ret2
  exact ⟨rfl, HB3.out⟩
set_option maxRecDepth 40000 in
set_option maxHeartbeats 8000000 in
theorem cl_inpno (t : Tb) (a : Ad) (x1 x2 x3 : Int) (w : World) (h1 : x1 = 1) (hq : decide (0 ≤ x2 ∧ x2 < 8) = false) :
    Calls Tryz.prog 33 #[tbV t a, .agg #[.int .i64 x1, .int .i64 x2, .int .u32 x3]] w fun e w' => e = .returned (.tuple #[.string ⟨#[]⟩, .bool false]) ∧ Below w.heap.size w w' := by
  have b0 : (x1 == 0) = false := by simp; omega
  have b1 : (x1 == 1) = true := by simp; omega
  have b2 : (x1 == 2) = false := by simp; omega
  have HQ : Hid (∀ X, Calls Tryz.prog 66 #[.int .i64 x2] X fun e w' => e = .returned (.bool false) ∧ w' = X) := fun X => is_dev x2 _ X hq
  have HBB : Hid (Below w.heap.size w ((w.alloc (.cells (tbA t a) 43)).alloc (.cells #[.int .i64 x1, .int .i64 x2, .int .u32 x3] 62))) := ((Below.refl _ _).alloc (Nat.le_refl _) _).alloc (by simp) _
  have HX : Hid (TBx ((w.alloc (.cells (tbA t a) 43)).alloc (.cells #[.int .i64 x1, .int .i64 x2, .int .u32 x3] 62)) w.heap.size t a) := (TBx.new w t a _ rfl).below ((Below.refl _ _).alloc (Nat.le_refl _) _)
  have HR : Hid (CellsAt ((w.alloc (.cells (tbA t a) 43)).alloc (.cells #[.int .i64 x1, .int .i64 x2, .int .u32 x3] 62)) (w.heap.size + 1) 0 (cmL (x1, x2, x3))) := CellsAt.new (w.alloc (.cells (tbA t a) 43)) (cmL (x1, x2, x3)) 62 _ (by simp)
  have HPL : Hid (∀ X, Calls Tryz.prog 63 #[.agg #[.int .i64 x1, .int .i64 x2, .int .u32 x3]] X fun e w' => e = .returned (.agg #[.int .i64 x1, .int .i64 x2, .int .u32 x3]) ∧ Below X.heap.size X w') := fun X => (cm_plain x1 x2 x3 X).mono fun e w' h => by
    have hp : plC (x1, x2, x3) = (x1, x2, x3) := by unfold plC; rw [if_pos (show x1 = 1 by omega)]
    rw [hp] at h
    exact h
  have e0 : ((w.alloc (.cells (tbA t a) 43)).alloc (.cells #[.int .i64 x1, .int .i64 x2, .int .u32 x3] 62)).cell? ⟨w.heap.size + 1, 0, none⟩ = some (.int .i64 x1) := cell0 HR.out 0 rfl
  have e1 : ((w.alloc (.cells (tbA t a) 43)).alloc (.cells #[.int .i64 x1, .int .i64 x2, .int .u32 x3] 62)).cell? ⟨w.heap.size + 1, 1, none⟩ = some (.int .i64 x2) := cell0 HR.out 1 rfl
  have e2 : ((w.alloc (.cells (tbA t a) 43)).alloc (.cells #[.int .i64 x1, .int .i64 x2, .int .u32 x3] 62)).cell? ⟨w.heap.size + 1, 2, none⟩ = some (.int .u32 x3) := cell0 HR.out 2 rfl
  replace e0 := fun X => gr_cell e0 X
  replace e1 := fun X => gr_cell e1 X
  replace e2 := fun X => gr_cell e2 X
  clear h1 hq
  go_enter Tryz.func33, Tryz.ntmps33
  go_wp2
  have hgr := gr_some ((w.alloc (.cells (tbA t a) 43)).alloc (.cells #[.int .i64 x1, .int .i64 x2, .int .u32 x3] 62))
  refine region_alike (by kernel_rfl) (by kernel_rfl) ?_
  repeat (go_big_quiet_step (first | (go_at_call 63; exact gr_call (HPL.out _))))
  refine wpQuiet_nil ?_
  intro _ hw'
  obtain ⟨X1, rfl⟩ := hw'
  replace e0 := e0 X1
  replace e1 := e1 X1
  replace e2 := e2 X1
  have hb2 := X1.h
  clear hgr
  generalize X1.w = W1 at hb2 e0 e1 e2 ⊢
  have HB1 : Hid (Below w.heap.size w W1) := HBB.out.trans (hb2.mono HBB.out.size)
  have HX1 : Hid (TBx W1 w.heap.size t a) := HX.out.below hb2
  clear hb2 HBB HX HR HPL
  go_wp2_with fail
  refine Calls.mono (HQ.out _) ?_
  rintro e W2 ⟨rfl, rfl⟩
  go_wp2
  go_ret2
  exact ⟨rfl, HB1.out⟩
set_option maxRecDepth 40000 in
set_option maxHeartbeats 8000000 in
theorem cl_res (t : Tb) (a : Ad) (x1 x2 x3 : Int) (w : World) (h1 : x1 = 2) (h3 : x3 = 0) (hq : decide (0 ≤ x2 ∧ x2 < (a.pn : Int)) = true) (i : Nat) (hi : x2 = (i : Int)) (nm : ByteArray) (hnm : (t.ps.getD i pt0).nm = nm) (hp : PSegL 0 w a.pa a.pn t.ps a.Y) (hn : a.pn ≤ 1048576) (hz : ∀ i, i < a.pn → (t.ps.getD i pt0).nm.size ≤ 1048576) :
    Calls Tryz.prog 33 #[tbV t a, .agg #[.int .i64 x1, .int .i64 x2, .int .u32 x3]] w fun e w' => e = .returned (.tuple #[.string (Sr.kresS ++ nm), .bool true]) ∧ Below w.heap.size w w' := by
  subst h3
  have b0 : (x1 == 0) = false := by simp; omega
  have b1 : (x1 == 1) = false := by simp; omega
  have b2 : (x1 == 2) = true := by simp; omega
  have HQ : Hid (∀ X, Calls Tryz.prog 67 #[tbV t a, .int .i64 x2] X fun e w' => e = .returned (.bool true) ∧ Below X.heap.size X w') := fun X => tab_has t a x2 _ X hq
  have HBB : Hid (Below w.heap.size w ((w.alloc (.cells (tbA t a) 43)).alloc (.cells #[.int .i64 x1, .int .i64 x2, .int .u32 0] 62))) := ((Below.refl _ _).alloc (Nat.le_refl _) _).alloc (by simp) _
  have HX : Hid (TBx ((w.alloc (.cells (tbA t a) 43)).alloc (.cells #[.int .i64 x1, .int .i64 x2, .int .u32 0] 62)) w.heap.size t a) := (TBx.new w t a _ rfl).below ((Below.refl _ _).alloc (Nat.le_refl _) _)
  have HR : Hid (CellsAt ((w.alloc (.cells (tbA t a) 43)).alloc (.cells #[.int .i64 x1, .int .i64 x2, .int .u32 0] 62)) (w.heap.size + 1) 0 (cmL (x1, x2, 0))) := CellsAt.new (w.alloc (.cells (tbA t a) 43)) (cmL (x1, x2, 0)) 62 _ (by simp)
  have HPL : Hid (∀ X, Calls Tryz.prog 63 #[.agg #[.int .i64 x1, .int .i64 x2, .int .u32 0]] X fun e w' => e = .returned (.agg #[.int .i64 x1, .int .i64 x2, .int .u32 0]) ∧ Below X.heap.size X w') := fun X => (cm_plain x1 x2 0 X).mono fun e w' h => by
    have hp : plC (x1, x2, 0) = (x1, x2, 0) := by unfold plC; rw [if_neg (show ¬ x1 = 1 by omega)]
    rw [hp] at h
    exact h
  have e0 : ((w.alloc (.cells (tbA t a) 43)).alloc (.cells #[.int .i64 x1, .int .i64 x2, .int .u32 0] 62)).cell? ⟨w.heap.size + 1, 0, none⟩ = some (.int .i64 x1) := cell0 HR.out 0 rfl
  have e1 : ((w.alloc (.cells (tbA t a) 43)).alloc (.cells #[.int .i64 x1, .int .i64 x2, .int .u32 0] 62)).cell? ⟨w.heap.size + 1, 1, none⟩ = some (.int .i64 x2) := cell0 HR.out 1 rfl
  have e2 : ((w.alloc (.cells (tbA t a) 43)).alloc (.cells #[.int .i64 x1, .int .i64 x2, .int .u32 0] 62)).cell? ⟨w.heap.size + 1, 2, none⟩ = some (.int .u32 0) := cell0 HR.out 2 rfl
  replace e0 := fun X => gr_cell e0 X
  replace e1 := fun X => gr_cell e1 X
  replace e2 := fun X => gr_cell e2 X
  have hia : i < a.pn := by have := of_decide_eq_true hq; omega
  obtain ⟨b1, o1, hpa, hbl1, p1⟩ := hp.1.seg.at i hia
  have c0 : w.cell? ⟨b1, o1 + i * 5, none⟩ = some (.string (a.Y i).nm) := (rw_cells p1).1
  rw [(hp.2 i hia).nm] at c0
  have hsz : (t.ps.getD i pt0).nm.size ≤ 1048576 := hz i hia
  rw [hnm] at c0 hsz
  have hia' : (i : Int) < (a.pn : Int) := by omega
  have HI : Hid (x2 = (i : Int)) := hi
  have HCC : Hid (w.cell? ⟨b1, o1 + i * 5, none⟩ = some (.string nm)) := c0
  have HPA : Hid (a.pa = some ⟨b1, o1, none⟩) := hpa
  have HIA : Hid (i < a.pn ∧ nm.size ≤ 1048576 ∧ b1 < w.heap.size) := ⟨hia, hsz, hbl1⟩
  clear h1 hq hz p1 hp hnm hi c0 hpa hia hsz hbl1 hia'
  go_enter Tryz.func33, Tryz.ntmps33
  go_wp2
  have hgr := gr_some ((w.alloc (.cells (tbA t a) 43)).alloc (.cells #[.int .i64 x1, .int .i64 x2, .int .u32 0] 62))
  refine region_alike (by kernel_rfl) (by kernel_rfl) ?_
  repeat (go_big_quiet_step (first | (go_at_call 63; exact gr_call (HPL.out _))))
  refine wpQuiet_nil ?_
  intro _ hw'
  obtain ⟨X1, rfl⟩ := hw'
  replace e0 := e0 X1
  replace e1 := e1 X1
  replace e2 := e2 X1
  have hb2 := X1.h
  clear hgr
  generalize X1.w = W1 at hb2 e0 e1 e2 ⊢
  have HB1 : Hid (Below w.heap.size w W1) := HBB.out.trans (hb2.mono HBB.out.size)
  have HX1 : Hid (TBx W1 w.heap.size t a) := HX.out.below hb2
  clear hb2 HBB HX HR HPL
  go_wp2_with (first | (refine wpList_load_rowG rfl 43 (.tmp 2) rfl w.heap.size rfl 43 (tbA t a) (0, 0) _ HX1.out Tryz.underlying43 rfl (by kernel_rfl) ?_) | (refine wpList_load_row rfl 43 (.tmp 2) rfl w.heap.size rfl 43 (tbA t a) (0, 0) _ HX1.out Tryz.underlying43 rfl (by kernel_rfl) ?_) | fail)
  refine Calls.mono (HQ.out _) ?_
  rintro e W2 ⟨rfl, hb3⟩
  have HB2 : Hid (Below w.heap.size w W2) := HB1.out.trans (hb3.mono HB1.out.size)
  replace e1 := cell_kept hb3 e1
  have k15 : W2.cell? ⟨w.heap.size, 15, none⟩ = some (.slice a.pa a.pn a.pc) := (HX1.out.below hb3).cell 15 rfl
  rw [HPA.out] at k15
  obtain ⟨hia, hsz, hbl1⟩ := HIA.out
  have hia' : (i : Int) < (a.pn : Int) := by omega
  have c0 := HCC.out
  replace c0 := (HB2.out.cell (p := ⟨b1, o1 + i * 5, none⟩) hbl1).trans c0
  clear hb3 HPA hbl1 HX1 HIA HCC
  have hi := HI.out
  subst hi
  clear HI
  go_wp2
  go_ret2
  exact ⟨rfl, HB2.out⟩
set_option maxRecDepth 40000 in
set_option maxHeartbeats 8000000 in
theorem cl_resno (t : Tb) (a : Ad) (x1 x2 x3 : Int) (w : World) (h1 : x1 = 2) (h3 : x3 = 0) (hq : decide (0 ≤ x2 ∧ x2 < (a.pn : Int)) = false) :
    Calls Tryz.prog 33 #[tbV t a, .agg #[.int .i64 x1, .int .i64 x2, .int .u32 x3]] w fun e w' => e = .returned (.tuple #[.string ⟨#[]⟩, .bool false]) ∧ Below w.heap.size w w' := by
  subst h3
  have b0 : (x1 == 0) = false := by simp; omega
  have b1 : (x1 == 1) = false := by simp; omega
  have b2 : (x1 == 2) = true := by simp; omega
  have HQ : Hid (∀ X, Calls Tryz.prog 67 #[tbV t a, .int .i64 x2] X fun e w' => e = .returned (.bool false) ∧ Below X.heap.size X w') := fun X => tab_has t a x2 _ X hq
  have HBB : Hid (Below w.heap.size w ((w.alloc (.cells (tbA t a) 43)).alloc (.cells #[.int .i64 x1, .int .i64 x2, .int .u32 0] 62))) := ((Below.refl _ _).alloc (Nat.le_refl _) _).alloc (by simp) _
  have HX : Hid (TBx ((w.alloc (.cells (tbA t a) 43)).alloc (.cells #[.int .i64 x1, .int .i64 x2, .int .u32 0] 62)) w.heap.size t a) := (TBx.new w t a _ rfl).below ((Below.refl _ _).alloc (Nat.le_refl _) _)
  have HR : Hid (CellsAt ((w.alloc (.cells (tbA t a) 43)).alloc (.cells #[.int .i64 x1, .int .i64 x2, .int .u32 0] 62)) (w.heap.size + 1) 0 (cmL (x1, x2, 0))) := CellsAt.new (w.alloc (.cells (tbA t a) 43)) (cmL (x1, x2, 0)) 62 _ (by simp)
  have HPL : Hid (∀ X, Calls Tryz.prog 63 #[.agg #[.int .i64 x1, .int .i64 x2, .int .u32 0]] X fun e w' => e = .returned (.agg #[.int .i64 x1, .int .i64 x2, .int .u32 0]) ∧ Below X.heap.size X w') := fun X => (cm_plain x1 x2 0 X).mono fun e w' h => by
    have hp : plC (x1, x2, 0) = (x1, x2, 0) := by unfold plC; rw [if_neg (show ¬ x1 = 1 by omega)]
    rw [hp] at h
    exact h
  have e0 : ((w.alloc (.cells (tbA t a) 43)).alloc (.cells #[.int .i64 x1, .int .i64 x2, .int .u32 0] 62)).cell? ⟨w.heap.size + 1, 0, none⟩ = some (.int .i64 x1) := cell0 HR.out 0 rfl
  have e1 : ((w.alloc (.cells (tbA t a) 43)).alloc (.cells #[.int .i64 x1, .int .i64 x2, .int .u32 0] 62)).cell? ⟨w.heap.size + 1, 1, none⟩ = some (.int .i64 x2) := cell0 HR.out 1 rfl
  have e2 : ((w.alloc (.cells (tbA t a) 43)).alloc (.cells #[.int .i64 x1, .int .i64 x2, .int .u32 0] 62)).cell? ⟨w.heap.size + 1, 2, none⟩ = some (.int .u32 0) := cell0 HR.out 2 rfl
  replace e0 := fun X => gr_cell e0 X
  replace e1 := fun X => gr_cell e1 X
  replace e2 := fun X => gr_cell e2 X
  clear h1 hq
  go_enter Tryz.func33, Tryz.ntmps33
  go_wp2
  have hgr := gr_some ((w.alloc (.cells (tbA t a) 43)).alloc (.cells #[.int .i64 x1, .int .i64 x2, .int .u32 0] 62))
  refine region_alike (by kernel_rfl) (by kernel_rfl) ?_
  repeat (go_big_quiet_step (first | (go_at_call 63; exact gr_call (HPL.out _))))
  refine wpQuiet_nil ?_
  intro _ hw'
  obtain ⟨X1, rfl⟩ := hw'
  replace e0 := e0 X1
  replace e1 := e1 X1
  replace e2 := e2 X1
  have hb2 := X1.h
  clear hgr
  generalize X1.w = W1 at hb2 e0 e1 e2 ⊢
  have HB1 : Hid (Below w.heap.size w W1) := HBB.out.trans (hb2.mono HBB.out.size)
  have HX1 : Hid (TBx W1 w.heap.size t a) := HX.out.below hb2
  clear hb2 HBB HX HR HPL
  go_wp2_with (first | (refine wpList_load_rowG rfl 43 (.tmp 2) rfl w.heap.size rfl 43 (tbA t a) (0, 0) _ HX1.out Tryz.underlying43 rfl (by kernel_rfl) ?_) | (refine wpList_load_row rfl 43 (.tmp 2) rfl w.heap.size rfl 43 (tbA t a) (0, 0) _ HX1.out Tryz.underlying43 rfl (by kernel_rfl) ?_) | fail)
  refine Calls.mono (HQ.out _) ?_
  rintro e W2 ⟨rfl, hb3⟩
  have HB2 : Hid (Below w.heap.size w W2) := HB1.out.trans (hb3.mono HB1.out.size)
  replace e1 := cell_kept hb3 e1
  clear hb3
  go_wp2
  go_ret2
  exact ⟨rfl, HB2.out⟩
set_option maxRecDepth 40000 in
set_option maxHeartbeats 8000000 in
theorem cl_none (t : Tb) (a : Ad) (x1 x2 x3 : Int) (w : World) (ha : ¬ x1 = 0) (hb : ¬ x1 = 1) (hc : ¬ x1 = 2) (h3 : x3 = 0) :
    Calls Tryz.prog 33 #[tbV t a, .agg #[.int .i64 x1, .int .i64 x2, .int .u32 x3]] w fun e w' => e = .returned (.tuple #[.string ⟨#[]⟩, .bool false]) ∧ Below w.heap.size w w' := by
  subst h3
  have b0 : (x1 == 0) = false := by simpa using ha
  have b1 : (x1 == 1) = false := by simpa using hb
  have b2 : (x1 == 2) = false := by simpa using hc
  have HBB : Hid (Below w.heap.size w ((w.alloc (.cells (tbA t a) 43)).alloc (.cells #[.int .i64 x1, .int .i64 x2, .int .u32 0] 62))) := ((Below.refl _ _).alloc (Nat.le_refl _) _).alloc (by simp) _
  have HX : Hid (TBx ((w.alloc (.cells (tbA t a) 43)).alloc (.cells #[.int .i64 x1, .int .i64 x2, .int .u32 0] 62)) w.heap.size t a) := (TBx.new w t a _ rfl).below ((Below.refl _ _).alloc (Nat.le_refl _) _)
  have HR : Hid (CellsAt ((w.alloc (.cells (tbA t a) 43)).alloc (.cells #[.int .i64 x1, .int .i64 x2, .int .u32 0] 62)) (w.heap.size + 1) 0 (cmL (x1, x2, 0))) := CellsAt.new (w.alloc (.cells (tbA t a) 43)) (cmL (x1, x2, 0)) 62 _ (by simp)
  have HPL : Hid (∀ X, Calls Tryz.prog 63 #[.agg #[.int .i64 x1, .int .i64 x2, .int .u32 0]] X fun e w' => e = .returned (.agg #[.int .i64 x1, .int .i64 x2, .int .u32 0]) ∧ Below X.heap.size X w') := fun X => (cm_plain x1 x2 0 X).mono fun e w' h => by
    have hp : plC (x1, x2, 0) = (x1, x2, 0) := by unfold plC; rw [if_neg (show ¬ x1 = 1 from hb)]
    rw [hp] at h
    exact h
  have e0 : ((w.alloc (.cells (tbA t a) 43)).alloc (.cells #[.int .i64 x1, .int .i64 x2, .int .u32 0] 62)).cell? ⟨w.heap.size + 1, 0, none⟩ = some (.int .i64 x1) := cell0 HR.out 0 rfl
  have e1 : ((w.alloc (.cells (tbA t a) 43)).alloc (.cells #[.int .i64 x1, .int .i64 x2, .int .u32 0] 62)).cell? ⟨w.heap.size + 1, 1, none⟩ = some (.int .i64 x2) := cell0 HR.out 1 rfl
  have e2 : ((w.alloc (.cells (tbA t a) 43)).alloc (.cells #[.int .i64 x1, .int .i64 x2, .int .u32 0] 62)).cell? ⟨w.heap.size + 1, 2, none⟩ = some (.int .u32 0) := cell0 HR.out 2 rfl
  replace e0 := fun X => gr_cell e0 X
  replace e1 := fun X => gr_cell e1 X
  replace e2 := fun X => gr_cell e2 X
  clear ha hb hc
  go_enter Tryz.func33, Tryz.ntmps33
  go_wp2
  have hgr := gr_some ((w.alloc (.cells (tbA t a) 43)).alloc (.cells #[.int .i64 x1, .int .i64 x2, .int .u32 0] 62))
  refine region_alike (by kernel_rfl) (by kernel_rfl) ?_
  repeat (go_big_quiet_step (first | (go_at_call 63; exact gr_call (HPL.out _))))
  refine wpQuiet_nil ?_
  intro _ hw'
  obtain ⟨X1, rfl⟩ := hw'
  replace e0 := e0 X1
  replace e1 := e1 X1
  replace e2 := e2 X1
  have hb2 := X1.h
  clear hgr
  generalize X1.w = W1 at hb2 e0 e1 e2 ⊢
  have HB1 : Hid (Below w.heap.size w W1) := HBB.out.trans (hb2.mono HBB.out.size)
  have HX1 : Hid (TBx W1 w.heap.size t a) := HX.out.below hb2
  clear hb2 HBB HX HR HPL
  go_wp2
  go_ret2
  exact ⟨rfl, HB1.out⟩
set_option maxRecDepth 40000 in
set_option maxHeartbeats 8000000 in
theorem cmd_line (t : Tb) (a : Ad) (x : cmT) (q : Option ByteArray) (w : World) (ho : Sr.lineV t x = q) (hp : PSegL 0 w a.pa a.pn t.ps a.Y) (hl : t.ps.length = a.pn) (hn : a.pn ≤ 1048576) (hz : ∀ i, i < a.pn → (t.ps.getD i pt0).nm.size ≤ 1048576) (hdt : ∀ (z : Int) (X : World), -9223372036854775808 ≤ z → z ≤ 9223372036854775807 → Below w.heap.size w X → Calls Tryz.prog 65 #[.int .i64 z] X fun e w' => e = .returned (.string (Pn.dt z)) ∧ Below X.heap.size X w') :
    Calls Tryz.prog 33 #[tbV t a, cmV x] w fun e w' => e = .returned (.tuple #[.string (q.getD ⟨#[]⟩), .bool q.isSome]) ∧ Below w.heap.size w w' := by
  obtain ⟨x1, x2, x3⟩ := x
  subst ho
  unfold Sr.lineV
  simp only [cmV]
  rw [hl]
  by_cases h0 : x1 = 0
  · by_cases h3 : x3 = 0
    · by_cases hq : 0 ≤ x2 ∧ x2 ≤ 50000
      · rw [if_pos ⟨h0, hq, h3⟩]
        exact cl_run t a x1 x2 x3 w h0 h3 (decide_eq_true hq) _ rfl hdt
      · rw [if_neg (fun h => hq h.2.1), if_neg (fun h => by have := h.1; omega), if_neg (fun h => by have := h.1; omega)]
        exact cl_runno t a x1 x2 x3 w h0 h3 (decide_eq_false hq)
    · rw [if_neg (fun h => h3 h.2.2), if_neg (fun h => by have := h.1; omega), if_neg (fun h => by have := h.1; omega)]
      exact cl_word t a x1 x2 x3 w (by omega) h3
  by_cases h1 : x1 = 1
  · rw [if_neg (fun h => h0 h.1)]
    by_cases hq : 0 ≤ x2 ∧ x2 ≤ 7
    · rw [if_pos ⟨h1, hq⟩]
      exact cl_inp t a x1 x2 x3 w h1 (decide_eq_true ⟨hq.1, by omega⟩) _ _ _ rfl rfl rfl hdt
    · rw [if_neg (fun h => hq h.2), if_neg (fun h => by have := h.1; omega)]
      exact cl_inpno t a x1 x2 x3 w h1 (decide_eq_false (fun h => hq ⟨h.1, by omega⟩))
  rw [if_neg (fun h => h0 h.1), if_neg (fun h => h1 h.1)]
  by_cases h3 : x3 = 0
  · by_cases h2 : x1 = 2
    · by_cases hq : 0 ≤ x2 ∧ x2 < (a.pn : Int)
      · rw [if_pos ⟨h2, hq, h3⟩]
        obtain ⟨i, rfl⟩ : ∃ i : Nat, x2 = (i : Int) := ⟨x2.toNat, by omega⟩
        rw [Int.toNat_natCast]
        exact cl_res t a x1 i x3 w h2 h3 (decide_eq_true hq) i rfl _ rfl hp hn hz
      · rw [if_neg (fun h => hq h.2.1)]
        exact cl_resno t a x1 x2 x3 w h2 h3 (decide_eq_false hq)
    · rw [if_neg (fun h => h2 h.1)]
      exact cl_none t a x1 x2 x3 w h0 h1 h2 h3
  · rw [if_neg (fun h => h3 h.2.2)]
    exact cl_word t a x1 x2 x3 w h1 h3
end Go.Proofs.YtmnoghhdkdjnmaaGreatDoor
