
/-
  The rules on the numbers of tables, by the program. Conditions: what a rule is asked under.
-/
import Derived.Test.YtofibnmbgfggkaaGreatDoorBas
import Derived.Test.YtofibnmbgfggkaaGreatDoorRul
import Derived.BigQuiet
import Derived.Deep.RegionHeldLaw

namespace Go.Proofs.YtofibnmbgfggkaaGreatDoor
open Go.ChangeShapes Go.WideShapes Go.ChangeAt Go.RowKit Go.Deep Go.Joins
set_option linter.unusedVariables false

set_option maxRecDepth 40000 in
set_option maxHeartbeats 4000000 in
theorem cl0 (t : Tb) (a : Ad) (B : Nat) (q : Bool) (X : World) (hu : Und X B t a) (hp : ∀ j, j < 0 → R t j) (hq : q = true ↔ R t 0) :
    Calls Tryz.prog 91 #[.pointer (some ⟨B, 0, none⟩)] X fun e w' => e = .returned (.bool q) ∧ Below X.heap.size X w' := by
  have c0 : X.cell? ⟨B, 0, none⟩ = some (.int .i64 t.mem) := hu.x.cell 0 rfl
  have HM : Hid _ := tm4 t.mem
  have HQ : Hid (q = true ↔ (t.mem % 4 = 0 ∧ 64 ≤ t.mem ∧ t.mem ≤ 2048)) := hq
  clear hu hp hq
  generalize t.mem = m at c0 HM HQ
  by_cases h4 : m % 4 = 0
  · have h4' : Int.tmod m 4 = 0 := HM.out.2 h4
    by_cases h1 : 64 ≤ m
    · have HT : Hid (decide (m ≤ 2048) = q) := bool_is HQ.out ⟨fun h => ⟨h4, h1, of_decide_eq_true h⟩, fun h => decide_eq_true h.2.2⟩
      go_enter Tryz.func91, Tryz.ntmps91
      go_wp2
      go_ret
      exact ⟨ret_bool HT.out, Below.refl _ _⟩
    · have HT : Hid (q = false) := not_true HQ.out (fun h => h1 h.2.1)
      go_enter Tryz.func91, Tryz.ntmps91
      go_wp2
      go_ret
      exact ⟨ret_bool HT.out.symm, Below.refl _ _⟩
  · have HT : Hid (q = false) := not_true HQ.out (fun h => h4 h.1)
    have h4' : (Int.tmod m 4 == 0) = false := by
      have : ¬ Int.tmod m 4 = 0 := fun h => h4 (HM.out.1 h)
      simpa using this
    clear h4
    go_enter Tryz.func91, Tryz.ntmps91
    go_wp2
    go_ret
    exact ⟨ret_bool HT.out.symm, Below.refl _ _⟩
set_option maxRecDepth 40000 in
set_option maxHeartbeats 4000000 in
theorem cl1 (t : Tb) (a : Ad) (B : Nat) (q : Bool) (X : World) (hu : Und X B t a) (hp : ∀ j, j < 1 → R t j) (hq : q = true ↔ R t 1) :
    Calls Tryz.prog 92 #[.pointer (some ⟨B, 0, none⟩)] X fun e w' => e = .returned (.bool q) ∧ Below X.heap.size X w' := by
  have HQ : Hid (shapeOk t.s1 t.s2 t.s3 = q) := bool_is hq (by simp only [R])
  have c1 : X.cell? ⟨B, 1, none⟩ = some (.int .i64 t.s1) := hu.x.cell 1 rfl
  have c2 : X.cell? ⟨B, 2, none⟩ = some (.int .i64 t.s2) := hu.x.cell 2 rfl
  have c3 : X.cell? ⟨B, 3, none⟩ = some (.int .i64 t.s3) := hu.x.cell 3 rfl
  clear hu hp hq
  go_enter Tryz.func92, Tryz.ntmps92
  go_wp2_with fail
  refine (impl_shok t.s1 t.s2 t.s3 _).mono ?_
  rintro e w1 ⟨rfl, hb⟩
  have HB : Hid (Below X.heap.size X w1) := hb
  clear hb c1 c2 c3
  rw [HQ.out]
  go_wp2
  go_ret
  exact ⟨rfl, HB.out⟩
set_option maxRecDepth 40000 in
set_option maxHeartbeats 4000000 in
theorem cl2 (t : Tb) (a : Ad) (B : Nat) (q : Bool) (X : World) (hu : Und X B t a) (hp : ∀ j, j < 2 → R t j) (hq : q = true ↔ R t 2) :
    Calls Tryz.prog 94 #[.pointer (some ⟨B, 0, none⟩)] X fun e w' => e = .returned (.bool q) ∧ Below X.heap.size X w' := by
  have HQ : Hid (inr t.tlb 1 8 = q) := bool_is hq (by simp only [R]; exact inr_iff)
  have c0 : X.cell? ⟨B, 4, none⟩ = some (.int .i64 t.tlb) := hu.x.cell 4 rfl
  clear hu hp hq
  go_enter Tryz.func94, Tryz.ntmps94
  go_wp2_with fail
  refine (is_tlb t.tlb _).mono ?_
  rintro e w1 ⟨rfl, rfl⟩
  rw [HQ.out]
  go_wp2
  go_ret
  exact ⟨rfl, Below.refl _ _⟩
set_option maxRecDepth 40000 in
set_option maxHeartbeats 4000000 in
theorem cl3 (t : Tb) (a : Ad) (B : Nat) (q : Bool) (X : World) (hu : Und X B t a) (hp : ∀ j, j < 3 → R t j) (hq : q = true ↔ R t 3) :
    Calls Tryz.prog 96 #[.pointer (some ⟨B, 0, none⟩)] X fun e w' => e = .returned (.bool q) ∧ Below X.heap.size X w' := by
  have HQ : Hid (costsOk t.c1 t.c2 t.c3 t.c4 t.c5 t.c6 t.c7 = q) := bool_is hq (by simp only [R])
  have k1 : X.cell? ⟨B, 5, none⟩ = some (.int .i64 t.c1) := hu.x.cell 5 rfl
  have k2 : X.cell? ⟨B, 6, none⟩ = some (.int .i64 t.c2) := hu.x.cell 6 rfl
  have k3 : X.cell? ⟨B, 7, none⟩ = some (.int .i64 t.c3) := hu.x.cell 7 rfl
  have k4 : X.cell? ⟨B, 8, none⟩ = some (.int .i64 t.c4) := hu.x.cell 8 rfl
  have k5 : X.cell? ⟨B, 9, none⟩ = some (.int .i64 t.c5) := hu.x.cell 9 rfl
  have k6 : X.cell? ⟨B, 10, none⟩ = some (.int .i64 t.c6) := hu.x.cell 10 rfl
  have k7 : X.cell? ⟨B, 11, none⟩ = some (.int .i64 t.c7) := hu.x.cell 11 rfl
  clear hu hp hq
  go_enter Tryz.func96, Tryz.ntmps96
  go_wp2_with fail
  refine (impl_cok t.c1 t.c2 t.c3 t.c4 t.c5 t.c6 t.c7 _).mono ?_
  rintro e w1 ⟨rfl, hb⟩
  have HB : Hid (Below X.heap.size X w1) := by rw [hb]; exact (Below.refl _ _).alloc (Nat.le_refl _) _
  clear hb k1 k2 k3 k4 k5 k6 k7
  rw [HQ.out]
  go_wp2
  go_ret
  exact ⟨rfl, HB.out⟩
set_option maxRecDepth 40000 in
set_option maxHeartbeats 4000000 in
theorem cl4 (t : Tb) (a : Ad) (B : Nat) (q : Bool) (X : World) (hu : Und X B t a) (hp : ∀ j, j < 4 → R t j) (hq : q = true ↔ R t 4) :
    Calls Tryz.prog 98 #[.pointer (some ⟨B, 0, none⟩)] X fun e w' => e = .returned (.bool q) ∧ Below X.heap.size X w' := by
  have HQ : Hid (inr t.pad 1 5000 = q) := bool_is hq (by simp only [R]; exact inr_iff)
  have c0 : X.cell? ⟨B, 12, none⟩ = some (.int .i64 t.pad) := hu.x.cell 12 rfl
  clear hu hp hq
  go_enter Tryz.func98, Tryz.ntmps98
  go_wp2_with fail
  refine (is_len t.pad _).mono ?_
  rintro e w1 ⟨rfl, rfl⟩
  rw [HQ.out]
  go_wp2
  go_ret
  exact ⟨rfl, Below.refl _ _⟩
set_option maxRecDepth 40000 in
set_option maxHeartbeats 4000000 in
theorem cl5 (t : Tb) (a : Ad) (B : Nat) (q : Bool) (X : World) (hu : Und X B t a) (hp : ∀ j, j < 5 → R t j) (hq : q = true ↔ R t 5) :
    Calls Tryz.prog 100 #[.pointer (some ⟨B, 0, none⟩)] X fun e w' => e = .returned (.bool q) ∧ Below X.heap.size X w' := by
  have HQ : Hid (inr t.grd 1 5000 = q) := bool_is hq (by simp only [R]; exact inr_iff)
  have c0 : X.cell? ⟨B, 13, none⟩ = some (.int .i64 t.grd) := hu.x.cell 13 rfl
  clear hu hp hq
  go_enter Tryz.func100, Tryz.ntmps100
  go_wp2_with fail
  refine (is_len t.grd _).mono ?_
  rintro e w1 ⟨rfl, rfl⟩
  rw [HQ.out]
  go_wp2
  go_ret
  exact ⟨rfl, Below.refl _ _⟩
set_option maxRecDepth 40000 in
set_option maxHeartbeats 4000000 in
theorem cl6 (t : Tb) (a : Ad) (B : Nat) (q : Bool) (X : World) (hu : Und X B t a) (hp : ∀ j, j < 6 → R t j) (hq : q = true ↔ R t 6) :
    Calls Tryz.prog 101 #[.pointer (some ⟨B, 0, none⟩)] X fun e w' => e = .returned (.bool q) ∧ Below X.heap.size X w' := by
  have HQ : Hid (inr t.maj 1 5000 = q) := bool_is hq (by simp only [R]; exact inr_iff)
  have c0 : X.cell? ⟨B, 14, none⟩ = some (.int .i64 t.maj) := hu.x.cell 14 rfl
  clear hu hp hq
  go_enter Tryz.func101, Tryz.ntmps101
  go_wp2_with fail
  refine (is_len t.maj _).mono ?_
  rintro e w1 ⟨rfl, rfl⟩
  rw [HQ.out]
  go_wp2
  go_ret
  exact ⟨rfl, Below.refl _ _⟩
set_option maxRecDepth 40000 in
set_option maxHeartbeats 4000000 in
theorem cl7 (t : Tb) (a : Ad) (B : Nat) (q : Bool) (X : World) (hu : Und X B t a) (hp : ∀ j, j < 7 → R t j) (hq : q = true ↔ R t 7) :
    Calls Tryz.prog 102 #[.pointer (some ⟨B, 0, none⟩)] X fun e w' => e = .returned (.bool q) ∧ Below X.heap.size X w' := by
  obtain ⟨v, HV⟩ : ∃ v, Hid (worstStep t.c1 t.c2 t.c3 t.c4 t.c5 t.c6 t.c7 = v) := ⟨_, rfl⟩
  have HQ : Hid (decide (v ≤ t.grd) = q) := bool_is hq (by simp only [R]; rw [HV.out]; simp)
  have k1 : X.cell? ⟨B, 5, none⟩ = some (.int .i64 t.c1) := hu.x.cell 5 rfl
  have k2 : X.cell? ⟨B, 6, none⟩ = some (.int .i64 t.c2) := hu.x.cell 6 rfl
  have k3 : X.cell? ⟨B, 7, none⟩ = some (.int .i64 t.c3) := hu.x.cell 7 rfl
  have k4 : X.cell? ⟨B, 8, none⟩ = some (.int .i64 t.c4) := hu.x.cell 8 rfl
  have k5 : X.cell? ⟨B, 9, none⟩ = some (.int .i64 t.c5) := hu.x.cell 9 rfl
  have k6 : X.cell? ⟨B, 10, none⟩ = some (.int .i64 t.c6) := hu.x.cell 10 rfl
  have k7 : X.cell? ⟨B, 11, none⟩ = some (.int .i64 t.c7) := hu.x.cell 11 rfl
  have k0 : X.cell? ⟨B, 13, none⟩ = some (.int .i64 t.grd) := hu.x.cell 13 rfl
  have HTE : Hid (TabE X) := hu.e
  clear hu hp hq
  have HW : Hid (∀ x : Gr X, Calls Tryz.prog 103 #[cst t.c1 t.c2 t.c3 t.c4 t.c5 t.c6 t.c7] x.w fun r w' => r = .returned (.int .i64 v) ∧ Below x.w.heap.size x.w w') := fun x => by
    rw [← HV.out]; exact impl_worstS t.c1 t.c2 t.c3 t.c4 t.c5 t.c6 t.c7 x.w (HTE.out.below x.h)
  generalize t.grd = g at k0 HQ
  generalize hd : decide (v ≤ g) = d at HQ
  replace k0 := fun x => gr_cell k0 x
  replace k1 := fun x => gr_cell k1 x
  replace k2 := fun x => gr_cell k2 x
  replace k3 := fun x => gr_cell k3 x
  replace k4 := fun x => gr_cell k4 x
  replace k5 := fun x => gr_cell k5 x
  replace k6 := fun x => gr_cell k6 x
  replace k7 := fun x => gr_cell k7 x
  go_enter Tryz.func102, Tryz.ntmps102
  go_wp2
  have hgr := gr_some X
  refine region_alike (by kernel_rfl) (by kernel_rfl) ?_
  repeat (go_big_quiet_step (first | (go_at_call 103; exact gr_call (HW.out _))))
  refine wpQuiet_nil ?_
  intro _ hw'
  obtain ⟨X1, rfl⟩ := hw'
  have hb2 := X1.h
  generalize X1.w = W1 at hb2 ⊢
  have HB : Hid (Below X.heap.size X W1) := hb2
  clear hb2 k0 k1 k2 k3 k4 k5 k6 k7
  go_wp2
  go_ret
  exact ⟨ret_bool HQ.out, HB.out⟩
end Go.Proofs.YtofibnmbgfggkaaGreatDoor
