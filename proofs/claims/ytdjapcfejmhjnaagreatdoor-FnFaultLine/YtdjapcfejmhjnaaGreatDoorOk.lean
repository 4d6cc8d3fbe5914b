/-
  What InstrOk returns, the program's own and the specification's: the same truth value at every instruction. Condition: the program's table of forms lies in memory as the program's text lays it.
-/
import Derived.Test.YtdjapcfejmhjnaaGreatDoorIsa
import Derived.Deep.RegionHeld3
namespace Go.Proofs.YtdjapcfejmhjnaaGreatDoor
open Go.ChangeShapes Go.WideShapes Go.ChangeAt Go.RowKit
set_option linter.unusedVariables false

theorem cell_alloc {w : World} {a : Addr} {v : Value} {o : Obj} (h : w.cell? a = some v) : (w.alloc o).cell? a = some v :=
  (((Below.refl _ w).alloc (Nat.le_refl _) o).cell (World.block_lt_of_cell? w _ h)).trans h
theorem cell_drew {w : World} {a : Addr} {v : Value} (h : w.cell? a = some v) : w.drew.cell? a = some v := h
theorem new_cell (w : World) (cs : Array Value) (t : TypeId) (i : Nat) (v : Value) (h : cs[i]? = some v) : (w.alloc (.cells cs t)).cell? ⟨w.heap.size, i, none⟩ = some v := by
  simp [h]
set_option maxHeartbeats 1000000 in
theorem impl_ok_0 (k : Nat) (a b c m f A B C M : Int) (w : World) (hk : k < 33) (hc : w.cell? ⟨1, k, none⟩ = some (.int .i64 f))
    (HR : Hid (∀ w, Calls Tryz.prog 89 #[ins k a b c m] w fun e w' => e = .returned (.bool true) ∧ w' = w.alloc (row k a b c m)))
    (HK : Hid (∀ w, Calls Tryz.prog 90 #[ins k a b c m, .int .i64 f] w fun e w' => e = .returned (ins k A B C M) ∧ w' = (w.alloc (row k A B C M)).alloc (row k A B C M))) (g0 : (a == A) = false) :
    Calls Tryz.prog 65 #[ins k a b c m] w fun e w' => e = .returned (.bool false) ∧ Below w.heap.size w w' := by
  have HI : Hid _ := fun w => isOp_yes k w (by omega) (by omega)
  have nn := World.new_ne w _ hc
  have k0 : (0 : Int) ≤ (k : Int) := by omega
  have k1 : (k : Int) < 33 := by omega
  go_enter Tryz.func65, Tryz.ntmps65
  go_wp2
  go_region_held3 (fun w' => w'.cell? ⟨w.heap.size, 0, none⟩ = some (.int .i64 k) ∧ w'.cell? ⟨w.heap.size, 1, none⟩ = some (.int .i64 a) ∧ w'.cell? ⟨w.heap.size, 2, none⟩ = some (.int .i64 b) ∧ w'.cell? ⟨w.heap.size, 3, none⟩ = some (.int .i64 c) ∧ w'.cell? ⟨w.heap.size, 4, none⟩ = some (.int .i64 m) ∧ w'.cell? ⟨1, k, none⟩ = some (.int .i64 f)) (refine ⟨?_, ?_, ?_, ?_, ?_, ?_⟩ <;> repeat (first | exact hc | exact new_cell _ _ _ _ _ rfl | refine cell_drew ?_ | refine cell_alloc ?_))
    (first | (go_at_call 88; refine Calls.mono (HI.out _) ?_; rintro e w' ⟨rfl, rfl⟩) | (go_at_call 89; refine Calls.mono (HR.out _) ?_; rintro e w' ⟨rfl, rfl⟩) | (go_at_call 90; refine Calls.mono (HK.out _) ?_; rintro e w' ⟨rfl, rfl⟩))
  all_goals go_wp2
  all_goals go_ret
  all_goals exact ⟨rfl, Below.drew (((((Below.refl _ w).alloc (Nat.le_refl _) _).alloc (by simp) _).alloc (by simp; omega) _).alloc (by simp; omega) _)⟩
set_option maxHeartbeats 1000000 in
theorem impl_ok_1 (k : Nat) (a b c m f A B C M : Int) (w : World) (hk : k < 33) (hc : w.cell? ⟨1, k, none⟩ = some (.int .i64 f))
    (HR : Hid (∀ w, Calls Tryz.prog 89 #[ins k a b c m] w fun e w' => e = .returned (.bool true) ∧ w' = w.alloc (row k a b c m)))
    (HK : Hid (∀ w, Calls Tryz.prog 90 #[ins k a b c m, .int .i64 f] w fun e w' => e = .returned (ins k A B C M) ∧ w' = (w.alloc (row k A B C M)).alloc (row k A B C M))) (g0 : a = A) (g1 : (b == B) = false) :
    Calls Tryz.prog 65 #[ins k a b c m] w fun e w' => e = .returned (.bool false) ∧ Below w.heap.size w w' := by
  have HI : Hid _ := fun w => isOp_yes k w (by omega) (by omega)
  have nn := World.new_ne w _ hc
  have k0 : (0 : Int) ≤ (k : Int) := by omega
  have k1 : (k : Int) < 33 := by omega
  subst g0
  go_enter Tryz.func65, Tryz.ntmps65
  go_wp2
  go_region_held3 (fun w' => w'.cell? ⟨w.heap.size, 0, none⟩ = some (.int .i64 k) ∧ w'.cell? ⟨w.heap.size, 1, none⟩ = some (.int .i64 a) ∧ w'.cell? ⟨w.heap.size, 2, none⟩ = some (.int .i64 b) ∧ w'.cell? ⟨w.heap.size, 3, none⟩ = some (.int .i64 c) ∧ w'.cell? ⟨w.heap.size, 4, none⟩ = some (.int .i64 m) ∧ w'.cell? ⟨1, k, none⟩ = some (.int .i64 f)) (refine ⟨?_, ?_, ?_, ?_, ?_, ?_⟩ <;> repeat (first | exact hc | exact new_cell _ _ _ _ _ rfl | refine cell_drew ?_ | refine cell_alloc ?_))
    (first | (go_at_call 88; refine Calls.mono (HI.out _) ?_; rintro e w' ⟨rfl, rfl⟩) | (go_at_call 89; refine Calls.mono (HR.out _) ?_; rintro e w' ⟨rfl, rfl⟩) | (go_at_call 90; refine Calls.mono (HK.out _) ?_; rintro e w' ⟨rfl, rfl⟩))
  all_goals go_wp2
  all_goals go_ret
  all_goals exact ⟨rfl, Below.drew (((((Below.refl _ w).alloc (Nat.le_refl _) _).alloc (by simp) _).alloc (by simp; omega) _).alloc (by simp; omega) _)⟩
set_option maxHeartbeats 1000000 in
theorem impl_ok_2 (k : Nat) (a b c m f A B C M : Int) (w : World) (hk : k < 33) (hc : w.cell? ⟨1, k, none⟩ = some (.int .i64 f))
    (HR : Hid (∀ w, Calls Tryz.prog 89 #[ins k a b c m] w fun e w' => e = .returned (.bool true) ∧ w' = w.alloc (row k a b c m)))
    (HK : Hid (∀ w, Calls Tryz.prog 90 #[ins k a b c m, .int .i64 f] w fun e w' => e = .returned (ins k A B C M) ∧ w' = (w.alloc (row k A B C M)).alloc (row k A B C M))) (g0 : a = A) (g1 : b = B) (g2 : (c == C) = false) :
    Calls Tryz.prog 65 #[ins k a b c m] w fun e w' => e = .returned (.bool false) ∧ Below w.heap.size w w' := by
  have HI : Hid _ := fun w => isOp_yes k w (by omega) (by omega)
  have nn := World.new_ne w _ hc
  have k0 : (0 : Int) ≤ (k : Int) := by omega
  have k1 : (k : Int) < 33 := by omega
  subst g0
  subst g1
  go_enter Tryz.func65, Tryz.ntmps65
  go_wp2
  go_region_held3 (fun w' => w'.cell? ⟨w.heap.size, 0, none⟩ = some (.int .i64 k) ∧ w'.cell? ⟨w.heap.size, 1, none⟩ = some (.int .i64 a) ∧ w'.cell? ⟨w.heap.size, 2, none⟩ = some (.int .i64 b) ∧ w'.cell? ⟨w.heap.size, 3, none⟩ = some (.int .i64 c) ∧ w'.cell? ⟨w.heap.size, 4, none⟩ = some (.int .i64 m) ∧ w'.cell? ⟨1, k, none⟩ = some (.int .i64 f)) (refine ⟨?_, ?_, ?_, ?_, ?_, ?_⟩ <;> repeat (first | exact hc | exact new_cell _ _ _ _ _ rfl | refine cell_drew ?_ | refine cell_alloc ?_))
    (first | (go_at_call 88; refine Calls.mono (HI.out _) ?_; rintro e w' ⟨rfl, rfl⟩) | (go_at_call 89; refine Calls.mono (HR.out _) ?_; rintro e w' ⟨rfl, rfl⟩) | (go_at_call 90; refine Calls.mono (HK.out _) ?_; rintro e w' ⟨rfl, rfl⟩))
  all_goals go_wp2
  all_goals go_ret
  all_goals exact ⟨rfl, Below.drew (((((Below.refl _ w).alloc (Nat.le_refl _) _).alloc (by simp) _).alloc (by simp; omega) _).alloc (by simp; omega) _)⟩
set_option maxHeartbeats 1000000 in
theorem impl_ok_3 (k : Nat) (a b c m f A B C M : Int) (w : World) (hk : k < 33) (hc : w.cell? ⟨1, k, none⟩ = some (.int .i64 f))
    (HR : Hid (∀ w, Calls Tryz.prog 89 #[ins k a b c m] w fun e w' => e = .returned (.bool true) ∧ w' = w.alloc (row k a b c m)))
    (HK : Hid (∀ w, Calls Tryz.prog 90 #[ins k a b c m, .int .i64 f] w fun e w' => e = .returned (ins k A B C M) ∧ w' = (w.alloc (row k A B C M)).alloc (row k A B C M))) (g0 : a = A) (g1 : b = B) (g2 : c = C) (g3 : (m == M) = false) :
    Calls Tryz.prog 65 #[ins k a b c m] w fun e w' => e = .returned (.bool false) ∧ Below w.heap.size w w' := by
  have HI : Hid _ := fun w => isOp_yes k w (by omega) (by omega)
  have nn := World.new_ne w _ hc
  have k0 : (0 : Int) ≤ (k : Int) := by omega
  have k1 : (k : Int) < 33 := by omega
  subst g0
  subst g1
  subst g2
  go_enter Tryz.func65, Tryz.ntmps65
  go_wp2
  go_region_held3 (fun w' => w'.cell? ⟨w.heap.size, 0, none⟩ = some (.int .i64 k) ∧ w'.cell? ⟨w.heap.size, 1, none⟩ = some (.int .i64 a) ∧ w'.cell? ⟨w.heap.size, 2, none⟩ = some (.int .i64 b) ∧ w'.cell? ⟨w.heap.size, 3, none⟩ = some (.int .i64 c) ∧ w'.cell? ⟨w.heap.size, 4, none⟩ = some (.int .i64 m) ∧ w'.cell? ⟨1, k, none⟩ = some (.int .i64 f)) (refine ⟨?_, ?_, ?_, ?_, ?_, ?_⟩ <;> repeat (first | exact hc | exact new_cell _ _ _ _ _ rfl | refine cell_drew ?_ | refine cell_alloc ?_))
    (first | (go_at_call 88; refine Calls.mono (HI.out _) ?_; rintro e w' ⟨rfl, rfl⟩) | (go_at_call 89; refine Calls.mono (HR.out _) ?_; rintro e w' ⟨rfl, rfl⟩) | (go_at_call 90; refine Calls.mono (HK.out _) ?_; rintro e w' ⟨rfl, rfl⟩))
  all_goals go_wp2
  all_goals go_ret
  all_goals exact ⟨rfl, Below.drew (((((Below.refl _ w).alloc (Nat.le_refl _) _).alloc (by simp) _).alloc (by simp; omega) _).alloc (by simp; omega) _)⟩
set_option maxHeartbeats 1000000 in
theorem impl_ok_4 (k : Nat) (a b c m f A B C M : Int) (w : World) (hk : k < 33) (hc : w.cell? ⟨1, k, none⟩ = some (.int .i64 f))
    (HR : Hid (∀ w, Calls Tryz.prog 89 #[ins k a b c m] w fun e w' => e = .returned (.bool true) ∧ w' = w.alloc (row k a b c m)))
    (HK : Hid (∀ w, Calls Tryz.prog 90 #[ins k a b c m, .int .i64 f] w fun e w' => e = .returned (ins k A B C M) ∧ w' = (w.alloc (row k A B C M)).alloc (row k A B C M))) (g0 : a = A) (g1 : b = B) (g2 : c = C) (g3 : m = M) :
    Calls Tryz.prog 65 #[ins k a b c m] w fun e w' => e = .returned (.bool true) ∧ Below w.heap.size w w' := by
  have HI : Hid _ := fun w => isOp_yes k w (by omega) (by omega)
  have nn := World.new_ne w _ hc
  have k0 : (0 : Int) ≤ (k : Int) := by omega
  have k1 : (k : Int) < 33 := by omega
  subst g0
  subst g1
  subst g2
  subst g3
  go_enter Tryz.func65, Tryz.ntmps65
  go_wp2
  go_region_held3 (fun w' => w'.cell? ⟨w.heap.size, 0, none⟩ = some (.int .i64 k) ∧ w'.cell? ⟨w.heap.size, 1, none⟩ = some (.int .i64 a) ∧ w'.cell? ⟨w.heap.size, 2, none⟩ = some (.int .i64 b) ∧ w'.cell? ⟨w.heap.size, 3, none⟩ = some (.int .i64 c) ∧ w'.cell? ⟨w.heap.size, 4, none⟩ = some (.int .i64 m) ∧ w'.cell? ⟨1, k, none⟩ = some (.int .i64 f)) (refine ⟨?_, ?_, ?_, ?_, ?_, ?_⟩ <;> repeat (first | exact hc | exact new_cell _ _ _ _ _ rfl | refine cell_drew ?_ | refine cell_alloc ?_))
    (first | (go_at_call 88; refine Calls.mono (HI.out _) ?_; rintro e w' ⟨rfl, rfl⟩) | (go_at_call 89; refine Calls.mono (HR.out _) ?_; rintro e w' ⟨rfl, rfl⟩) | (go_at_call 90; refine Calls.mono (HK.out _) ?_; rintro e w' ⟨rfl, rfl⟩))
  all_goals go_wp2
  all_goals go_ret
  all_goals exact ⟨rfl, Below.drew (((((Below.refl _ w).alloc (Nat.le_refl _) _).alloc (by simp) _).alloc (by simp; omega) _).alloc (by simp; omega) _)⟩
set_option maxHeartbeats 1000000 in
theorem impl_ok_far (k : Nat) (a b c m f : Int) (w : World) (hk : k < 33) (hc : w.cell? ⟨1, k, none⟩ = some (.int .i64 f))
    (h : ¬ (0 ≤ a ∧ a ≤ 15 ∧ 0 ≤ b ∧ b ≤ 15 ∧ 0 ≤ c ∧ c ≤ 15 ∧ -8192 ≤ m ∧ m ≤ 8191)) :
    Calls Tryz.prog 65 #[ins k a b c m] w fun e w' => e = .returned (.bool false) ∧ Below w.heap.size w w' := by
  have HI : Hid _ := fun w => isOp_yes k w (by omega) (by omega)
  have HR : Hid _ := fun w => range_no k a b c m w h
  clear h
  have nn := World.new_ne w _ hc
  have k0 : (0 : Int) ≤ (k : Int) := by omega
  have k1 : (k : Int) < 33 := by omega
  go_enter Tryz.func65, Tryz.ntmps65
  go_wp2
  first | go_region_with (first | (go_at_call 88; refine Calls.mono (HI.out _) ?_; rintro e w' ⟨rfl, rfl⟩) | (go_at_call 89; refine Calls.mono (HR.out _) ?_; rintro e w' ⟨rfl, rfl⟩)) | fail
  all_goals go_wp2
  all_goals go_ret
  all_goals exact ⟨rfl, Below.drew (((Below.refl _ w).alloc (Nat.le_refl _) _).alloc (by simp) _)⟩
set_option maxHeartbeats 1000000 in
theorem impl_ok_none (k a b c m : Int) (w : World) (h : ¬ (0 ≤ k ∧ k < 33)) :
    Calls Tryz.prog 65 #[ins k a b c m] w fun e w' => e = .returned (.bool false) ∧ Below w.heap.size w w' := by
  have HI : Hid _ := fun w => isOp_no k w h
  clear h
  go_enter Tryz.func65, Tryz.ntmps65
  go_wp2
  first | go_region_with (go_at_call 88; refine Calls.mono (HI.out _) ?_; rintro e w' ⟨rfl, rfl⟩) | fail
  all_goals go_wp2
  all_goals go_ret
  all_goals exact ⟨rfl, Below.drew ((Below.refl _ w).alloc (Nat.le_refl _) _)⟩
end Go.Proofs.YtdjapcfejmhjnaaGreatDoor
