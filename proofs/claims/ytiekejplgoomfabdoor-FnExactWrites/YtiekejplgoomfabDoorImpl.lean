/-
  What the program's own Writes and Reads return: the registers that the tables name, in memory of the call's own. Condition: the program's tables lie in memory as the program's text lays them.
-/
import Derived.Test.YtiekejplgoomfabDoorRegset
import Derived.Deep.RegionHeld3
namespace Go.Proofs.YtiekejplgoomfabDoor
open Go.ChangeShapes Go.WideShapes Go.ChangeAt Go.RowKit
set_option linter.unusedVariables false

set_option maxHeartbeats 1000000 in
theorem impl_writes_yes (k : Nat) (a b c m f : Int) (w : World) (ht : Tab w) (hc : w.cell? ⟨0, k, none⟩ = some (.int .i64 f)) (hk : k < 33) (h : instrOk k a b c m = true) :
    Calls Tryd.prog 7 #[ins k a b c m] w fun e w' => ∃ ad cap, e = .returned (.slice ad (regset f a b c).length cap) ∧ OwnAt w' w.heap.size ad (regset f a b c) ∧ Below w.heap.size w w' := by
  obtain ⟨_, _, h3, h4, h5, h6, h7, h8, _, _⟩ := instrOk_bounds k a b c m h
  have HQ : Hid _ := h
  have HT : Hid _ := ht
  have HR : Hid (∀ w, Calls Tryd.prog 17 #[ins k a b c m, .int .i64 f] w fun e w' => ∃ ad cap, e = .returned (.slice ad (regset f a b c).length cap) ∧ OwnAt w' w.heap.size ad (regset f a b c) ∧ Below w.heap.size w w') := fun w => regs_any k a b c m f _ _ _ w rfl rfl rfl (kp_bd f 1 a h3 h4).1 (kp_bd f 1 a h3 h4).2 (kp_bd f 2 b h5 h6).1 (kp_bd f 2 b h5 h6).2 (kp_bd f 4 c h7 h8).1 (kp_bd f 4 c h7 h8).2
  have k0 : (0 : Int) ≤ (k : Int) := by omega
  have k1 : (k : Int) < 33 := by omega
  clear h ht h3 h4 h5 h6 h7 h8
  go_enter Tryd.func7, Tryd.ntmps7
  go_wp2_with fail
  refine (impl_ok k a b c m _ (Tab.below HT.out ((Below.refl _ w).alloc (Nat.le_refl _) _))).mono ?_
  rintro e w1 ⟨rfl, hb⟩
  rw [HQ.out]
  have hb0 := ((Below.refl _ w).alloc (Nat.le_refl _) (row k a b c m)).trans (hb.mono (by simp))
  have hr : ∀ i v, (#[Value.int .i64 k, .int .i64 a, .int .i64 b, .int .i64 c, .int .i64 m] : Array Value)[i]? = some v → w1.cell? ⟨w.heap.size, i, none⟩ = some v := fun i v h =>
    (hb.cell (p := ⟨w.heap.size, i, none⟩) (by simp)).trans (new_cell w _ 26 i v h)
  have c0 := hr 0 (.int .i64 k) rfl
  have c1 := hr 1 (.int .i64 a) rfl
  have c2 := hr 2 (.int .i64 b) rfl
  have c3 := hr 3 (.int .i64 c) rfl
  have c4 := hr 4 (.int .i64 m) rfl
  have ct := (hb0.cell (p := ⟨0, k, none⟩) (World.block_lt_of_cell? w _ hc)).trans hc
  clear hr hb hc
  go_wp2
  go_region_held3 (fun w' => w'.cell? ⟨w.heap.size, 0, none⟩ = some (.int .i64 k) ∧ w'.cell? ⟨w.heap.size, 1, none⟩ = some (.int .i64 a) ∧ w'.cell? ⟨w.heap.size, 2, none⟩ = some (.int .i64 b) ∧ w'.cell? ⟨w.heap.size, 3, none⟩ = some (.int .i64 c) ∧ w'.cell? ⟨w.heap.size, 4, none⟩ = some (.int .i64 m) ∧ w'.cell? ⟨0, k, none⟩ = some (.int .i64 f)) (first | exact ⟨c0, c1, c2, c3, c4, ct⟩ | exact ⟨cell_kept hbb c0, cell_kept hbb c1, cell_kept hbb c2, cell_kept hbb c3, cell_kept hbb c4, cell_kept hbb ct⟩)
    (first | (go_at_call 17; refine Calls.mono (HR.out _) ?_; rintro e w' ⟨ad, cap, rfl, hown, hbb⟩))
  all_goals go_wp2
  all_goals go_ret
  all_goals exact ⟨ad, cap, rfl, fun h0 => by
    obtain ⟨B, off, e1, e2, e3⟩ := hown h0
    exact ⟨B, off, e1, Nat.le_trans hb0.size e2, e3⟩, hb0.drew.trans (Below.mono hbb hb0.size)⟩
theorem impl_writes_bad (op a b c m : Int) (w : World) (ht : Tab w) (h : instrOk op a b c m = false) :
    Calls Tryd.prog 7 #[ins op a b c m] w fun e w' => ∃ ad cap, e = .returned (.slice ad 0 cap) ∧ OwnAt w' w.heap.size ad [] ∧ Below w.heap.size w w' := by
  have HQ : Hid _ := h
  have HT : Hid _ := ht
  clear h ht
  go_enter Tryd.func7, Tryd.ntmps7
  go_wp2_with fail
  refine (impl_ok op a b c m _ (Tab.below HT.out ((Below.refl _ w).alloc (Nat.le_refl _) _))).mono ?_
  rintro e w1 ⟨rfl, hb⟩
  rw [HQ.out]
  have hb0 := ((Below.refl _ w).alloc (Nat.le_refl _) (row op a b c m)).trans (hb.mono (by simp))
  go_wp2
  go_ret
  exact ⟨_, _, rfl, fun h => absurd h (by simp), hb0.alloc hb0.size _⟩
set_option maxHeartbeats 1000000 in
theorem impl_reads_yes (k : Nat) (a b c m f : Int) (w : World) (ht : Tab w) (hc : w.cell? ⟨1, k, none⟩ = some (.int .i64 f)) (hk : k < 33) (h : instrOk k a b c m = true) :
    Calls Tryd.prog 12 #[ins k a b c m] w fun e w' => ∃ ad cap, e = .returned (.slice ad (regset f a b c).length cap) ∧ OwnAt w' w.heap.size ad (regset f a b c) ∧ Below w.heap.size w w' := by
  obtain ⟨_, _, h3, h4, h5, h6, h7, h8, _, _⟩ := instrOk_bounds k a b c m h
  have HQ : Hid _ := h
  have HT : Hid _ := ht
  have HR : Hid (∀ w, Calls Tryd.prog 17 #[ins k a b c m, .int .i64 f] w fun e w' => ∃ ad cap, e = .returned (.slice ad (regset f a b c).length cap) ∧ OwnAt w' w.heap.size ad (regset f a b c) ∧ Below w.heap.size w w') := fun w => regs_any k a b c m f _ _ _ w rfl rfl rfl (kp_bd f 1 a h3 h4).1 (kp_bd f 1 a h3 h4).2 (kp_bd f 2 b h5 h6).1 (kp_bd f 2 b h5 h6).2 (kp_bd f 4 c h7 h8).1 (kp_bd f 4 c h7 h8).2
  have k0 : (0 : Int) ≤ (k : Int) := by omega
  have k1 : (k : Int) < 33 := by omega
  clear h ht h3 h4 h5 h6 h7 h8
  go_enter Tryd.func12, Tryd.ntmps12
  go_wp2_with fail
  refine (impl_ok k a b c m _ (Tab.below HT.out ((Below.refl _ w).alloc (Nat.le_refl _) _))).mono ?_
  rintro e w1 ⟨rfl, hb⟩
  rw [HQ.out]
  have hb0 := ((Below.refl _ w).alloc (Nat.le_refl _) (row k a b c m)).trans (hb.mono (by simp))
  have hr : ∀ i v, (#[Value.int .i64 k, .int .i64 a, .int .i64 b, .int .i64 c, .int .i64 m] : Array Value)[i]? = some v → w1.cell? ⟨w.heap.size, i, none⟩ = some v := fun i v h =>
    (hb.cell (p := ⟨w.heap.size, i, none⟩) (by simp)).trans (new_cell w _ 26 i v h)
  have c0 := hr 0 (.int .i64 k) rfl
  have c1 := hr 1 (.int .i64 a) rfl
  have c2 := hr 2 (.int .i64 b) rfl
  have c3 := hr 3 (.int .i64 c) rfl
  have c4 := hr 4 (.int .i64 m) rfl
  have ct := (hb0.cell (p := ⟨1, k, none⟩) (World.block_lt_of_cell? w _ hc)).trans hc
  clear hr hb hc
  go_wp2
  go_region_held3 (fun w' => w'.cell? ⟨w.heap.size, 0, none⟩ = some (.int .i64 k) ∧ w'.cell? ⟨w.heap.size, 1, none⟩ = some (.int .i64 a) ∧ w'.cell? ⟨w.heap.size, 2, none⟩ = some (.int .i64 b) ∧ w'.cell? ⟨w.heap.size, 3, none⟩ = some (.int .i64 c) ∧ w'.cell? ⟨w.heap.size, 4, none⟩ = some (.int .i64 m) ∧ w'.cell? ⟨1, k, none⟩ = some (.int .i64 f)) (first | exact ⟨c0, c1, c2, c3, c4, ct⟩ | exact ⟨cell_kept hbb c0, cell_kept hbb c1, cell_kept hbb c2, cell_kept hbb c3, cell_kept hbb c4, cell_kept hbb ct⟩)
    (first | (go_at_call 17; refine Calls.mono (HR.out _) ?_; rintro e w' ⟨ad, cap, rfl, hown, hbb⟩))
  all_goals go_wp2
  all_goals go_ret
  all_goals exact ⟨ad, cap, rfl, fun h0 => by
    obtain ⟨B, off, e1, e2, e3⟩ := hown h0
    exact ⟨B, off, e1, Nat.le_trans hb0.size e2, e3⟩, hb0.drew.trans (Below.mono hbb hb0.size)⟩
theorem impl_reads_bad (op a b c m : Int) (w : World) (ht : Tab w) (h : instrOk op a b c m = false) :
    Calls Tryd.prog 12 #[ins op a b c m] w fun e w' => ∃ ad cap, e = .returned (.slice ad 0 cap) ∧ OwnAt w' w.heap.size ad [] ∧ Below w.heap.size w w' := by
  have HQ : Hid _ := h
  have HT : Hid _ := ht
  clear h ht
  go_enter Tryd.func12, Tryd.ntmps12
  go_wp2_with fail
  refine (impl_ok op a b c m _ (Tab.below HT.out ((Below.refl _ w).alloc (Nat.le_refl _) _))).mono ?_
  rintro e w1 ⟨rfl, hb⟩
  rw [HQ.out]
  have hb0 := ((Below.refl _ w).alloc (Nat.le_refl _) (row op a b c m)).trans (hb.mono (by simp))
  go_wp2
  go_ret
  exact ⟨_, _, rfl, fun h => absurd h (by simp), hb0.alloc hb0.size _⟩
end Go.Proofs.YtiekejplgoomfabDoor
