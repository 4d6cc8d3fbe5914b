/-
  Which registers an instruction writes and reads: what the specification's Writes and Reads return, at every instruction. No conditions.
-/
import Derived.Test.YtiekejplgoomfabDoorInstr
import Derived.Test.YtiekejplgoomfabDoorSet
namespace Go.Proofs.YtiekejplgoomfabDoor
open Go.ChangeShapes Go.WideShapes Go.ChangeAt Go.RowKit
set_option linter.unusedVariables false

set_option maxHeartbeats 1000000 in
theorem specW_low (op a b c m : Int) (w : World) (h : instrOk op a b c m = true) (h1 : 1 ≤ op) (h2 : op ≤ 15) :
    Calls Tryd.prog 5 #[ins op a b c m] w fun e w' => ∃ ad cap, e = .returned (.slice ad (setOf [a]).length cap) ∧ Seg .i64 w' ad (setOf [a]) ∧ Below w.heap.size w w' := by
  have HQ : Hid _ := h
  clear h
  go_enter Tryd.func5, Tryd.ntmps5
  go_wp2_with fail
  refine (spec_ok op a b c m _).mono ?_
  rintro e w1 ⟨rfl, hb⟩
  rw [HQ.out]
  have hb0 := ((Below.refl _ w).alloc (Nat.le_refl _) (row op a b c m)).trans (hb.mono (by simp))
  have hr : ∀ i v, (#[Value.int .i64 op, .int .i64 a, .int .i64 b, .int .i64 c, .int .i64 m] : Array Value)[i]? = some v → w1.cell? ⟨w.heap.size, i, none⟩ = some v := fun i v h =>
    (hb.cell (p := ⟨w.heap.size, i, none⟩) (by simp)).trans (new_cell w _ 26 i v h)
  have c0 := hr 0 (.int .i64 op) rfl
  have c1 := hr 1 (.int .i64 a) rfl
  have c2 := hr 2 (.int .i64 b) rfl
  have c3 := hr 3 (.int .i64 c) rfl
  clear hr hb
  go_wp2_with fail
  refine (in_yes _ _ _ _ (by omega) (by omega)).mono ?_
  rintro e w2 ⟨rfl, rfl⟩
  go_wp2_with fail
  refine (set_one a _ _ _ (new_cell _ _ 3 0 _ rfl)).mono ?_
  rintro e w3 ⟨ad, cap, rfl, hs, hb3⟩
  have hb1 := hb0.alloc hb0.size (.cells #[.int .i64 a] 3)
  go_wp2
  go_ret
  exact ⟨ad, cap, rfl, hs, hb1.trans (hb3.mono hb1.size)⟩
set_option maxHeartbeats 1000000 in
theorem specW_17 (op a b c m : Int) (w : World) (h : instrOk op a b c m = true) (hi : ¬ (1 ≤ op ∧ op ≤ 15))  (y17 : (op == 17) = true) :
    Calls Tryd.prog 5 #[ins op a b c m] w fun e w' => ∃ ad cap, e = .returned (.slice ad (setOf [a]).length cap) ∧ Seg .i64 w' ad (setOf [a]) ∧ Below w.heap.size w w' := by
  have HQ : Hid _ := h
  clear h
  go_enter Tryd.func5, Tryd.ntmps5
  go_wp2_with fail
  refine (spec_ok op a b c m _).mono ?_
  rintro e w1 ⟨rfl, hb⟩
  rw [HQ.out]
  have hb0 := ((Below.refl _ w).alloc (Nat.le_refl _) (row op a b c m)).trans (hb.mono (by simp))
  have hr : ∀ i v, (#[Value.int .i64 op, .int .i64 a, .int .i64 b, .int .i64 c, .int .i64 m] : Array Value)[i]? = some v → w1.cell? ⟨w.heap.size, i, none⟩ = some v := fun i v h =>
    (hb.cell (p := ⟨w.heap.size, i, none⟩) (by simp)).trans (new_cell w _ 26 i v h)
  have c0 := hr 0 (.int .i64 op) rfl
  have c1 := hr 1 (.int .i64 a) rfl
  have c2 := hr 2 (.int .i64 b) rfl
  have c3 := hr 3 (.int .i64 c) rfl
  clear hr hb
  go_wp2_with fail
  refine (in_no _ _ _ _ hi).mono ?_
  rintro e w2 ⟨rfl, rfl⟩
  go_wp2_with fail
  refine (set_one a _ _ _ (new_cell _ _ 3 0 _ rfl)).mono ?_
  rintro e w3 ⟨ad, cap, rfl, hs, hb3⟩
  have hb1 := hb0.alloc hb0.size (.cells #[.int .i64 a] 3)
  go_wp2
  go_ret
  exact ⟨ad, cap, rfl, hs, hb1.trans (hb3.mono hb1.size)⟩
set_option maxHeartbeats 1000000 in
theorem specW_22 (op a b c m : Int) (w : World) (h : instrOk op a b c m = true) (hi : ¬ (1 ≤ op ∧ op ≤ 15)) (n17 : (op == 17) = false) (y22 : (op == 22) = true) :
    Calls Tryd.prog 5 #[ins op a b c m] w fun e w' => ∃ ad cap, e = .returned (.slice ad (setOf [a]).length cap) ∧ Seg .i64 w' ad (setOf [a]) ∧ Below w.heap.size w w' := by
  have HQ : Hid _ := h
  clear h
  go_enter Tryd.func5, Tryd.ntmps5
  go_wp2_with fail
  refine (spec_ok op a b c m _).mono ?_
  rintro e w1 ⟨rfl, hb⟩
  rw [HQ.out]
  have hb0 := ((Below.refl _ w).alloc (Nat.le_refl _) (row op a b c m)).trans (hb.mono (by simp))
  have hr : ∀ i v, (#[Value.int .i64 op, .int .i64 a, .int .i64 b, .int .i64 c, .int .i64 m] : Array Value)[i]? = some v → w1.cell? ⟨w.heap.size, i, none⟩ = some v := fun i v h =>
    (hb.cell (p := ⟨w.heap.size, i, none⟩) (by simp)).trans (new_cell w _ 26 i v h)
  have c0 := hr 0 (.int .i64 op) rfl
  have c1 := hr 1 (.int .i64 a) rfl
  have c2 := hr 2 (.int .i64 b) rfl
  have c3 := hr 3 (.int .i64 c) rfl
  clear hr hb
  go_wp2_with fail
  refine (in_no _ _ _ _ hi).mono ?_
  rintro e w2 ⟨rfl, rfl⟩
  go_wp2_with fail
  refine (set_one a _ _ _ (new_cell _ _ 3 0 _ rfl)).mono ?_
  rintro e w3 ⟨ad, cap, rfl, hs, hb3⟩
  have hb1 := hb0.alloc hb0.size (.cells #[.int .i64 a] 3)
  go_wp2
  go_ret
  exact ⟨ad, cap, rfl, hs, hb1.trans (hb3.mono hb1.size)⟩
set_option maxHeartbeats 1000000 in
theorem specW_24 (op a b c m : Int) (w : World) (h : instrOk op a b c m = true) (hi : ¬ (1 ≤ op ∧ op ≤ 15)) (n17 : (op == 17) = false) (n22 : (op == 22) = false) (y24 : (op == 24) = true) :
    Calls Tryd.prog 5 #[ins op a b c m] w fun e w' => ∃ ad cap, e = .returned (.slice ad (setOf [a]).length cap) ∧ Seg .i64 w' ad (setOf [a]) ∧ Below w.heap.size w w' := by
  have HQ : Hid _ := h
  clear h
  go_enter Tryd.func5, Tryd.ntmps5
  go_wp2_with fail
  refine (spec_ok op a b c m _).mono ?_
  rintro e w1 ⟨rfl, hb⟩
  rw [HQ.out]
  have hb0 := ((Below.refl _ w).alloc (Nat.le_refl _) (row op a b c m)).trans (hb.mono (by simp))
  have hr : ∀ i v, (#[Value.int .i64 op, .int .i64 a, .int .i64 b, .int .i64 c, .int .i64 m] : Array Value)[i]? = some v → w1.cell? ⟨w.heap.size, i, none⟩ = some v := fun i v h =>
    (hb.cell (p := ⟨w.heap.size, i, none⟩) (by simp)).trans (new_cell w _ 26 i v h)
  have c0 := hr 0 (.int .i64 op) rfl
  have c1 := hr 1 (.int .i64 a) rfl
  have c2 := hr 2 (.int .i64 b) rfl
  have c3 := hr 3 (.int .i64 c) rfl
  clear hr hb
  go_wp2_with fail
  refine (in_no _ _ _ _ hi).mono ?_
  rintro e w2 ⟨rfl, rfl⟩
  go_wp2_with fail
  refine (set_one a _ _ _ (new_cell _ _ 3 0 _ rfl)).mono ?_
  rintro e w3 ⟨ad, cap, rfl, hs, hb3⟩
  have hb1 := hb0.alloc hb0.size (.cells #[.int .i64 a] 3)
  go_wp2
  go_ret
  exact ⟨ad, cap, rfl, hs, hb1.trans (hb3.mono hb1.size)⟩
set_option maxHeartbeats 1000000 in
theorem specW_25 (op a b c m : Int) (w : World) (h : instrOk op a b c m = true) (hi : ¬ (1 ≤ op ∧ op ≤ 15)) (n17 : (op == 17) = false) (n22 : (op == 22) = false) (n24 : (op == 24) = false) (y25 : (op == 25) = true) :
    Calls Tryd.prog 5 #[ins op a b c m] w fun e w' => ∃ ad cap, e = .returned (.slice ad (setOf [a]).length cap) ∧ Seg .i64 w' ad (setOf [a]) ∧ Below w.heap.size w w' := by
  have HQ : Hid _ := h
  clear h
  go_enter Tryd.func5, Tryd.ntmps5
  go_wp2_with fail
  refine (spec_ok op a b c m _).mono ?_
  rintro e w1 ⟨rfl, hb⟩
  rw [HQ.out]
  have hb0 := ((Below.refl _ w).alloc (Nat.le_refl _) (row op a b c m)).trans (hb.mono (by simp))
  have hr : ∀ i v, (#[Value.int .i64 op, .int .i64 a, .int .i64 b, .int .i64 c, .int .i64 m] : Array Value)[i]? = some v → w1.cell? ⟨w.heap.size, i, none⟩ = some v := fun i v h =>
    (hb.cell (p := ⟨w.heap.size, i, none⟩) (by simp)).trans (new_cell w _ 26 i v h)
  have c0 := hr 0 (.int .i64 op) rfl
  have c1 := hr 1 (.int .i64 a) rfl
  have c2 := hr 2 (.int .i64 b) rfl
  have c3 := hr 3 (.int .i64 c) rfl
  clear hr hb
  go_wp2_with fail
  refine (in_no _ _ _ _ hi).mono ?_
  rintro e w2 ⟨rfl, rfl⟩
  go_wp2_with fail
  refine (set_one a _ _ _ (new_cell _ _ 3 0 _ rfl)).mono ?_
  rintro e w3 ⟨ad, cap, rfl, hs, hb3⟩
  have hb1 := hb0.alloc hb0.size (.cells #[.int .i64 a] 3)
  go_wp2
  go_ret
  exact ⟨ad, cap, rfl, hs, hb1.trans (hb3.mono hb1.size)⟩
set_option maxHeartbeats 1000000 in
theorem specW_28 (op a b c m : Int) (w : World) (h : instrOk op a b c m = true) (hi : ¬ (1 ≤ op ∧ op ≤ 15)) (n17 : (op == 17) = false) (n22 : (op == 22) = false) (n24 : (op == 24) = false) (n25 : (op == 25) = false) (y28 : (op == 28) = true) :
    Calls Tryd.prog 5 #[ins op a b c m] w fun e w' => ∃ ad cap, e = .returned (.slice ad (setOf [a]).length cap) ∧ Seg .i64 w' ad (setOf [a]) ∧ Below w.heap.size w w' := by
  have HQ : Hid _ := h
  clear h
  go_enter Tryd.func5, Tryd.ntmps5
  go_wp2_with fail
  refine (spec_ok op a b c m _).mono ?_
  rintro e w1 ⟨rfl, hb⟩
  rw [HQ.out]
  have hb0 := ((Below.refl _ w).alloc (Nat.le_refl _) (row op a b c m)).trans (hb.mono (by simp))
  have hr : ∀ i v, (#[Value.int .i64 op, .int .i64 a, .int .i64 b, .int .i64 c, .int .i64 m] : Array Value)[i]? = some v → w1.cell? ⟨w.heap.size, i, none⟩ = some v := fun i v h =>
    (hb.cell (p := ⟨w.heap.size, i, none⟩) (by simp)).trans (new_cell w _ 26 i v h)
  have c0 := hr 0 (.int .i64 op) rfl
  have c1 := hr 1 (.int .i64 a) rfl
  have c2 := hr 2 (.int .i64 b) rfl
  have c3 := hr 3 (.int .i64 c) rfl
  clear hr hb
  go_wp2_with fail
  refine (in_no _ _ _ _ hi).mono ?_
  rintro e w2 ⟨rfl, rfl⟩
  go_wp2_with fail
  refine (set_one a _ _ _ (new_cell _ _ 3 0 _ rfl)).mono ?_
  rintro e w3 ⟨ad, cap, rfl, hs, hb3⟩
  have hb1 := hb0.alloc hb0.size (.cells #[.int .i64 a] 3)
  go_wp2
  go_ret
  exact ⟨ad, cap, rfl, hs, hb1.trans (hb3.mono hb1.size)⟩
set_option maxHeartbeats 1000000 in
theorem specW_26 (op a b c m : Int) (w : World) (h : instrOk op a b c m = true) (hi : ¬ (1 ≤ op ∧ op ≤ 15)) (n17 : (op == 17) = false) (n22 : (op == 22) = false) (n24 : (op == 24) = false) (n25 : (op == 25) = false) (n28 : (op == 28) = false) (y26 : (op == 26) = true) :
    Calls Tryd.prog 5 #[ins op a b c m] w fun e w' => ∃ ad cap, e = .returned (.slice ad (setOf [a, b]).length cap) ∧ Seg .i64 w' ad (setOf [a, b]) ∧ Below w.heap.size w w' := by
  have HQ : Hid _ := h
  clear h
  go_enter Tryd.func5, Tryd.ntmps5
  go_wp2_with fail
  refine (spec_ok op a b c m _).mono ?_
  rintro e w1 ⟨rfl, hb⟩
  rw [HQ.out]
  have hb0 := ((Below.refl _ w).alloc (Nat.le_refl _) (row op a b c m)).trans (hb.mono (by simp))
  have hr : ∀ i v, (#[Value.int .i64 op, .int .i64 a, .int .i64 b, .int .i64 c, .int .i64 m] : Array Value)[i]? = some v → w1.cell? ⟨w.heap.size, i, none⟩ = some v := fun i v h =>
    (hb.cell (p := ⟨w.heap.size, i, none⟩) (by simp)).trans (new_cell w _ 26 i v h)
  have c0 := hr 0 (.int .i64 op) rfl
  have c1 := hr 1 (.int .i64 a) rfl
  have c2 := hr 2 (.int .i64 b) rfl
  have c3 := hr 3 (.int .i64 c) rfl
  clear hr hb
  go_wp2_with fail
  refine (in_no _ _ _ _ hi).mono ?_
  rintro e w2 ⟨rfl, rfl⟩
  go_wp2_with fail
  refine (set_two a b _ _ _ (new_cell _ _ 3 0 _ rfl) (new_cell _ _ 3 1 _ rfl)).mono ?_
  rintro e w3 ⟨ad, cap, rfl, hs, hb3⟩
  have hb1 := hb0.alloc hb0.size (.cells #[.int .i64 a, .int .i64 b] 3)
  go_wp2
  go_ret
  exact ⟨ad, cap, rfl, hs, hb1.trans (hb3.mono hb1.size)⟩
set_option maxHeartbeats 1000000 in
theorem specW_27 (op a b c m : Int) (w : World) (h : instrOk op a b c m = true) (hi : ¬ (1 ≤ op ∧ op ≤ 15)) (n17 : (op == 17) = false) (n22 : (op == 22) = false) (n24 : (op == 24) = false) (n25 : (op == 25) = false) (n28 : (op == 28) = false) (n26 : (op == 26) = false) (y27 : (op == 27) = true) :
    Calls Tryd.prog 5 #[ins op a b c m] w fun e w' => ∃ ad cap, e = .returned (.slice ad (setOf [a, b]).length cap) ∧ Seg .i64 w' ad (setOf [a, b]) ∧ Below w.heap.size w w' := by
  have HQ : Hid _ := h
  clear h
  go_enter Tryd.func5, Tryd.ntmps5
  go_wp2_with fail
  refine (spec_ok op a b c m _).mono ?_
  rintro e w1 ⟨rfl, hb⟩
  rw [HQ.out]
  have hb0 := ((Below.refl _ w).alloc (Nat.le_refl _) (row op a b c m)).trans (hb.mono (by simp))
  have hr : ∀ i v, (#[Value.int .i64 op, .int .i64 a, .int .i64 b, .int .i64 c, .int .i64 m] : Array Value)[i]? = some v → w1.cell? ⟨w.heap.size, i, none⟩ = some v := fun i v h =>
    (hb.cell (p := ⟨w.heap.size, i, none⟩) (by simp)).trans (new_cell w _ 26 i v h)
  have c0 := hr 0 (.int .i64 op) rfl
  have c1 := hr 1 (.int .i64 a) rfl
  have c2 := hr 2 (.int .i64 b) rfl
  have c3 := hr 3 (.int .i64 c) rfl
  clear hr hb
  go_wp2_with fail
  refine (in_no _ _ _ _ hi).mono ?_
  rintro e w2 ⟨rfl, rfl⟩
  go_wp2_with fail
  refine (set_two a b _ _ _ (new_cell _ _ 3 0 _ rfl) (new_cell _ _ 3 1 _ rfl)).mono ?_
  rintro e w3 ⟨ad, cap, rfl, hs, hb3⟩
  have hb1 := hb0.alloc hb0.size (.cells #[.int .i64 a, .int .i64 b] 3)
  go_wp2
  go_ret
  exact ⟨ad, cap, rfl, hs, hb1.trans (hb3.mono hb1.size)⟩
set_option maxHeartbeats 1000000 in
theorem specW_none (op a b c m : Int) (w : World) (h : instrOk op a b c m = true) (hi : ¬ (1 ≤ op ∧ op ≤ 15)) (n17 : (op == 17) = false) (n22 : (op == 22) = false) (n24 : (op == 24) = false) (n25 : (op == 25) = false) (n28 : (op == 28) = false) (n26 : (op == 26) = false) (n27 : (op == 27) = false) :
    Calls Tryd.prog 5 #[ins op a b c m] w fun e w' => ∃ ad cap, e = .returned (.slice ad 0 cap) ∧ Seg .i64 w' ad (([] : List Int)) ∧ Below w.heap.size w w' := by
  have HQ : Hid _ := h
  clear h
  go_enter Tryd.func5, Tryd.ntmps5
  go_wp2_with fail
  refine (spec_ok op a b c m _).mono ?_
  rintro e w1 ⟨rfl, hb⟩
  rw [HQ.out]
  have hb0 := ((Below.refl _ w).alloc (Nat.le_refl _) (row op a b c m)).trans (hb.mono (by simp))
  have hr : ∀ i v, (#[Value.int .i64 op, .int .i64 a, .int .i64 b, .int .i64 c, .int .i64 m] : Array Value)[i]? = some v → w1.cell? ⟨w.heap.size, i, none⟩ = some v := fun i v h =>
    (hb.cell (p := ⟨w.heap.size, i, none⟩) (by simp)).trans (new_cell w _ 26 i v h)
  have c0 := hr 0 (.int .i64 op) rfl
  have c1 := hr 1 (.int .i64 a) rfl
  have c2 := hr 2 (.int .i64 b) rfl
  have c3 := hr 3 (.int .i64 c) rfl
  clear hr hb
  go_wp2_with fail
  refine (in_no _ _ _ _ hi).mono ?_
  rintro e w2 ⟨rfl, rfl⟩
  go_wp2
  go_ret
  exact ⟨_, _, rfl, fun h => absurd h (by simp), hb0.alloc hb0.size _⟩
set_option maxHeartbeats 1000000 in
theorem specR_low (op a b c m : Int) (w : World) (h : instrOk op a b c m = true) (h1 : 1 ≤ op) (h2 : op ≤ 12) :
    Calls Tryd.prog 11 #[ins op a b c m] w fun e w' => ∃ ad cap, e = .returned (.slice ad (setOf [b, c]).length cap) ∧ Seg .i64 w' ad (setOf [b, c]) ∧ Below w.heap.size w w' := by
  have HQ : Hid _ := h
  clear h
  go_enter Tryd.func11, Tryd.ntmps11
  go_wp2_with fail
  refine (spec_ok op a b c m _).mono ?_
  rintro e w1 ⟨rfl, hb⟩
  rw [HQ.out]
  have hb0 := ((Below.refl _ w).alloc (Nat.le_refl _) (row op a b c m)).trans (hb.mono (by simp))
  have hr : ∀ i v, (#[Value.int .i64 op, .int .i64 a, .int .i64 b, .int .i64 c, .int .i64 m] : Array Value)[i]? = some v → w1.cell? ⟨w.heap.size, i, none⟩ = some v := fun i v h =>
    (hb.cell (p := ⟨w.heap.size, i, none⟩) (by simp)).trans (new_cell w _ 26 i v h)
  have c0 := hr 0 (.int .i64 op) rfl
  have c1 := hr 1 (.int .i64 a) rfl
  have c2 := hr 2 (.int .i64 b) rfl
  have c3 := hr 3 (.int .i64 c) rfl
  clear hr hb
  go_wp2_with fail
  refine (in_yes _ _ _ _ (by omega) (by omega)).mono ?_
  rintro e w2 ⟨rfl, rfl⟩
  go_wp2_with fail
  refine (set_two b c _ _ _ (new_cell _ _ 3 0 _ rfl) (new_cell _ _ 3 1 _ rfl)).mono ?_
  rintro e w3 ⟨ad, cap, rfl, hs, hb3⟩
  have hb1 := hb0.alloc hb0.size (.cells #[.int .i64 b, .int .i64 c] 3)
  go_wp2
  go_ret
  exact ⟨ad, cap, rfl, hs, hb1.trans (hb3.mono hb1.size)⟩
set_option maxHeartbeats 1000000 in
theorem specR_13 (op a b c m : Int) (w : World) (h : instrOk op a b c m = true) (hi : ¬ (1 ≤ op ∧ op ≤ 12))  (y13 : (op == 13) = true) :
    Calls Tryd.prog 11 #[ins op a b c m] w fun e w' => ∃ ad cap, e = .returned (.slice ad (setOf [b]).length cap) ∧ Seg .i64 w' ad (setOf [b]) ∧ Below w.heap.size w w' := by
  have HQ : Hid _ := h
  clear h
  go_enter Tryd.func11, Tryd.ntmps11
  go_wp2_with fail
  refine (spec_ok op a b c m _).mono ?_
  rintro e w1 ⟨rfl, hb⟩
  rw [HQ.out]
  have hb0 := ((Below.refl _ w).alloc (Nat.le_refl _) (row op a b c m)).trans (hb.mono (by simp))
  have hr : ∀ i v, (#[Value.int .i64 op, .int .i64 a, .int .i64 b, .int .i64 c, .int .i64 m] : Array Value)[i]? = some v → w1.cell? ⟨w.heap.size, i, none⟩ = some v := fun i v h =>
    (hb.cell (p := ⟨w.heap.size, i, none⟩) (by simp)).trans (new_cell w _ 26 i v h)
  have c0 := hr 0 (.int .i64 op) rfl
  have c1 := hr 1 (.int .i64 a) rfl
  have c2 := hr 2 (.int .i64 b) rfl
  have c3 := hr 3 (.int .i64 c) rfl
  clear hr hb
  go_wp2_with fail
  refine (in_no _ _ _ _ hi).mono ?_
  rintro e w2 ⟨rfl, rfl⟩
  go_wp2_with fail
  refine (set_one b _ _ _ (new_cell _ _ 3 0 _ rfl)).mono ?_
  rintro e w3 ⟨ad, cap, rfl, hs, hb3⟩
  have hb1 := hb0.alloc hb0.size (.cells #[.int .i64 b] 3)
  go_wp2
  go_ret
  exact ⟨ad, cap, rfl, hs, hb1.trans (hb3.mono hb1.size)⟩
set_option maxHeartbeats 1000000 in
theorem specR_15 (op a b c m : Int) (w : World) (h : instrOk op a b c m = true) (hi : ¬ (1 ≤ op ∧ op ≤ 12)) (n13 : (op == 13) = false) (y15 : (op == 15) = true) :
    Calls Tryd.prog 11 #[ins op a b c m] w fun e w' => ∃ ad cap, e = .returned (.slice ad (setOf [b]).length cap) ∧ Seg .i64 w' ad (setOf [b]) ∧ Below w.heap.size w w' := by
  have HQ : Hid _ := h
  clear h
  go_enter Tryd.func11, Tryd.ntmps11
  go_wp2_with fail
  refine (spec_ok op a b c m _).mono ?_
  rintro e w1 ⟨rfl, hb⟩
  rw [HQ.out]
  have hb0 := ((Below.refl _ w).alloc (Nat.le_refl _) (row op a b c m)).trans (hb.mono (by simp))
  have hr : ∀ i v, (#[Value.int .i64 op, .int .i64 a, .int .i64 b, .int .i64 c, .int .i64 m] : Array Value)[i]? = some v → w1.cell? ⟨w.heap.size, i, none⟩ = some v := fun i v h =>
    (hb.cell (p := ⟨w.heap.size, i, none⟩) (by simp)).trans (new_cell w _ 26 i v h)
  have c0 := hr 0 (.int .i64 op) rfl
  have c1 := hr 1 (.int .i64 a) rfl
  have c2 := hr 2 (.int .i64 b) rfl
  have c3 := hr 3 (.int .i64 c) rfl
  clear hr hb
  go_wp2_with fail
  refine (in_no _ _ _ _ hi).mono ?_
  rintro e w2 ⟨rfl, rfl⟩
  go_wp2_with fail
  refine (set_one b _ _ _ (new_cell _ _ 3 0 _ rfl)).mono ?_
  rintro e w3 ⟨ad, cap, rfl, hs, hb3⟩
  have hb1 := hb0.alloc hb0.size (.cells #[.int .i64 b] 3)
  go_wp2
  go_ret
  exact ⟨ad, cap, rfl, hs, hb1.trans (hb3.mono hb1.size)⟩
set_option maxHeartbeats 1000000 in
theorem specR_17 (op a b c m : Int) (w : World) (h : instrOk op a b c m = true) (hi : ¬ (1 ≤ op ∧ op ≤ 12)) (n13 : (op == 13) = false) (n15 : (op == 15) = false) (y17 : (op == 17) = true) :
    Calls Tryd.prog 11 #[ins op a b c m] w fun e w' => ∃ ad cap, e = .returned (.slice ad (setOf [b]).length cap) ∧ Seg .i64 w' ad (setOf [b]) ∧ Below w.heap.size w w' := by
  have HQ : Hid _ := h
  clear h
  go_enter Tryd.func11, Tryd.ntmps11
  go_wp2_with fail
  refine (spec_ok op a b c m _).mono ?_
  rintro e w1 ⟨rfl, hb⟩
  rw [HQ.out]
  have hb0 := ((Below.refl _ w).alloc (Nat.le_refl _) (row op a b c m)).trans (hb.mono (by simp))
  have hr : ∀ i v, (#[Value.int .i64 op, .int .i64 a, .int .i64 b, .int .i64 c, .int .i64 m] : Array Value)[i]? = some v → w1.cell? ⟨w.heap.size, i, none⟩ = some v := fun i v h =>
    (hb.cell (p := ⟨w.heap.size, i, none⟩) (by simp)).trans (new_cell w _ 26 i v h)
  have c0 := hr 0 (.int .i64 op) rfl
  have c1 := hr 1 (.int .i64 a) rfl
  have c2 := hr 2 (.int .i64 b) rfl
  have c3 := hr 3 (.int .i64 c) rfl
  clear hr hb
  go_wp2_with fail
  refine (in_no _ _ _ _ hi).mono ?_
  rintro e w2 ⟨rfl, rfl⟩
  go_wp2_with fail
  refine (set_one b _ _ _ (new_cell _ _ 3 0 _ rfl)).mono ?_
  rintro e w3 ⟨ad, cap, rfl, hs, hb3⟩
  have hb1 := hb0.alloc hb0.size (.cells #[.int .i64 b] 3)
  go_wp2
  go_ret
  exact ⟨ad, cap, rfl, hs, hb1.trans (hb3.mono hb1.size)⟩
set_option maxHeartbeats 1000000 in
theorem specR_23 (op a b c m : Int) (w : World) (h : instrOk op a b c m = true) (hi : ¬ (1 ≤ op ∧ op ≤ 12)) (n13 : (op == 13) = false) (n15 : (op == 15) = false) (n17 : (op == 17) = false) (y23 : (op == 23) = true) :
    Calls Tryd.prog 11 #[ins op a b c m] w fun e w' => ∃ ad cap, e = .returned (.slice ad (setOf [b]).length cap) ∧ Seg .i64 w' ad (setOf [b]) ∧ Below w.heap.size w w' := by
  have HQ : Hid _ := h
  clear h
  go_enter Tryd.func11, Tryd.ntmps11
  go_wp2_with fail
  refine (spec_ok op a b c m _).mono ?_
  rintro e w1 ⟨rfl, hb⟩
  rw [HQ.out]
  have hb0 := ((Below.refl _ w).alloc (Nat.le_refl _) (row op a b c m)).trans (hb.mono (by simp))
  have hr : ∀ i v, (#[Value.int .i64 op, .int .i64 a, .int .i64 b, .int .i64 c, .int .i64 m] : Array Value)[i]? = some v → w1.cell? ⟨w.heap.size, i, none⟩ = some v := fun i v h =>
    (hb.cell (p := ⟨w.heap.size, i, none⟩) (by simp)).trans (new_cell w _ 26 i v h)
  have c0 := hr 0 (.int .i64 op) rfl
  have c1 := hr 1 (.int .i64 a) rfl
  have c2 := hr 2 (.int .i64 b) rfl
  have c3 := hr 3 (.int .i64 c) rfl
  clear hr hb
  go_wp2_with fail
  refine (in_no _ _ _ _ hi).mono ?_
  rintro e w2 ⟨rfl, rfl⟩
  go_wp2_with fail
  refine (set_one b _ _ _ (new_cell _ _ 3 0 _ rfl)).mono ?_
  rintro e w3 ⟨ad, cap, rfl, hs, hb3⟩
  have hb1 := hb0.alloc hb0.size (.cells #[.int .i64 b] 3)
  go_wp2
  go_ret
  exact ⟨ad, cap, rfl, hs, hb1.trans (hb3.mono hb1.size)⟩
set_option maxHeartbeats 1000000 in
theorem specR_25 (op a b c m : Int) (w : World) (h : instrOk op a b c m = true) (hi : ¬ (1 ≤ op ∧ op ≤ 12)) (n13 : (op == 13) = false) (n15 : (op == 15) = false) (n17 : (op == 17) = false) (n23 : (op == 23) = false) (y25 : (op == 25) = true) :
    Calls Tryd.prog 11 #[ins op a b c m] w fun e w' => ∃ ad cap, e = .returned (.slice ad (setOf [b]).length cap) ∧ Seg .i64 w' ad (setOf [b]) ∧ Below w.heap.size w w' := by
  have HQ : Hid _ := h
  clear h
  go_enter Tryd.func11, Tryd.ntmps11
  go_wp2_with fail
  refine (spec_ok op a b c m _).mono ?_
  rintro e w1 ⟨rfl, hb⟩
  rw [HQ.out]
  have hb0 := ((Below.refl _ w).alloc (Nat.le_refl _) (row op a b c m)).trans (hb.mono (by simp))
  have hr : ∀ i v, (#[Value.int .i64 op, .int .i64 a, .int .i64 b, .int .i64 c, .int .i64 m] : Array Value)[i]? = some v → w1.cell? ⟨w.heap.size, i, none⟩ = some v := fun i v h =>
    (hb.cell (p := ⟨w.heap.size, i, none⟩) (by simp)).trans (new_cell w _ 26 i v h)
  have c0 := hr 0 (.int .i64 op) rfl
  have c1 := hr 1 (.int .i64 a) rfl
  have c2 := hr 2 (.int .i64 b) rfl
  have c3 := hr 3 (.int .i64 c) rfl
  clear hr hb
  go_wp2_with fail
  refine (in_no _ _ _ _ hi).mono ?_
  rintro e w2 ⟨rfl, rfl⟩
  go_wp2_with fail
  refine (set_one b _ _ _ (new_cell _ _ 3 0 _ rfl)).mono ?_
  rintro e w3 ⟨ad, cap, rfl, hs, hb3⟩
  have hb1 := hb0.alloc hb0.size (.cells #[.int .i64 b] 3)
  go_wp2
  go_ret
  exact ⟨ad, cap, rfl, hs, hb1.trans (hb3.mono hb1.size)⟩
set_option maxHeartbeats 1000000 in
theorem specR_16 (op a b c m : Int) (w : World) (h : instrOk op a b c m = true) (hi : ¬ (1 ≤ op ∧ op ≤ 12)) (n13 : (op == 13) = false) (n15 : (op == 15) = false) (n17 : (op == 17) = false) (n23 : (op == 23) = false) (n25 : (op == 25) = false) (y16 : (op == 16) = true) :
    Calls Tryd.prog 11 #[ins op a b c m] w fun e w' => ∃ ad cap, e = .returned (.slice ad (setOf [a, b]).length cap) ∧ Seg .i64 w' ad (setOf [a, b]) ∧ Below w.heap.size w w' := by
  have HQ : Hid _ := h
  clear h
  go_enter Tryd.func11, Tryd.ntmps11
  go_wp2_with fail
  refine (spec_ok op a b c m _).mono ?_
  rintro e w1 ⟨rfl, hb⟩
  rw [HQ.out]
  have hb0 := ((Below.refl _ w).alloc (Nat.le_refl _) (row op a b c m)).trans (hb.mono (by simp))
  have hr : ∀ i v, (#[Value.int .i64 op, .int .i64 a, .int .i64 b, .int .i64 c, .int .i64 m] : Array Value)[i]? = some v → w1.cell? ⟨w.heap.size, i, none⟩ = some v := fun i v h =>
    (hb.cell (p := ⟨w.heap.size, i, none⟩) (by simp)).trans (new_cell w _ 26 i v h)
  have c0 := hr 0 (.int .i64 op) rfl
  have c1 := hr 1 (.int .i64 a) rfl
  have c2 := hr 2 (.int .i64 b) rfl
  have c3 := hr 3 (.int .i64 c) rfl
  clear hr hb
  go_wp2_with fail
  refine (in_no _ _ _ _ hi).mono ?_
  rintro e w2 ⟨rfl, rfl⟩
  go_wp2_with fail
  refine (set_two a b _ _ _ (new_cell _ _ 3 0 _ rfl) (new_cell _ _ 3 1 _ rfl)).mono ?_
  rintro e w3 ⟨ad, cap, rfl, hs, hb3⟩
  have hb1 := hb0.alloc hb0.size (.cells #[.int .i64 a, .int .i64 b] 3)
  go_wp2
  go_ret
  exact ⟨ad, cap, rfl, hs, hb1.trans (hb3.mono hb1.size)⟩
set_option maxHeartbeats 1000000 in
theorem specR_18 (op a b c m : Int) (w : World) (h : instrOk op a b c m = true) (hi : ¬ (1 ≤ op ∧ op ≤ 12)) (n13 : (op == 13) = false) (n15 : (op == 15) = false) (n17 : (op == 17) = false) (n23 : (op == 23) = false) (n25 : (op == 25) = false) (n16 : (op == 16) = false) (y18 : (op == 18) = true) :
    Calls Tryd.prog 11 #[ins op a b c m] w fun e w' => ∃ ad cap, e = .returned (.slice ad (setOf [a, b]).length cap) ∧ Seg .i64 w' ad (setOf [a, b]) ∧ Below w.heap.size w w' := by
  have HQ : Hid _ := h
  clear h
  go_enter Tryd.func11, Tryd.ntmps11
  go_wp2_with fail
  refine (spec_ok op a b c m _).mono ?_
  rintro e w1 ⟨rfl, hb⟩
  rw [HQ.out]
  have hb0 := ((Below.refl _ w).alloc (Nat.le_refl _) (row op a b c m)).trans (hb.mono (by simp))
  have hr : ∀ i v, (#[Value.int .i64 op, .int .i64 a, .int .i64 b, .int .i64 c, .int .i64 m] : Array Value)[i]? = some v → w1.cell? ⟨w.heap.size, i, none⟩ = some v := fun i v h =>
    (hb.cell (p := ⟨w.heap.size, i, none⟩) (by simp)).trans (new_cell w _ 26 i v h)
  have c0 := hr 0 (.int .i64 op) rfl
  have c1 := hr 1 (.int .i64 a) rfl
  have c2 := hr 2 (.int .i64 b) rfl
  have c3 := hr 3 (.int .i64 c) rfl
  clear hr hb
  go_wp2_with fail
  refine (in_no _ _ _ _ hi).mono ?_
  rintro e w2 ⟨rfl, rfl⟩
  go_wp2_with fail
  refine (set_two a b _ _ _ (new_cell _ _ 3 0 _ rfl) (new_cell _ _ 3 1 _ rfl)).mono ?_
  rintro e w3 ⟨ad, cap, rfl, hs, hb3⟩
  have hb1 := hb0.alloc hb0.size (.cells #[.int .i64 a, .int .i64 b] 3)
  go_wp2
  go_ret
  exact ⟨ad, cap, rfl, hs, hb1.trans (hb3.mono hb1.size)⟩
set_option maxHeartbeats 1000000 in
theorem specR_mid (op a b c m : Int) (w : World) (h : instrOk op a b c m = true) (hi : ¬ (1 ≤ op ∧ op ≤ 12)) (n13 : (op == 13) = false) (n15 : (op == 15) = false) (n17 : (op == 17) = false) (n23 : (op == 23) = false) (n25 : (op == 25) = false) (n16 : (op == 16) = false) (n18 : (op == 18) = false) (h1 : 19 ≤ op) (h2 : op ≤ 21) :
    Calls Tryd.prog 11 #[ins op a b c m] w fun e w' => ∃ ad cap, e = .returned (.slice ad (setOf [a, b]).length cap) ∧ Seg .i64 w' ad (setOf [a, b]) ∧ Below w.heap.size w w' := by
  have HQ : Hid _ := h
  clear h
  go_enter Tryd.func11, Tryd.ntmps11
  go_wp2_with fail
  refine (spec_ok op a b c m _).mono ?_
  rintro e w1 ⟨rfl, hb⟩
  rw [HQ.out]
  have hb0 := ((Below.refl _ w).alloc (Nat.le_refl _) (row op a b c m)).trans (hb.mono (by simp))
  have hr : ∀ i v, (#[Value.int .i64 op, .int .i64 a, .int .i64 b, .int .i64 c, .int .i64 m] : Array Value)[i]? = some v → w1.cell? ⟨w.heap.size, i, none⟩ = some v := fun i v h =>
    (hb.cell (p := ⟨w.heap.size, i, none⟩) (by simp)).trans (new_cell w _ 26 i v h)
  have c0 := hr 0 (.int .i64 op) rfl
  have c1 := hr 1 (.int .i64 a) rfl
  have c2 := hr 2 (.int .i64 b) rfl
  have c3 := hr 3 (.int .i64 c) rfl
  clear hr hb
  go_wp2_with fail
  refine (in_no _ _ _ _ hi).mono ?_
  rintro e w2 ⟨rfl, rfl⟩
  go_wp2_with fail
  refine (in_yes _ _ _ _ (by omega) (by omega)).mono ?_
  rintro e w2 ⟨rfl, rfl⟩
  go_wp2_with fail
  refine (set_two a b _ _ _ (new_cell _ _ 3 0 _ rfl) (new_cell _ _ 3 1 _ rfl)).mono ?_
  rintro e w3 ⟨ad, cap, rfl, hs, hb3⟩
  have hb1 := hb0.alloc hb0.size (.cells #[.int .i64 a, .int .i64 b] 3)
  go_wp2
  go_ret
  exact ⟨ad, cap, rfl, hs, hb1.trans (hb3.mono hb1.size)⟩
set_option maxHeartbeats 1000000 in
theorem specR_29 (op a b c m : Int) (w : World) (h : instrOk op a b c m = true) (hi : ¬ (1 ≤ op ∧ op ≤ 12)) (n13 : (op == 13) = false) (n15 : (op == 15) = false) (n17 : (op == 17) = false) (n23 : (op == 23) = false) (n25 : (op == 25) = false) (n16 : (op == 16) = false) (n18 : (op == 18) = false) (hj : ¬ (19 ≤ op ∧ op ≤ 21)) (y29 : (op == 29) = true) :
    Calls Tryd.prog 11 #[ins op a b c m] w fun e w' => ∃ ad cap, e = .returned (.slice ad (setOf [a]).length cap) ∧ Seg .i64 w' ad (setOf [a]) ∧ Below w.heap.size w w' := by
  have HQ : Hid _ := h
  clear h
  go_enter Tryd.func11, Tryd.ntmps11
  go_wp2_with fail
  refine (spec_ok op a b c m _).mono ?_
  rintro e w1 ⟨rfl, hb⟩
  rw [HQ.out]
  have hb0 := ((Below.refl _ w).alloc (Nat.le_refl _) (row op a b c m)).trans (hb.mono (by simp))
  have hr : ∀ i v, (#[Value.int .i64 op, .int .i64 a, .int .i64 b, .int .i64 c, .int .i64 m] : Array Value)[i]? = some v → w1.cell? ⟨w.heap.size, i, none⟩ = some v := fun i v h =>
    (hb.cell (p := ⟨w.heap.size, i, none⟩) (by simp)).trans (new_cell w _ 26 i v h)
  have c0 := hr 0 (.int .i64 op) rfl
  have c1 := hr 1 (.int .i64 a) rfl
  have c2 := hr 2 (.int .i64 b) rfl
  have c3 := hr 3 (.int .i64 c) rfl
  clear hr hb
  go_wp2_with fail
  refine (in_no _ _ _ _ hi).mono ?_
  rintro e w2 ⟨rfl, rfl⟩
  go_wp2_with fail
  refine (in_no _ _ _ _ hj).mono ?_
  rintro e w2 ⟨rfl, rfl⟩
  go_wp2_with fail
  refine (set_one a _ _ _ (new_cell _ _ 3 0 _ rfl)).mono ?_
  rintro e w3 ⟨ad, cap, rfl, hs, hb3⟩
  have hb1 := hb0.alloc hb0.size (.cells #[.int .i64 a] 3)
  go_wp2
  go_ret
  exact ⟨ad, cap, rfl, hs, hb1.trans (hb3.mono hb1.size)⟩
set_option maxHeartbeats 1000000 in
theorem specR_none (op a b c m : Int) (w : World) (h : instrOk op a b c m = true) (hi : ¬ (1 ≤ op ∧ op ≤ 12)) (n13 : (op == 13) = false) (n15 : (op == 15) = false) (n17 : (op == 17) = false) (n23 : (op == 23) = false) (n25 : (op == 25) = false) (n16 : (op == 16) = false) (n18 : (op == 18) = false) (hj : ¬ (19 ≤ op ∧ op ≤ 21)) (n29 : (op == 29) = false) :
    Calls Tryd.prog 11 #[ins op a b c m] w fun e w' => ∃ ad cap, e = .returned (.slice ad 0 cap) ∧ Seg .i64 w' ad (([] : List Int)) ∧ Below w.heap.size w w' := by
  have HQ : Hid _ := h
  clear h
  go_enter Tryd.func11, Tryd.ntmps11
  go_wp2_with fail
  refine (spec_ok op a b c m _).mono ?_
  rintro e w1 ⟨rfl, hb⟩
  rw [HQ.out]
  have hb0 := ((Below.refl _ w).alloc (Nat.le_refl _) (row op a b c m)).trans (hb.mono (by simp))
  have hr : ∀ i v, (#[Value.int .i64 op, .int .i64 a, .int .i64 b, .int .i64 c, .int .i64 m] : Array Value)[i]? = some v → w1.cell? ⟨w.heap.size, i, none⟩ = some v := fun i v h =>
    (hb.cell (p := ⟨w.heap.size, i, none⟩) (by simp)).trans (new_cell w _ 26 i v h)
  have c0 := hr 0 (.int .i64 op) rfl
  have c1 := hr 1 (.int .i64 a) rfl
  have c2 := hr 2 (.int .i64 b) rfl
  have c3 := hr 3 (.int .i64 c) rfl
  clear hr hb
  go_wp2_with fail
  refine (in_no _ _ _ _ hi).mono ?_
  rintro e w2 ⟨rfl, rfl⟩
  go_wp2_with fail
  refine (in_no _ _ _ _ hj).mono ?_
  rintro e w2 ⟨rfl, rfl⟩
  go_wp2
  go_ret
  exact ⟨_, _, rfl, fun h => absurd h (by simp), hb0.alloc hb0.size _⟩
theorem specW_bad (op a b c m : Int) (w : World) (h : instrOk op a b c m = false) :
    Calls Tryd.prog 5 #[ins op a b c m] w fun e w' => ∃ ad cap, e = .returned (.slice ad 0 cap) ∧ Seg .i64 w' ad [] ∧ Below w.heap.size w w' := by
  have HQ : Hid _ := h
  clear h
  go_enter Tryd.func5, Tryd.ntmps5
  go_wp2_with fail
  refine (spec_ok op a b c m _).mono ?_
  rintro e w1 ⟨rfl, hb⟩
  rw [HQ.out]
  have hb0 := ((Below.refl _ w).alloc (Nat.le_refl _) (row op a b c m)).trans (hb.mono (by simp))
  go_wp2
  go_ret
  exact ⟨_, _, rfl, fun h => absurd h (by simp), hb0.alloc hb0.size _⟩
theorem specR_bad (op a b c m : Int) (w : World) (h : instrOk op a b c m = false) :
    Calls Tryd.prog 11 #[ins op a b c m] w fun e w' => ∃ ad cap, e = .returned (.slice ad 0 cap) ∧ Seg .i64 w' ad [] ∧ Below w.heap.size w w' := by
  have HQ : Hid _ := h
  clear h
  go_enter Tryd.func11, Tryd.ntmps11
  go_wp2_with fail
  refine (spec_ok op a b c m _).mono ?_
  rintro e w1 ⟨rfl, hb⟩
  rw [HQ.out]
  have hb0 := ((Below.refl _ w).alloc (Nat.le_refl _) (row op a b c m)).trans (hb.mono (by simp))
  go_wp2
  go_ret
  exact ⟨_, _, rfl, fun h => absurd h (by simp), hb0.alloc hb0.size _⟩
end Go.Proofs.YtiekejplgoomfabDoor
