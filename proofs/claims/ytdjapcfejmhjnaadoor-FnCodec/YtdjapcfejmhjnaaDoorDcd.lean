/-
  The instruction of a word: what the specification's and the program's own Decode return, one instruction and one truth value, at every word. Condition: the program's table of forms lies in memory as the program's text lays it.
-/
import Derived.Test.YtdjapcfejmhjnaaDoorInstr
namespace Go.Proofs.YtdjapcfejmhjnaaDoor
open Go.ChangeShapes Go.WideShapes Go.ChangeAt Go.RowKit
set_option linter.unusedVariables false
set_option maxRecDepth 20000

def sx (y : Int) : Int := if 8192 ≤ y then y - 16384 else y
theorem sext_any (x : Int) (w : World) (h0 : 0 ≤ x) (h1 : x ≤ 4294967295) : Calls Tryd.prog 45 #[.int .u32 x, .int .i64 14] w fun e w' => e = .returned (.int .u32 (sx (x % 16384) % 4294967296)) ∧ w' = w := by
  have HE : Hid (wrap32 (x * 262144 % 4294967296) / 262144 % 4294967296 = sx (x % 16384) % 4294967296) := by
    show _ = _
    unfold wrap32 sx
    split <;> omega
  go_enter Tryd.func45, Tryd.ntmps45
  go_wp2
  go_ret
  exact ⟨ret_int HE.out, rfl⟩
theorem and_4 (z : Int) (h0 : 0 ≤ z) (h1 : z ≤ 4294967295) : wrap64 (bits .and .u32 z 15) = z % 16 := by
  have h31 : (BitVec.ofInt 32 15).toNat = 2 ^ 4 - 1 := by decide
  have key : (BitVec.ofInt 32 z &&& BitVec.ofInt 32 15).toNat = (z % ((2 ^ 32 : Nat) : Int)).toNat % 2 ^ 4 := by
    rw [BitVec.toNat_and, BitVec.toNat_ofInt, h31, Nat.and_two_pow_sub_one_eq_mod]
  have e : bits .and .u32 z 15 = z % 16 := by
    show IntKind.u32.wrap ((BitVec.ofInt 32 z &&& BitVec.ofInt 32 15).toNat : Nat) = z % 16
    rw [key, IntKind.wrap_u32]
    omega
  rw [e]
  unfold wrap64
  omega
theorem sx_back (y : Int) (h0 : 0 ≤ y) (h1 : y < 16384) : wrap64 (wrap32 (sx y % 4294967296)) = sx y := by
  unfold wrap64 wrap32 sx
  split <;> omega
set_option maxHeartbeats 1000000 in
theorem spec_dec_hi (x : Int) (q : Bool) (w : World) (h0 : 0 ≤ x) (h1 : x ≤ 4294967295) (hm : 8192 ≤ x % 16384) (HQ : Hid (instrOk (x / 67108864) (x / 4194304 % 16) (x / 262144 % 16) (x / 16384 % 16) (x % 16384 - 16384) = q)) :
    Calls Tryd.prog 59 #[.int .u32 x] w fun e w' => e = .returned (.tuple #[if q then ins (x / 67108864) (x / 4194304 % 16) (x / 262144 % 16) (x / 16384 % 16) (x % 16384 - 16384) else ins 0 0 0 0 0, .bool q]) ∧ Below w.heap.size w w' := by
  go_enter Tryd.func59, Tryd.ntmps59
  go_wp2_with fail
  refine (spec_ok _ _ _ _ _ _).mono ?_
  rintro e w1 ⟨rfl, hb⟩
  rw [HQ.out]
  have hb0 := (((Below.refl _ w).alloc (Nat.le_refl _) (row 0 0 0 0 0)).alloc (by simp) (row (x / 67108864) (x / 4194304 % 16) (x / 262144 % 16) (x / 16384 % 16) (x % 16384 - 16384))).trans (hb.mono (by simp; omega))
  have hz : ∀ i v, (#[Value.int .i64 0, .int .i64 0, .int .i64 0, .int .i64 0, .int .i64 0] : Array Value)[i]? = some v → w1.cell? ⟨w.heap.size, i, none⟩ = some v := fun i v h =>
    (hb.cell (p := ⟨w.heap.size, i, none⟩) (by simp; omega)).trans (cell_alloc (new_cell w _ 25 i v h))
  have hf : ∀ i, w1.frozen? ⟨w.heap.size, i, none⟩ = false := fun i =>
    (hb.frozen (p := ⟨w.heap.size, i, none⟩) (by simp; omega)).trans (by simp)
  have hr : ∀ i v, (#[Value.int .i64 (x / 67108864), .int .i64 (x / 4194304 % 16), .int .i64 (x / 262144 % 16), .int .i64 (x / 16384 % 16), .int .i64 (x % 16384 - 16384)] : Array Value)[i]? = some v → w1.cell? ⟨w.heap.size + 1, i, none⟩ = some v := fun i v h =>
    (hb.cell (p := ⟨w.heap.size + 1, i, none⟩) (by simp)).trans (by have := new_cell (w.alloc (row 0 0 0 0 0)) _ 25 i v h; simpa using this)
  have z0 := hz 0 (.int .i64 0) rfl
  have z1 := hz 1 (.int .i64 0) rfl
  have z2 := hz 2 (.int .i64 0) rfl
  have z3 := hz 3 (.int .i64 0) rfl
  have z4 := hz 4 (.int .i64 0) rfl
  have r0 := hr 0 (.int .i64 (x / 67108864)) rfl
  have r1 := hr 1 (.int .i64 (x / 4194304 % 16)) rfl
  have r2 := hr 2 (.int .i64 (x / 262144 % 16)) rfl
  have r3 := hr 3 (.int .i64 (x / 16384 % 16)) rfl
  have r4 := hr 4 (.int .i64 (x % 16384 - 16384)) rfl
  clear hr hz hb
  cases q
  · go_wp2
    exact bodyPost_ret (v := .tuple #[ins 0 0 0 0 0, .bool false]) (by simp [results, Tryd.results59, go_sem, z0, z1, z2, z3, z4]) rfl ⟨rfl, ((((hb0.setCell (Nat.le_refl _) _).setCell (Nat.le_refl _) _).setCell (Nat.le_refl _) _).setCell (Nat.le_refl _) _).setCell (Nat.le_refl _) _⟩
  · go_wp2
    exact bodyPost_ret (v := .tuple #[ins (x / 67108864) (x / 4194304 % 16) (x / 262144 % 16) (x / 16384 % 16) (x % 16384 - 16384), .bool true]) (by simp [results, Tryd.results59, go_sem, z0, z1, z2, z3, z4]) rfl ⟨rfl, ((((hb0.setCell (Nat.le_refl _) _).setCell (Nat.le_refl _) _).setCell (Nat.le_refl _) _).setCell (Nat.le_refl _) _).setCell (Nat.le_refl _) _⟩
set_option maxHeartbeats 1000000 in
theorem spec_dec_lo (x : Int) (q : Bool) (w : World) (h0 : 0 ≤ x) (h1 : x ≤ 4294967295) (hm : x % 16384 < 8192) (HQ : Hid (instrOk (x / 67108864) (x / 4194304 % 16) (x / 262144 % 16) (x / 16384 % 16) (x % 16384) = q)) :
    Calls Tryd.prog 59 #[.int .u32 x] w fun e w' => e = .returned (.tuple #[if q then ins (x / 67108864) (x / 4194304 % 16) (x / 262144 % 16) (x / 16384 % 16) (x % 16384) else ins 0 0 0 0 0, .bool q]) ∧ Below w.heap.size w w' := by
  go_enter Tryd.func59, Tryd.ntmps59
  go_wp2_with fail
  refine (spec_ok _ _ _ _ _ _).mono ?_
  rintro e w1 ⟨rfl, hb⟩
  rw [HQ.out]
  have hb0 := (((Below.refl _ w).alloc (Nat.le_refl _) (row 0 0 0 0 0)).alloc (by simp) (row (x / 67108864) (x / 4194304 % 16) (x / 262144 % 16) (x / 16384 % 16) (x % 16384))).trans (hb.mono (by simp; omega))
  have hz : ∀ i v, (#[Value.int .i64 0, .int .i64 0, .int .i64 0, .int .i64 0, .int .i64 0] : Array Value)[i]? = some v → w1.cell? ⟨w.heap.size, i, none⟩ = some v := fun i v h =>
    (hb.cell (p := ⟨w.heap.size, i, none⟩) (by simp; omega)).trans (cell_alloc (new_cell w _ 25 i v h))
  have hf : ∀ i, w1.frozen? ⟨w.heap.size, i, none⟩ = false := fun i =>
    (hb.frozen (p := ⟨w.heap.size, i, none⟩) (by simp; omega)).trans (by simp)
  have hr : ∀ i v, (#[Value.int .i64 (x / 67108864), .int .i64 (x / 4194304 % 16), .int .i64 (x / 262144 % 16), .int .i64 (x / 16384 % 16), .int .i64 (x % 16384)] : Array Value)[i]? = some v → w1.cell? ⟨w.heap.size + 1, i, none⟩ = some v := fun i v h =>
    (hb.cell (p := ⟨w.heap.size + 1, i, none⟩) (by simp)).trans (by have := new_cell (w.alloc (row 0 0 0 0 0)) _ 25 i v h; simpa using this)
  have z0 := hz 0 (.int .i64 0) rfl
  have z1 := hz 1 (.int .i64 0) rfl
  have z2 := hz 2 (.int .i64 0) rfl
  have z3 := hz 3 (.int .i64 0) rfl
  have z4 := hz 4 (.int .i64 0) rfl
  have r0 := hr 0 (.int .i64 (x / 67108864)) rfl
  have r1 := hr 1 (.int .i64 (x / 4194304 % 16)) rfl
  have r2 := hr 2 (.int .i64 (x / 262144 % 16)) rfl
  have r3 := hr 3 (.int .i64 (x / 16384 % 16)) rfl
  have r4 := hr 4 (.int .i64 (x % 16384)) rfl
  clear hr hz hb
  cases q
  · go_wp2
    exact bodyPost_ret (v := .tuple #[ins 0 0 0 0 0, .bool false]) (by simp [results, Tryd.results59, go_sem, z0, z1, z2, z3, z4]) rfl ⟨rfl, ((((hb0.setCell (Nat.le_refl _) _).setCell (Nat.le_refl _) _).setCell (Nat.le_refl _) _).setCell (Nat.le_refl _) _).setCell (Nat.le_refl _) _⟩
  · go_wp2
    exact bodyPost_ret (v := .tuple #[ins (x / 67108864) (x / 4194304 % 16) (x / 262144 % 16) (x / 16384 % 16) (x % 16384), .bool true]) (by simp [results, Tryd.results59, go_sem, z0, z1, z2, z3, z4]) rfl ⟨rfl, ((((hb0.setCell (Nat.le_refl _) _).setCell (Nat.le_refl _) _).setCell (Nat.le_refl _) _).setCell (Nat.le_refl _) _).setCell (Nat.le_refl _) _⟩
theorem spec_dec (x : Int) (q : Bool) (w : World) (h0 : 0 ≤ x) (h1 : x ≤ 4294967295) (HQ : Hid (instrOk (x / 67108864) (x / 4194304 % 16) (x / 262144 % 16) (x / 16384 % 16) (sx (x % 16384)) = q)) :
    Calls Tryd.prog 59 #[.int .u32 x] w fun e w' => e = .returned (.tuple #[if q then ins (x / 67108864) (x / 4194304 % 16) (x / 262144 % 16) (x / 16384 % 16) (sx (x % 16384)) else ins 0 0 0 0 0, .bool q]) ∧ Below w.heap.size w w' := by
  unfold sx at HQ ⊢
  by_cases h : 8192 ≤ x % 16384
  · rw [if_pos h] at HQ ⊢
    exact spec_dec_hi x q w h0 h1 h HQ
  · rw [if_neg h] at HQ ⊢
    exact spec_dec_lo x q w h0 h1 (by omega) HQ
set_option maxHeartbeats 1000000 in
theorem impl_dec (x : Int) (q : Bool) (w : World) (ht : Tab w) (h0 : 0 ≤ x) (h1 : x ≤ 4294967295) (HQ : Hid (instrOk (x / 67108864) (x / 4194304 % 16) (x / 262144 % 16) (x / 16384 % 16) (sx (x % 16384)) = q)) :
    Calls Tryd.prog 16 #[.int .u32 x] w fun e w' => e = .returned (.tuple #[if q then ins (x / 67108864) (x / 4194304 % 16) (x / 262144 % 16) (x / 16384 % 16) (sx (x % 16384)) else ins 0 0 0 0 0, .bool q]) ∧ Below w.heap.size w w' := by
  have HT : Hid _ := ht
  have E1 : Hid _ := and_4 (x / 4194304) (by omega) (by omega)
  have E2 : Hid _ := and_4 (x / 262144) (by omega) (by omega)
  have E3 : Hid _ := and_4 (x / 16384) (by omega) (by omega)
  have E4 : Hid _ := sx_back (x % 16384) (by omega) (by omega)
  clear ht
  go_enter Tryd.func16, Tryd.ntmps16
  go_wp2_with fail
  refine (sext_any x _ h0 h1).mono ?_
  rintro e w0 ⟨rfl, rfl⟩
  go_wp2_with fail
  rw [E1.out, E2.out, E3.out, E4.out]
  refine (impl_ok _ _ _ _ _ _ (Tab.below HT.out (((Below.refl _ w).alloc (Nat.le_refl _) _).alloc (by simp) _))).mono ?_
  rintro e w1 ⟨rfl, hb⟩
  rw [HQ.out]
  have hb0 := (((Below.refl _ w).alloc (Nat.le_refl _) (row 0 0 0 0 0)).alloc (by simp) (row (x / 67108864) (x / 4194304 % 16) (x / 262144 % 16) (x / 16384 % 16) (sx (x % 16384)))).trans (hb.mono (by simp; omega))
  have hz : ∀ i v, (#[Value.int .i64 0, .int .i64 0, .int .i64 0, .int .i64 0, .int .i64 0] : Array Value)[i]? = some v → w1.cell? ⟨w.heap.size, i, none⟩ = some v := fun i v h =>
    (hb.cell (p := ⟨w.heap.size, i, none⟩) (by simp; omega)).trans (cell_alloc (new_cell w _ 25 i v h))
  have hf : ∀ i, w1.frozen? ⟨w.heap.size, i, none⟩ = false := fun i =>
    (hb.frozen (p := ⟨w.heap.size, i, none⟩) (by simp; omega)).trans (by simp)
  have hr : ∀ i v, (#[Value.int .i64 (x / 67108864), .int .i64 (x / 4194304 % 16), .int .i64 (x / 262144 % 16), .int .i64 (x / 16384 % 16), .int .i64 (sx (x % 16384))] : Array Value)[i]? = some v → w1.cell? ⟨w.heap.size + 1, i, none⟩ = some v := fun i v h =>
    (hb.cell (p := ⟨w.heap.size + 1, i, none⟩) (by simp)).trans (by have := new_cell (w.alloc (row 0 0 0 0 0)) _ 25 i v h; simpa using this)
  have z0 := hz 0 (.int .i64 0) rfl
  have z1 := hz 1 (.int .i64 0) rfl
  have z2 := hz 2 (.int .i64 0) rfl
  have z3 := hz 3 (.int .i64 0) rfl
  have z4 := hz 4 (.int .i64 0) rfl
  have r0 := hr 0 (.int .i64 (x / 67108864)) rfl
  have r1 := hr 1 (.int .i64 (x / 4194304 % 16)) rfl
  have r2 := hr 2 (.int .i64 (x / 262144 % 16)) rfl
  have r3 := hr 3 (.int .i64 (x / 16384 % 16)) rfl
  have r4 := hr 4 (.int .i64 (sx (x % 16384))) rfl
  clear hr hz hb
  cases q
  · go_wp2
    exact bodyPost_ret (v := .tuple #[ins 0 0 0 0 0, .bool false]) (by simp [results, Tryd.results16, go_sem, z0, z1, z2, z3, z4]) rfl ⟨rfl, ((((hb0.setCell (Nat.le_refl _) _).setCell (Nat.le_refl _) _).setCell (Nat.le_refl _) _).setCell (Nat.le_refl _) _).setCell (Nat.le_refl _) _⟩
  · go_wp2
    exact bodyPost_ret (v := .tuple #[ins (x / 67108864) (x / 4194304 % 16) (x / 262144 % 16) (x / 16384 % 16) (sx (x % 16384)), .bool true]) (by simp [results, Tryd.results16, go_sem, z0, z1, z2, z3, z4]) rfl ⟨rfl, ((((hb0.setCell (Nat.le_refl _) _).setCell (Nat.le_refl _) _).setCell (Nat.le_refl _) _).setCell (Nat.le_refl _) _).setCell (Nat.le_refl _) _⟩
end Go.Proofs.YtdjapcfejmhjnaaDoor
