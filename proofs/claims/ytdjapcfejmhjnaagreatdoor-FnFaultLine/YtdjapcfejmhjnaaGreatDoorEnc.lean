/-
  The word of an instruction: what the specification's and the program's own Encode return, one word, at every instruction. Condition: the program's table of forms lies in memory as the program's text lays it.
-/
import Derived.Test.YtdjapcfejmhjnaaGreatDoorInstr
import Derived.Deep.QuietTactic
import Derived.BigQuiet
namespace Go.Proofs.YtdjapcfejmhjnaaGreatDoor
open Go.ChangeShapes Go.WideShapes Go.ChangeAt Go.RowKit
set_option linter.unusedVariables false
set_option maxRecDepth 20000

theorem instrOk_bounds (op a b c m : Int) (h : instrOk op a b c m = true) : 0 ≤ op ∧ op ≤ 32 ∧ 0 ≤ a ∧ a ≤ 15 ∧ 0 ≤ b ∧ b ≤ 15 ∧ 0 ≤ c ∧ c ≤ 15 ∧ -8192 ≤ m ∧ m ≤ 8191 := by
  by_cases ho : 0 ≤ op ∧ op < 33
  · obtain ⟨k, rfl⟩ := Int.eq_ofNat_of_zero_le ho.1
    by_cases hr : 0 ≤ a ∧ a ≤ 15 ∧ 0 ≤ b ∧ b ≤ 15 ∧ 0 ≤ c ∧ c ≤ 15 ∧ -8192 ≤ m ∧ m ≤ 8191
    · exact ⟨ho.1, by omega, hr⟩
    · rw [instrOk_far k a b c m _ (by omega) rfl hr] at h
      cases h
  · rw [instrOk_no op a b c m ho] at h
    cases h
theorem or_add (x y : Int) (s : Nat) (h0 : 0 ≤ x) (h1 : 0 ≤ y) (h2 : y < 2 ^ s) (h3 : x * 2 ^ s + y ≤ 4294967295) : bits .or .u32 (x * 2 ^ s) y = x * 2 ^ s + y := by
  obtain ⟨X, rfl⟩ := Int.eq_ofNat_of_zero_le h0
  obtain ⟨Y, rfl⟩ := Int.eq_ofNat_of_zero_le h1
  have e : (X : Int) * 2 ^ s = ((2 ^ s * X : Nat) : Int) := by simp [Int.mul_comm]
  have hY : Y < 2 ^ s := by
    have : (Y : Int) < ((2 ^ s : Nat) : Int) := by simpa using h2
    omega
  rw [e] at h3 ⊢
  rw [u32_or _ _ (by omega) (by omega) (by omega) (by omega), Int.toNat_natCast, Int.toNat_natCast, ← Nat.two_pow_add_eq_or_of_lt hY X]
  omega
theorem and_14 (z : Int) (h0 : 0 ≤ z) (h1 : z ≤ 4294967295) : bits .and .u32 z 16383 = z % 16384 := by
  have h31 : (BitVec.ofInt 32 16383).toNat = 2 ^ 14 - 1 := by decide
  have key : (BitVec.ofInt 32 z &&& BitVec.ofInt 32 16383).toNat = (z % ((2 ^ 32 : Nat) : Int)).toNat % 2 ^ 14 := by
    rw [BitVec.toNat_and, BitVec.toNat_ofInt, h31, Nat.and_two_pow_sub_one_eq_mod]
  show IntKind.u32.wrap ((BitVec.ofInt 32 z &&& BitVec.ofInt 32 16383).toNat : Nat) = z % 16384
  rw [key, IntKind.wrap_u32]
  omega
def code (op a b c m : Int) : Int := op * 67108864 + a * 4194304 + b * 262144 + c * 16384 + m % 16384
theorem code_eq (op a b c m : Int) (h1 : 0 ≤ op) (h2 : op ≤ 32) (h3 : 0 ≤ a) (h4 : a ≤ 15) (h5 : 0 ≤ b) (h6 : b ≤ 15) (h7 : 0 ≤ c) (h8 : c ≤ 15) (h9 : -8192 ≤ m) (h10 : m ≤ 8191) :
    bits .or .u32 (bits .or .u32 (bits .or .u32 (bits .or .u32 (op * 67108864) (a * 4194304)) (b * 262144)) (c * 16384)) (bits .and .u32 (m % 4294967296) 16383) = code op a b c m := by
  have e1 := or_add op (a * 4194304) 26 h1 (by omega) (by omega) (by omega)
  have e2 := or_add (op * 16 + a) (b * 262144) 22 (by omega) (by omega) (by omega) (by omega)
  have e3 := or_add (op * 256 + a * 16 + b) (c * 16384) 18 (by omega) (by omega) (by omega) (by omega)
  have e4 := or_add (op * 4096 + a * 256 + b * 16 + c) (m % 16384) 14 (by omega) (by omega) (by omega) (by omega)
  rw [and_14 _ (by omega) (by omega), show m % 4294967296 % 16384 = m % 16384 by omega, show op * 67108864 = op * 2 ^ 26 by omega, e1,
    show op * 2 ^ 26 + a * 4194304 = (op * 16 + a) * 2 ^ 22 by omega, e2, show (op * 16 + a) * 2 ^ 22 + b * 262144 = (op * 256 + a * 16 + b) * 2 ^ 18 by omega, e3,
    show (op * 256 + a * 16 + b) * 2 ^ 18 + c * 16384 = (op * 4096 + a * 256 + b * 16 + c) * 2 ^ 14 by omega, e4]
  unfold code
  omega
theorem mod_any (m : Int) (w : World) (h1 : -8192 ≤ m) (h2 : m ≤ 8191) : Calls Tryz.prog 38 #[.int .i64 m, .int .i64 16384] w fun e w' => e = .returned (.int .i64 (m % 16384)) ∧ w' = w := by
  by_cases h : 0 ≤ m
  · have e : m.tmod 16384 = m % 16384 := Int.tmod_eq_emod_of_nonneg h
    have g : ¬ m.tmod 16384 < 0 := by omega
    clear e
    go_enter Tryz.func38, Tryz.ntmps38
    go_wp2
    go_ret
    exact ⟨rfl, rfl⟩
  · have e : m.tmod 16384 = m := by
      have := Int.neg_tmod m 16384
      rw [Int.tmod_eq_emod_of_nonneg (by omega)] at this
      omega
    have HE : Hid (m + 16384 = m % 16384) := by show _ = _; omega
    have g : m.tmod 16384 < 0 := by omega
    go_enter Tryz.func38, Tryz.ntmps38
    go_wp2
    go_ret
    exact ⟨ret_int HE.out, rfl⟩
set_option maxHeartbeats 400000 in
theorem spec_enc (op a b c m : Int) (w : World) (h : instrOk op a b c m = true) : Calls Tryz.prog 22 #[ins op a b c m] w fun e w' => e = .returned (.tuple #[.int .u32 (code op a b c m), .bool true]) ∧ Below w.heap.size w w' := by
  obtain ⟨h1, h2, h3, h4, h5, h6, h7, h8, h9, h10⟩ := instrOk_bounds op a b c m h
  have HQ : Hid _ := h
  clear h
  go_enter Tryz.func22, Tryz.ntmps22
  go_wp2_with fail
  refine (spec_ok op a b c m _).mono ?_
  rintro e w1 ⟨rfl, hb⟩
  rw [HQ.out]
  have hb0 := ((Below.refl _ w).alloc (Nat.le_refl _) (row op a b c m)).trans (hb.mono (by simp))
  have hr : ∀ i v, (#[Value.int .i64 op, .int .i64 a, .int .i64 b, .int .i64 c, .int .i64 m] : Array Value)[i]? = some v → w1.cell? ⟨w.heap.size, i, none⟩ = some v := fun i v h =>
    (hb.cell (p := ⟨w.heap.size, i, none⟩) (by simp)).trans (new_cell w _ 46 i v h)
  have c0 := hr 0 (.int .i64 op) rfl
  have c1 := hr 1 (.int .i64 a) rfl
  have c2 := hr 2 (.int .i64 b) rfl
  have c3 := hr 3 (.int .i64 c) rfl
  have c4 := hr 4 (.int .i64 m) rfl
  clear hr hb
  go_wp2
  go_quiet (first | (go_at_call 38; refine Calls.quiet_of_same (mod_any m _ h9 h10)))
  go_wp2
  go_ret2
  exact ⟨rfl, below_drewN hb0 _⟩
set_option maxHeartbeats 400000 in
theorem impl_enc (op a b c m : Int) (w : World) (ht : Tab w) (h : instrOk op a b c m = true) : Calls Tryz.prog 102 #[ins op a b c m] w fun e w' => e = .returned (.tuple #[.int .u32 (code op a b c m), .bool true]) ∧ Below w.heap.size w w' := by
  obtain ⟨h1, h2, h3, h4, h5, h6, h7, h8, h9, h10⟩ := instrOk_bounds op a b c m h
  have HC : Hid _ := code_eq op a b c m h1 h2 h3 h4 h5 h6 h7 h8 h9 h10
  have HQ : Hid _ := h
  have HT : Hid _ := ht
  clear h ht
  go_enter Tryz.func102, Tryz.ntmps102
  go_wp2_with fail
  refine (impl_ok op a b c m _ (Tab.below HT.out ((Below.refl _ w).alloc (Nat.le_refl _) _))).mono ?_
  rintro e w1 ⟨rfl, hb⟩
  rw [HQ.out]
  have hb0 := ((Below.refl _ w).alloc (Nat.le_refl _) (row op a b c m)).trans (hb.mono (by simp))
  have hr : ∀ i v, (#[Value.int .i64 op, .int .i64 a, .int .i64 b, .int .i64 c, .int .i64 m] : Array Value)[i]? = some v → w1.cell? ⟨w.heap.size, i, none⟩ = some v := fun i v h =>
    (hb.cell (p := ⟨w.heap.size, i, none⟩) (by simp)).trans (new_cell w _ 46 i v h)
  have c0 := hr 0 (.int .i64 op) rfl
  have c1 := hr 1 (.int .i64 a) rfl
  have c2 := hr 2 (.int .i64 b) rfl
  have c3 := hr 3 (.int .i64 c) rfl
  have c4 := hr 4 (.int .i64 m) rfl
  clear hr hb
  go_wp2
  go_ret2
  exact ⟨ret_pair HC.out rfl, hb0⟩
theorem spec_enc_no (op a b c m : Int) (w : World) (h : instrOk op a b c m = false) : Calls Tryz.prog 22 #[ins op a b c m] w fun e w' => e = .returned (.tuple #[.int .u32 0, .bool false]) ∧ Below w.heap.size w w' := by
  have HQ : Hid _ := h
  clear h
  go_enter Tryz.func22, Tryz.ntmps22
  go_wp2_with fail
  refine (spec_ok op a b c m _).mono ?_
  rintro e w1 ⟨rfl, hb⟩
  rw [HQ.out]
  have hb0 := ((Below.refl _ w).alloc (Nat.le_refl _) (row op a b c m)).trans (hb.mono (by simp))
  go_wp2
  go_ret2
  exact ⟨rfl, hb0⟩
theorem impl_enc_no (op a b c m : Int) (w : World) (ht : Tab w) (h : instrOk op a b c m = false) : Calls Tryz.prog 102 #[ins op a b c m] w fun e w' => e = .returned (.tuple #[.int .u32 0, .bool false]) ∧ Below w.heap.size w w' := by
  have HQ : Hid _ := h
  have HT : Hid _ := ht
  clear h ht
  go_enter Tryz.func102, Tryz.ntmps102
  go_wp2_with fail
  refine (impl_ok op a b c m _ (Tab.below HT.out ((Below.refl _ w).alloc (Nat.le_refl _) _))).mono ?_
  rintro e w1 ⟨rfl, hb⟩
  rw [HQ.out]
  have hb0 := ((Below.refl _ w).alloc (Nat.le_refl _) (row op a b c m)).trans (hb.mono (by simp))
  go_wp2
  go_ret2
  exact ⟨rfl, hb0⟩
end Go.Proofs.YtdjapcfejmhjnaaGreatDoor
