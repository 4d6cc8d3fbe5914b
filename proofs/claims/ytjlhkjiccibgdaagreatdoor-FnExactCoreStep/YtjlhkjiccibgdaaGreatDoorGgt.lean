/-
  Plain facts on words of 32 bits: a number by its bits, the sign carried up, turning. No Go in sight; no conditions but those that each fact names.
  A word of four bytes and four bytes of a word, as chapter 1 has them. No conditions but that the arguments are values of their types.
  Where an access that nothing stands against lies in a guest's memory, and the word that is read there by the specification. Conditions: the guest is right for its windows.
-/
import Derived.Laws.BitsAllLaws
import Derived.Laws.BitsLemmas
import Derived.RowKit
import Derived.Test.YtjlhkjiccibgdaaGreatDoorProg
import Derived.Test.YtjlhkjiccibgdaaGreatDoorSegs
import Derived.Deep.QuietTactic
import Derived.BigQuiet
import Derived.Test.YtjlhkjiccibgdaaGreatDoorGok
import Derived.Test.YtjlhkjiccibgdaaGreatDoorFlt
namespace Go.Proofs.YtjlhkjiccibgdaaGreatDoor
open Go.RowKit
namespace Wd
/-- The number whose bits, from place 'i' on and for 'm' places, are those of 'f'. -/
def hor (f : Nat → Bool) : Nat → Nat → Nat
  | 0, _ => 0
  | m + 1, i => 2 * hor f m (i + 1) + (f i).toNat
theorem hor_bit (f : Nat → Bool) : ∀ m i j, (hor f m i).testBit j = (decide (j < m) && f (i + j))
  | 0, i, j => by simp [hor]
  | m + 1, i, 0 => by
    rw [hor, Nat.testBit_zero]
    cases f i <;> simp
  | m + 1, i, j + 1 => by
    rw [hor, Nat.testBit_succ]
    have : (2 * hor f m (i + 1) + (f i).toNat) / 2 = hor f m (i + 1) := by
      have : (f i).toNat ≤ 1 := Bool.toNat_le _
      omega
    rw [this, hor_bit f m (i + 1) j, show i + 1 + j = i + (j + 1) by omega]
    simp
theorem hor_lt (f : Nat → Bool) : ∀ m i, hor f m i < 2 ^ m
  | 0, i => by simp [hor]
  | m + 1, i => by
    have := hor_lt f m (i + 1)
    have : (f i).toNat ≤ 1 := Bool.toNat_le _
    rw [hor, Nat.pow_succ]; omega
theorem bit_div (x i : Nat) : x / 2 ^ i % 2 = (x.testBit i).toNat := by
  rw [Nat.testBit_eq_decide_div_mod_eq]
  rcases Nat.mod_two_eq_zero_or_one (x / 2 ^ i) with h | h <;> simp [h]
theorem sext_eq (x k : Nat) (h1 : 1 ≤ k) (h2 : k ≤ 32) :
    hor (fun i => x.testBit (if i > k - 1 then k - 1 else i)) 32 0 = ((BitVec.ofNat 32 (x * 2 ^ (32 - k))).sshiftRight (32 - k)).toNat := by
  apply Nat.eq_of_testBit_eq
  intro j
  rw [hor_bit, BitVec.testBit_toNat, BitVec.getLsbD_sshiftRight]
  simp only [BitVec.getLsbD_ofNat, BitVec.msb_eq_getLsbD_last, Nat.testBit_mul_two_pow, Nat.zero_add]
  by_cases hj : j < 32
  · have e0 : ¬ 32 ≤ j := by omega
    by_cases hk : j > k - 1
    · have e1 : ¬ (32 - k + j < 32) := by omega
      have e2 : 32 - 1 - (32 - k) = k - 1 := by omega
      have e3 : 32 - k ≤ 32 - 1 := by omega
      rw [if_pos hk, if_neg e1, e2]
      simp [hj, e0, e3]
    · have e1 : (32 - k + j < 32) := by omega
      have e2 : 32 - k + j - (32 - k) = j := by omega
      rw [if_neg hk, if_pos e1, e2]
      simp [hj, e0, e1]
  · simp [hj]
theorem sar_eq (x k : Nat) (_h2 : k < 32) :
    hor (fun i => x.testBit (if i + k > 31 then 31 else i + k)) 32 0 = ((BitVec.ofNat 32 x).sshiftRight k).toNat := by
  apply Nat.eq_of_testBit_eq
  intro j
  rw [hor_bit, BitVec.testBit_toNat, BitVec.getLsbD_sshiftRight]
  simp only [BitVec.getLsbD_ofNat, BitVec.msb_eq_getLsbD_last, Nat.zero_add]
  by_cases hj : j < 32
  · have e0 : ¬ 32 ≤ j := by omega
    by_cases hk : j + k > 31
    · have e1 : ¬ (k + j < 32) := by omega
      rw [if_pos hk, if_neg e1]
      simp [hj, e0]
    · have e1 : (k + j < 32) := by omega
      rw [if_neg hk, if_pos e1, Nat.add_comm j k]
      simp [hj, e0, e1]
  · simp [hj]
theorem far (x m : Nat) (hx : x < 4294967296) (hm : 32 ≤ m) : x.testBit m = false :=
  Nat.testBit_lt_two_pow (Nat.lt_of_lt_of_le hx (by
    have : 2 ^ 32 ≤ 2 ^ m := Nat.pow_le_pow_right (by omega) hm
    simpa using this))
theorem rot_eq (x k : Nat) (hx : x < 4294967296) (h2 : k < 32) :
    hor (fun i => x.testBit (if i < k then i + 32 - k else i - k)) 32 0 = (x * 2 ^ k % 4294967296) ||| (x / 2 ^ (32 - k)) := by
  apply Nat.eq_of_testBit_eq
  intro j
  rw [hor_bit, Nat.testBit_or, show (4294967296 : Nat) = 2 ^ 32 by decide, Nat.testBit_mod_two_pow, Nat.testBit_mul_two_pow, Nat.testBit_div_two_pow]
  simp only [Nat.zero_add]
  by_cases hj : j < 32
  · by_cases hk : j < k
    · have e1 : ¬ k ≤ j := by omega
      rw [if_pos hk, show j + 32 - k = j + (32 - k) by omega]
      simp [hj, e1]
    · have e1 : k ≤ j := by omega
      rw [if_neg hk, far x (j + (32 - k)) hx (by omega)]
      simp [hj, e1]
  · rw [far x (j + (32 - k)) hx (by omega)]
    simp [hj]

theorem and31 (n : Int) : bits .and .i64 n 31 = n % 32 := by
  have h31 : (BitVec.ofInt 64 31).toNat = 2 ^ 5 - 1 := by decide
  have key : (BitVec.ofInt 64 n &&& BitVec.ofInt 64 31).toNat = (n % ((2 ^ 64 : Nat) : Int)).toNat % 2 ^ 5 := by
    rw [BitVec.toNat_and, BitVec.toNat_ofInt, h31, Nat.and_two_pow_sub_one_eq_mod]
  show IntKind.i64.wrap ((BitVec.ofInt 64 n &&& BitVec.ofInt 64 31).toNat : Nat) = n % 32
  rw [key, IntKind.wrap_i64]
  omega
theorem and1 (n : Int) : bits .and .i64 n 1 = n % 2 := by
  have h1 : (BitVec.ofInt 64 1).toNat = 2 ^ 1 - 1 := by decide
  have key : (BitVec.ofInt 64 n &&& BitVec.ofInt 64 1).toNat = (n % ((2 ^ 64 : Nat) : Int)).toNat % 2 ^ 1 := by
    rw [BitVec.toNat_and, BitVec.toNat_ofInt, h1, Nat.and_two_pow_sub_one_eq_mod]
  show IntKind.i64.wrap ((BitVec.ofInt 64 n &&& BitVec.ofInt 64 1).toNat : Nat) = n % 2
  rw [key, IntKind.wrap_i64]
  omega
theorem wrap32_bmod (n : Int) : wrap32 (n % 4294967296) = n.bmod 4294967296 := by
  unfold wrap32
  rw [Int.bmod_def]
  split <;> omega
theorem nat_of_toInt (v : BitVec 32) : (v.toNat : Int) = v.toInt % 4294967296 := by
  rw [BitVec.toInt_eq_toNat_bmod]
  have := v.isLt
  rw [Int.bmod_def]
  split <;> omega
theorem sar_int (x k : Nat) : wrap32 ((x : Int) % 4294967296) / 2 ^ k % 4294967296 = (((BitVec.ofNat 32 x).sshiftRight k).toNat : Int) := by
  rw [nat_of_toInt, BitVec.toInt_sshiftRight, BitVec.toInt_eq_toNat_bmod, BitVec.toNat_ofNat, wrap32_bmod, Int.shiftRight_eq_div_pow]
  have e : ((x % 2 ^ 32 : Nat) : Int).bmod (2 ^ 32) = (x : Int).bmod 4294967296 := by
    have : ((x % 2 ^ 32 : Nat) : Int) = (x : Int) % ((2 ^ 32 : Nat) : Int) := by omega
    rw [this, Int.emod_bmod]
  rw [e]
  rfl
/-- What the bit at place 'i' comes to, as the text reckons it. -/
theorem bit_int (x i : Int) (h0 : 0 ≤ x) (h1 : x ≤ 4294967295) : bits .and .i64 (wrap64 (x / 2 ^ i.toNat)) 1 = ((x.toNat.testBit i.toNat).toNat : Int) := by
  obtain ⟨X, rfl⟩ := Int.eq_ofNat_of_zero_le h0
  have e : (X : Int) / 2 ^ i.toNat = ((X / 2 ^ i.toNat : Nat) : Int) := by simp
  have hle : X / 2 ^ i.toNat ≤ X := Nat.div_le_self _ _
  rw [and1, e]
  rw [show (((X : Int).toNat.testBit i.toNat).toNat : Int) = ((X / 2 ^ i.toNat % 2 : Nat) : Int) by rw [bit_div, Int.toNat_natCast]]
  unfold wrap64
  omega
theorem hor_round (f : Nat → Bool) (m : Nat) (hm : m < 32) (c b : Int) (hc : c = (hor f m (32 - m) : Nat)) (hb : b = ((f (31 - m)).toNat : Nat)) :
    0 ≤ 2 * c + b ∧ 2 * c + b ≤ 4294967295 ∧ 2 * c + b = (hor f (m + 1) (32 - (m + 1)) : Nat) := by
  have e : hor f (m + 1) (32 - (m + 1)) = 2 * hor f m (32 - m) + (f (31 - m)).toNat := by
    rw [hor, show 32 - (m + 1) + 1 = 32 - m by omega, show 32 - (m + 1) = 31 - m by omega]
  have l := hor_lt f (m + 1) (32 - (m + 1))
  have p : 2 ^ (m + 1) ≤ 2 ^ 32 := Nat.pow_le_pow_right (by omega) (by omega)
  rw [e] at l ⊢
  omega
def sext (x k : Nat) : Nat := hor (fun i => x.testBit (if i > k - 1 then k - 1 else i)) 32 0
def sar (x k : Nat) : Nat := hor (fun i => x.testBit (if i + k > 31 then 31 else i + k)) 32 0
def rot (x k : Nat) : Nat := hor (fun i => x.testBit (if i < k then i + 32 - k else i - k)) 32 0
theorem sext_int (x k : Int) (h0 : 0 ≤ x) (h1 : 1 ≤ k) (h2 : k ≤ 32) :
    wrap32 (x * 2 ^ (32 - k).toNat % 4294967296) / 2 ^ (32 - k).toNat % 4294967296 = (sext x.toNat k.toNat : Int) := by
  obtain ⟨X, rfl⟩ := Int.eq_ofNat_of_zero_le h0
  have e : (32 - k).toNat = 32 - k.toNat := by omega
  have c : (X : Int) * 2 ^ (32 - k.toNat) = ((X * 2 ^ (32 - k.toNat) : Nat) : Int) := by simp
  rw [e, c, sar_int, sext, Int.toNat_natCast, sext_eq X k.toNat (by omega) (by omega)]
theorem sar_of (x k : Int) (h0 : 0 ≤ x) (h1 : x ≤ 4294967295) : wrap32 x / 2 ^ (k % 32).toNat % 4294967296 = (sar x.toNat (k % 32).toNat : Int) := by
  obtain ⟨X, rfl⟩ := Int.eq_ofNat_of_zero_le h0
  have e : (X : Int) = (X : Int) % 4294967296 := by omega
  rw [Int.toNat_natCast, sar, sar_eq X _ (by omega), ← sar_int, ← e]
theorem rot_int (x k : Int) (h0 : 0 ≤ x) (h1 : x ≤ 4294967295) :
    bits .or .u32 (x * 2 ^ (k % 32).toNat % 4294967296) (x / 2 ^ (32 - k % 32).toNat) = (rot x.toNat (k % 32).toNat : Int) := by
  obtain ⟨X, rfl⟩ := Int.eq_ofNat_of_zero_le h0
  have e : (32 - k % 32).toNat = 32 - (k % 32).toNat := by omega
  have c : (X : Int) * 2 ^ (k % 32).toNat % 4294967296 = ((X * 2 ^ (k % 32).toNat % 4294967296 : Nat) : Int) := by simp
  have d : (X : Int) / 2 ^ (32 - (k % 32).toNat) = ((X / 2 ^ (32 - (k % 32).toNat) : Nat) : Int) := by simp
  have hle : X / 2 ^ (32 - (k % 32).toNat) ≤ X := Nat.div_le_self _ _
  generalize hq : X / 2 ^ (32 - (k % 32).toNat) = q at d hle
  generalize hp : X * 2 ^ (k % 32).toNat = p at c
  rw [e, c, d, u32_or _ _ (by omega) (by omega) (by omega) (by omega), ← hq, ← hp, Int.toNat_natCast, Int.toNat_natCast, Int.toNat_natCast, rot, rot_eq X _ (by omega) (by omega)]
/-- The remainder that is never below 0. -/
theorem mod_int (n : Int) : (0 ≤ n.tmod 32 → n.tmod 32 = n % 32) ∧ (n.tmod 32 < 0 → wrap64 (n.tmod 32 + 32) = n % 32) ∧ -32 < n.tmod 32 ∧ n.tmod 32 < 32 := by
  have e : n.tmod 32 = if 0 ≤ n then n % 32 else -(-n % 32) := by
    split
    · exact Int.tmod_eq_emod_of_nonneg (by omega)
    · have := Int.neg_tmod n 32
      rw [Int.tmod_eq_emod_of_nonneg (by omega)] at this
      omega
  rw [e]
  unfold wrap64
  split <;> omega
end Wd
end Go.Proofs.YtjlhkjiccibgdaaGreatDoor
namespace Go.Proofs.YtjlhkjiccibgdaaGreatDoor
open Go.ChangeShapes Go.WideShapes Go.ChangeAt Go.RowKit Go.Deep
set_option linter.unusedVariables false
namespace Wd
def bytes (x : Int) : List Int := [x % 256, x / 256 % 256, x / 65536 % 256, x / 16777216]
theorem join_or (c z : Int) (m : Nat) (h0 : 0 ≤ c) (h1 : c < 2 ^ (8 * m)) (z0 : 0 ≤ z) (z1 : z ≤ 255) (hm : m ≤ 3) : bits .or .u32 c (z * 2 ^ (8 * m) % 4294967296) = c + z * 2 ^ (8 * m) := by
  obtain ⟨C, rfl⟩ := Int.eq_ofNat_of_zero_le h0
  obtain ⟨Z, rfl⟩ := Int.eq_ofNat_of_zero_le z0
  have e : (Z : Int) * 2 ^ (8 * m) = ((2 ^ (8 * m) * Z : Nat) : Int) := by simp [Int.mul_comm]
  have hC : C < 2 ^ (8 * m) := by
    have : (C : Int) < ((2 ^ (8 * m) : Nat) : Int) := by simpa using h1
    omega
  have hp : 2 ^ (8 * m) ≤ 2 ^ 24 := Nat.pow_le_pow_right (by omega) (by omega)
  have hq : 2 ^ (8 * m) * Z ≤ 2 ^ 24 * 255 := Nat.mul_le_mul hp (by omega)
  rw [e, u32_or _ _ (by omega) (by omega) (by omega) (by omega)]
  have hj := Nat.two_pow_add_eq_or_of_lt hC Z
  have em : (((2 ^ (8 * m) * Z : Nat) : Int) % 4294967296).toNat = 2 ^ (8 * m) * Z := by omega
  rw [em, Int.toNat_natCast, Nat.or_comm, ← hj]
  omega
theorem join4 (x y z t : Int) (g1 : 0 ≤ x) (g2 : x ≤ 255) (g3 : 0 ≤ y) (g4 : y ≤ 255) (g5 : 0 ≤ z) (g6 : z ≤ 255) (g7 : 0 ≤ t) (g8 : t ≤ 255) :
    bits .or .u32 (bits .or .u32 (bits .or .u32 (bits .or .u32 0 x) (y * 256)) (z * 65536)) (t * 16777216) = x + 256 * y + 65536 * z + 16777216 * t := by
  have H1 := join_or 0 x 0 (by omega) (by omega) g1 g2 (by omega)
  have H2 := join_or x y 1 (by omega) (by omega) g3 g4 (by omega)
  have H3 := join_or (x + y * 256) z 2 (by omega) (by omega) g5 g6 (by omega)
  have H4 := join_or (x + y * 256 + z * 65536) t 3 (by omega) (by omega) g7 g8 (by omega)
  simp only [Nat.mul_zero, Nat.mul_one, Int.pow_zero, Int.mul_one, Int.zero_add, show (2 : Int) ^ 8 = 256 by decide, show (2 : Int) ^ (8 * 2) = 65536 by decide, show (2 : Int) ^ (8 * 3) = 16777216 by decide] at H1 H2 H3 H4
  rw [show x % 4294967296 = x by omega] at H1
  rw [show y * 256 % 4294967296 = y * 256 by omega] at H2
  rw [show z * 65536 % 4294967296 = z * 65536 by omega] at H3
  rw [show t * 16777216 % 4294967296 = t * 16777216 by omega] at H4
  rw [H1, H2, H3, H4]
  omega
end Wd
set_option maxHeartbeats 400000 in
theorem impl_word (b off cap : Nat) (x y z t : Int) (w : World) (g1 : 0 ≤ x) (g2 : x ≤ 255) (g3 : 0 ≤ y) (g4 : y ≤ 255) (g5 : 0 ≤ z) (g6 : z ≤ 255) (g7 : 0 ≤ t) (g8 : t ≤ 255)
    (c0 : w.cell? ⟨b, off, none⟩ = some (.int .u8 x)) (c1 : w.cell? ⟨b, off + 1, none⟩ = some (.int .u8 y)) (c2 : w.cell? ⟨b, off + 2, none⟩ = some (.int .u8 z)) (c3 : w.cell? ⟨b, off + 3, none⟩ = some (.int .u8 t)) :
    Calls Tryz.prog 77 #[.slice (some ⟨b, off, none⟩) 4 cap] w fun e w' => e = .returned (.tuple #[.int .u32 (x + 256 * y + 65536 * z + 16777216 * t), .bool true]) ∧ ∃ m, w' = w.drewN m := by
  have HJ : Hid _ := Wd.join4 x y z t g1 g2 g3 g4 g5 g6 g7 g8
  go_enter Tryz.func77, Tryz.ntmps77
  go_wp2
  refine wp_loop_rounds 5 ?_
  rw [rounds_succ]
  go_wp2
  rw [rounds_succ]
  go_wp2
  rw [rounds_succ]
  go_wp2
  rw [rounds_succ]
  go_wp2
  rw [rounds_succ]
  go_wp2
  go_ret2
  exact ⟨ret_pair HJ.out rfl, 0, rfl⟩

theorem own_four (w : World) (a b c d : Int) (T : TypeId) : Own .u8 (w.alloc (.cells #[.int .u8 a, .int .u8 b, .int .u8 c, .int .u8 d] T)) w.heap.size [a, b, c, d] := by
  have h := World.rowIs_alloc w #[.int .u8 a, .int .u8 b, .int .u8 c, .int .u8 d] T (fun i => .int .u8 ([a, b, c, d].getD i 0)) (by
    intro i hi
    match i, hi with
    | 0, _ => rfl
    | 1, _ => rfl
    | 2, _ => rfl
    | 3, _ => rfl)
  exact ⟨by simp, fun i hi => h.cell hi, fun i => h.frozen i⟩
set_option maxHeartbeats 400000 in
theorem spec_bytes (x : Int) (w : World) (h1 : 0 ≤ x) (h2 : x ≤ 4294967295) :
    Calls Tryz.prog 68 #[.int .u32 x] w fun e w' => e = .returned (.slice (some ⟨w.heap.size, 0, none⟩) 4 4) ∧ Below w.heap.size w w' ∧ w'.heap.size = w.heap.size + 1 ∧ Own .u8 w' w.heap.size (Wd.bytes x) := by
  go_enter Tryz.func68, Tryz.ntmps68
  go_wp2
  go_ret
  exact ⟨rfl, (Below.refl _ _).alloc (Nat.le_refl _) _, by simp, own_four w _ _ _ _ 5⟩
set_option maxHeartbeats 400000 in
theorem impl_bytes (x : Int) (w : World) (h1 : 0 ≤ x) (h2 : x ≤ 4294967295) :
    Calls Tryz.prog 95 #[.int .u32 x] w fun e w' => e = .returned (.slice (some ⟨w.heap.size, 0, none⟩) 4 4) ∧ Below w.heap.size w w' ∧ w'.heap.size = w.heap.size + 1 ∧ Own .u8 w' w.heap.size (Wd.bytes x) := by
  have hmk : ∀ w : World, (Instr.makeSlice 61 (.int .i64 4) (.int .i64 4)).run Tryz.prog w = .ok (.slice (some ⟨w.heap.size, 0, none⟩) 4 4) (w.alloc (.cells #[.int .u8 0, .int .u8 0, .int .u8 0, .int .u8 0] 5)) := fun _ => by kernel_rfl
  go_enter Tryz.func95, Tryz.ntmps95
  go_wp2
  refine wp_loop_rounds 5 ?_
  rw [rounds_succ]
  go_wp2
  rw [rounds_succ]
  go_wp2
  rw [rounds_succ]
  go_wp2
  rw [rounds_succ]
  go_wp2
  rw [rounds_succ]
  go_wp2
  go_ret
  exact ⟨rfl, (Below.refl _ _).alloc (Nat.le_refl _) _, by simp, own_four w _ _ _ _ 5⟩
end Go.Proofs.YtjlhkjiccibgdaaGreatDoor
namespace Go.Proofs.YtjlhkjiccibgdaaGreatDoor
open Go.ChangeShapes Go.WideShapes Go.ChangeAt Go.RowKit Go.Deep
set_option linter.unusedVariables false

def bt (D : Nat → List Int) (K i : Nat) : Int := (D K).getD i 0
/-- The word of 'S' bytes in row 'K' from place 'fr' on. -/
def getW (D : Nat → List Int) (K fr S : Nat) : Int := if S = 1 then bt D K fr else bt D K fr + 256 * bt D K (fr + 1) + 65536 * bt D K (fr + 2) + 16777216 * bt D K (fr + 3)
/-- An access of 'S' bytes at 'ad' lies in row 'K' from place 'fr' on; the window begins at 'bs'. -/
structure AccIn (xs : List Wn) (n : Nat) (D : Nat → List Int) (ad size : Int) (K fr S : Nat) (bs : Int) : Prop where
  lt : K < n
  base : (xs.getD K wn0).1 = bs
  bs0 : 0 ≤ bs
  bs1 : bs ≤ 2048
  at_ : ad = bs + (fr : Int)
  sz : size = (S : Int)
  s14 : S = 1 ∨ S = 4
  inn : fr + S ≤ (D K).length
  len : (D K).length ≤ 2048
theorem acc_in {xs : List Wn} {rs : List Int} {n : Nat} {D : Nat → List Int} {ad ra size kind p : Int} (hg : GOk xs rs n D) (hat : AtP xs n ad ra) (hacc : AccP size kind) (hf : FauP size kind ad ra p 0) : ∃ K fr S bs, ra = ((K : Nat) : Int) ∧ AccIn xs n D ad size K fr S bs := by
  obtain ⟨hw, _, _, hn, hrow⟩ := hg
  rcases hf with ⟨_, h⟩ | ⟨_, _, h⟩ | ⟨_, _, _, h⟩ | ⟨hm, h0, _, _⟩
  · cases h
  · cases h
  · cases h
  · rcases hat with ⟨h1, _⟩ | ⟨K, hK, rfl, ⟨hb1, hb2⟩, _⟩
    · omega
    · have hwo : WOk (xs.getD K wn0) := hw.at (by omega)
      have hr := hrow K hK
      obtain ⟨g1, g2, g3, g4, g5, _⟩ := hwo
      rcases hxe : xs.getD K wn0 with ⟨b, s, q⟩
      rw [hxe] at hb1 hb2 hr g1 g2 g3 g4 g5
      simp only at hb1 hb2 hr g1 g2 g3 g4 g5
      obtain ⟨fr, hfr⟩ := Int.eq_ofNat_of_zero_le (show 0 ≤ ad - b by omega)
      rcases hacc.1 with rfl | rfl
      · exact ⟨K, fr, 1, b, rfl, hK, by rw [hxe], g1, by omega, by omega, rfl, .inl rfl, by omega, by omega⟩
      · have hm4 := (tm4 ad).1 hm
        exact ⟨K, fr, 4, b, rfl, hK, by rw [hxe], g1, by omega, by omega, rfl, .inr rfl, by omega, by omega⟩
set_option maxHeartbeats 4000000 in
theorem spec_get1 (a ra ma : Option Addr) (cap wn rl rc n mc K fr : Nat) (pc bs : Int) (xs : List Wn) (D : Nat → List Int) (w : World) (hs : ASeg w a xs) (hl : xs.length = wn) (ho : WsOk xs) (hm : BSeg w ma n D) (hnw : n = wn) (hK : K < n) (hat : AtP xs wn (bs + (fr : Int)) (K : Int)) (hbs : (xs.getD K wn0).1 = bs) (hb0 : 0 ≤ bs) (hb1 : bs ≤ 2048) (hin : fr + 1 ≤ (D K).length) (hln : (D K).length ≤ 2048) (hb8 : ∀ z ∈ D K, (Lit.int .u8 z).wf = true) :
    Calls Tryz.prog 45 #[.slice a wn cap, gst ra rl rc pc ma n mc, .int .i64 (bs + (fr : Int)), .int .i64 1] w fun e w' => e = .returned (.int .u32 (getW D K fr 1)) ∧ Below w.heap.size w w' := by
  subst hnw
  have hbw : Below w.heap.size w (w.alloc (.cells #[.slice ra rl rc, .int .u32 pc, .slice ma n mc] 30)) := (Below.refl _ w).alloc (Nat.le_refl _) _
  have B0 := Bk.new w #[.slice ra rl rc, .int .u32 pc, .slice ma n mc] 30 w.heap.size rfl
  have HAT : Hid _ := spec_l07at a cap n xs (bs + (fr : Int)) (K : Int) _ (hs.below hbw) hl ho hat
  have HFX : Hid (∀ X, Below w.heap.size w X → (∃ b1 o1, a = some ⟨b1, o1, none⟩ ∧ X.cell? ⟨b1, o1 + K * 3, none⟩ = some (.int .i64 bs)) ∧ ∃ b2 o2 ai ci bi oi, ma = some ⟨b2, o2, none⟩ ∧ X.cell? ⟨b2, o2 + K, none⟩ = some (.slice (some ⟨bi, oi, none⟩) (D K).length ci) ∧ ai = some (⟨bi, oi, none⟩ : Addr) ∧ ∀ j, fr + j < (D K).length → X.cell? ⟨bi, oi + (fr + j), none⟩ = some (.int .u8 ((D K).getD (fr + j) 0))) := fun X hX => by
    obtain ⟨b1, o1, e, hbl1, p0, p1, p2⟩ := ASeg.at (hs.below hX) K (by rw [hl]; exact hK)
    rw [hbs] at p0
    obtain ⟨b2, o2, ai, ci, e2, hbl2, c2, s2⟩ := BSeg.at (hm.below hX) K hK
    obtain ⟨bi, oi, e3, hbl3, hc3⟩ := s2 (by omega)
    subst e3
    exact ⟨⟨b1, o1, e, p0⟩, b2, o2, _, ci, bi, oi, e2, c2, rfl, fun j hj => hc3 (fr + j) hj⟩
  have HB : Hid _ := hbw
  have HV : Hid _ := (rfl : getW D K fr 1 = getW D K fr 1)
  clear hs hl ho hm hat hbs hbw
  go_enter Tryz.func45, Tryz.ntmps45
  go_wp2_with fail
  refine Calls.mono HAT.out ?_
  rintro u w1 ⟨rfl, hb1'⟩
  have hbx := HB.out.trans (hb1'.mono HB.out.size)
  replace B0 := B0.below hb1'
  have c2 := B0.cell 2 _ rfl
  obtain ⟨⟨b1, o1, rfl, p0⟩, b2, o2, ai, ci, bi, oi, rfl, e2, rfl, hq⟩ := HFX.out w1 hbx
  have HBX : Hid _ := hbx
  have hcx := And.intro e2 hq
  have hi0 : fr + 0 < (D K).length := by omega
  have q0 := hcx.2 0 hi0
  obtain ⟨z0, HZ0⟩ : ∃ z, Hid ((D K).getD (fr + 0) 0 = z) := ⟨_, rfl⟩
  rw [HZ0.out] at q0
  have hz0 := hb8 _ (getD_mem (D K) (fr + 0) hi0)
  rw [HZ0.out] at hz0
  obtain ⟨y0, Y0⟩ := bounds_u8 hz0
  have HG : Hid (getW D K fr 1 = z0) := by
    have e0 : (D K).getD fr 0 = z0 := HZ0.out
    show getW D K fr 1 = _
    unfold getW bt
    rw [if_pos rfl]; exact e0
  obtain ⟨len, Hlen⟩ : ∃ len, Hid ((D K).length = len) := ⟨_, rfl⟩
  rw [Hlen.out] at e2 hin hln hi0
  have hK' : (K : Int) < (n : Int) := by omega
  have hw0 : IntKind.i64.wrap (bs + (fr : Int) - bs) = (fr : Int) := by rw [IntKind.wrap_i64]; omega
  have hw1 : IntKind.i64.wrap (0) = 0 := by rw [IntKind.wrap_i64]; omega
  have hw2 : IntKind.i64.wrap ((fr : Int)) = (fr : Int) := by rw [IntKind.wrap_i64]; omega
  have hw3 : IntKind.i64.wrap (z0) = z0 := by rw [IntKind.wrap_i64]; omega
  rw [Nat.add_zero] at q0 hi0
  clear hcx hq hb8 B0 hb1' hbx HAT HB HFX hz0 HZ0 HV
  go_wp2
  refine wp_loop_rounds 2 ?_
  rw [rounds_succ]
  go_wp2
  go_quiet (fail)
  go_wp2
  rw [rounds_succ]
  go_wp2
  go_ret
  exact ⟨ret_int (by have := HG.out; omega), below_drewN HBX.out _⟩
set_option maxHeartbeats 4000000 in
theorem spec_get4 (a ra ma : Option Addr) (cap wn rl rc n mc K fr : Nat) (pc bs : Int) (xs : List Wn) (D : Nat → List Int) (w : World) (hs : ASeg w a xs) (hl : xs.length = wn) (ho : WsOk xs) (hm : BSeg w ma n D) (hnw : n = wn) (hK : K < n) (hat : AtP xs wn (bs + (fr : Int)) (K : Int)) (hbs : (xs.getD K wn0).1 = bs) (hb0 : 0 ≤ bs) (hb1 : bs ≤ 2048) (hin : fr + 4 ≤ (D K).length) (hln : (D K).length ≤ 2048) (hb8 : ∀ z ∈ D K, (Lit.int .u8 z).wf = true) :
    Calls Tryz.prog 45 #[.slice a wn cap, gst ra rl rc pc ma n mc, .int .i64 (bs + (fr : Int)), .int .i64 4] w fun e w' => e = .returned (.int .u32 (getW D K fr 4)) ∧ Below w.heap.size w w' := by
  subst hnw
  have hbw : Below w.heap.size w (w.alloc (.cells #[.slice ra rl rc, .int .u32 pc, .slice ma n mc] 30)) := (Below.refl _ w).alloc (Nat.le_refl _) _
  have B0 := Bk.new w #[.slice ra rl rc, .int .u32 pc, .slice ma n mc] 30 w.heap.size rfl
  have HAT : Hid _ := spec_l07at a cap n xs (bs + (fr : Int)) (K : Int) _ (hs.below hbw) hl ho hat
  have HFX : Hid (∀ X, Below w.heap.size w X → (∃ b1 o1, a = some ⟨b1, o1, none⟩ ∧ X.cell? ⟨b1, o1 + K * 3, none⟩ = some (.int .i64 bs)) ∧ ∃ b2 o2 ai ci bi oi, ma = some ⟨b2, o2, none⟩ ∧ X.cell? ⟨b2, o2 + K, none⟩ = some (.slice (some ⟨bi, oi, none⟩) (D K).length ci) ∧ ai = some (⟨bi, oi, none⟩ : Addr) ∧ ∀ j, fr + j < (D K).length → X.cell? ⟨bi, oi + (fr + j), none⟩ = some (.int .u8 ((D K).getD (fr + j) 0))) := fun X hX => by
    obtain ⟨b1, o1, e, hbl1, p0, p1, p2⟩ := ASeg.at (hs.below hX) K (by rw [hl]; exact hK)
    rw [hbs] at p0
    obtain ⟨b2, o2, ai, ci, e2, hbl2, c2, s2⟩ := BSeg.at (hm.below hX) K hK
    obtain ⟨bi, oi, e3, hbl3, hc3⟩ := s2 (by omega)
    subst e3
    exact ⟨⟨b1, o1, e, p0⟩, b2, o2, _, ci, bi, oi, e2, c2, rfl, fun j hj => hc3 (fr + j) hj⟩
  have HB : Hid _ := hbw
  have HV : Hid _ := (rfl : getW D K fr 4 = getW D K fr 4)
  clear hs hl ho hm hat hbs hbw
  go_enter Tryz.func45, Tryz.ntmps45
  go_wp2_with fail
  refine Calls.mono HAT.out ?_
  rintro u w1 ⟨rfl, hb1'⟩
  have hbx := HB.out.trans (hb1'.mono HB.out.size)
  replace B0 := B0.below hb1'
  have c2 := B0.cell 2 _ rfl
  obtain ⟨⟨b1, o1, rfl, p0⟩, b2, o2, ai, ci, bi, oi, rfl, e2, rfl, hq⟩ := HFX.out w1 hbx
  have HBX : Hid _ := hbx
  have hcx := And.intro e2 hq
  have hi0 : fr + 0 < (D K).length := by omega
  have hi1 : fr + 1 < (D K).length := by omega
  have hi2 : fr + 2 < (D K).length := by omega
  have hi3 : fr + 3 < (D K).length := by omega
  have q0 := hcx.2 0 hi0
  have q1 := hcx.2 1 hi1
  have q2 := hcx.2 2 hi2
  have q3 := hcx.2 3 hi3
  obtain ⟨z0, HZ0⟩ : ∃ z, Hid ((D K).getD (fr + 0) 0 = z) := ⟨_, rfl⟩
  rw [HZ0.out] at q0
  have hz0 := hb8 _ (getD_mem (D K) (fr + 0) hi0)
  rw [HZ0.out] at hz0
  obtain ⟨y0, Y0⟩ := bounds_u8 hz0
  obtain ⟨z1, HZ1⟩ : ∃ z, Hid ((D K).getD (fr + 1) 0 = z) := ⟨_, rfl⟩
  rw [HZ1.out] at q1
  have hz1 := hb8 _ (getD_mem (D K) (fr + 1) hi1)
  rw [HZ1.out] at hz1
  obtain ⟨y1, Y1⟩ := bounds_u8 hz1
  obtain ⟨z2, HZ2⟩ : ∃ z, Hid ((D K).getD (fr + 2) 0 = z) := ⟨_, rfl⟩
  rw [HZ2.out] at q2
  have hz2 := hb8 _ (getD_mem (D K) (fr + 2) hi2)
  rw [HZ2.out] at hz2
  obtain ⟨y2, Y2⟩ := bounds_u8 hz2
  obtain ⟨z3, HZ3⟩ : ∃ z, Hid ((D K).getD (fr + 3) 0 = z) := ⟨_, rfl⟩
  rw [HZ3.out] at q3
  have hz3 := hb8 _ (getD_mem (D K) (fr + 3) hi3)
  rw [HZ3.out] at hz3
  obtain ⟨y3, Y3⟩ := bounds_u8 hz3
  have HG : Hid (getW D K fr 4 = z0 + 256 * z1 + 65536 * z2 + 16777216 * z3) := by
    have e0 : (D K).getD fr 0 = z0 := HZ0.out
    show getW D K fr 4 = _
    unfold getW bt
    rw [if_neg (by omega), e0, HZ1.out, HZ2.out, HZ3.out]
  obtain ⟨len, Hlen⟩ : ∃ len, Hid ((D K).length = len) := ⟨_, rfl⟩
  rw [Hlen.out] at e2 hin hln hi0 hi1 hi2 hi3
  have hK' : (K : Int) < (n : Int) := by omega
  have hw0 : IntKind.i64.wrap (bs + (fr : Int) - bs) = (fr : Int) := by rw [IntKind.wrap_i64]; omega
  have hw1 : IntKind.i64.wrap (0) = 0 := by rw [IntKind.wrap_i64]; omega
  have hw2 : IntKind.i64.wrap ((fr : Int)) = (fr : Int) := by rw [IntKind.wrap_i64]; omega
  have hw3 : IntKind.i64.wrap ((fr : Int) + 1) = (fr : Int) + 1 := by rw [IntKind.wrap_i64]; omega
  have hw4 : IntKind.i64.wrap ((fr : Int) + 2) = (fr : Int) + 2 := by rw [IntKind.wrap_i64]; omega
  have hw5 : IntKind.i64.wrap ((fr : Int) + 3) = (fr : Int) + 3 := by rw [IntKind.wrap_i64]; omega
  have hw6 : IntKind.i64.wrap (z3) = z3 := by rw [IntKind.wrap_i64]; omega
  have hw7 : IntKind.i64.wrap (256 * z3) = 256 * z3 := by rw [IntKind.wrap_i64]; omega
  have hw8 : IntKind.i64.wrap (256 * z3 + z2) = 256 * z3 + z2 := by rw [IntKind.wrap_i64]; omega
  have hw9 : IntKind.i64.wrap (256 * (256 * z3 + z2)) = 256 * (256 * z3 + z2) := by rw [IntKind.wrap_i64]; omega
  have hw10 : IntKind.i64.wrap (256 * (256 * z3 + z2) + z1) = 256 * (256 * z3 + z2) + z1 := by rw [IntKind.wrap_i64]; omega
  have hw11 : IntKind.i64.wrap (256 * (256 * (256 * z3 + z2) + z1)) = 256 * (256 * (256 * z3 + z2) + z1) := by rw [IntKind.wrap_i64]; omega
  have hw12 : IntKind.i64.wrap (256 * (256 * (256 * z3 + z2) + z1) + z0) = 256 * (256 * (256 * z3 + z2) + z1) + z0 := by rw [IntKind.wrap_i64]; omega
  rw [Nat.add_zero] at q0 hi0
  clear hcx hq hb8 B0 hb1' hbx HAT HB HFX hz0 HZ0 hz1 HZ1 hz2 HZ2 hz3 HZ3 HV
  go_wp2
  refine wp_loop_rounds 5 ?_
  rw [rounds_succ]
  go_wp2
  go_quiet (fail)
  go_wp2
  rw [rounds_succ]
  go_wp2
  go_quiet (fail)
  go_wp2
  rw [rounds_succ]
  go_wp2
  go_quiet (fail)
  go_wp2
  rw [rounds_succ]
  go_wp2
  go_quiet (fail)
  go_wp2
  rw [rounds_succ]
  go_wp2
  go_ret
  exact ⟨ret_int (by have := HG.out; omega), below_drewN HBX.out _⟩
end Go.Proofs.YtjlhkjiccibgdaaGreatDoor
