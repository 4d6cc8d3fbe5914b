
/-
  Plain facts on words of 32 bits: a number by its bits, the sign carried up, turning. No Go in sight; no conditions but those that each fact names.
-/
import Derived.Test.YtanffdedignegaaBas
import Derived.Laws.BitsAllLaws
import Derived.Laws.BitsLemmas
import Derived.RowKit
namespace Go.Proofs.Ytanffdedignegaa
open Go.RowKit
namespace Wd
/-- The number whose bits, from place 'i' on and for 'm' places, are those of 'f'. -/
def hor (f : Nat → Bool) : Nat → Nat → Nat
  | 0, _ => 0
  | m + 1, i => 2 * hor f m (i + 1) + (f i).toNat
theorem hor_bit (f : Nat → Bool) : ∀ m i j, (hor f m i).testBit j = (decide (j < m) && f (i + j))
  | 0, i, j => by simp [hor]
  | m + 1, i, 0 => by
    rw [hor, Nat.testBit_zero]
    cases f i <;> simp
  | m + 1, i, j + 1 => by
    rw [hor, Nat.testBit_succ]
    have : (2 * hor f m (i + 1) + (f i).toNat) / 2 = hor f m (i + 1) := by
      have : (f i).toNat ≤ 1 := Bool.toNat_le _
      omega
    rw [this, hor_bit f m (i + 1) j, show i + 1 + j = i + (j + 1) by omega]
    simp
theorem hor_lt (f : Nat → Bool) : ∀ m i, hor f m i < 2 ^ m
  | 0, i => by simp [hor]
  | m + 1, i => by
    have := hor_lt f m (i + 1)
    have : (f i).toNat ≤ 1 := Bool.toNat_le _
    rw [hor, Nat.pow_succ]; omega
theorem bit_div (x i : Nat) : x / 2 ^ i % 2 = (x.testBit i).toNat := by
  rw [Nat.testBit_eq_decide_div_mod_eq]
  rcases Nat.mod_two_eq_zero_or_one (x / 2 ^ i) with h | h <;> simp [h]
theorem sext_eq (x k : Nat) (h1 : 1 ≤ k) (h2 : k ≤ 32) :
    hor (fun i => x.testBit (if i > k - 1 then k - 1 else i)) 32 0 = ((BitVec.ofNat 32 (x * 2 ^ (32 - k))).sshiftRight (32 - k)).toNat := by
  apply Nat.eq_of_testBit_eq
  intro j
  rw [hor_bit, BitVec.testBit_toNat, BitVec.getLsbD_sshiftRight]
  simp only [BitVec.getLsbD_ofNat, BitVec.msb_eq_getLsbD_last, Nat.testBit_mul_two_pow, Nat.zero_add]
  by_cases hj : j < 32
  · have e0 : ¬ 32 ≤ j := by omega
    by_cases hk : j > k - 1
    · have e1 : ¬ (32 - k + j < 32) := by omega
      have e2 : 32 - 1 - (32 - k) = k - 1 := by omega
      have e3 : 32 - k ≤ 32 - 1 := by omega
      rw [if_pos hk, if_neg e1, e2]
      simp [hj, e0, e3]
    · have e1 : (32 - k + j < 32) := by omega
      have e2 : 32 - k + j - (32 - k) = j := by omega
      rw [if_neg hk, if_pos e1, e2]
      simp [hj, e0, e1]
  · simp [hj]
theorem sar_eq (x k : Nat) (_h2 : k < 32) :
    hor (fun i => x.testBit (if i + k > 31 then 31 else i + k)) 32 0 = ((BitVec.ofNat 32 x).sshiftRight k).toNat := by
  apply Nat.eq_of_testBit_eq
  intro j
  rw [hor_bit, BitVec.testBit_toNat, BitVec.getLsbD_sshiftRight]
  simp only [BitVec.getLsbD_ofNat, BitVec.msb_eq_getLsbD_last, Nat.zero_add]
  by_cases hj : j < 32
  · have e0 : ¬ 32 ≤ j := by omega
    by_cases hk : j + k > 31
    · have e1 : ¬ (k + j < 32) := by omega
      rw [if_pos hk, if_neg e1]
      simp [hj, e0]
    · have e1 : (k + j < 32) := by omega
      rw [if_neg hk, if_pos e1, Nat.add_comm j k]
      simp [hj, e0, e1]
  · simp [hj]
theorem far (x m : Nat) (hx : x < 4294967296) (hm : 32 ≤ m) : x.testBit m = false :=
  Nat.testBit_lt_two_pow (Nat.lt_of_lt_of_le hx (by
    have : 2 ^ 32 ≤ 2 ^ m := Nat.pow_le_pow_right (by omega) hm
    simpa using this))
theorem rot_eq (x k : Nat) (hx : x < 4294967296) (h2 : k < 32) :
    hor (fun i => x.testBit (if i < k then i + 32 - k else i - k)) 32 0 = (x * 2 ^ k % 4294967296) ||| (x / 2 ^ (32 - k)) := by
  apply Nat.eq_of_testBit_eq
  intro j
  rw [hor_bit, Nat.testBit_or, show (4294967296 : Nat) = 2 ^ 32 by decide, Nat.testBit_mod_two_pow, Nat.testBit_mul_two_pow, Nat.testBit_div_two_pow]
  simp only [Nat.zero_add]
  by_cases hj : j < 32
  · by_cases hk : j < k
    · have e1 : ¬ k ≤ j := by omega
      rw [if_pos hk, show j + 32 - k = j + (32 - k) by omega]
      simp [hj, e1]
    · have e1 : k ≤ j := by omega
      rw [if_neg hk, far x (j + (32 - k)) hx (by omega)]
      simp [hj, e1]
  · rw [far x (j + (32 - k)) hx (by omega)]
    simp [hj]

theorem and31 (n : Int) : bits .and .i64 n 31 = n % 32 := by
  have h31 : (BitVec.ofInt 64 31).toNat = 2 ^ 5 - 1 := by decide
  have key : (BitVec.ofInt 64 n &&& BitVec.ofInt 64 31).toNat = (n % ((2 ^ 64 : Nat) : Int)).toNat % 2 ^ 5 := by
    rw [BitVec.toNat_and, BitVec.toNat_ofInt, h31, Nat.and_two_pow_sub_one_eq_mod]
  show IntKind.i64.wrap ((BitVec.ofInt 64 n &&& BitVec.ofInt 64 31).toNat : Nat) = n % 32
  rw [key, IntKind.wrap_i64]
  omega
theorem and1 (n : Int) : bits .and .i64 n 1 = n % 2 := by
  have h1 : (BitVec.ofInt 64 1).toNat = 2 ^ 1 - 1 := by decide
  have key : (BitVec.ofInt 64 n &&& BitVec.ofInt 64 1).toNat = (n % ((2 ^ 64 : Nat) : Int)).toNat % 2 ^ 1 := by
    rw [BitVec.toNat_and, BitVec.toNat_ofInt, h1, Nat.and_two_pow_sub_one_eq_mod]
  show IntKind.i64.wrap ((BitVec.ofInt 64 n &&& BitVec.ofInt 64 1).toNat : Nat) = n % 2
  rw [key, IntKind.wrap_i64]
  omega
theorem wrap32_bmod (n : Int) : wrap32 (n % 4294967296) = n.bmod 4294967296 := by
  unfold wrap32
  rw [Int.bmod_def]
  split <;> omega
theorem nat_of_toInt (v : BitVec 32) : (v.toNat : Int) = v.toInt % 4294967296 := by
  rw [BitVec.toInt_eq_toNat_bmod]
  have := v.isLt
  rw [Int.bmod_def]
  split <;> omega
theorem sar_int (x k : Nat) : wrap32 ((x : Int) % 4294967296) / 2 ^ k % 4294967296 = (((BitVec.ofNat 32 x).sshiftRight k).toNat : Int) := by
  rw [nat_of_toInt, BitVec.toInt_sshiftRight, BitVec.toInt_eq_toNat_bmod, BitVec.toNat_ofNat, wrap32_bmod, Int.shiftRight_eq_div_pow]
  have e : ((x % 2 ^ 32 : Nat) : Int).bmod (2 ^ 32) = (x : Int).bmod 4294967296 := by
    have : ((x % 2 ^ 32 : Nat) : Int) = (x : Int) % ((2 ^ 32 : Nat) : Int) := by omega
    rw [this, Int.emod_bmod]
  rw [e]
  rfl
/-- What the bit at place 'i' comes to, as the text reckons it. -/
theorem bit_int (x i : Int) (h0 : 0 ≤ x) (h1 : x ≤ 4294967295) : bits .and .i64 (wrap64 (x / 2 ^ i.toNat)) 1 = ((x.toNat.testBit i.toNat).toNat : Int) := by
  obtain ⟨X, rfl⟩ := Int.eq_ofNat_of_zero_le h0
  have e : (X : Int) / 2 ^ i.toNat = ((X / 2 ^ i.toNat : Nat) : Int) := by simp
  have hle : X / 2 ^ i.toNat ≤ X := Nat.div_le_self _ _
  rw [and1, e]
  rw [show (((X : Int).toNat.testBit i.toNat).toNat : Int) = ((X / 2 ^ i.toNat % 2 : Nat) : Int) by rw [bit_div, Int.toNat_natCast]]
  unfold wrap64
  omega
theorem hor_round (f : Nat → Bool) (m : Nat) (hm : m < 32) (c b : Int) (hc : c = (hor f m (32 - m) : Nat)) (hb : b = ((f (31 - m)).toNat : Nat)) :
    0 ≤ 2 * c + b ∧ 2 * c + b ≤ 4294967295 ∧ 2 * c + b = (hor f (m + 1) (32 - (m + 1)) : Nat) := by
  have e : hor f (m + 1) (32 - (m + 1)) = 2 * hor f m (32 - m) + (f (31 - m)).toNat := by
    rw [hor, show 32 - (m + 1) + 1 = 32 - m by omega, show 32 - (m + 1) = 31 - m by omega]
  have l := hor_lt f (m + 1) (32 - (m + 1))
  have p : 2 ^ (m + 1) ≤ 2 ^ 32 := Nat.pow_le_pow_right (by omega) (by omega)
  rw [e] at l ⊢
  omega
def sext (x k : Nat) : Nat := hor (fun i => x.testBit (if i > k - 1 then k - 1 else i)) 32 0
def sar (x k : Nat) : Nat := hor (fun i => x.testBit (if i + k > 31 then 31 else i + k)) 32 0
def rot (x k : Nat) : Nat := hor (fun i => x.testBit (if i < k then i + 32 - k else i - k)) 32 0
theorem sext_int (x k : Int) (h0 : 0 ≤ x) (h1 : 1 ≤ k) (h2 : k ≤ 32) :
    wrap32 (x * 2 ^ (32 - k).toNat % 4294967296) / 2 ^ (32 - k).toNat % 4294967296 = (sext x.toNat k.toNat : Int) := by
  obtain ⟨X, rfl⟩ := Int.eq_ofNat_of_zero_le h0
  have e : (32 - k).toNat = 32 - k.toNat := by omega
  have c : (X : Int) * 2 ^ (32 - k.toNat) = ((X * 2 ^ (32 - k.toNat) : Nat) : Int) := by simp
  rw [e, c, sar_int, sext, Int.toNat_natCast, sext_eq X k.toNat (by omega) (by omega)]
theorem sar_of (x k : Int) (h0 : 0 ≤ x) (h1 : x ≤ 4294967295) : wrap32 x / 2 ^ (k % 32).toNat % 4294967296 = (sar x.toNat (k % 32).toNat : Int) := by
  obtain ⟨X, rfl⟩ := Int.eq_ofNat_of_zero_le h0
  have e : (X : Int) = (X : Int) % 4294967296 := by omega
  rw [Int.toNat_natCast, sar, sar_eq X _ (by omega), ← sar_int, ← e]
theorem rot_int (x k : Int) (h0 : 0 ≤ x) (h1 : x ≤ 4294967295) :
    bits .or .u32 (x * 2 ^ (k % 32).toNat % 4294967296) (x / 2 ^ (32 - k % 32).toNat) = (rot x.toNat (k % 32).toNat : Int) := by
  obtain ⟨X, rfl⟩ := Int.eq_ofNat_of_zero_le h0
  have e : (32 - k % 32).toNat = 32 - (k % 32).toNat := by omega
  have c : (X : Int) * 2 ^ (k % 32).toNat % 4294967296 = ((X * 2 ^ (k % 32).toNat % 4294967296 : Nat) : Int) := by simp
  have d : (X : Int) / 2 ^ (32 - (k % 32).toNat) = ((X / 2 ^ (32 - (k % 32).toNat) : Nat) : Int) := by simp
  have hle : X / 2 ^ (32 - (k % 32).toNat) ≤ X := Nat.div_le_self _ _
  generalize hq : X / 2 ^ (32 - (k % 32).toNat) = q at d hle
  generalize hp : X * 2 ^ (k % 32).toNat = p at c
  rw [e, c, d, u32_or _ _ (by omega) (by omega) (by omega) (by omega), ← hq, ← hp, Int.toNat_natCast, Int.toNat_natCast, Int.toNat_natCast, rot, rot_eq X _ (by omega) (by omega)]
/-- The remainder that is never below 0. -/
theorem mod_int (n : Int) : (0 ≤ n.tmod 32 → n.tmod 32 = n % 32) ∧ (n.tmod 32 < 0 → wrap64 (n.tmod 32 + 32) = n % 32) ∧ -32 < n.tmod 32 ∧ n.tmod 32 < 32 := by
  have e : n.tmod 32 = if 0 ≤ n then n % 32 else -(-n % 32) := by
    split
    · exact Int.tmod_eq_emod_of_nonneg (by omega)
    · have := Int.neg_tmod n 32
      rw [Int.tmod_eq_emod_of_nonneg (by omega)] at this
      omega
  rw [e]
  unfold wrap64
  split <;> omega
end Wd
end Go.Proofs.Ytanffdedignegaa
