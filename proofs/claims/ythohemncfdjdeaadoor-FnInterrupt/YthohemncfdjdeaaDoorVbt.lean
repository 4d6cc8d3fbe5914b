
/-
  Bits of a word of 32 bits as virtual registers use them: one set, one cleared, one asked for; the least that is set. No function of the program in sight; no conditions but those that each fact names.
-/
import Derived.Test.YthohemncfdjdeaaDoorPlain
namespace Go.Proofs.YthohemncfdjdeaaDoor
open Go.RowKit
namespace Vb
/-- The word 'p' with its bit 'd' set; with its bit 'd' cleared. -/
def orF (p d : Int) : Int := ((p.toNat ||| 2 ^ d.toNat : Nat) : Int)
def clF (p d : Int) : Int := ((p.toNat &&& (4294967295 - 2 ^ d.toNat) : Nat) : Int)
theorem pow_lt (n : Nat) (h : n < 32) : 2 ^ n < 4294967296 := by
  have : 2 ^ n < 2 ^ 32 := Nat.pow_lt_pow_right (by omega) h
  simpa using this
theorem ones (n j : Nat) (h : n < 32) : (4294967295 - 2 ^ n).testBit j = (decide (j < 32) && !decide (j = n)) := by
  have h2 := pow_lt n h
  rw [show 4294967295 - 2 ^ n = 2 ^ 32 - (2 ^ n + 1) by omega, Nat.testBit_two_pow_sub_succ (by simpa using h2), Nat.testBit_two_pow]
  by_cases e : n = j
  · simp [e]
  · simp [e, Ne.symm e]
theorem or_lt (x n : Nat) (hx : x < 4294967296) (h : n < 32) : x ||| 2 ^ n < 4294967296 := by
  have := Nat.or_lt_two_pow (x := x) (y := 2 ^ n) (n := 32) (by simpa using hx) (by simpa using pow_lt n h)
  simpa using this
/-- A bit that is not set is set by adding. -/
theorem or_add (x n : Nat) (hx : x < 4294967296) (hn : n < 32) (h : x.testBit n = false) : x ||| 2 ^ n = x + 2 ^ n := by
  have hz : x &&& 2 ^ n = 0 := by
    apply Nat.eq_of_testBit_eq
    intro j
    rw [Nat.testBit_and, Nat.testBit_two_pow, Nat.zero_testBit]
    by_cases e : n = j
    · subst e; simp [h]
    · simp [e]
  have hp := pow_lt n hn
  generalize 2 ^ n = y at hz hp ⊢
  have e := BitVec.add_eq_or_of_and_eq_zero (BitVec.ofNat 33 x) (BitVec.ofNat 33 y) (by rw [← BitVec.ofNat_and, hz])
  have e2 := congrArg BitVec.toNat e
  rw [BitVec.toNat_add, BitVec.toNat_or, BitVec.toNat_ofNat, BitVec.toNat_ofNat, Nat.mod_eq_of_lt (a := x) (by omega), Nat.mod_eq_of_lt (a := y) (by omega), Nat.mod_eq_of_lt (by omega)] at e2
  exact e2.symm
theorem or_same (x n : Nat) (h : x.testBit n = true) : x ||| 2 ^ n = x := by
  apply Nat.eq_of_testBit_eq
  intro j
  rw [Nat.testBit_or, Nat.testBit_two_pow]
  by_cases e : n = j
  · subst e; simp [h]
  · simp [e]
theorem cl_bit (x n j : Nat) (hx : x < 4294967296) (h : n < 32) : (x &&& (4294967295 - 2 ^ n)).testBit j = (x.testBit j && !decide (j = n)) := by
  rw [Nat.testBit_and, ones n j h]
  by_cases hj : j < 32
  · simp [hj]
  · rw [Wd.far x j hx (by omega)]; simp
/-- A bit that is set is cleared by taking away. -/
theorem cl_sub (x n : Nat) (hx : x < 4294967296) (hn : n < 32) (h : x.testBit n = true) : (x &&& (4294967295 - 2 ^ n)) + 2 ^ n = x := by
  have e : (x &&& (4294967295 - 2 ^ n)).testBit n = false := by rw [cl_bit x n n hx hn]; simp
  have lt : x &&& (4294967295 - 2 ^ n) < 4294967296 := Nat.lt_of_le_of_lt Nat.and_le_left hx
  rw [← or_add _ n lt hn e]
  apply Nat.eq_of_testBit_eq
  intro j
  rw [Nat.testBit_or, cl_bit x n j hx hn, Nat.testBit_two_pow]
  by_cases e : n = j
  · subst e; simp [h]
  · simp [e, Ne.symm e]
theorem cl_same (x n : Nat) (hx : x < 4294967296) (hn : n < 32) (h : x.testBit n = false) : x &&& (4294967295 - 2 ^ n) = x := by
  apply Nat.eq_of_testBit_eq
  intro j
  rw [cl_bit x n j hx hn]
  by_cases e : j = n
  · subst e; simp [h]
  · simp [e]
theorem nat_pow (d : Int) : (2 : Int) ^ d.toNat = ((2 ^ d.toNat : Nat) : Int) := by simp
theorem or_int (p d : Int) (h1 : 0 ≤ p) (h2 : p ≤ 4294967295) (h3 : 0 ≤ d) (h4 : d ≤ 31) : bits .or .u32 p (2 ^ d.toNat) = orF p d := by
  have := pow_lt d.toNat (by omega)
  unfold orF
  rw [nat_pow]
  generalize 2 ^ d.toNat = y at *
  rw [u32_or _ _ h1 (by omega) (by omega) (by omega), Int.toNat_natCast]
theorem cl_int (p d : Int) (h1 : 0 ≤ p) (h2 : p ≤ 4294967295) (h3 : 0 ≤ d) (h4 : d ≤ 31) : bits .andNot .u32 p (2 ^ d.toNat) = clF p d := by
  have := pow_lt d.toNat (by omega)
  unfold clF
  rw [nat_pow]
  generalize 2 ^ d.toNat = y at *
  rw [u32_andNot _ _ h1 (by omega) (by omega) (by omega), Int.toNat_natCast]
theorem or_yes (p d : Int) (h1 : 0 ≤ p) (h : p.toNat.testBit d.toNat = true) : orF p d = p := by
  unfold orF; rw [or_same _ _ h]; omega
theorem or_no (p d : Int) (h1 : 0 ≤ p) (h2 : p ≤ 4294967295) (h3 : 0 ≤ d) (h4 : d ≤ 31) (h : p.toNat.testBit d.toNat = false) : (p + 2 ^ d.toNat) % 4294967296 = orF p d := by
  have l := or_lt p.toNat d.toNat (by omega) (by omega)
  unfold orF
  rw [or_add _ _ (by omega) (by omega) h] at l ⊢
  rw [nat_pow]
  generalize 2 ^ d.toNat = y at *
  omega
theorem cl_no (p d : Int) (h1 : 0 ≤ p) (h2 : p ≤ 4294967295) (h3 : 0 ≤ d) (h4 : d ≤ 31) (h : p.toNat.testBit d.toNat = false) : clF p d = p := by
  unfold clF; rw [cl_same _ _ (by omega) (by omega) h]; omega
theorem cl_yes (p d : Int) (h1 : 0 ≤ p) (h2 : p ≤ 4294967295) (h3 : 0 ≤ d) (h4 : d ≤ 31) (h : p.toNat.testBit d.toNat = true) : (p - 2 ^ d.toNat) % 4294967296 = clF p d := by
  have e := cl_sub p.toNat d.toNat (by omega) (by omega) h
  have l := pow_lt d.toNat (by omega)
  unfold clF
  rw [nat_pow]
  generalize p.toNat &&& (4294967295 - 2 ^ d.toNat) = z at *
  generalize 2 ^ d.toNat = y at *
  omega
theorem or_rng (p d : Int) (h1 : 0 ≤ p) (h2 : p ≤ 4294967295) (h3 : 0 ≤ d) (h4 : d ≤ 31) : 0 ≤ orF p d ∧ orF p d ≤ 4294967295 := by
  have l := or_lt p.toNat d.toNat (by omega) (by omega)
  unfold orF; omega
theorem cl_rng (p d : Int) (h1 : 0 ≤ p) (h2 : p ≤ 4294967295) : 0 ≤ clF p d ∧ clF p d ≤ 4294967295 := by
  have l : p.toNat &&& (4294967295 - 2 ^ d.toNat) ≤ p.toNat := Nat.and_le_left
  unfold clF; omega
theorem odd_int (x : Int) (h1 : 0 ≤ x) (h2 : x ≤ 4294967295) : bits .and .u32 x 1 = x % 2 := by
  rw [u32_and _ _ h1 (by omega) (by omega) (by omega), show (1 : Int).toNat = 2 ^ 1 - 1 by rfl, Nat.and_two_pow_sub_one_eq_mod]
  omega
theorem mod32 (n : Int) : (0 ≤ n.tmod 4294967296 → n.tmod 4294967296 = n % 4294967296) ∧ (n.tmod 4294967296 < 0 → wrap64 (n.tmod 4294967296 + 4294967296) = n % 4294967296) ∧ -4294967296 < n.tmod 4294967296 ∧ n.tmod 4294967296 < 4294967296 := by
  have e : n.tmod 4294967296 = if 0 ≤ n then n % 4294967296 else -(-n % 4294967296) := by
    split
    · exact Int.tmod_eq_emod_of_nonneg (by omega)
    · have := Int.neg_tmod n 4294967296
      rw [Int.tmod_eq_emod_of_nonneg (by omega)] at this
      omega
  rw [e]
  unfold wrap64
  split <;> omega
end Vb
end Go.Proofs.YthohemncfdjdeaaDoor
