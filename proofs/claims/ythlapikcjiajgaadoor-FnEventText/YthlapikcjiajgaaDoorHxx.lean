
/-
  What HexWord and WordHex return, the specification's and the program's own. Conditions: the argument is a word; a text is at most 1048576 bytes long.
-/
import Derived.Test.YthlapikcjiajgaaDoorBas
import Derived.Test.YthlapikcjiajgaaDoorSegs
import Derived.Test.YthlapikcjiajgaaDoorTxt
import Derived.Test.YthlapikcjiajgaaDoorProg
import Derived.Laws.BitsAllLaws
import Derived.Laws.BitsLemmas
import Derived.Laws.RangeAny
import Derived.RowKit
import Derived.Deep.QuietTactic
import Derived.BigQuiet
import Derived.BigRegion
import Derived.Below
namespace Go.Proofs.YthlapikcjiajgaaDoor
open Go.ChangeShapes Go.WideShapes Go.ChangeAt Go.RowKit Go.Deep
set_option linter.unusedVariables false
set_option maxRecDepth 20000

namespace Wd
/-- The number whose bits, from place 'i' on and for 'm' places, are those of 'f'. -/
def hor (f : Nat → Bool) : Nat → Nat → Nat
  | 0, _ => 0
  | m + 1, i => 2 * hor f m (i + 1) + (f i).toNat
theorem hor_bit (f : Nat → Bool) : ∀ m i j, (hor f m i).testBit j = (decide (j < m) && f (i + j))
  | 0, i, j => by simp [hor]
  | m + 1, i, 0 => by
    rw [hor, Nat.testBit_zero]
    cases f i <;> simp
  | m + 1, i, j + 1 => by
    rw [hor, Nat.testBit_succ]
    have : (2 * hor f m (i + 1) + (f i).toNat) / 2 = hor f m (i + 1) := by
      have : (f i).toNat ≤ 1 := Bool.toNat_le _
      omega
    rw [this, hor_bit f m (i + 1) j, show i + 1 + j = i + (j + 1) by omega]
    simp
theorem hor_lt (f : Nat → Bool) : ∀ m i, hor f m i < 2 ^ m
  | 0, i => by simp [hor]
  | m + 1, i => by
    have := hor_lt f m (i + 1)
    have : (f i).toNat ≤ 1 := Bool.toNat_le _
    rw [hor, Nat.pow_succ]; omega
theorem bit_div (x i : Nat) : x / 2 ^ i % 2 = (x.testBit i).toNat := by
  rw [Nat.testBit_eq_decide_div_mod_eq]
  rcases Nat.mod_two_eq_zero_or_one (x / 2 ^ i) with h | h <;> simp [h]
theorem sext_eq (x k : Nat) (h1 : 1 ≤ k) (h2 : k ≤ 32) :
    hor (fun i => x.testBit (if i > k - 1 then k - 1 else i)) 32 0 = ((BitVec.ofNat 32 (x * 2 ^ (32 - k))).sshiftRight (32 - k)).toNat := by
  apply Nat.eq_of_testBit_eq
  intro j
  rw [hor_bit, BitVec.testBit_toNat, BitVec.getLsbD_sshiftRight]
  simp only [BitVec.getLsbD_ofNat, BitVec.msb_eq_getLsbD_last, Nat.testBit_mul_two_pow, Nat.zero_add]
  by_cases hj : j < 32
  · have e0 : ¬ 32 ≤ j := by omega
    by_cases hk : j > k - 1
    · have e1 : ¬ (32 - k + j < 32) := by omega
      have e2 : 32 - 1 - (32 - k) = k - 1 := by omega
      have e3 : 32 - k ≤ 32 - 1 := by omega
      rw [if_pos hk, if_neg e1, e2]
      simp [hj, e0, e3]
    · have e1 : (32 - k + j < 32) := by omega
      have e2 : 32 - k + j - (32 - k) = j := by omega
      rw [if_neg hk, if_pos e1, e2]
      simp [hj, e0, e1]
  · simp [hj]
theorem sar_eq (x k : Nat) (_h2 : k < 32) :
    hor (fun i => x.testBit (if i + k > 31 then 31 else i + k)) 32 0 = ((BitVec.ofNat 32 x).sshiftRight k).toNat := by
  apply Nat.eq_of_testBit_eq
  intro j
  rw [hor_bit, BitVec.testBit_toNat, BitVec.getLsbD_sshiftRight]
  simp only [BitVec.getLsbD_ofNat, BitVec.msb_eq_getLsbD_last, Nat.zero_add]
  by_cases hj : j < 32
  · have e0 : ¬ 32 ≤ j := by omega
    by_cases hk : j + k > 31
    · have e1 : ¬ (k + j < 32) := by omega
      rw [if_pos hk, if_neg e1]
      simp [hj, e0]
    · have e1 : (k + j < 32) := by omega
      rw [if_neg hk, if_pos e1, Nat.add_comm j k]
      simp [hj, e0, e1]
  · simp [hj]
theorem far (x m : Nat) (hx : x < 4294967296) (hm : 32 ≤ m) : x.testBit m = false :=
  Nat.testBit_lt_two_pow (Nat.lt_of_lt_of_le hx (by
    have : 2 ^ 32 ≤ 2 ^ m := Nat.pow_le_pow_right (by omega) hm
    simpa using this))
theorem rot_eq (x k : Nat) (hx : x < 4294967296) (h2 : k < 32) :
    hor (fun i => x.testBit (if i < k then i + 32 - k else i - k)) 32 0 = (x * 2 ^ k % 4294967296) ||| (x / 2 ^ (32 - k)) := by
  apply Nat.eq_of_testBit_eq
  intro j
  rw [hor_bit, Nat.testBit_or, show (4294967296 : Nat) = 2 ^ 32 by decide, Nat.testBit_mod_two_pow, Nat.testBit_mul_two_pow, Nat.testBit_div_two_pow]
  simp only [Nat.zero_add]
  by_cases hj : j < 32
  · by_cases hk : j < k
    · have e1 : ¬ k ≤ j := by omega
      rw [if_pos hk, show j + 32 - k = j + (32 - k) by omega]
      simp [hj, e1]
    · have e1 : k ≤ j := by omega
      rw [if_neg hk, far x (j + (32 - k)) hx (by omega)]
      simp [hj, e1]
  · rw [far x (j + (32 - k)) hx (by omega)]
    simp [hj]

theorem and31 (n : Int) : bits .and .i64 n 31 = n % 32 := by
  have h31 : (BitVec.ofInt 64 31).toNat = 2 ^ 5 - 1 := by decide
  have key : (BitVec.ofInt 64 n &&& BitVec.ofInt 64 31).toNat = (n % ((2 ^ 64 : Nat) : Int)).toNat % 2 ^ 5 := by
    rw [BitVec.toNat_and, BitVec.toNat_ofInt, h31, Nat.and_two_pow_sub_one_eq_mod]
  show IntKind.i64.wrap ((BitVec.ofInt 64 n &&& BitVec.ofInt 64 31).toNat : Nat) = n % 32
  rw [key, IntKind.wrap_i64]
  omega
theorem and1 (n : Int) : bits .and .i64 n 1 = n % 2 := by
  have h1 : (BitVec.ofInt 64 1).toNat = 2 ^ 1 - 1 := by decide
  have key : (BitVec.ofInt 64 n &&& BitVec.ofInt 64 1).toNat = (n % ((2 ^ 64 : Nat) : Int)).toNat % 2 ^ 1 := by
    rw [BitVec.toNat_and, BitVec.toNat_ofInt, h1, Nat.and_two_pow_sub_one_eq_mod]
  show IntKind.i64.wrap ((BitVec.ofInt 64 n &&& BitVec.ofInt 64 1).toNat : Nat) = n % 2
  rw [key, IntKind.wrap_i64]
  omega
theorem wrap32_bmod (n : Int) : wrap32 (n % 4294967296) = n.bmod 4294967296 := by
  unfold wrap32
  rw [Int.bmod_def]
  split <;> omega
theorem nat_of_toInt (v : BitVec 32) : (v.toNat : Int) = v.toInt % 4294967296 := by
  rw [BitVec.toInt_eq_toNat_bmod]
  have := v.isLt
  rw [Int.bmod_def]
  split <;> omega
theorem sar_int (x k : Nat) : wrap32 ((x : Int) % 4294967296) / 2 ^ k % 4294967296 = (((BitVec.ofNat 32 x).sshiftRight k).toNat : Int) := by
  rw [nat_of_toInt, BitVec.toInt_sshiftRight, BitVec.toInt_eq_toNat_bmod, BitVec.toNat_ofNat, wrap32_bmod, Int.shiftRight_eq_div_pow]
  have e : ((x % 2 ^ 32 : Nat) : Int).bmod (2 ^ 32) = (x : Int).bmod 4294967296 := by
    have : ((x % 2 ^ 32 : Nat) : Int) = (x : Int) % ((2 ^ 32 : Nat) : Int) := by omega
    rw [this, Int.emod_bmod]
  rw [e]
  rfl
/-- What the bit at place 'i' comes to, as the text reckons it. -/
theorem bit_int (x i : Int) (h0 : 0 ≤ x) (h1 : x ≤ 4294967295) : bits .and .i64 (wrap64 (x / 2 ^ i.toNat)) 1 = ((x.toNat.testBit i.toNat).toNat : Int) := by
  obtain ⟨X, rfl⟩ := Int.eq_ofNat_of_zero_le h0
  have e : (X : Int) / 2 ^ i.toNat = ((X / 2 ^ i.toNat : Nat) : Int) := by simp
  have hle : X / 2 ^ i.toNat ≤ X := Nat.div_le_self _ _
  rw [and1, e]
  rw [show (((X : Int).toNat.testBit i.toNat).toNat : Int) = ((X / 2 ^ i.toNat % 2 : Nat) : Int) by rw [bit_div, Int.toNat_natCast]]
  unfold wrap64
  omega
theorem hor_round (f : Nat → Bool) (m : Nat) (hm : m < 32) (c b : Int) (hc : c = (hor f m (32 - m) : Nat)) (hb : b = ((f (31 - m)).toNat : Nat)) :
    0 ≤ 2 * c + b ∧ 2 * c + b ≤ 4294967295 ∧ 2 * c + b = (hor f (m + 1) (32 - (m + 1)) : Nat) := by
  have e : hor f (m + 1) (32 - (m + 1)) = 2 * hor f m (32 - m) + (f (31 - m)).toNat := by
    rw [hor, show 32 - (m + 1) + 1 = 32 - m by omega, show 32 - (m + 1) = 31 - m by omega]
  have l := hor_lt f (m + 1) (32 - (m + 1))
  have p : 2 ^ (m + 1) ≤ 2 ^ 32 := Nat.pow_le_pow_right (by omega) (by omega)
  rw [e] at l ⊢
  omega
def sext (x k : Nat) : Nat := hor (fun i => x.testBit (if i > k - 1 then k - 1 else i)) 32 0
def sar (x k : Nat) : Nat := hor (fun i => x.testBit (if i + k > 31 then 31 else i + k)) 32 0
def rot (x k : Nat) : Nat := hor (fun i => x.testBit (if i < k then i + 32 - k else i - k)) 32 0
theorem sext_int (x k : Int) (h0 : 0 ≤ x) (h1 : 1 ≤ k) (h2 : k ≤ 32) :
    wrap32 (x * 2 ^ (32 - k).toNat % 4294967296) / 2 ^ (32 - k).toNat % 4294967296 = (sext x.toNat k.toNat : Int) := by
  obtain ⟨X, rfl⟩ := Int.eq_ofNat_of_zero_le h0
  have e : (32 - k).toNat = 32 - k.toNat := by omega
  have c : (X : Int) * 2 ^ (32 - k.toNat) = ((X * 2 ^ (32 - k.toNat) : Nat) : Int) := by simp
  rw [e, c, sar_int, sext, Int.toNat_natCast, sext_eq X k.toNat (by omega) (by omega)]
theorem sar_of (x k : Int) (h0 : 0 ≤ x) (h1 : x ≤ 4294967295) : wrap32 x / 2 ^ (k % 32).toNat % 4294967296 = (sar x.toNat (k % 32).toNat : Int) := by
  obtain ⟨X, rfl⟩ := Int.eq_ofNat_of_zero_le h0
  have e : (X : Int) = (X : Int) % 4294967296 := by omega
  rw [Int.toNat_natCast, sar, sar_eq X _ (by omega), ← sar_int, ← e]
theorem rot_int (x k : Int) (h0 : 0 ≤ x) (h1 : x ≤ 4294967295) :
    bits .or .u32 (x * 2 ^ (k % 32).toNat % 4294967296) (x / 2 ^ (32 - k % 32).toNat) = (rot x.toNat (k % 32).toNat : Int) := by
  obtain ⟨X, rfl⟩ := Int.eq_ofNat_of_zero_le h0
  have e : (32 - k % 32).toNat = 32 - (k % 32).toNat := by omega
  have c : (X : Int) * 2 ^ (k % 32).toNat % 4294967296 = ((X * 2 ^ (k % 32).toNat % 4294967296 : Nat) : Int) := by simp
  have d : (X : Int) / 2 ^ (32 - (k % 32).toNat) = ((X / 2 ^ (32 - (k % 32).toNat) : Nat) : Int) := by simp
  have hle : X / 2 ^ (32 - (k % 32).toNat) ≤ X := Nat.div_le_self _ _
  generalize hq : X / 2 ^ (32 - (k % 32).toNat) = q at d hle
  generalize hp : X * 2 ^ (k % 32).toNat = p at c
  rw [e, c, d, u32_or _ _ (by omega) (by omega) (by omega) (by omega), ← hq, ← hp, Int.toNat_natCast, Int.toNat_natCast, Int.toNat_natCast, rot, rot_eq X _ (by omega) (by omega)]
/-- The remainder that is never below 0. -/
theorem mod_int (n : Int) : (0 ≤ n.tmod 32 → n.tmod 32 = n % 32) ∧ (n.tmod 32 < 0 → wrap64 (n.tmod 32 + 32) = n % 32) ∧ -32 < n.tmod 32 ∧ n.tmod 32 < 32 := by
  have e : n.tmod 32 = if 0 ≤ n then n % 32 else -(-n % 32) := by
    split
    · exact Int.tmod_eq_emod_of_nonneg (by omega)
    · have := Int.neg_tmod n 32
      rw [Int.tmod_eq_emod_of_nonneg (by omega)] at this
      omega
  rw [e]
  unfold wrap64
  split <;> omega
end Wd
set_option maxHeartbeats 400000 in
theorem rot_any (x k : Int) (w : World) (h1 : 0 ≤ x) (h2 : x ≤ 4294967295) :
    Calls Tryd.prog 50 #[.int .u32 x, .int .i64 k] w fun e w' => ∃ y : Int, e = .returned (.int .u32 y) ∧ 0 ≤ y ∧ y ≤ 4294967295 ∧ Hid (y = (Wd.rot x.toNat (k % 32).toNat : Nat)) ∧ ∃ n, w' = w.drewN n := by
  have HE : Hid _ := Wd.rot_int x k h1 h2
  have HA : Hid _ := Wd.and31 k
  have HL : Hid _ := Wd.hor_lt (fun i => x.toNat.testBit (if i < (k % 32).toNat then i + 32 - (k % 32).toNat else i - (k % 32).toNat)) 32 0
  have b0 : 0 ≤ bits BinOp.and IntKind.i64 k 31 := by rw [HA.out]; omega
  have b1 : bits BinOp.and IntKind.i64 k 31 ≤ 31 := by rw [HA.out]; omega
  go_enter Tryd.func50, Tryd.ntmps50
  go_wp2
  go_quiet (fail)
  go_wp2
  go_ret
  refine ⟨(Wd.rot x.toNat (k % 32).toNat : Nat), ret_int ?_, by omega, ?_, rfl, _, rfl⟩
  · rw [← HE.out, ← HA.out]
  · have := HL.out
    unfold Wd.rot
    omega
namespace Wd
def hexdig (d : Int) : Int := if d < 10 then 48 + d else 87 + d
theorem hexdig_bd (d : Int) (h0 : 0 ≤ d) (h1 : d ≤ 15) : 48 ≤ hexdig d ∧ hexdig d ≤ 102 := by unfold hexdig; split <;> omega
/-- The last 'k' digits of 'x'. -/
def hexL (x : Int) : Nat → List Int
  | 0 => []
  | k + 1 => hexdig (x / 16 ^ k % 16) :: hexL x k
theorem hexL_len (x : Int) : ∀ k, (hexL x k).length = k
  | 0 => rfl
  | k + 1 => by simp [hexL, hexL_len x k]
/-- A text of bytes. -/
theorem txt_fold (l : List Int) : l.foldl (fun r n => r.push (UInt8.ofNat n.toNat)) ByteArray.empty = Tx.txt l := by
  have : ∀ (l : List Int) (r : ByteArray), l.foldl (fun r n => r.push (UInt8.ofNat n.toNat)) r = r ++ Tx.txt l := by
    intro l
    induction l with
    | nil => intro r; apply ByteArray.ext; simp [Tx.txt]
    | cons d l ih =>
      intro r
      rw [List.foldl_cons, ih]
      apply ByteArray.ext
      simp [Tx.txt]
  rw [this]
  apply ByteArray.ext
  simp [Tx.txt]
/-- The four lowest bits of a turned word. -/
theorem rot_low (x : Nat) (hx : x < 4294967296) (i : Nat) (hi : i < 8) : rot x ((4 * ((i : Int) + 1)) % 32).toNat % 16 = x / 16 ^ (7 - i) % 16 := by
  have e16 : (16 : Nat) ^ (7 - i) = 2 ^ (4 * (7 - i)) := by rw [Nat.pow_mul]
  rw [e16, show (16 : Nat) = 2 ^ 4 by decide]
  apply Nat.eq_of_testBit_eq
  intro j
  rw [Nat.testBit_mod_two_pow, Nat.testBit_mod_two_pow, rot, hor_bit, Nat.testBit_div_two_pow]
  by_cases hj : j < 4
  · have hj2 : j < 32 := by omega
    by_cases h7 : i = 7
    · subst h7
      simp [hj, hj2]
    · have e : ((4 * ((i : Int) + 1)) % 32).toNat = 4 * (i + 1) := by omega
      rw [e, if_pos (by omega)]
      simp only [hj, hj2, decide_true, Bool.true_and]
      congr 1
      omega
  · simp [hj]
theorem low_and (r : Int) (h0 : 0 ≤ r) (h1 : r ≤ 4294967295) : bits .and .u32 r 15 = r % 16 := by
  obtain ⟨R, rfl⟩ := Int.eq_ofNat_of_zero_le h0
  rw [u32_and _ _ (by omega) (by omega) (by omega) (by omega)]
  have := Nat.and_two_pow_sub_one_eq_mod R 4
  simp only [Int.toNat_natCast]
  show ((R &&& 15 : Nat) : Int) = _
  rw [show (15 : Nat) = 2 ^ 4 - 1 by decide, this]
  omega
theorem hexL_at (x : Int) : ∀ (k i : Nat), i < k → (hexL x k).getD i 0 = hexdig (x / 16 ^ (k - 1 - i) % 16)
  | 0, i, h => absurd h (by omega)
  | k + 1, 0, _ => by simp [hexL]
  | k + 1, i + 1, h => by
    have := hexL_at x k i (by omega)
    rw [hexL, List.getD_cons_succ, this]
    congr 4
    omega
end Wd

theorem slice_hex (d : Int) (h0 : 0 ≤ d) (h1 : d ≤ 15) (w : World) : (Instr.slice 9 (.string ⟨#[48, 49, 50, 51, 52, 53, 54, 55, 56, 57, 97, 98, 99, 100, 101, 102]⟩) (some (.int .i64 d)) (some (.int .i64 (d + 1))) none).run Tryd.prog w = .ok (.string (Tx.txt [Wd.hexdig d])) w := by
  obtain rfl | rfl | rfl | rfl | rfl | rfl | rfl | rfl | rfl | rfl | rfl | rfl | rfl | rfl | rfl | rfl : d = 0 ∨ d = 1 ∨ d = 2 ∨ d = 3 ∨ d = 4 ∨ d = 5 ∨ d = 6 ∨ d = 7 ∨ d = 8 ∨ d = 9 ∨ d = 10 ∨ d = 11 ∨ d = 12 ∨ d = 13 ∨ d = 14 ∨ d = 15 := by omega
  all_goals kernel_rfl
theorem index_hex (d : Int) (h0 : 0 ≤ d) (h1 : d ≤ 15) (w : World) : (Instr.index 9 (.string ⟨#[48, 49, 50, 51, 52, 53, 54, 55, 56, 57, 97, 98, 99, 100, 101, 102]⟩) (.int .u32 d)).run Tryd.prog w = .ok (.int .u8 (Wd.hexdig d)) w := by
  obtain rfl | rfl | rfl | rfl | rfl | rfl | rfl | rfl | rfl | rfl | rfl | rfl | rfl | rfl | rfl | rfl : d = 0 ∨ d = 1 ∨ d = 2 ∨ d = 3 ∨ d = 4 ∨ d = 5 ∨ d = 6 ∨ d = 7 ∨ d = 8 ∨ d = 9 ∨ d = 10 ∨ d = 11 ∨ d = 12 ∨ d = 13 ∨ d = 14 ∨ d = 15 := by omega
  all_goals kernel_rfl
theorem own_text (w : World) (B cap : Nat) (zs : List Int) (ho : Own .u8 w B zs) : (convert 33 9 (.slice (some ⟨B, 0, none⟩) zs.length cap)).run Tryd.prog w = .ok (.string (Tx.txt zs)) w := by
  rw [run_convert_bytes_string w 33 9 5 _ _ _ Tryd.underlying33 Tryd.underlying5 Tryd.underlying9, run_bytesToString w _ _ _ zs ?_, Wd.txt_fold]
  have h := run_loadCells_list (P := Tryd.prog) (w := w) ⟨B, 0, none⟩ (zs.map (Value.int .u8)) ?_
  · simpa using h
  · intro j v hj
    rw [List.getElem?_map] at hj
    obtain ⟨z, hz, rfl⟩ := Option.map_eq_some_iff.1 hj
    obtain ⟨hl, rfl⟩ := List.getElem?_eq_some_iff.1 hz
    have := ho.cell j hl
    have e : (⟨B, 0, none⟩ : Addr).add j = ⟨B, j, none⟩ := by
      by_cases h0 : j = 0
      · subst h0; simp [Addr.add]
      · simp [Addr.add, h0]
    rw [e, this]
    simp [List.getD, hl]

theorem own_zero8 (w : World) : Own .u8 (w.alloc (.cells #[.int .u8 0, .int .u8 0, .int .u8 0, .int .u8 0, .int .u8 0, .int .u8 0, .int .u8 0, .int .u8 0] 79)) w.heap.size (List.replicate 8 0) := by
  have h := World.rowIs_alloc w #[.int .u8 0, .int .u8 0, .int .u8 0, .int .u8 0, .int .u8 0, .int .u8 0, .int .u8 0, .int .u8 0] 79 (fun i => .int .u8 ((List.replicate 8 (0 : Int)).getD i 0)) (by
    intro i hi
    match i, hi with
    | 0, _ => rfl
    | 1, _ => rfl
    | 2, _ => rfl
    | 3, _ => rfl
    | 4, _ => rfl
    | 5, _ => rfl
    | 6, _ => rfl
    | 7, _ => rfl)
  exact ⟨by simp, fun i hi => h.cell hi, fun i => h.frozen i⟩
set_option maxHeartbeats 400000 in
theorem spec_hex (x : Int) (w : World) (h1 : 0 ≤ x) (h2 : x ≤ 4294967295) :
    Calls Tryd.prog 16 #[.int .u32 x] w fun e w' => e = .returned (.string (Tx.txt (Wd.hexL x 8))) ∧ w' = w := by
  go_enter Tryd.func16, Tryd.ntmps16
  go_wp2
  go_loop [3, 4, 5] (fun out n i => ∃ (k : Nat) (c : Int) (s : ByteArray), k ≤ 8 ∧ i = .int .i64 k ∧ n = .int .i64 c ∧ 0 ≤ c ∧ c ≤ 4294967295 ∧ out = .string s ∧ s.size ≤ 8 ∧ Hid (s = Tx.txt (Wd.hexL x k) ∧ c = x / 16 ^ k)) (fun _ _ i => 8 - (intOf i).toNat)
  case atStart => exact ⟨0, x, _, by omega, rfl, rfl, by omega, by omega, rfl, by decide, by simp [Hid, Wd.hexL, Tx.txt]⟩
  case round =>
    obtain ⟨k, c, s, hk, rfl, rfl, hc0, hc1, rfl, hs, HC⟩ := hrel
    by_cases hlt : k < 8
    · have hsl := slice_hex (c % 16) (by omega) (by omega)
      have HD : Hid (Tx.txt [Wd.hexdig (c % 16)] ++ s = Tx.txt (Wd.hexL x (k + 1)) ∧ c / 16 = x / 16 ^ (k + 1)) := by
        obtain ⟨rfl, rfl⟩ := HC.out
        refine ⟨?_, ?_⟩
        · rw [Tx.txt_cons]; rfl
        · rw [Int.ediv_ediv_of_nonneg (Int.pow_nonneg (by decide)), Int.pow_succ]
      have hd := Tx.txt_size [Wd.hexdig (c % 16)]
      have HZ : Hid ((Tx.txt [Wd.hexdig (c % 16)] ++ s).size ≤ 8) := by
        show _ ≤ 8
        rw [HD.out.1, Tx.txt_size, Wd.hexL_len]; omega
      generalize Tx.txt [Wd.hexdig (c % 16)] = t at hsl HD hd HZ
      have hd1 : t.size ≤ 1 := by rw [hd]; simp
      clear hd
      go_wp2
      go_round
      case rel => exact ⟨k + 1, c / 16, _, by omega, by go_num, rfl, by omega, by omega, rfl, HZ.out, HD⟩
      case measure => simp [intOf]; omega
    · go_wp2
      go_ret
      obtain rfl : k = 8 := by omega
      exact ⟨ret_str HC.out.1, rfl⟩

set_option maxHeartbeats 400000 in
theorem impl_hex (x : Int) (w : World) (h1 : 0 ≤ x) (h2 : x ≤ 4294967295) :
    Calls Tryd.prog 38 #[.int .u32 x] w fun e w' => e = .returned (.string (Tx.txt (Wd.hexL x 8))) ∧ Below w.heap.size w w' := by
  go_enter Tryd.func38, Tryd.ntmps38
  go_wp2
  go_loopw [5] (fun i wr => ∃ (k : Nat), k ≤ 8 ∧ i = .int .i64 k ∧ Below w.heap.size w wr ∧ Own .u8 wr w.heap.size ((Wd.hexL x 8).take k ++ List.replicate ((Wd.hexL x 8).length - k) 0)) (fun i _ => 8 - (intOf i).toNat)
  case atStart => exact ⟨0, by omega, rfl, (Below.refl _ _).alloc (Nat.le_refl _) _, by rw [Wd.hexL_len]; exact own_zero8 w⟩
  case round =>
    obtain ⟨k, hk, rfl, hb, ho⟩ := hrel
    have hl8 := Wd.hexL_len x 8
    by_cases hlt : k < 8
    · have hlc := copy_len (Wd.hexL x 8) k (by omega)
      obtain ⟨u, hu⟩ : ∃ u, wr.cell? ⟨w.heap.size, k, none⟩ = some u := ⟨_, ho.cell k (by omega)⟩
      have hf := ho.free k
      have HL : Hid _ := hl8
      have HLC : Hid _ := hlc
      clear hl8 hlc
      go_wp2_with fail
      refine (rot_any _ _ _ ?_ ?_).mono ?_
      · exact h1
      · exact h2
      rintro e w' ⟨r, rfl, hr0, hr1, HR, n, rfl⟩
      have hand := Wd.low_and r hr0 hr1
      have hix := index_hex (r % 16) (by omega) (by omega)
      have Hdig : Hid (Wd.hexdig (r % 16) = (Wd.hexL x 8).getD k 0) := by
        have hr2 := HR.out
        have := Wd.rot_low x.toNat (by omega) k hlt
        rw [Wd.hexL_at x 8 k hlt]
        show _ = _
        congr 1
        have e : r % 16 = ((Wd.rot x.toNat ((4 * ((k : Int) + 1)) % 32).toNat % 16 : Nat) : Int) := by rw [hr2]; omega
        rw [e, this]
        have ex : x = (x.toNat : Int) := by omega
        rw [show 8 - 1 - k = 7 - k by omega]
        generalize x.toNat = X at ex
        subst ex
        simp
      have HO2 : Hid (Own .u8 ((wr.drewN n).setCell ⟨w.heap.size, k, none⟩ (.int .u8 (Wd.hexdig (r % 16)))) w.heap.size ((Wd.hexL x 8).take (k + 1) ++ List.replicate ((Wd.hexL x 8).length - (k + 1)) 0)) := by
        rw [Hdig.out, ← copy_step _ k (by have := HL.out; omega)]
        exact (ho.drewN n).set k _ (by have := HLC.out; have := HL.out; omega)
      have HB2 : Hid (Below w.heap.size w ((wr.drewN n).setCell ⟨w.heap.size, k, none⟩ (.int .u8 (Wd.hexdig (r % 16))))) := (below_drewN hb n).setCell (Nat.le_refl _) _
      clear ho hb
      generalize Wd.hexdig (r % 16) = d at hix HO2 HB2
      go_wp2
      go_roundw
      case rel => exact ⟨k + 1, by omega, by go_num, HB2, HO2⟩
      case measure => simp [intOf]; omega
    · obtain rfl : k = 8 := by omega
      rw [hl8, List.take_of_length_le (by omega), Nat.sub_self, List.replicate_zero, List.append_nil] at ho
      have hcv := own_text wr w.heap.size 8 _ ho
      rw [hl8] at hcv
      clear hl8
      go_wp2
      go_ret
      exact ⟨rfl, hb⟩
set_option maxHeartbeats 400000 in
theorem impl_hexword (x : Int) (w : World) (h1 : 0 ≤ x) (h2 : x ≤ 4294967295) :
    Calls Tryd.prog 21 #[.int .u32 x] w fun e w' => e = .returned (.string (Tx.txt (Wd.hexL x 8))) ∧ Below w.heap.size w w' := by
  go_enter Tryd.func21, Tryd.ntmps21
  go_wp2_with (go_at_call 38; refine (impl_hex _ _ h1 h2).mono ?_; rintro e w' ⟨rfl, hb⟩)
  go_ret
  exact ⟨rfl, hb⟩

namespace Wd
/-- The value of a digit. -/
def val (b : Int) : Option Int := if 48 ≤ b ∧ b ≤ 57 then some (b - 48) else if 97 ≤ b ∧ b ≤ 102 then some (b - 87) else none
theorem val_dec (b : Int) (h0 : 48 ≤ b) (h1 : b ≤ 57) : val b = some (b - 48) := by unfold val; rw [if_pos ⟨h0, h1⟩]
theorem val_let (b : Int) (h0 : 97 ≤ b) (h1 : b ≤ 102) : val b = some (b - 87) := by unfold val; rw [if_neg (by omega), if_pos ⟨h0, h1⟩]
theorem val_no (b : Int) (h0 : ¬ (48 ≤ b ∧ b ≤ 57)) (h1 : ¬ (97 ≤ b ∧ b ≤ 102)) : val b = none := by unfold val; rw [if_neg h0, if_neg h1]
/-- The number that the digits of a list carry 'n' on to. -/
def rd : List Int → Int → Option Int
  | [], n => some n
  | b :: l, n => (val b).bind fun d => rd l (16 * n + d)
def hexN (s : ByteArray) : Int := (rd (Tx.nums s) 0).getD 0
def hexOk (s : ByteArray) : Bool := (rd (Tx.nums s) 0).isSome
theorem rd_some (s : ByteArray) (k : Nat) (h : k < s.size) (c d : Int) (hv : val (s[k].toNat : Int) = some d) : rd ((Tx.nums s).drop k) c = rd ((Tx.nums s).drop (k + 1)) (16 * c + d) := by
  rw [Tx.nums_drop s k h, rd, hv]
  rfl
theorem rd_none (s : ByteArray) (k : Nat) (h : k < s.size) (c : Int) (hv : val (s[k].toNat : Int) = none) : rd ((Tx.nums s).drop k) c = none := by
  rw [Tx.nums_drop s k h, rd, hv]
  rfl
theorem rd_end (s : ByteArray) (k : Nat) (h : s.size ≤ k) (c : Int) : rd ((Tx.nums s).drop k) c = some c := by
  rw [List.drop_of_length_le (by rw [Tx.nums_len]; exact h), rd]
theorem or16 (c d : Int) (h0 : 0 ≤ c) (h1 : c ≤ 268435455) (d0 : 0 ≤ d) (d1 : d ≤ 15) : bits .or .u32 (c * 16) d = 16 * c + d := by
  obtain ⟨C, rfl⟩ := Int.eq_ofNat_of_zero_le h0
  obtain ⟨D, rfl⟩ := Int.eq_ofNat_of_zero_le d0
  rw [u32_or _ _ (by omega) (by omega) (by omega) (by omega)]
  have hj := Nat.two_pow_add_eq_or_of_lt (show D < 2 ^ 4 by omega) C
  rw [show ((C : Int) * 16).toNat = 2 ^ 4 * C by omega, Int.toNat_natCast, ← hj]
  omega
theorem pow16 (k : Nat) (hk : k < 8) (c d : Int) (h0 : 0 ≤ c) (h1 : c < 16 ^ k) (d0 : 0 ≤ d) (d1 : d ≤ 15) : 0 ≤ 16 * c + d ∧ 16 * c + d < 16 ^ (k + 1) ∧ c ≤ 268435455 := by
  have hp : (16 : Int) ^ (k + 1) = 16 ^ k * 16 := Int.pow_succ _ _
  have hq : (16 : Int) ^ k ≤ 16 ^ 7 := by
    have : (16 : Nat) ^ k ≤ 16 ^ 7 := Nat.pow_le_pow_right (by omega) (by omega)
    exact_mod_cast this
  omega
end Wd

set_option maxHeartbeats 400000 in
theorem spec_hexnum_no (s : ByteArray) (w : World) (h : s.size ≠ 8) (hn : s.size ≤ 1048576) :
    Calls Tryd.prog 24 #[.string s] w fun e w' => e = .returned (.tuple #[.int .u32 0, .bool false]) ∧ w' = w := by
  have hb : ((s.size : Int) != 8) = true := by rw [bne_iff_ne]; omega
  go_enter Tryd.func24, Tryd.ntmps24
  go_wp2
  go_ret2
  exact ⟨rfl, rfl⟩
set_option maxHeartbeats 400000 in
theorem impl_hexnum_no (s : ByteArray) (w : World) (h : s.size ≠ 8) (hn : s.size ≤ 1048576) :
    Calls Tryd.prog 42 #[.string s] w fun e w' => e = .returned (.tuple #[.int .u32 0, .bool false]) ∧ Below w.heap.size w w' := by
  have hb : ((s.size : Int) != 8) = true := by rw [bne_iff_ne]; omega
  go_enter Tryd.func42, Tryd.ntmps42
  go_wp2
  go_ret2
  exact ⟨rfl, Below.refl _ _⟩
set_option maxHeartbeats 400000 in
theorem spec_hexnum (s : ByteArray) (w : World) (h : s.size = 8) :
    Calls Tryd.prog 24 #[.string s] w fun e w' => e = .returned (.tuple #[.int .u32 (Wd.hexN s), .bool (Wd.hexOk s)]) ∧ w' = w := by
  have hb : ((s.size : Int) != 8) = false := by rw [h]; rfl
  have H8 : Hid _ := h
  have h8 : 8 ≤ s.size := by omega
  clear h
  go_enter Tryd.func24, Tryd.ntmps24
  go_wp2
  go_loop [4, 5] (fun n i => ∃ (k : Nat) (c : Int), k ≤ 8 ∧ i = .int .i64 k ∧ n = .int .i64 c ∧ 0 ≤ c ∧ c ≤ 4294967295 ∧ Hid (c < 16 ^ k ∧ Wd.rd ((Tx.nums s).drop k) c = Wd.rd (Tx.nums s) 0)) (fun _ i => 8 - (intOf i).toNat)
  case atStart => exact ⟨0, 0, by omega, rfl, rfl, by omega, by omega, by decide, by simp⟩
  case round =>
    obtain ⟨k, c, hk, rfl, rfl, hc0, hc1, HC⟩ := hrel
    by_cases hlt : k < 8
    · have hks : k < s.size := by omega
      have hby : (s[k].toNat : Int) ≤ 255 := by have := s[k].toNat_lt; omega
      by_cases h1 : 48 ≤ (s[k].toNat : Int) ∧ (s[k].toNat : Int) ≤ 57
      · have HV : Hid _ := Wd.rd_some s k hks c _ (Wd.val_dec _ h1.1 h1.2)
        have HP : Hid _ := Wd.pow16 k hlt c ((s[k].toNat : Int) - 48) hc0 HC.out.1 (by omega) (by omega)
        obtain ⟨h11, h12⟩ := h1
        go_wp2
        go_round
        case rel => exact ⟨k + 1, 16 * c + ((s[k].toNat : Int) - 48), by omega, by go_num, by go_num, HP.out.1, by have := HP.out.2.2; omega, HP.out.2.1, HV.out.symm.trans HC.out.2⟩
        case measure => simp [intOf]; omega
      · by_cases h2 : 97 ≤ (s[k].toNat : Int) ∧ (s[k].toNat : Int) ≤ 102
        · have HV : Hid _ := Wd.rd_some s k hks c _ (Wd.val_let _ h2.1 h2.2)
          have HP : Hid _ := Wd.pow16 k hlt c ((s[k].toNat : Int) - 87) hc0 HC.out.1 (by omega) (by omega)
          obtain ⟨h11, h12⟩ := h2
          have h13 : ¬ (s[k].toNat : Int) ≤ 57 := by omega
          clear h1
          go_wp2
          go_round
          case rel => exact ⟨k + 1, 16 * c + ((s[k].toNat : Int) - 87), by omega, by go_num, by go_num, HP.out.1, by have := HP.out.2.2; omega, HP.out.2.1, HV.out.symm.trans HC.out.2⟩
          case measure => simp [intOf]; omega
        · have HV : Hid _ := (Wd.rd_none s k hks c (Wd.val_no _ h1 h2)).symm.trans HC.out.2
          have HR : Hid (Wd.hexN s = 0 ∧ Wd.hexOk s = false) := by
            unfold Wd.hexN Wd.hexOk
            rw [← HV.out]
            exact ⟨rfl, rfl⟩
          by_cases h3 : (s[k].toNat : Int) < 48
          · clear h1 h2
            go_wp2
            go_ret2
            exact ⟨ret_pair HR.out.1.symm HR.out.2.symm, rfl⟩
          · by_cases h4 : (s[k].toNat : Int) < 97
            · have h5 : ¬ (s[k].toNat : Int) ≤ 57 := by omega
              clear h1 h2
              go_wp2
              go_ret2
              exact ⟨ret_pair HR.out.1.symm HR.out.2.symm, rfl⟩
            · have h5 : ¬ (s[k].toNat : Int) ≤ 102 := by omega
              clear h1 h2
              go_wp2
              go_ret2
              exact ⟨ret_pair HR.out.1.symm HR.out.2.symm, rfl⟩
    · obtain rfl : k = 8 := by omega
      have HR : Hid (Wd.hexN s = c ∧ Wd.hexOk s = true) := by
        have := Wd.rd_end s 8 (by have := H8.out; omega) c
        unfold Wd.hexN Wd.hexOk
        rw [← HC.out.2, this]
        exact ⟨rfl, rfl⟩
      go_wp2
      go_ret2
      exact ⟨ret_pair HR.out.1.symm HR.out.2.symm, rfl⟩
set_option maxHeartbeats 400000 in
theorem digit_dec (r : Int) (w : World) (h0 : 48 ≤ r) (h1 : r ≤ 57) :
    Calls Tryd.prog 56 #[.int .i32 r] w fun e w' => e = .returned (.tuple #[.int .u32 (r - 48), .bool true]) ∧ w' = w := by
  go_enter Tryd.func56, Tryd.ntmps56
  go_wp2
  go_ret2
  exact ⟨rfl, rfl⟩
set_option maxHeartbeats 400000 in
theorem digit_let (r : Int) (w : World) (h0 : 97 ≤ r) (h1 : r ≤ 102) :
    Calls Tryd.prog 56 #[.int .i32 r] w fun e w' => e = .returned (.tuple #[.int .u32 (r - 87), .bool true]) ∧ w' = w := by
  have h2 : ¬ r ≤ 57 := by omega
  have HE : Hid (r - 97 + 10 = r - 87) := by show _ = _; omega
  go_enter Tryd.func56, Tryd.ntmps56
  go_wp2
  go_ret2
  exact ⟨ret_pair HE.out rfl, rfl⟩
set_option maxHeartbeats 400000 in
theorem digit_no (r : Int) (w : World) (h0 : ¬ (48 ≤ r ∧ r ≤ 57)) (h1 : ¬ (97 ≤ r ∧ r ≤ 102)) :
    Calls Tryd.prog 56 #[.int .i32 r] w fun e w' => e = .returned (.tuple #[.int .u32 0, .bool false]) ∧ w' = w := by
  by_cases h3 : r < 48
  · have h4 : ¬ 97 ≤ r := by omega
    clear h0 h1
    go_enter Tryd.func56, Tryd.ntmps56
    go_wp2
    go_ret2
    exact ⟨rfl, rfl⟩
  · have h5 : ¬ r ≤ 57 := by omega
    by_cases h4 : r < 97
    · clear h0 h1
      go_enter Tryd.func56, Tryd.ntmps56
      go_wp2
      go_ret2
      exact ⟨rfl, rfl⟩
    · have h6 : ¬ r ≤ 102 := by omega
      clear h0 h1
      go_enter Tryd.func56, Tryd.ntmps56
      go_wp2
      go_ret2
      exact ⟨rfl, rfl⟩
set_option maxHeartbeats 800000 in
theorem impl_hexnum (s : ByteArray) (w : World) (h : s.size = 8) :
    Calls Tryd.prog 42 #[.string s] w fun e w' => e = .returned (.tuple #[.int .u32 (Wd.hexN s), .bool (Wd.hexOk s)]) ∧ Below w.heap.size w w' := by
  have hb : ((s.size : Int) != 8) = false := by rw [h]; rfl
  have H8 : Hid _ := h
  clear h
  have HBW : Hid (∀ p, Below w.heap.size w (w.iter s p)) := fun p => (Below.refl _ _).alloc (Nat.le_refl _) _
  go_enter Tryd.func42, Tryd.ntmps42
  go_wp2
  go_loopw [4] (fun n wr => ∃ (k : Nat) (c : Int), wr = w.iter s k ∧ k ≤ 8 ∧ n = .int .u32 c ∧ 0 ≤ c ∧ c ≤ 4294967295 ∧ Hid (c < 16 ^ k ∧ Wd.rd ((Tx.nums s).drop k) c = Wd.rd (Tx.nums s) 0)) (fun _ wr => 8 - wr.iterPos w.heap.size)
  case atStart => exact ⟨0, 0, rfl, by omega, rfl, by omega, by omega, by decide, by simp⟩
  case round =>
    obtain ⟨k, c, rfl, hk, rfl, hc0, hc1, HC⟩ := hrel
    by_cases hlt : k < 8
    · have hks : k < s.size := by have := H8.out; omega
      by_cases ha : s[k].toNat < 128
      · have hnx : ∀ ty, (Instr.next (.pointer (some ⟨w.heap.size, 0, none⟩)) true ty).run Tryd.prog (w.iter s k) = _ := fun ty => run_next_ascii w s k ty hks ha
        by_cases h1 : 48 ≤ (s[k].toNat : Int) ∧ (s[k].toNat : Int) ≤ 57
        · have HV : Hid _ := Wd.rd_some s k hks c _ (Wd.val_dec _ h1.1 h1.2)
          have HP : Hid _ := Wd.pow16 k hlt c ((s[k].toNat : Int) - 48) hc0 HC.out.1 (by omega) (by omega)
          have hor := Wd.or16 c ((s[k].toNat : Int) - 48) hc0 HP.out.2.2 (by omega) (by omega)
          have hc28 := HP.out.2.2
          obtain ⟨h11, h12⟩ := h1
          go_wp2_with fail
          refine (digit_dec _ _ h11 h12).mono ?_
          rintro e w' ⟨rfl, rfl⟩
          go_wp2
          go_roundw
          case rel => exact ⟨k + 1, 16 * c + ((s[k].toNat : Int) - 48), rfl, by omega, by go_num, HP.out.1, by have := HP.out.2.2; omega, HP.out.2.1, HV.out.symm.trans HC.out.2⟩
          case measure => simp; omega
        · by_cases h2 : 97 ≤ (s[k].toNat : Int) ∧ (s[k].toNat : Int) ≤ 102
          · have HV : Hid _ := Wd.rd_some s k hks c _ (Wd.val_let _ h2.1 h2.2)
            have HP : Hid _ := Wd.pow16 k hlt c ((s[k].toNat : Int) - 87) hc0 HC.out.1 (by omega) (by omega)
            have hor := Wd.or16 c ((s[k].toNat : Int) - 87) hc0 HP.out.2.2 (by omega) (by omega)
            have hc28 := HP.out.2.2
            obtain ⟨h11, h12⟩ := h2
            clear h1
            go_wp2_with fail
            refine (digit_let _ _ h11 h12).mono ?_
            rintro e w' ⟨rfl, rfl⟩
            go_wp2
            go_roundw
            case rel => exact ⟨k + 1, 16 * c + ((s[k].toNat : Int) - 87), rfl, by omega, by go_num, HP.out.1, by have := HP.out.2.2; omega, HP.out.2.1, HV.out.symm.trans HC.out.2⟩
            case measure => simp; omega
          · have HV : Hid _ := (Wd.rd_none s k hks c (Wd.val_no _ h1 h2)).symm.trans HC.out.2
            have HR : Hid (Wd.hexN s = 0 ∧ Wd.hexOk s = false) := by
              unfold Wd.hexN Wd.hexOk
              rw [← HV.out]
              exact ⟨rfl, rfl⟩
            have H1 : Hid _ := h1
            have H2 : Hid _ := h2
            clear h1 h2
            go_wp2_with fail
            refine (digit_no _ _ H1.out H2.out).mono ?_
            rintro e w' ⟨rfl, rfl⟩
            go_wp2
            go_ret2
            exact ⟨ret_pair HR.out.1.symm HR.out.2.symm, HBW.out _⟩
      · have hhi := decode_high s k hks (by omega)
        have hle := decode_le s k
        have hnx : ∀ ty, (Instr.next (.pointer (some ⟨w.heap.size, 0, none⟩)) true ty).run Tryd.prog (w.iter s k) = _ := fun ty => run_next_any w s k ty hks
        have HV : Hid _ := (Wd.rd_none s k hks c (Wd.val_no _ (by omega) (by omega))).symm.trans HC.out.2
        have HR : Hid (Wd.hexN s = 0 ∧ Wd.hexOk s = false) := by
          unfold Wd.hexN Wd.hexOk
          rw [← HV.out]
          exact ⟨rfl, rfl⟩
        generalize Utf8.decode s k = dc at hnx hhi hle
        obtain ⟨dr, dw⟩ := dc
        simp only at hnx hhi hle
        go_wp2_with fail
        refine (digit_no _ _ (by omega) (by omega)).mono ?_
        rintro e w' ⟨rfl, rfl⟩
        go_wp2
        go_ret2
        exact ⟨ret_pair HR.out.1.symm HR.out.2.symm, HBW.out _⟩
    · obtain rfl : k = 8 := by omega
      have hnx : ∀ ty, (Instr.next (.pointer (some ⟨w.heap.size, 0, none⟩)) true ty).run Tryd.prog (w.iter s 8) = _ := fun ty => run_next_end w s 8 ty (by have := H8.out; omega)
      have HR : Hid (Wd.hexN s = c ∧ Wd.hexOk s = true) := by
        have := Wd.rd_end s 8 (by have := H8.out; omega) c
        unfold Wd.hexN Wd.hexOk
        rw [← HC.out.2, this]
        exact ⟨rfl, rfl⟩
      go_wp2
      go_ret2
      exact ⟨ret_pair HR.out.1.symm HR.out.2.symm, HBW.out _⟩

namespace Wd
theorem val_dig (d : Int) (h0 : 0 ≤ d) (h1 : d ≤ 15) : val (hexdig d) = some d := by
  unfold hexdig
  split
  · rw [val_dec _ (by omega) (by omega)]
    congr 1
    omega
  · rw [val_let _ (by omega) (by omega)]
    congr 1
    omega
theorem rd_hexL (X : Nat) : ∀ (k : Nat) (c : Int), rd (hexL (X : Int) k) c = some (c * 16 ^ k + ((X % 16 ^ k : Nat) : Int))
  | 0, c => by simp [hexL, rd, Nat.mod_one]
  | k + 1, c => by
    have e : (X : Int) / 16 ^ k % 16 = ((X / 16 ^ k % 16 : Nat) : Int) := by simp
    have hd : X / 16 ^ k % 16 < 16 := Nat.mod_lt _ (by omega)
    rw [hexL, rd, e, val_dig _ (by omega) (by omega), Option.bind_some, rd_hexL X k]
    congr 1
    have hm : X % 16 ^ (k + 1) = X % 16 ^ k + 16 ^ k * (X / 16 ^ k % 16) := by rw [Nat.pow_succ, Nat.mod_mul]
    rw [hm, Int.natCast_add, Int.natCast_mul, Int.pow_succ, Int.add_mul]
    have e2 : ((16 ^ k : Nat) : Int) = 16 ^ k := by simp
    rw [e2, Int.mul_comm 16 c, Int.mul_assoc c 16 (16 ^ k), Int.mul_comm 16 (16 ^ k), Int.mul_comm ((X / 16 ^ k % 16 : Nat) : Int) (16 ^ k)]
    omega
theorem hexL_byte (x : Int) : ∀ (k : Nat) (b : Int), b ∈ hexL x k → 0 ≤ b ∧ b ≤ 255
  | 0, b, h => by cases h
  | k + 1, b, h => by
    rcases List.mem_cons.1 h with h | h
    · have := hexdig_bd (x / 16 ^ k % 16) (by omega) (by omega)
      omega
    · exact hexL_byte x k b h
theorem hex_back (x : Int) (h0 : 0 ≤ x) (h1 : x ≤ 4294967295) : hexN (Tx.txt (hexL x 8)) = x ∧ hexOk (Tx.txt (hexL x 8)) = true := by
  obtain ⟨X, rfl⟩ := Int.eq_ofNat_of_zero_le h0
  unfold hexN hexOk
  rw [Tx.nums_txt _ (hexL_byte _ 8), rd_hexL X 8 0, Nat.mod_eq_of_lt (show X < 16 ^ 8 by omega)]
  refine ⟨?_, rfl⟩
  show (0 : Int) * 16 ^ 8 + (X : Int) = X
  omega
end Wd
end Go.Proofs.YthlapikcjiajgaaDoor
