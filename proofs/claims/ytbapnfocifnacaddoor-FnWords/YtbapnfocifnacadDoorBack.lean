/-
  What comes back: turning, hexadecimal and decimal texts, the sign carried up (plain facts); the drawn word and turn. Conditions: those that each fact names.
-/
import Derived.Test.YtbapnfocifnacadDoorDecs
namespace Go.Proofs.YtbapnfocifnacadDoor
open Go.ChangeShapes Go.WideShapes Go.ChangeAt Go.RowKit Go.Deep
set_option linter.unusedVariables false

namespace Wd
theorem rot_bit (X k j : Nat) : (rot X k).testBit j = (decide (j < 32) && X.testBit (if j < k then j + 32 - k else j - k)) := by
  rw [rot, hor_bit, Nat.zero_add]
theorem rot_inv (X k : Nat) (hX : X < 4294967296) (hk : k < 32) : rot (rot X k) ((32 - k) % 32) = X := by
  apply Nat.eq_of_testBit_eq
  intro j
  rw [rot_bit]
  by_cases hj : j < 32
  · rw [decide_eq_true hj, Bool.true_and, rot_bit]
    by_cases h0 : k = 0
    · subst h0
      simp [hj]
    · have e : (32 - k) % 32 = 32 - k := by omega
      rw [e]
      by_cases h1 : j < 32 - k
      · rw [if_pos h1, decide_eq_true (by omega), Bool.true_and, if_neg (by omega)]
        congr 1
        omega
      · rw [if_neg h1, decide_eq_true (by omega), Bool.true_and, if_pos (by omega)]
        congr 1
        omega
  · rw [far X j hX (by omega)]
    simp [hj]
theorem rot_back (x n y z : Int) (h0 : 0 ≤ x) (h1 : x ≤ 4294967295) (hy : y = (rot x.toNat (n % 32).toNat : Nat)) (hz : z = (rot y.toNat ((-n) % 32).toNat : Nat)) : z = x := by
  have e : ((-n) % 32).toNat = (32 - (n % 32).toNat) % 32 := by omega
  rw [hz, e, hy, Int.toNat_natCast, rot_inv x.toNat _ (by omega) (by omega)]
  omega
theorem val_dig (d : Int) (h0 : 0 ≤ d) (h1 : d ≤ 15) : val (hexdig d) = some d := by
  unfold hexdig
  split
  · rw [val_dec _ (by omega) (by omega)]
    congr 1
    omega
  · rw [val_let _ (by omega) (by omega)]
    congr 1
    omega
theorem rd_hexL (X : Nat) : ∀ (k : Nat) (c : Int), rd (hexL (X : Int) k) c = some (c * 16 ^ k + ((X % 16 ^ k : Nat) : Int))
  | 0, c => by simp [hexL, rd, Nat.mod_one]
  | k + 1, c => by
    have e : (X : Int) / 16 ^ k % 16 = ((X / 16 ^ k % 16 : Nat) : Int) := by simp
    have hd : X / 16 ^ k % 16 < 16 := Nat.mod_lt _ (by omega)
    rw [hexL, rd, e, val_dig _ (by omega) (by omega), Option.bind_some, rd_hexL X k]
    congr 1
    have hm : X % 16 ^ (k + 1) = X % 16 ^ k + 16 ^ k * (X / 16 ^ k % 16) := by rw [Nat.pow_succ, Nat.mod_mul]
    rw [hm, Int.natCast_add, Int.natCast_mul, Int.pow_succ, Int.add_mul]
    have e2 : ((16 ^ k : Nat) : Int) = 16 ^ k := by simp
    rw [e2, Int.mul_comm 16 c, Int.mul_assoc c 16 (16 ^ k), Int.mul_comm 16 (16 ^ k), Int.mul_comm ((X / 16 ^ k % 16 : Nat) : Int) (16 ^ k)]
    omega
theorem hexL_byte (x : Int) : ∀ (k : Nat) (b : Int), b ∈ hexL x k → 0 ≤ b ∧ b ≤ 255
  | 0, b, h => by cases h
  | k + 1, b, h => by
    rcases List.mem_cons.1 h with h | h
    · have := hexdig_bd (x / 16 ^ k % 16) (by omega) (by omega)
      omega
    · exact hexL_byte x k b h
theorem hex_back (x : Int) (h0 : 0 ≤ x) (h1 : x ≤ 4294967295) : hexN (Tx.txt (hexL x 8)) = x ∧ hexOk (Tx.txt (hexL x 8)) = true := by
  obtain ⟨X, rfl⟩ := Int.eq_ofNat_of_zero_le h0
  unfold hexN hexOk
  rw [Tx.nums_txt _ (hexL_byte _ 8), rd_hexL X 8 0, Nat.mod_eq_of_lt (show X < 16 ^ 8 by omega)]
  refine ⟨?_, rfl⟩
  show (0 : Int) * 16 ^ 8 + (X : Int) = X
  omega
theorem sext_bit (x k j : Nat) : (sext x k).testBit j = (decide (j < 32) && x.testBit (if j > k - 1 then k - 1 else j)) := by
  rw [sext, hor_bit, Nat.zero_add]
theorem sext_idem (x k : Nat) (h1 : 1 ≤ k) (h2 : k ≤ 32) : sext (sext x k) k = sext x k := by
  apply Nat.eq_of_testBit_eq
  intro j
  rw [sext_bit, sext_bit x k j, sext_bit]
  by_cases hj : j < 32
  · rw [decide_eq_true hj, Bool.true_and, Bool.true_and]
    by_cases h : j > k - 1
    · rw [if_pos h, decide_eq_true (by omega), Bool.true_and, if_neg (by omega)]
    · rw [if_neg h, decide_eq_true hj, Bool.true_and, if_neg h]
  · simp [hj]
theorem sext_all (x : Nat) (hx : x < 4294967296) : sext x 32 = x := by
  apply Nat.eq_of_testBit_eq
  intro j
  rw [sext_bit]
  by_cases hj : j < 32
  · rw [decide_eq_true hj, Bool.true_and, if_neg (by omega)]
  · rw [far x j hx (by omega)]
    simp [hj]
theorem sext_lt (x k : Nat) : sext x k < 4294967296 := hor_lt _ 32 0
theorem sext_top (x k : Nat) (h1 : 1 ≤ k) (h2 : k ≤ 32) : sext x k / 2147483648 = x / 2 ^ (k - 1) % 2 := by
  have e : sext x k / 2 ^ 31 % 2 = ((sext x k).testBit 31).toNat := bit_div _ _
  rw [sext_bit, decide_eq_true (by omega), Bool.true_and] at e
  have e2 : (if 31 > k - 1 then k - 1 else 31) = k - 1 := by split <;> omega
  rw [e2, ← bit_div] at e
  have := sext_lt x k
  omega
end Wd
namespace Dc
theorem dv_dg : ∀ (f n : Nat), n < 10 ^ f → dv (dg f n) 0 = some (n : Int)
  | 0, n, h => by
    have : n = 0 := by simpa using h
    subst this
    rfl
  | f + 1, n, h => by
    by_cases h0 : n = 0
    · subst h0; rw [dg_zero]; rfl
    · rw [dg_pos _ _ h0, dv_snoc, dv_dg f (n / 10) (by rw [Nat.pow_succ] at h; omega), Option.bind_some, if_pos (by omega)]
      congr 1
      omega
theorem dec_dg (n : Nat) (h0 : 1 ≤ n) (h1 : n ≤ 4294967295) : dec 4294967295 (dg 20 n) true 0 = some (n : Int) := by
  have hh := dg_head 20 n
  have hne : dg 20 n ≠ [] := by rw [dg_pos _ _ (by omega)]; simp
  rw [dec_first _ (by omega), if_neg hne, if_neg, if_neg, dv_dg 20 n (by omega)]
  · simp only [within, Option.bind_some]
    rw [if_pos (by omega)]
  · intro h
    exact hh 48 (by omega) h rfl
  · intro h
    exact hh 48 (by omega) (by rw [h]; rfl) rfl
theorem num_back (x : Int) (h0 : 0 ≤ x) (h1 : x ≤ 4294967295) : ans (Tx.nums (Tx.txt (dect (-x)))) 4294967295 = some (-x) := by
  rw [Tx.nums_txt _ (dect_byte _)]
  unfold ans
  rw [if_pos ⟨by omega, by omega⟩]
  by_cases hx : x = 0
  · subst hx
    decide
  · rw [dect_neg x (by omega), num, if_pos (show (45 :: dg 20 x.toNat).head? = some 45 from rfl), List.tail_cons, dec_dg x.toNat (by omega) (by omega), Option.bind_some, if_neg (by omega)]
    congr 1
    omega
theorem text_small (x : Int) (h0 : 0 ≤ x) (h1 : x ≤ 4294967295) : (Tx.txt (dect (-x))).size ≤ 1048576 := by
  rw [Tx.txt_size]
  unfold dect
  have hl : ∀ f n, (dg f n).length ≤ f := by
    intro f
    induction f with
    | zero => intro n; exact Nat.le_refl _
    | succ f ih =>
      intro n
      by_cases h : n = 0
      · subst h; rw [dg_zero]; exact Nat.zero_le _
      · rw [dg_pos _ _ h, List.length_append]
        have := ih (n / 10)
        simp
        omega
  have h3 := hl 20 (-x).natAbs
  have h4 := hl 20 x.natAbs
  split
  · simp
  · split <;> simp <;> omega
end Dc

set_option maxHeartbeats 400000 in
theorem draw_rot (w : World) (a : Option Addr) (zs : List Int) (cap : Nat) (hs : Seg .u8 w a zs) (hb : ∀ z ∈ zs, (Lit.int .u8 z).wf = true) (hn : zs.length ≤ 1048576) :
    Calls Tryd.prog 5 #[.slice a zs.length cap] w fun e w' => ∃ x n : Int, e = .returned (.tuple #[.int .u32 x, .int .i64 n]) ∧ 0 ≤ x ∧ x ≤ 4294967295 ∧ -70 ≤ n ∧ n ≤ 69 ∧ Below w.heap.size w w' := by
  have HB : Hid _ := hb
  clear hb
  go_enter Tryd.func5, Tryd.ntmps5
  go_wp2_with fail
  refine (draw_new _ _ _ _ hs HB.out hn).mono ?_
  rintro e w1 ⟨rfl, hc1, hb1⟩
  go_wp2_with fail
  refine (draw_word _ _ _ _ _ hc1).mono ?_
  rintro e w2 ⟨x, rfl, hx0, hx1, hc2, ht2⟩
  go_wp2_with fail
  refine (draw_below _ _ _ _ _ _ hc2 (by omega) (by omega)).mono ?_
  rintro e w3 ⟨y, rfl, hy0, hy1, hc3, ht3⟩
  have hbel : Below w.heap.size w w3 := hb1.trans ((ht2.trans ht3).below (Nat.le_refl _) hb1.size)
  go_wp2
  go_ret2
  exact ⟨x, y - 70, rfl, hx0, hx1, by omega, by omega, hbel⟩

end Go.Proofs.YtbapnfocifnacadDoor
