
/-
  Plain facts on decimal texts: the digits of a number, the number of a list of digits, and when the one comes back from the other. No Go in sight; no conditions but those that each fact names.
-/
import Derived.Test.YthlapikcjiajgaaDoorBas
import Derived.RowKit
namespace Go.Proofs.YthlapikcjiajgaaDoor
open Go.RowKit
namespace Dc
/-- The digits of 'n', at most 'f' of them; none for 0. -/
def dg : Nat → Nat → List Int
  | 0, _ => []
  | f + 1, n => if n = 0 then [] else dg f (n / 10) ++ [48 + ((n % 10 : Nat) : Int)]
theorem dg_zero : ∀ f, dg f 0 = []
  | 0 => rfl
  | f + 1 => by simp [dg]
theorem dg_pos (f n : Nat) (h : n ≠ 0) : dg (f + 1) n = dg f (n / 10) ++ [48 + ((n % 10 : Nat) : Int)] := by rw [dg, if_neg h]
/-- More fuel than digits changes nothing. -/
theorem dg_more : ∀ f n, n < 10 ^ f → dg (f + 1) n = dg f n
  | 0, n, h => by
    have : n = 0 := by simpa using h
    subst this
    rfl
  | f + 1, n, h => by
    by_cases h0 : n = 0
    · subst h0; rw [dg_zero, dg_zero]
    · rw [dg_pos _ _ h0, dg_pos _ _ h0, dg_more f (n / 10) (by rw [Nat.pow_succ] at h; omega)]
/-- The decimal text of an integer. -/
def dect (n : Int) : List Int := if n = 0 then [48] else if n < 0 then 45 :: dg 20 n.natAbs else dg 20 n.natAbs
/-- The number of a list of digits, from 'n' on. -/
def dv : List Int → Int → Option Int
  | [], n => some n
  | b :: l, n => if 48 ≤ b ∧ b ≤ 57 then dv l (10 * n + (b - 48)) else none
theorem dv_cons (b : Int) (l : List Int) (n : Int) (h : 48 ≤ b ∧ b ≤ 57) : dv (b :: l) n = dv l (10 * n + (b - 48)) := by rw [dv, if_pos h]
theorem dv_bad (b : Int) (l : List Int) (n : Int) (h : ¬ (48 ≤ b ∧ b ≤ 57)) : dv (b :: l) n = none := by rw [dv, if_neg h]
/-- What is read is at least what was there, times a ten for each digit. -/
theorem dv_ge : ∀ (l : List Int) (z n : Int), 0 ≤ z → dv l z = some n → z * 10 ^ l.length ≤ n
  | [], z, n, _, h => by simp [dv] at h; subst h; simp
  | b :: l, z, n, hz, h => by
    by_cases hb : 48 ≤ b ∧ b ≤ 57
    · rw [dv_cons b l z hb] at h
      have := dv_ge l _ n (by omega) h
      have hp : (0 : Int) ≤ 10 ^ l.length := Int.pow_nonneg (by decide)
      have e : z * 10 ^ (b :: l).length = 10 * z * 10 ^ l.length := by rw [List.length_cons, Int.pow_succ, Int.mul_comm (10 ^ l.length) 10, ← Int.mul_assoc, Int.mul_comm z 10]
      have m : 10 * z * 10 ^ l.length ≤ (10 * z + (b - 48)) * 10 ^ l.length := Int.mul_le_mul_of_nonneg_right (by omega) hp
      omega
    · rw [dv_bad b l z hb] at h; cases h
theorem dv_le (l : List Int) (z n : Int) (hz : 0 ≤ z) (h : dv l z = some n) : z ≤ n := by
  have := dv_ge l z n hz h
  have hp : (1 : Int) ≤ 10 ^ l.length := Int.pow_pos (by decide)
  have m : z * 1 ≤ z * 10 ^ l.length := Int.mul_le_mul_of_nonneg_left hp hz
  omega
theorem dv_lt : ∀ (l : List Int) (z n : Int), dv l z = some n → n < (z + 1) * 10 ^ l.length
  | [], z, n, h => by simp [dv] at h; subst h; simp; omega
  | b :: l, z, n, h => by
    by_cases hb : 48 ≤ b ∧ b ≤ 57
    · rw [dv_cons b l z hb] at h
      have := dv_lt l _ n h
      have hp : (0 : Int) ≤ 10 ^ l.length := Int.pow_nonneg (by decide)
      have e : (z + 1) * 10 ^ (b :: l).length = 10 * (z + 1) * 10 ^ l.length := by rw [List.length_cons, Int.pow_succ, Int.mul_comm (10 ^ l.length) 10, ← Int.mul_assoc, Int.mul_comm (z + 1) 10]
      have m : (10 * z + (b - 48) + 1) * 10 ^ l.length ≤ 10 * (z + 1) * 10 ^ l.length := Int.mul_le_mul_of_nonneg_right (by omega) hp
      omega
    · rw [dv_bad b l z hb] at h; cases h
theorem dv_snoc : ∀ (l : List Int) (b z : Int), dv (l ++ [b]) z = (dv l z).bind fun m => if 48 ≤ b ∧ b ≤ 57 then some (10 * m + (b - 48)) else none
  | [], b, z => by simp [dv]
  | c :: l, b, z => by
    by_cases hc : 48 ≤ c ∧ c ≤ 57
    · rw [List.cons_append, dv_cons c _ z hc, dv_cons c _ z hc, dv_snoc l]
    · rw [List.cons_append, dv_bad c _ z hc, dv_bad c _ z hc]; rfl
/-- A list of digits that begins with no 0 is what its number's digits are. -/
theorem dg_of_dv : ∀ (f : Nat) (l : List Int) (n : Int), l.length ≤ f → (∀ b, l.head? = some b → b ≠ 48) → dv l 0 = some n → dg f n.toNat = l
  | 0, l, n, hl, _, _ => by
    have : l = [] := List.length_eq_zero_iff.1 (by omega)
    subst this
    rfl
  | f + 1, l, n, hl, hh, h => by
    rcases List.eq_nil_or_concat l with rfl | ⟨l', b, rfl⟩
    · simp [dv] at h; subst h; exact dg_zero _
    · rw [List.concat_eq_append] at *
      rw [dv_snoc] at h
      cases hm : dv l' 0 with
      | none => rw [hm] at h; cases h
      | some m =>
        rw [hm] at h
        simp only [Option.bind_some] at h
        by_cases hb : 48 ≤ b ∧ b ≤ 57
        · rw [if_pos hb] at h
          have en : n = 10 * m + (b - 48) := by injection h with h; exact h.symm
          have hm0 := dv_le l' 0 m (by omega) hm
          have hn0 : n.toNat ≠ 0 := by
            cases l' with
            | nil =>
              have := hh b rfl
              omega
            | cons c l2 =>
              have hc := hh c rfl
              by_cases hcd : 48 ≤ c ∧ c ≤ 57
              · rw [dv_cons c l2 0 hcd] at hm
                have := dv_le l2 _ m (by omega) hm
                omega
              · rw [dv_bad c l2 0 hcd] at hm; cases hm
          rw [dg_pos _ _ hn0, show n.toNat / 10 = m.toNat by omega, dg_of_dv f l' m (by simp at hl; omega) (fun c hc => hh c (by cases l' with | nil => cases hc | cons a t => exact hc)) hm]
          congr 2
          omega
        · rw [if_neg hb] at h; cases h
/-- The digits of a number begin with no 0. -/
theorem dg_head : ∀ (f n : Nat) (b : Int), n < 10 ^ f → (dg f n).head? = some b → b ≠ 48
  | 0, n, b, _, h => by simp [dg] at h
  | f + 1, n, b, hn, h => by
    by_cases h0 : n = 0
    · subst h0; rw [dg_zero] at h; cases h
    · rw [dg_pos _ _ h0] at h
      by_cases hq : n / 10 = 0
      · rw [hq, dg_zero] at h
        simp at h
        omega
      · have hne : dg f (n / 10) ≠ [] := by
          cases f with
          | zero => rw [Nat.pow_succ] at hn; omega
          | succ g => rw [dg_pos _ _ hq]; simp
        have := dg_head f (n / 10) b (by rw [Nat.pow_succ] at hn; omega) (by
          cases hd : dg f (n / 10) with
          | nil => exact absurd hd hne
          | cons a t => rw [hd] at h; exact h)
        exact this

/-- The number that a list of digits is, digit by digit, as long as it stays within 'most' and begins with no needless 0. -/
def dec (most : Int) : List Int → Bool → Int → Option Int
  | [], first, z => if first then none else some z
  | b :: l, first, z => if (48 ≤ b ∧ b ≤ 57) ∧ (first = true ∨ z ≠ 0) then (if most < 10 * z + (b - 48) then none else dec most l false (10 * z + (b - 48))) else none
def within (most : Int) (o : Option Int) : Option Int := o.bind fun n => if n ≤ most then some n else none
theorem dec_dv (most : Int) : ∀ (l : List Int) (z : Int), 1 ≤ z → z ≤ most → dec most l false z = within most (dv l z)
  | [], z, _, h => by simp [dec, dv, within, h]
  | b :: l, z, h1, h2 => by
    by_cases hb : 48 ≤ b ∧ b ≤ 57
    · rw [dec, if_pos ⟨hb, Or.inr (by omega)⟩, dv_cons b l z hb]
      by_cases hm : most < 10 * z + (b - 48)
      · rw [if_pos hm]
        cases hd : dv l (10 * z + (b - 48)) with
        | none => rfl
        | some n =>
          have := dv_le l _ n (by omega) hd
          simp only [within, Option.bind_some]
          rw [if_neg (by omega)]
      · rw [if_neg hm]
        exact dec_dv most l _ (by omega) (by omega)
    · rw [dec, if_neg (fun h => hb h.1), dv_bad b l z hb]; rfl
/-- What the digits of a text come to. -/
theorem dec_first (most : Int) (h0 : 0 ≤ most) (ds : List Int) : dec most ds true 0 = if ds = [] then none else if ds = [48] then some 0 else if ds.head? = some 48 then none else within most (dv ds 0) := by
  cases ds with
  | nil => rfl
  | cons b l =>
    rw [if_neg (by simp)]
    by_cases hb : 48 ≤ b ∧ b ≤ 57
    · rw [dec, if_pos ⟨hb, Or.inl rfl⟩]
      by_cases h48 : b = 48
      · subst h48
        rw [if_neg (by omega)]
        cases l with
        | nil => simp [dec]
        | cons c l =>
          rw [if_neg (by simp), if_pos (by simp), dec, if_neg (by simp)]
      · rw [if_neg (show ¬ b :: l = [48] by simp [h48]), if_neg (show ¬ (b :: l).head? = some 48 by simp [h48]), dv_cons b l 0 hb]
        by_cases hm : most < 10 * 0 + (b - 48)
        · rw [if_pos hm]
          cases hd : dv l (10 * 0 + (b - 48)) with
          | none => rfl
          | some n =>
            have := dv_le l _ n (by omega) hd
            simp only [within, Option.bind_some]
            rw [if_neg (by omega)]
        · rw [if_neg hm]
          exact dec_dv most l _ (by omega) (by omega)
    · rw [dec, if_neg (fun h => hb h.1), if_neg (by simp; omega), if_neg (by simp; omega), dv_bad b l 0 hb]; rfl
/-- The number of a decimal text, as the chapter has it. -/
def num (l : List Int) (most : Int) : Option Int := if l.head? = some 45 then (dec most l.tail true 0).bind fun z => if z = 0 then none else some (-z) else dec most l true 0
/-- The number of a decimal text, as the specification reckons it behind its digits. -/
def held (l : List Int) (most : Int) (o : Option Int) : Option Int := o.bind fun n => if dect n = l ∧ n ≤ most ∧ -most ≤ n then some n else none
theorem dect_pos (n : Int) (h : 1 ≤ n) : dect n = dg 20 n.toNat := by
  unfold dect
  rw [if_neg (by omega), if_neg (by omega), show n.natAbs = n.toNat by omega]
theorem dect_neg (n : Int) (h : 1 ≤ n) : dect (-n) = 45 :: dg 20 n.toNat := by
  unfold dect
  rw [if_neg (by omega), if_pos (by omega), show (-n).natAbs = n.toNat by omega]
theorem dv_bound (l : List Int) (n : Int) (hl : l.length ≤ 11) (h : dv l 0 = some n) : n < 100000000000 := by
  have := dv_lt l 0 n h
  have hp : (10 : Int) ^ l.length ≤ 10 ^ 11 := by
    have : (10 : Nat) ^ l.length ≤ 10 ^ 11 := Nat.pow_le_pow_right (by omega) hl
    exact_mod_cast this
  omega
theorem dv_head (b : Int) (l : List Int) (n : Int) (hb : b ≠ 48) (h : dv (b :: l) 0 = some n) : 1 ≤ n := by
  by_cases hd : 48 ≤ b ∧ b ≤ 57
  · rw [dv_cons b l 0 hd] at h
    have := dv_le l _ n (by omega) h
    omega
  · rw [dv_bad b l 0 hd] at h; cases h
/-- The digits without a sign: the two readings agree. -/
theorem plain (l : List Int) (most : Int) (h0 : 0 ≤ most) (hl : l.length ≤ 11) (hne : l ≠ []) (h45 : l.head? ≠ some 45) : held l most (dv l 0) = num l most := by
  rw [num, if_neg h45, dec_first most h0, if_neg hne]
  by_cases e : l = [48]
  · subst e
    rw [if_pos rfl]
    simp [held, dv, dect, h0]
  · rw [if_neg e]
    cases l with
    | nil => exact absurd rfl hne
    | cons b l =>
      by_cases h48 : b = 48
      · subst h48
        rw [if_pos (show (48 :: l).head? = some 48 from rfl)]
        cases hd : dv (48 :: l) 0 with
        | none => rfl
        | some n =>
          have hn := dv_bound _ n hl hd
          have hn0 := dv_le _ 0 n (by omega) hd
          simp only [held, Option.bind_some]
          rw [if_neg]
          rintro ⟨hc, _⟩
          by_cases hz : n = 0
          · subst hz
            have : l = [] := by simpa [dect] using hc
            subst this
            exact e rfl
          · rw [dect_pos n (by omega)] at hc
            exact dg_head 20 n.toNat 48 (by omega) (by rw [hc]; rfl) rfl
      · rw [if_neg (by simp [h48])]
        cases hd : dv (b :: l) 0 with
        | none => rfl
        | some n =>
          have hn := dv_head b l n h48 hd
          have := dg_of_dv 20 (b :: l) n (by omega) (by intro c hc; simp at hc; omega) hd
          simp only [held, within, Option.bind_some]
          rw [dect_pos n hn, this]
          by_cases hm : n ≤ most
          · rw [if_pos ⟨rfl, hm, by omega⟩, if_pos hm]
          · rw [if_neg (fun h => hm h.2.1), if_neg hm]
/-- The digits behind a sign. -/
theorem signed (l : List Int) (most : Int) (h0 : 0 ≤ most) (hl : l.length ≤ 10) : held (45 :: l) most ((dv l 0).map fun n => -n) = num (45 :: l) most := by
  rw [num, if_pos (show (45 :: l).head? = some 45 from rfl), List.tail_cons, dec_first most h0]
  cases l with
  | nil => simp [held, dv, dect]
  | cons b l =>
    rw [if_neg (by simp)]
    by_cases e : b :: l = [48]
    · rw [if_pos e, e]
      simp [held, dv, dect]
    · rw [if_neg e]
      by_cases h48 : b = 48
      · subst h48
        rw [if_pos (show (48 :: l).head? = some 48 from rfl)]
        cases hd : dv (48 :: l) 0 with
        | none => rfl
        | some n =>
          have hn := dv_bound _ n (by omega) hd
          have hn0 := dv_le _ 0 n (by omega) hd
          simp only [held, Option.map_some, Option.bind_some, Option.bind_none]
          rw [if_neg]
          rintro ⟨hc, _⟩
          by_cases hz : n = 0
          · subst hz
            simp [dect] at hc
          · rw [dect_neg n (by omega)] at hc
            injection hc with _ hc
            exact dg_head 20 n.toNat 48 (by omega) (by rw [hc]; rfl) rfl
      · rw [if_neg (by simp [h48])]
        cases hd : dv (b :: l) 0 with
        | none => rfl
        | some n =>
          have hn := dv_head b l n h48 hd
          have := dg_of_dv 20 (b :: l) n (by omega) (by intro c hc; simp at hc; omega) hd
          simp only [held, within, Option.map_some, Option.bind_some]
          rw [dect_neg n hn, this]
          by_cases hm : n ≤ most
          · rw [if_pos ⟨rfl, by omega, by omega⟩, if_pos hm, Option.bind_some, if_neg (by omega)]
          · rw [if_neg (by omega), if_neg hm]; rfl
/-- A text that is too long is no number. -/
theorem long (most : Int) (h0 : 0 ≤ most) (h1 : most ≤ 4294967295) (ds : List Int) (hl : 11 ≤ ds.length) : dec most ds true 0 = none := by
  rw [dec_first most h0]
  cases ds with
  | nil => rfl
  | cons b l =>
    rw [if_neg (by simp), if_neg (by intro e; rw [e] at hl; simp at hl)]
    by_cases h48 : b = 48
    · subst h48; rw [if_pos (show (48 :: l).head? = some 48 from rfl)]
    · rw [if_neg (by simp [h48])]
      cases hd : dv (b :: l) 0 with
      | none => rfl
      | some n =>
        by_cases hb : 48 ≤ b ∧ b ≤ 57
        · rw [dv_cons b l 0 hb] at hd
          have := dv_ge l _ n (by omega) hd
          have hp : (10 : Int) ^ 10 ≤ 10 ^ l.length := by
            have : (10 : Nat) ^ 10 ≤ 10 ^ l.length := Nat.pow_le_pow_right (by omega) (by simp at hl; omega)
            exact_mod_cast this
          have m : 1 * 10 ^ l.length ≤ (10 * 0 + (b - 48)) * 10 ^ l.length := Int.mul_le_mul_of_nonneg_right (by omega) (by omega)
          simp only [within, Option.bind_some]
          rw [if_neg (by omega)]
        · rw [dv_bad b l 0 hb] at hd; cases hd
theorem num_long (l : List Int) (most : Int) (h0 : 0 ≤ most) (h1 : most ≤ 4294967295) (hl : 12 ≤ l.length) : num l most = none := by
  unfold num
  split
  · rw [long most h0 h1 l.tail (by simp; omega)]; rfl
  · exact long most h0 h1 l (by omega)
theorem num_nil (most : Int) : num [] most = none := rfl
/-- How far the digits of 'N' have been laid: 'l' lies, 'c' is left. -/
def Left (N : Nat) (c : Int) (l : List Int) : Prop := ∃ f, f + l.length = 20 ∧ c.toNat < 10 ^ f ∧ dg 20 N = dg f c.toNat ++ l
theorem left_start (N : Nat) (c : Int) (hc : c.toNat = N) (hN : N ≤ 9223372036854775808) : Left N c [] := ⟨20, rfl, by rw [hc]; exact Nat.lt_of_le_of_lt hN (by decide), by rw [hc]; simp⟩
theorem left_len {N : Nat} {c : Int} {l : List Int} (h : Left N c l) : l.length ≤ 20 := by
  obtain ⟨f, h1, _⟩ := h
  omega
theorem left_step {N : Nat} {c : Int} {l : List Int} (h : Left N c l) (hc : 1 ≤ c) : Left N (c / 10) ((48 + c % 10) :: l) := by
  obtain ⟨f, h1, h2, h3⟩ := h
  cases f with
  | zero => rw [Nat.pow_zero] at h2; omega
  | succ f =>
    refine ⟨f, by simp; omega, by rw [Nat.pow_succ] at h2; omega, ?_⟩
    rw [h3, dg_pos _ _ (by omega), List.append_assoc, show c.toNat / 10 = (c / 10).toNat by omega, show ((c.toNat % 10 : Nat) : Int) = c % 10 by omega]
    rfl
theorem left_end {N : Nat} {l : List Int} (h : Left N 0 l) : dg 20 N = l := by
  obtain ⟨f, h1, h2, h3⟩ := h
  rw [h3, show (0 : Int).toNat = 0 from rfl, dg_zero]
  rfl
theorem dg_byte : ∀ (f n : Nat) (b : Int), b ∈ dg f n → 0 ≤ b ∧ b ≤ 255
  | 0, n, b, h => by cases h
  | f + 1, n, b, h => by
    by_cases h0 : n = 0
    · subst h0; rw [dg_zero] at h; cases h
    · rw [dg_pos _ _ h0, List.mem_append] at h
      rcases h with h | h
      · exact dg_byte f _ b h
      · simp at h; omega
theorem dect_byte (n : Int) (b : Int) (h : b ∈ dect n) : 0 ≤ b ∧ b ≤ 255 := by
  unfold dect at h
  split at h
  · simp at h; omega
  · split at h
    · rcases List.mem_cons.1 h with h | h
      · omega
      · exact dg_byte _ _ b h
    · exact dg_byte _ _ b h
end Dc
end Go.Proofs.YthlapikcjiajgaaDoor
