
/-
  The law on arithmetic, walked: what is added is taken away again, and the rest. Conditions: the bytes drawn from are at most 1048576.
-/
import Derived.Test.YtbabghabcgpjaaaRows
import Derived.Test.YtbabghabcgpjaaaDw2
namespace Go.Proofs.Ytbabghabcgpjaaa
open Go.ChangeShapes Go.WideShapes Go.ChangeAt Go.RowKit Go.Deep
set_option linter.unusedVariables false

namespace Ar
theorem xor_nat (a b : Int) (h1 : 0 ≤ a) (h2 : a ≤ 4294967295) (h3 : 0 ≤ b) (h4 : b ≤ 4294967295) : bits .xor .u32 a b = ((a.toNat ^^^ b.toNat : Nat) : Int) := by
  exact u32_xor a b h1 (by omega) h3 (by omega)
theorem xor_lt (a b : Int) (h1 : 0 ≤ a) (h2 : a ≤ 4294967295) (h3 : 0 ≤ b) (h4 : b ≤ 4294967295) : 0 ≤ bits .xor .u32 a b ∧ bits .xor .u32 a b ≤ 4294967295 := by
  rw [xor_nat a b h1 h2 h3 h4]
  have := Nat.xor_lt_two_pow (x := a.toNat) (y := b.toNat) (n := 32) (by omega) (by omega)
  omega
theorem xor_back (a b : Int) (h1 : 0 ≤ a) (h2 : a ≤ 4294967295) (h3 : 0 ≤ b) (h4 : b ≤ 4294967295) : bits .xor .u32 (bits .xor .u32 a b) b = a := by
  obtain ⟨x0, x1⟩ := xor_lt a b h1 h2 h3 h4
  rw [xor_nat _ b x0 x1 h3 h4, xor_nat a b h1 h2 h3 h4, Int.toNat_natCast, Nat.xor_assoc, Nat.xor_self, Nat.xor_zero]
  omega
theorem sub_back' (a b s k : Int) (h1 : 0 ≤ a) (h2 : a ≤ 4294967295) (h3 : 0 ≤ b) (h4 : b ≤ 4294967295) (hs : s = (a + b) % 4294967296) (hk : k = (s - b) % 4294967296) : k = a := by omega
theorem xor_back' (a b x y : Int) (h1 : 0 ≤ a) (h2 : a ≤ 4294967295) (h3 : 0 ≤ b) (h4 : b ≤ 4294967295) (hx : x = bits .xor .u32 a b) (hy : y = bits .xor .u32 x b) : y = a := by rw [hy, hx]; exact xor_back a b h1 h2 h3 h4
theorem sub_back (a b : Int) (h1 : 0 ≤ a) (h2 : a ≤ 4294967295) (h3 : 0 ≤ b) (h4 : b ≤ 4294967295) : ((a + b) % 4294967296 - b) % 4294967296 = a := by omega
theorem rest (a b q p : Int) (h1 : 0 ≤ a) (h2 : a ≤ 4294967295) (h3 : 0 ≤ b) (h4 : b ≤ 4294967295) (hz : ¬ b = 0) (hq : q = a / b) (hp : p = q * b % 4294967296) : p ≤ a ∧ (a - p) % 4294967296 < b := by
  have hb : 0 < b := by omega
  have e := Int.emod_add_mul_ediv a b
  have r0 := Int.emod_nonneg a hz
  have r1 := Int.emod_lt_of_pos a hb
  have q0 : 0 ≤ b * (a / b) := Int.mul_nonneg h3 (Int.ediv_nonneg h1 h3)
  rw [hq, Int.mul_comm] at hp
  generalize b * (a / b) = m at *
  generalize a % b = r at *
  omega
theorem pow_le (b : Int) (h3 : 0 ≤ b) : (1 : Int) ≤ 2 ^ (b % 32).toNat ∧ (2 : Int) ^ (b % 32).toNat ≤ 2147483648 ∧ wrap64 (2 ^ (b % 32).toNat) = 2 ^ (b % 32).toNat := by
  have hn : (b % 32).toNat ≤ 31 := by omega
  have h1 : (1 : Nat) ≤ 2 ^ (b % 32).toNat := Nat.one_le_two_pow
  have h2 : 2 ^ (b % 32).toNat ≤ 2 ^ 31 := Nat.pow_le_pow_right (by omega) hn
  have e : (2 : Int) ^ (b % 32).toNat = ((2 ^ (b % 32).toNat : Nat) : Int) := by simp
  rw [e]
  generalize 2 ^ (b % 32).toNat = m at h1 h2 ⊢
  have h2' : m ≤ 2147483648 := h2
  refine ⟨by omega, by omega, ?_⟩
  unfold wrap64
  omega
theorem wrap64_small (d : Int) (h1 : -4294967296 ≤ d) (h2 : d ≤ 4294967296) : wrap64 d = d := by
  unfold wrap64; omega
theorem ediv_small (s P : Int) (h0 : -4294967296 ≤ s) (h1 : s ≤ 4294967295) (hP : 1 ≤ P) : -4294967296 ≤ s / P ∧ s / P ≤ 4294967295 := by
  refine ⟨?_, ?_⟩
  · rw [Int.le_ediv_iff_mul_le (by omega)]
    omega
  · rcases Int.lt_or_le s 0 with h | h
    · have : s / P < 0 := Int.ediv_neg_of_neg_of_pos h (by omega)
      omega
    · have := Int.ediv_le_self P h
      omega
theorem tdiv_up (s P : Int) (hs : s < 0) (hP : 1 ≤ P) (h : ¬ s.tmod P = 0) : s.tdiv P = s / P + 1 := by
  rw [Int.tdiv_eq_ediv, if_neg (by
    intro c
    rcases c with c | c
    · omega
    · exact h (Int.tmod_eq_zero_of_dvd c)), Int.sign_eq_one_of_pos (by omega)]
theorem tdiv_at (s P : Int) (h : s.tmod P = 0) : s.tdiv P = s / P := by
  rw [Int.tdiv_eq_ediv, if_pos (.inr (Int.dvd_of_tmod_eq_zero h)), Int.add_zero]
theorem sar_up (a b : Int) (h1 : 2147483648 ≤ a) (h2 : a ≤ 4294967295) (h3 : 0 ≤ b) (h : ¬ (a - 4294967296).tmod (wrap64 (2 ^ (b % 32).toNat)) = 0) :
    (Wd.sar a.toNat (b % 32).toNat : Int) = wrap64 (wrap64 ((a - 4294967296).tdiv (wrap64 (2 ^ (b % 32).toNat))) - 1) % 4294967296 := by
  obtain ⟨p1, p2, p3⟩ := pow_le b h3
  rw [p3] at h ⊢
  rw [← Wd.sar_of a b (by omega) h2, tdiv_up _ _ (by omega) p1 h, show wrap32 a = a - 4294967296 by unfold wrap32; omega]
  obtain ⟨e1, e2⟩ := ediv_small (a - 4294967296) (2 ^ (b % 32).toNat) (by omega) (by omega) p1
  generalize (a - 4294967296) / 2 ^ (b % 32).toNat = d at *
  rw [wrap64_small (d + 1) (by omega) (by omega), wrap64_small _ (by omega) (by omega)]
  congr 1
  omega
theorem sar_at (a b : Int) (h1 : 2147483648 ≤ a) (h2 : a ≤ 4294967295) (h3 : 0 ≤ b) (h : (a - 4294967296).tmod (wrap64 (2 ^ (b % 32).toNat)) = 0) :
    (Wd.sar a.toNat (b % 32).toNat : Int) = wrap64 ((a - 4294967296).tdiv (wrap64 (2 ^ (b % 32).toNat))) % 4294967296 := by
  obtain ⟨p1, p2, p3⟩ := pow_le b h3
  rw [p3] at h ⊢
  rw [← Wd.sar_of a b (by omega) h2, tdiv_at _ _ h, show wrap32 a = a - 4294967296 by unfold wrap32; omega]
  obtain ⟨e1, e2⟩ := ediv_small (a - 4294967296) (2 ^ (b % 32).toNat) (by omega) (by omega) p1
  rw [wrap64_small _ (by omega) (by omega)]
theorem sar_pos (a b : Int) (h0 : 0 ≤ a) (h1 : ¬ 2147483648 ≤ a) (h3 : 0 ≤ b) :
    (Wd.sar a.toNat (b % 32).toNat : Int) = wrap64 (a.tdiv (wrap64 (2 ^ (b % 32).toNat))) % 4294967296 := by
  obtain ⟨p1, p2, p3⟩ := pow_le b h3
  rw [p3]
  rw [← Wd.sar_of a b (by omega) (by omega), Int.tdiv_eq_ediv_of_nonneg h0, show wrap32 a = a by unfold wrap32; omega]
  obtain ⟨e1, e2⟩ := ediv_small a (2 ^ (b % 32).toNat) (by omega) (by omega) p1
  rw [wrap64_small _ (by omega) (by omega)]
theorem wrap_inj (a b : Int) (h1 : 0 ≤ a) (h2 : a ≤ 4294967295) (h3 : 0 ≤ b) (h4 : b ≤ 4294967295) (h : wrap32 a = wrap32 b) : a = b := by
  unfold wrap32 at h
  omega
theorem less_more (a b l m : Int) (h1 : 0 ≤ a) (h2 : a ≤ 4294967295) (h3 : 0 ≤ b) (h4 : b ≤ 4294967295) (hl : l = if wrap32 a < wrap32 b then 1 else 0) (hm : m = if wrap32 b < wrap32 a then 1 else 0) :
    (a = b → l = 0 ∧ m = 0) ∧ (¬ a = b → (l = 1 ∧ m = 0) ∨ (l = 0 ∧ m = 1)) := by
  refine ⟨fun e => ?_, fun e => ?_⟩
  · subst e; rw [hl, hm]; simp
  · have hne : ¬ wrap32 a = wrap32 b := fun c => e (wrap_inj a b h1 h2 h3 h4 c)
    rw [hl, hm]
    by_cases c : wrap32 a < wrap32 b
    · rw [if_pos c, if_neg (by omega)]; exact .inl ⟨rfl, rfl⟩
    · rw [if_neg c, if_pos (by omega)]; exact .inr ⟨rfl, rfl⟩
theorem carry (a b s : Int) (h1 : 0 ≤ a) (h2 : a ≤ 4294967295) (h3 : 0 ≤ b) (h4 : b ≤ 4294967295) (hs : s = (a + b) % 4294967296) : decide (4294967296 ≤ a + b) = decide (s < a) := by
  rw [decide_eq_decide]; omega
end Ar
def RP (w : World) (C : Int → Prop) : Ending → World → Prop := fun e w' => ∃ r : Int, e = .returned (.tuple #[.int .u32 r, .int .i64 0]) ∧ 0 ≤ r ∧ r ≤ 4294967295 ∧ C r ∧ w' = w
theorem c_add (a b : Int) (w : World) (h1 : 0 ≤ a) (h2 : a ≤ 4294967295) (h3 : 0 ≤ b) (h4 : b ≤ 4294967295) :
    Calls Try.prog 30 #[.int .i64 1, .int .u32 a, .int .u32 b] w (RP w fun r => r = (a + b) % 4294967296) :=
  (impl_alu1 a b w h1 h2 h3 h4).mono (by rintro e w' ⟨rfl, rfl⟩; exact ⟨_, rfl, by omega, by omega, rfl, rfl⟩)
theorem c_sub (a b : Int) (w : World) (h1 : 0 ≤ a) (h2 : a ≤ 4294967295) (h3 : 0 ≤ b) (h4 : b ≤ 4294967295) :
    Calls Try.prog 30 #[.int .i64 2, .int .u32 a, .int .u32 b] w (RP w fun r => r = (a - b) % 4294967296) :=
  (impl_alu2 a b w h1 h2 h3 h4).mono (by rintro e w' ⟨rfl, rfl⟩; exact ⟨_, rfl, by omega, by omega, rfl, rfl⟩)
theorem c_xor (a b : Int) (w : World) (h1 : 0 ≤ a) (h2 : a ≤ 4294967295) (h3 : 0 ≤ b) (h4 : b ≤ 4294967295) :
    Calls Try.prog 30 #[.int .i64 5, .int .u32 a, .int .u32 b] w (RP w fun r => r = bits .xor .u32 a b) :=
  (impl_alu5 a b w h1 h2 h3 h4).mono (by rintro e w' ⟨rfl, rfl⟩; exact ⟨_, rfl, (Ar.xor_lt a b h1 h2 h3 h4).1, (Ar.xor_lt a b h1 h2 h3 h4).2, rfl, rfl⟩)
theorem c_slt (a b : Int) (w : World) (h1 : 0 ≤ a) (h2 : a ≤ 4294967295) (h3 : 0 ≤ b) (h4 : b ≤ 4294967295) :
    Calls Try.prog 30 #[.int .i64 11, .int .u32 a, .int .u32 b] w (RP w fun r => r = if wrap32 a < wrap32 b then 1 else 0) :=
  (impl_alu11 a b w h1 h2 h3 h4).mono (by rintro e w' ⟨rfl, rfl⟩; exact ⟨_, rfl, by split <;> omega, by split <;> omega, rfl, rfl⟩)
theorem c_mul (a b : Int) (w : World) (h1 : 0 ≤ a) (h2 : a ≤ 4294967295) (h3 : 0 ≤ b) (h4 : b ≤ 4294967295) :
    Calls Try.prog 30 #[.int .i64 9, .int .u32 a, .int .u32 b] w (RP w fun r => r = a * b % 4294967296) :=
  (impl_alu9 a b w h1 h2 h3 h4).mono (by rintro e w' ⟨rfl, rfl⟩; exact ⟨_, rfl, Int.emod_nonneg _ (by omega), by have := Int.emod_lt_of_pos (a * b) (show (0 : Int) < 4294967296 by omega); omega, rfl, rfl⟩)
theorem c_div (a b : Int) (w : World) (h1 : 0 ≤ a) (h2 : a ≤ 4294967295) (h3 : 0 ≤ b) (h4 : b ≤ 4294967295) (hb : (b == 0) = false) :
    Calls Try.prog 30 #[.int .i64 10, .int .u32 a, .int .u32 b] w (RP w fun r => r = a / b) :=
  (impl_alu10 a b w h1 h2 h3 h4 hb).mono (by rintro e w' ⟨rfl, rfl⟩; exact ⟨_, rfl, Int.ediv_nonneg h1 h3, by have := Int.ediv_le_self b h1; omega, rfl, rfl⟩)
theorem c_carry (a b sum : Int) (w : World) (h1 : 0 ≤ a) (h2 : a ≤ 4294967295) (h3 : 0 ≤ b) (h4 : b ≤ 4294967295) (hs : sum = (a + b) % 4294967296) :
    Calls Try.prog 39 #[.int .u32 a, .int .u32 b] w fun e w' => e = .returned (.tuple #[.int .u32 sum, .bool (decide (sum < a))]) ∧ w' = w :=
  (impl_add a b w h1 h2 h3 h4).mono (by rintro e w' ⟨rfl, rfl⟩; exact ⟨ret_pair hs.symm (Ar.carry a b sum h1 h2 h3 h4 hs), rfl⟩)
theorem c_sar (a b d : Int) (w : World) (h1 : 0 ≤ a) (h2 : a ≤ 4294967295) (h3 : 0 ≤ b) (h4 : b ≤ 4294967295) (hs : (Wd.sar a.toNat (b % 32).toNat : Int) = d) :
    Calls Try.prog 40 #[.int .u32 a, .int .u32 b] w fun e w' => e = .returned (.int .u32 d) ∧ w' = w := by
  subst hs
  exact impl_sar a b w h1 h2 h3 h4
set_option maxHeartbeats 400000 in
theorem big_no (a : Option Addr) (n cap : Nat) (w : World) (hn : n ≤ 1048576) :
    Calls Try.prog 37 #[.slice a n cap] w fun e w' => e = .returned (.bool false) ∧ w' = w := by
  go_enter Try.func37, Try.ntmps37
  go_wp2
  go_ret
  exact ⟨ret_bool (by simp; omega), rfl⟩
set_option maxHeartbeats 400000 in
theorem big_yes (a : Option Addr) (n cap : Nat) (w : World) (hn : ¬ n ≤ 1048576) :
    Calls Try.prog 37 #[.slice a n cap] w fun e w' => e = .returned (.bool true) ∧ w' = w := by
  go_enter Try.func37, Try.ntmps37
  go_wp2
  go_ret
  exact ⟨ret_bool (by simp; omega), rfl⟩
/-- What is known of two words and of what they come to. -/
structure Fx (a b sum back x y less more : Int) : Prop where
  back : back = a
  xor : y = a
  sum : sum = (a + b) % 4294967296
  lm : (a = b → less = 0 ∧ more = 0) ∧ (¬ a = b → (less = 1 ∧ more = 0) ∨ (less = 0 ∧ more = 1))
set_option maxRecDepth 100000 in
set_option maxHeartbeats 2000000 in
theorem arith_law (w : World) (p : Option Addr) (zs : List Int) (cap : Nat) (hs : Seg .u8 w p zs) (hb : ∀ z ∈ zs, (Lit.int .u8 z).wf = true) (hn : zs.length ≤ 1048576) :
    Calls Try.prog 11 #[.slice p zs.length cap] w fun e w' => e = .returned (.bool true) ∧ Below w.heap.size w w' := by
  obtain ⟨n, Hn⟩ : ∃ n, Hid (n = zs.length) := ⟨_, rfl⟩
  have hk1 := draw_two w p zs cap hs hb hn
  rw [← Hn.out] at hk1 hn ⊢
  clear hs hb Hn
  go_enter Try.func11, Try.ntmps11
  go_wp2_with fail
  refine (big_no _ _ _ _ hn).mono ?_
  rintro e w' ⟨rfl, rfl⟩
  go_wp2_with fail
  refine hk1.mono ?_
  rintro e w1 ⟨a, b, rfl, ha0, ha1, hb0, hb1, hbe⟩
  clear hk1 hn
  go_wp2_with fail
  refine (c_add a b _ ha0 ha1 hb0 hb1).mono ?_
  rintro e w' ⟨sum, rfl, s0, s1, Hs, rfl⟩
  replace Hs : Hid (sum = (a + b) % 4294967296) := Hs
  go_wp2_with fail
  refine (c_sub sum b _ s0 s1 hb0 hb1).mono ?_
  rintro e w' ⟨back, rfl, k0, k1, Hk, rfl⟩
  obtain rfl : a = back := (Ar.sub_back' a b sum back ha0 ha1 hb0 hb1 Hs.out Hk).symm
  clear Hk k0 k1
  go_wp2_with fail
  refine (c_xor a b _ ha0 ha1 hb0 hb1).mono ?_
  rintro e w' ⟨x, rfl, x0, x1, Hx, rfl⟩
  replace Hx : Hid (x = bits .xor .u32 a b) := Hx
  go_wp2_with fail
  refine (c_xor x b _ x0 x1 hb0 hb1).mono ?_
  rintro e w' ⟨y, rfl, y0, y1, Hy, rfl⟩
  obtain rfl : a = y := (Ar.xor_back' a b x y ha0 ha1 hb0 hb1 Hx.out Hy).symm
  clear Hy Hx y0 y1
  go_wp2_with fail
  refine (c_slt a b _ ha0 ha1 hb0 hb1).mono ?_
  rintro e w' ⟨less, rfl, l0, l1, Hl, rfl⟩
  replace Hl : Hid (less = if wrap32 a < wrap32 b then 1 else 0) := Hl
  go_wp2_with fail
  refine (c_slt b a _ hb0 hb1 ha0 ha1).mono ?_
  rintro e w' ⟨more, rfl, m0, m1, Hm, rfl⟩
  have Hlm : Hid ((a = b → less = 0 ∧ more = 0) ∧ (¬ a = b → (less = 1 ∧ more = 0) ∨ (less = 0 ∧ more = 1))) := Ar.less_more a b less more ha0 ha1 hb0 hb1 Hl.out Hm
  clear Hm Hl
  go_wp2_with fail
  refine (c_carry a b sum _ ha0 ha1 hb0 hb1 Hs.out).mono ?_
  rintro e w' ⟨rfl, rfl⟩
  have hcase : (a = b ∧ less = 0 ∧ more = 0) ∨ (¬ a = b ∧ less = 1 ∧ more = 0) ∨ (¬ a = b ∧ less = 0 ∧ more = 1) := by
    have := Hlm.out
    by_cases e : a = b
    · exact .inl ⟨e, this.1 e⟩
    · rcases this.2 e with h | h
      · exact .inr (.inl ⟨e, h⟩)
      · exact .inr (.inr ⟨e, h⟩)
  clear Hlm
  rcases hcase with ⟨rfl, rfl, rfl⟩ | ⟨hne, rfl, rfl⟩ | ⟨hne, rfl, rfl⟩
  · go_wp2_with fail
    by_cases hz : a = 0
    · obtain rfl : a = 0 := hz
      refine (impl_alu10z _ _ ha0 ha1).mono ?_
      rintro e w' ⟨rfl, rfl⟩
      go_wp2
      go_ret
      exact ⟨rfl, hbe⟩
    · refine (c_div a a _ ha0 ha1 ha0 ha1 (op_bne hz)).mono ?_
      rintro e w' ⟨q, rfl, q0, q1, Hq, rfl⟩
      replace Hq : Hid (q = a / a) := Hq
      go_wp2_with fail
      refine (c_mul q a _ q0 q1 ha0 ha1).mono ?_
      rintro e w' ⟨pp, rfl, p0, p1, Hp, rfl⟩
      obtain ⟨hp1, hp2⟩ : pp ≤ a ∧ (a - pp) % 4294967296 < a := Ar.rest a a q pp ha0 ha1 ha0 ha1 hz Hq.out Hp
      clear Hp Hq
      have HP : Hid _ := (Ar.pow_le a ha0).2.2
      have hP0 : ¬ wrap64 (2 ^ (a % 32).toNat) = 0 := by have := (Ar.pow_le a ha0).1; rw [HP.out]; omega
      by_cases hneg : 2147483648 ≤ a
      · by_cases ht : (a - 4294967296).tmod (wrap64 (2 ^ (a % 32).toNat)) = 0
        · have htb : ((a - 4294967296).tmod (wrap64 (2 ^ (a % 32).toNat)) == 0) = true := by rw [ht]; rfl
          have HT : Hid _ := Ar.sar_at a a hneg ha1 ha0 ht
          go_wp2_with fail
          refine (c_sar a a _ _ ha0 ha1 ha0 ha1 HT.out).mono ?_
          rintro e w' ⟨rfl, rfl⟩
          go_wp2
          go_ret
          exact ⟨rfl, hbe⟩
        · have htb : ((a - 4294967296).tmod (wrap64 (2 ^ (a % 32).toNat)) == 0) = false := op_bne ht
          have HT : Hid _ := Ar.sar_up a a hneg ha1 ha0 ht
          go_wp2_with fail
          refine (c_sar a a _ _ ha0 ha1 ha0 ha1 HT.out).mono ?_
          rintro e w' ⟨rfl, rfl⟩
          go_wp2
          go_ret
          exact ⟨rfl, hbe⟩
      · have HT : Hid _ := Ar.sar_pos a a ha0 hneg ha0
        go_wp2_with fail
        refine (c_sar a a _ _ ha0 ha1 ha0 ha1 HT.out).mono ?_
        rintro e w' ⟨rfl, rfl⟩
        go_wp2
        go_ret
        exact ⟨rfl, hbe⟩
  · go_wp2_with fail
    by_cases hz : b = 0
    · obtain rfl : b = 0 := hz
      refine (impl_alu10z _ _ ha0 ha1).mono ?_
      rintro e w' ⟨rfl, rfl⟩
      go_wp2
      go_ret
      exact ⟨rfl, hbe⟩
    · refine (c_div a b _ ha0 ha1 hb0 hb1 (op_bne hz)).mono ?_
      rintro e w' ⟨q, rfl, q0, q1, Hq, rfl⟩
      replace Hq : Hid (q = a / b) := Hq
      go_wp2_with fail
      refine (c_mul q b _ q0 q1 hb0 hb1).mono ?_
      rintro e w' ⟨pp, rfl, p0, p1, Hp, rfl⟩
      obtain ⟨hp1, hp2⟩ : pp ≤ a ∧ (a - pp) % 4294967296 < b := Ar.rest a b q pp ha0 ha1 hb0 hb1 hz Hq.out Hp
      clear Hp Hq
      have HP : Hid _ := (Ar.pow_le b hb0).2.2
      have hP0 : ¬ wrap64 (2 ^ (b % 32).toNat) = 0 := by have := (Ar.pow_le b hb0).1; rw [HP.out]; omega
      by_cases hneg : 2147483648 ≤ a
      · by_cases ht : (a - 4294967296).tmod (wrap64 (2 ^ (b % 32).toNat)) = 0
        · have htb : ((a - 4294967296).tmod (wrap64 (2 ^ (b % 32).toNat)) == 0) = true := by rw [ht]; rfl
          have HT : Hid _ := Ar.sar_at a b hneg ha1 hb0 ht
          go_wp2_with fail
          refine (c_sar a b _ _ ha0 ha1 hb0 hb1 HT.out).mono ?_
          rintro e w' ⟨rfl, rfl⟩
          go_wp2
          go_ret
          exact ⟨rfl, hbe⟩
        · have htb : ((a - 4294967296).tmod (wrap64 (2 ^ (b % 32).toNat)) == 0) = false := op_bne ht
          have HT : Hid _ := Ar.sar_up a b hneg ha1 hb0 ht
          go_wp2_with fail
          refine (c_sar a b _ _ ha0 ha1 hb0 hb1 HT.out).mono ?_
          rintro e w' ⟨rfl, rfl⟩
          go_wp2
          go_ret
          exact ⟨rfl, hbe⟩
      · have HT : Hid _ := Ar.sar_pos a b ha0 hneg hb0
        go_wp2_with fail
        refine (c_sar a b _ _ ha0 ha1 hb0 hb1 HT.out).mono ?_
        rintro e w' ⟨rfl, rfl⟩
        go_wp2
        go_ret
        exact ⟨rfl, hbe⟩
  · go_wp2_with fail
    by_cases hz : b = 0
    · obtain rfl : b = 0 := hz
      refine (impl_alu10z _ _ ha0 ha1).mono ?_
      rintro e w' ⟨rfl, rfl⟩
      go_wp2
      go_ret
      exact ⟨rfl, hbe⟩
    · refine (c_div a b _ ha0 ha1 hb0 hb1 (op_bne hz)).mono ?_
      rintro e w' ⟨q, rfl, q0, q1, Hq, rfl⟩
      replace Hq : Hid (q = a / b) := Hq
      go_wp2_with fail
      refine (c_mul q b _ q0 q1 hb0 hb1).mono ?_
      rintro e w' ⟨pp, rfl, p0, p1, Hp, rfl⟩
      obtain ⟨hp1, hp2⟩ : pp ≤ a ∧ (a - pp) % 4294967296 < b := Ar.rest a b q pp ha0 ha1 hb0 hb1 hz Hq.out Hp
      clear Hp Hq
      have HP : Hid _ := (Ar.pow_le b hb0).2.2
      have hP0 : ¬ wrap64 (2 ^ (b % 32).toNat) = 0 := by have := (Ar.pow_le b hb0).1; rw [HP.out]; omega
      by_cases hneg : 2147483648 ≤ a
      · by_cases ht : (a - 4294967296).tmod (wrap64 (2 ^ (b % 32).toNat)) = 0
        · have htb : ((a - 4294967296).tmod (wrap64 (2 ^ (b % 32).toNat)) == 0) = true := by rw [ht]; rfl
          have HT : Hid _ := Ar.sar_at a b hneg ha1 hb0 ht
          go_wp2_with fail
          refine (c_sar a b _ _ ha0 ha1 hb0 hb1 HT.out).mono ?_
          rintro e w' ⟨rfl, rfl⟩
          go_wp2
          go_ret
          exact ⟨rfl, hbe⟩
        · have htb : ((a - 4294967296).tmod (wrap64 (2 ^ (b % 32).toNat)) == 0) = false := op_bne ht
          have HT : Hid _ := Ar.sar_up a b hneg ha1 hb0 ht
          go_wp2_with fail
          refine (c_sar a b _ _ ha0 ha1 hb0 hb1 HT.out).mono ?_
          rintro e w' ⟨rfl, rfl⟩
          go_wp2
          go_ret
          exact ⟨rfl, hbe⟩
      · have HT : Hid _ := Ar.sar_pos a b ha0 hneg hb0
        go_wp2_with fail
        refine (c_sar a b _ _ ha0 ha1 hb0 hb1 HT.out).mono ?_
        rintro e w' ⟨rfl, rfl⟩
        go_wp2
        go_ret
        exact ⟨rfl, hbe⟩
end Go.Proofs.Ytbabghabcgpjaaa
