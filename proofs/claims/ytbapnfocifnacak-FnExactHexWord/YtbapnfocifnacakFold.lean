/-
  What folding a list of words, and joining four bytes, return: the specification's and the program's own, the same. Conditions: the lists read as words (bytes) and are at most 1048576 long.
-/
import Derived.Test.YtbapnfocifnacakSlices
import Derived.Test.YtbapnfocifnacakPlain
namespace Go.Proofs.Ytbapnfocifnacak
open Go.ChangeShapes Go.WideShapes Go.ChangeAt Go.RowKit Go.Deep
set_option linter.unusedVariables false

namespace Wd
/-- One step of a fold. -/
def fold1 (c z : Int) : Int := (bits .xor .u32 (bits .or .u32 (c * 32 % 4294967296) (c / 134217728)) z + 2654435769) % 4294967296
theorem fold1_bd (c z : Int) : 0 ≤ fold1 c z ∧ fold1 c z ≤ 4294967295 := by unfold fold1; omega
theorem rot5 (x : Int) (h1 : 0 ≤ x) (h2 : x ≤ 4294967295) : (rot x.toNat (5 % 32 : Int).toNat : Int) = bits .or .u32 (x * 32 % 4294967296) (x / 134217728) := (rot_int x 5 h1 h2).symm
def folds (zs : List Int) : Int := zs.foldl fold1 1
theorem folds_bd (zs : List Int) : 0 ≤ folds zs ∧ folds zs ≤ 4294967295 := by
  unfold folds
  have : ∀ (l : List Int) (c : Int), 0 ≤ c ∧ c ≤ 4294967295 → 0 ≤ l.foldl fold1 c ∧ l.foldl fold1 c ≤ 4294967295 := by
    intro l
    induction l with
    | nil => intro c h; exact h
    | cons a l ih => intro c _; exact ih _ (fold1_bd c a)
  exact this zs 1 (by omega)
theorem folds_snoc (zs : List Int) (k : Nat) (hk : k < zs.length) : folds (zs.take (k + 1)) = fold1 (folds (zs.take k)) (zs.getD k 0) := by
  rw [take_getD zs k hk, folds, folds, List.foldl_append]
  rfl
theorem join_or (c z : Int) (m : Nat) (h0 : 0 ≤ c) (h1 : c < 2 ^ (8 * m)) (z0 : 0 ≤ z) (z1 : z ≤ 255) (hm : m ≤ 3) : bits .or .u32 c (z * 2 ^ (8 * m) % 4294967296) = c + z * 2 ^ (8 * m) := by
  obtain ⟨C, rfl⟩ := Int.eq_ofNat_of_zero_le h0
  obtain ⟨Z, rfl⟩ := Int.eq_ofNat_of_zero_le z0
  have e : (Z : Int) * 2 ^ (8 * m) = ((2 ^ (8 * m) * Z : Nat) : Int) := by simp [Int.mul_comm]
  have hC : C < 2 ^ (8 * m) := by
    have : (C : Int) < ((2 ^ (8 * m) : Nat) : Int) := by simpa using h1
    omega
  have hp : 2 ^ (8 * m) ≤ 2 ^ 24 := Nat.pow_le_pow_right (by omega) (by omega)
  have hq : 2 ^ (8 * m) * Z ≤ 2 ^ 24 * 255 := Nat.mul_le_mul hp (by omega)
  rw [e, u32_or _ _ (by omega) (by omega) (by omega) (by omega)]
  have hj := Nat.two_pow_add_eq_or_of_lt hC Z
  have em : (((2 ^ (8 * m) * Z : Nat) : Int) % 4294967296).toNat = 2 ^ (8 * m) * Z := by omega
  rw [em, Int.toNat_natCast, Nat.or_comm, ← hj]
  omega
theorem join4 (x y z t : Int) (g1 : 0 ≤ x) (g2 : x ≤ 255) (g3 : 0 ≤ y) (g4 : y ≤ 255) (g5 : 0 ≤ z) (g6 : z ≤ 255) (g7 : 0 ≤ t) (g8 : t ≤ 255) :
    bits .or .u32 (bits .or .u32 (bits .or .u32 (bits .or .u32 0 x) (y * 256)) (z * 65536)) (t * 16777216) = x + 256 * y + 65536 * z + 16777216 * t := by
  have H1 := join_or 0 x 0 (by omega) (by omega) g1 g2 (by omega)
  have H2 := join_or x y 1 (by omega) (by omega) g3 g4 (by omega)
  have H3 := join_or (x + y * 256) z 2 (by omega) (by omega) g5 g6 (by omega)
  have H4 := join_or (x + y * 256 + z * 65536) t 3 (by omega) (by omega) g7 g8 (by omega)
  simp only [Nat.mul_zero, Nat.mul_one, Int.pow_zero, Int.mul_one, Int.zero_add, show (2 : Int) ^ 8 = 256 by decide, show (2 : Int) ^ (8 * 2) = 65536 by decide, show (2 : Int) ^ (8 * 3) = 16777216 by decide] at H1 H2 H3 H4
  rw [show x % 4294967296 = x by omega] at H1
  rw [show y * 256 % 4294967296 = y * 256 by omega] at H2
  rw [show z * 65536 % 4294967296 = z * 65536 by omega] at H3
  rw [show t * 16777216 % 4294967296 = t * 16777216 by omega] at H4
  rw [H1, H2, H3, H4]
  omega
end Wd

set_option maxHeartbeats 400000 in
theorem rot_any (x k : Int) (w : World) (h1 : 0 ≤ x) (h2 : x ≤ 4294967295) :
    Calls Try.prog 29 #[.int .u32 x, .int .i64 k] w fun e w' => ∃ y : Int, e = .returned (.int .u32 y) ∧ 0 ≤ y ∧ y ≤ 4294967295 ∧ Hid (y = (Wd.rot x.toNat (k % 32).toNat : Nat)) ∧ ∃ n, w' = w.drewN n := by
  have HE : Hid _ := Wd.rot_int x k h1 h2
  have HA : Hid _ := Wd.and31 k
  have HL : Hid _ := Wd.hor_lt (fun i => x.toNat.testBit (if i < (k % 32).toNat then i + 32 - (k % 32).toNat else i - (k % 32).toNat)) 32 0
  have b0 : 0 ≤ bits BinOp.and IntKind.i64 k 31 := by rw [HA.out]; omega
  have b1 : bits BinOp.and IntKind.i64 k 31 ≤ 31 := by rw [HA.out]; omega
  go_enter Try.func29, Try.ntmps29
  go_wp2
  go_quiet (fail)
  go_wp2
  go_ret
  refine ⟨(Wd.rot x.toNat (k % 32).toNat : Nat), ret_int ?_, by omega, ?_, rfl, _, rfl⟩
  · rw [← HE.out, ← HA.out]
  · have := HL.out
    unfold Wd.rot
    omega
set_option maxHeartbeats 400000 in
theorem fold_one (x y : Int) (w : World) (h1 : 0 ≤ x) (h2 : x ≤ 4294967295) (h3 : 0 ≤ y) (h4 : y ≤ 4294967295) :
    Calls Try.prog 25 #[.int .u32 x, .int .u32 y] w fun e w' => ∃ c : Int, e = .returned (.int .u32 c) ∧ 0 ≤ c ∧ c ≤ 4294967295 ∧ Hid (c = Wd.fold1 x y) ∧ ∃ m, w' = w.drewN m := by
  have HR5 : Hid _ := Wd.rot5 x h1 h2
  have HB : Hid _ := Wd.fold1_bd x y
  go_enter Try.func25, Try.ntmps25
  go_wp2_with (go_at_call 29; refine (rot_any _ _ _ ?_ ?_).mono ?_; omega; omega; rintro e w' ⟨r, rfl, hr0, hr1, HR, n, rfl⟩)
  go_ret
  refine ⟨Wd.fold1 x y, ret_int ?_, HB.out.1, HB.out.2, rfl, _, rfl⟩
  rw [Wd.fold1, ← HR5.out, ← HR.out]
set_option maxHeartbeats 400000 in
theorem spec_fold (a : Option Addr) (cap : Nat) (zs : List Int) (w : World) (hs : Seg .u32 w a zs) (hn : zs.length ≤ 1048576) (hz : ∀ z ∈ zs, (Lit.int .u32 z).wf = true) :
    Calls Try.prog 16 #[.slice a zs.length cap] w fun e w' => e = .returned (.int .u32 (Wd.folds zs)) ∧ w' = w := by
  obtain ⟨n, Hn⟩ : ∃ n, Hid (n = zs.length) := ⟨_, rfl⟩
  have hn' : n ≤ 1048576 := by rw [Hn.out]; exact hn
  rw [← Hn.out]
  clear hn
  have Hz : Hid _ := hz
  clear hz
  go_enter Try.func16, Try.ntmps16
  go_wp2
  go_loop [3, 4] (fun h i => ∃ (k : Nat) (c : Int), k ≤ n ∧ i = .int .i64 k ∧ h = .int .u32 c ∧ 0 ≤ c ∧ c ≤ 4294967295 ∧ Hid (c = Wd.folds (zs.take k))) (fun _ i => n - (intOf i).toNat)
  case atStart => exact ⟨0, 1, by omega, rfl, rfl, by omega, by omega, rfl⟩
  case round =>
    obtain ⟨k, c, hk, rfl, rfl, hc0, hc1, HC⟩ := hrel
    by_cases hlt : k < n
    · have hl : k < zs.length := by rw [← Hn.out]; exact hlt
      obtain ⟨b1, o1, rfl, hbl1, hcl⟩ := hs.at k hl
      have hb := bounds_u32 (Hz.out _ (getD_mem zs k hl))
      have HF : Hid _ := Wd.folds_snoc zs k hl
      have HB : Hid _ := Wd.fold1_bd c (zs.getD k 0)
      generalize zs.getD k 0 = z at hcl hb HF HB
      obtain ⟨hz0, hz1⟩ := hb
      clear hs hl hbl1
      go_wp2
      go_round
      case rel => exact ⟨k + 1, Wd.fold1 c z, by omega, by go_num, rfl, HB.out.1, HB.out.2, by rw [HF.out, ← HC.out]; exact rfl⟩
      case measure => simp [intOf]; omega
    · go_wp2
      go_ret
      obtain rfl : k = n := by omega
      exact ⟨ret_int (by rw [HC.out, Hn.out, List.take_length]), rfl⟩
set_option maxHeartbeats 400000 in
theorem impl_fold (a : Option Addr) (cap : Nat) (zs : List Int) (w : World) (hs : Seg .u32 w a zs) (hn : zs.length ≤ 1048576) (hz : ∀ z ∈ zs, (Lit.int .u32 z).wf = true) :
    Calls Try.prog 18 #[.slice a zs.length cap] w fun e w' => e = .returned (.int .u32 (Wd.folds zs)) ∧ ∃ m, w' = w.drewN m := by
  obtain ⟨n, Hn⟩ : ∃ n, Hid (n = zs.length) := ⟨_, rfl⟩
  have hn' : n ≤ 1048576 := by rw [Hn.out]; exact hn
  rw [← Hn.out]
  clear hn
  have Hz : Hid _ := hz
  clear hz
  go_enter Try.func18, Try.ntmps18
  go_wp2
  go_loopw [3, 8] (fun h i wr => ∃ (k : Nat) (c : Int) (m : Nat), k ≤ n ∧ i = .int .i64 k ∧ h = .int .u32 c ∧ 0 ≤ c ∧ c ≤ 4294967295 ∧ Hid (c = Wd.folds (zs.take k)) ∧ wr = w.drewN m) (fun _ i _ => n - (intOf i).toNat)
  case atStart => exact ⟨0, 1, 0, by omega, rfl, rfl, by omega, by omega, rfl, rfl⟩
  case round =>
    obtain ⟨k, c, m, hk, rfl, rfl, hc0, hc1, HC, rfl⟩ := hrel
    by_cases hlt : k < n
    · have hl : k < zs.length := by rw [← Hn.out]; exact hlt
      obtain ⟨b1, o1, rfl, hbl1, hcl⟩ := hs.at k hl
      have hb := bounds_u32 (Hz.out _ (getD_mem zs k hl))
      have HF : Hid _ := Wd.folds_snoc zs k hl
      generalize zs.getD k 0 = z at hcl hb HF
      obtain ⟨hz0, hz1⟩ := hb
      clear hs hl hbl1
      go_wp2_with (go_at_call 25; refine (fold_one _ _ _ ?_ ?_ ?_ ?_).mono ?_; omega; omega; omega; omega; rintro e w' ⟨r, rfl, hr0, hr1, HR, n2, rfl⟩)
      go_roundw
      case rel => exact ⟨k + 1, r, _, by omega, by go_num, rfl, hr0, hr1, by rw [HF.out, ← HC.out, ← HR.out]; exact rfl, rfl⟩
      case measure => simp [intOf]; omega
    · go_wp2
      go_ret
      obtain rfl : k = n := by omega
      exact ⟨ret_int (by rw [HC.out, Hn.out, List.take_length]), _, rfl⟩

/-! ### Four bytes -/
set_option maxHeartbeats 400000 in
theorem spec_word_no (a : Option Addr) (n cap : Nat) (w : World) (h : n ≠ 4) (hn : n ≤ 1048576) :
    Calls Try.prog 13 #[.slice a n cap] w fun e w' => e = .returned (.tuple #[.int .u32 0, .bool false]) ∧ ∃ m, w' = w.drewN m := by
  have hb : ((n : Int) != 4) = true := by rw [bne_iff_ne]; omega
  go_enter Try.func13, Try.ntmps13
  go_wp2
  go_ret2
  exact ⟨rfl, 0, rfl⟩
set_option maxHeartbeats 400000 in
theorem impl_word_no (a : Option Addr) (n cap : Nat) (w : World) (h : n ≠ 4) (hn : n ≤ 1048576) :
    Calls Try.prog 15 #[.slice a n cap] w fun e w' => e = .returned (.tuple #[.int .u32 0, .bool false]) ∧ ∃ m, w' = w.drewN m := by
  have hb : ((n : Int) != 4) = true := by rw [bne_iff_ne]; omega
  go_enter Try.func15, Try.ntmps15
  go_wp2
  go_ret2
  exact ⟨rfl, 0, rfl⟩
set_option maxHeartbeats 400000 in
theorem spec_word (b off cap : Nat) (x y z t : Int) (w : World) (g1 : 0 ≤ x) (g2 : x ≤ 255) (g3 : 0 ≤ y) (g4 : y ≤ 255) (g5 : 0 ≤ z) (g6 : z ≤ 255) (g7 : 0 ≤ t) (g8 : t ≤ 255)
    (c0 : w.cell? ⟨b, off, none⟩ = some (.int .u8 x)) (c1 : w.cell? ⟨b, off + 1, none⟩ = some (.int .u8 y)) (c2 : w.cell? ⟨b, off + 2, none⟩ = some (.int .u8 z)) (c3 : w.cell? ⟨b, off + 3, none⟩ = some (.int .u8 t)) :
    Calls Try.prog 13 #[.slice (some ⟨b, off, none⟩) 4 cap] w fun e w' => e = .returned (.tuple #[.int .u32 (x + 256 * y + 65536 * z + 16777216 * t), .bool true]) ∧ ∃ m, w' = w.drewN m := by
  go_enter Try.func13, Try.ntmps13
  go_wp2
  go_quiet (fail)
  go_wp2
  go_ret2
  exact ⟨rfl, _, rfl⟩
set_option maxHeartbeats 400000 in
theorem impl_word (b off cap : Nat) (x y z t : Int) (w : World) (g1 : 0 ≤ x) (g2 : x ≤ 255) (g3 : 0 ≤ y) (g4 : y ≤ 255) (g5 : 0 ≤ z) (g6 : z ≤ 255) (g7 : 0 ≤ t) (g8 : t ≤ 255)
    (c0 : w.cell? ⟨b, off, none⟩ = some (.int .u8 x)) (c1 : w.cell? ⟨b, off + 1, none⟩ = some (.int .u8 y)) (c2 : w.cell? ⟨b, off + 2, none⟩ = some (.int .u8 z)) (c3 : w.cell? ⟨b, off + 3, none⟩ = some (.int .u8 t)) :
    Calls Try.prog 15 #[.slice (some ⟨b, off, none⟩) 4 cap] w fun e w' => e = .returned (.tuple #[.int .u32 (x + 256 * y + 65536 * z + 16777216 * t), .bool true]) ∧ ∃ m, w' = w.drewN m := by
  have HJ : Hid _ := Wd.join4 x y z t g1 g2 g3 g4 g5 g6 g7 g8
  go_enter Try.func15, Try.ntmps15
  go_wp2
  refine wp_loop_rounds 5 ?_
  rw [rounds_succ]
  go_wp2
  rw [rounds_succ]
  go_wp2
  rw [rounds_succ]
  go_wp2
  rw [rounds_succ]
  go_wp2
  rw [rounds_succ]
  go_wp2
  go_ret2
  exact ⟨ret_pair HJ.out rfl, 0, rfl⟩

end Go.Proofs.Ytbapnfocifnacak
