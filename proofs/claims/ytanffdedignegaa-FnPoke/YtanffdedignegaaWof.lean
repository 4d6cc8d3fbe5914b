
/-
  A word of four bytes and four bytes of a word, as chapter 1 has them. No conditions but that the arguments are values of their types.
-/
import Derived.Test.YtanffdedignegaaBas
import Derived.Test.YtanffdedignegaaProg
import Derived.Test.YtanffdedignegaaPlain
import Derived.Test.YtanffdedignegaaSegs
import Derived.Deep.QuietTactic
import Derived.BigQuiet
namespace Go.Proofs.Ytanffdedignegaa
open Go.ChangeShapes Go.WideShapes Go.ChangeAt Go.RowKit Go.Deep
set_option linter.unusedVariables false
namespace Wd
def bytes (x : Int) : List Int := [x % 256, x / 256 % 256, x / 65536 % 256, x / 16777216]
theorem join_or (c z : Int) (m : Nat) (h0 : 0 ≤ c) (h1 : c < 2 ^ (8 * m)) (z0 : 0 ≤ z) (z1 : z ≤ 255) (hm : m ≤ 3) : bits .or .u32 c (z * 2 ^ (8 * m) % 4294967296) = c + z * 2 ^ (8 * m) := by
  obtain ⟨C, rfl⟩ := Int.eq_ofNat_of_zero_le h0
  obtain ⟨Z, rfl⟩ := Int.eq_ofNat_of_zero_le z0
  have e : (Z : Int) * 2 ^ (8 * m) = ((2 ^ (8 * m) * Z : Nat) : Int) := by simp [Int.mul_comm]
  have hC : C < 2 ^ (8 * m) := by
    have : (C : Int) < ((2 ^ (8 * m) : Nat) : Int) := by simpa using h1
    omega
  have hp : 2 ^ (8 * m) ≤ 2 ^ 24 := Nat.pow_le_pow_right (by omega) (by omega)
  have hq : 2 ^ (8 * m) * Z ≤ 2 ^ 24 * 255 := Nat.mul_le_mul hp (by omega)
  rw [e, u32_or _ _ (by omega) (by omega) (by omega) (by omega)]
  have hj := Nat.two_pow_add_eq_or_of_lt hC Z
  have em : (((2 ^ (8 * m) * Z : Nat) : Int) % 4294967296).toNat = 2 ^ (8 * m) * Z := by omega
  rw [em, Int.toNat_natCast, Nat.or_comm, ← hj]
  omega
theorem join4 (x y z t : Int) (g1 : 0 ≤ x) (g2 : x ≤ 255) (g3 : 0 ≤ y) (g4 : y ≤ 255) (g5 : 0 ≤ z) (g6 : z ≤ 255) (g7 : 0 ≤ t) (g8 : t ≤ 255) :
    bits .or .u32 (bits .or .u32 (bits .or .u32 (bits .or .u32 0 x) (y * 256)) (z * 65536)) (t * 16777216) = x + 256 * y + 65536 * z + 16777216 * t := by
  have H1 := join_or 0 x 0 (by omega) (by omega) g1 g2 (by omega)
  have H2 := join_or x y 1 (by omega) (by omega) g3 g4 (by omega)
  have H3 := join_or (x + y * 256) z 2 (by omega) (by omega) g5 g6 (by omega)
  have H4 := join_or (x + y * 256 + z * 65536) t 3 (by omega) (by omega) g7 g8 (by omega)
  simp only [Nat.mul_zero, Nat.mul_one, Int.pow_zero, Int.mul_one, Int.zero_add, show (2 : Int) ^ 8 = 256 by decide, show (2 : Int) ^ (8 * 2) = 65536 by decide, show (2 : Int) ^ (8 * 3) = 16777216 by decide] at H1 H2 H3 H4
  rw [show x % 4294967296 = x by omega] at H1
  rw [show y * 256 % 4294967296 = y * 256 by omega] at H2
  rw [show z * 65536 % 4294967296 = z * 65536 by omega] at H3
  rw [show t * 16777216 % 4294967296 = t * 16777216 by omega] at H4
  rw [H1, H2, H3, H4]
  omega
end Wd
set_option maxHeartbeats 400000 in
theorem impl_word (b off cap : Nat) (x y z t : Int) (w : World) (g1 : 0 ≤ x) (g2 : x ≤ 255) (g3 : 0 ≤ y) (g4 : y ≤ 255) (g5 : 0 ≤ z) (g6 : z ≤ 255) (g7 : 0 ≤ t) (g8 : t ≤ 255)
    (c0 : w.cell? ⟨b, off, none⟩ = some (.int .u8 x)) (c1 : w.cell? ⟨b, off + 1, none⟩ = some (.int .u8 y)) (c2 : w.cell? ⟨b, off + 2, none⟩ = some (.int .u8 z)) (c3 : w.cell? ⟨b, off + 3, none⟩ = some (.int .u8 t)) :
    Calls Try.prog 61 #[.slice (some ⟨b, off, none⟩) 4 cap] w fun e w' => e = .returned (.tuple #[.int .u32 (x + 256 * y + 65536 * z + 16777216 * t), .bool true]) ∧ ∃ m, w' = w.drewN m := by
  have HJ : Hid _ := Wd.join4 x y z t g1 g2 g3 g4 g5 g6 g7 g8
  go_enter Try.func61, Try.ntmps61
  go_wp2
  refine wp_loop_rounds 5 ?_
  rw [rounds_succ]
  go_wp2
  rw [rounds_succ]
  go_wp2
  rw [rounds_succ]
  go_wp2
  rw [rounds_succ]
  go_wp2
  rw [rounds_succ]
  go_wp2
  go_ret2
  exact ⟨ret_pair HJ.out rfl, 0, rfl⟩

theorem own_four (w : World) (a b c d : Int) (T : TypeId) : Own .u8 (w.alloc (.cells #[.int .u8 a, .int .u8 b, .int .u8 c, .int .u8 d] T)) w.heap.size [a, b, c, d] := by
  have h := World.rowIs_alloc w #[.int .u8 a, .int .u8 b, .int .u8 c, .int .u8 d] T (fun i => .int .u8 ([a, b, c, d].getD i 0)) (by
    intro i hi
    match i, hi with
    | 0, _ => rfl
    | 1, _ => rfl
    | 2, _ => rfl
    | 3, _ => rfl)
  exact ⟨by simp, fun i hi => h.cell hi, fun i => h.frozen i⟩
set_option maxHeartbeats 400000 in
theorem spec_bytes (x : Int) (w : World) (h1 : 0 ≤ x) (h2 : x ≤ 4294967295) :
    Calls Try.prog 64 #[.int .u32 x] w fun e w' => e = .returned (.slice (some ⟨w.heap.size, 0, none⟩) 4 4) ∧ Below w.heap.size w w' ∧ w'.heap.size = w.heap.size + 1 ∧ Own .u8 w' w.heap.size (Wd.bytes x) := by
  go_enter Try.func64, Try.ntmps64
  go_wp2
  go_ret
  exact ⟨rfl, (Below.refl _ _).alloc (Nat.le_refl _) _, by simp, own_four w _ _ _ _ 5⟩
set_option maxHeartbeats 400000 in
theorem impl_bytes (x : Int) (w : World) (h1 : 0 ≤ x) (h2 : x ≤ 4294967295) :
    Calls Try.prog 39 #[.int .u32 x] w fun e w' => e = .returned (.slice (some ⟨w.heap.size, 0, none⟩) 4 4) ∧ Below w.heap.size w w' ∧ w'.heap.size = w.heap.size + 1 ∧ Own .u8 w' w.heap.size (Wd.bytes x) := by
  have hmk : ∀ w : World, (Instr.makeSlice 22 (.int .i64 4) (.int .i64 4)).run Try.prog w = .ok (.slice (some ⟨w.heap.size, 0, none⟩) 4 4) (w.alloc (.cells #[.int .u8 0, .int .u8 0, .int .u8 0, .int .u8 0] 5)) := fun _ => by kernel_rfl
  go_enter Try.func39, Try.ntmps39
  go_wp2
  refine wp_loop_rounds 5 ?_
  rw [rounds_succ]
  go_wp2
  rw [rounds_succ]
  go_wp2
  rw [rounds_succ]
  go_wp2
  rw [rounds_succ]
  go_wp2
  rw [rounds_succ]
  go_wp2
  go_ret
  exact ⟨rfl, (Below.refl _ _).alloc (Nat.le_refl _) _, by simp, own_four w _ _ _ _ 5⟩
end Go.Proofs.Ytanffdedignegaa
