/-
  What turning, bytes, the sign carried up, and the laws' byte at a place return. Conditions: the arguments are values of their types; the bytes drawn from are at most 1048576.
-/
import Derived.Test.YtbapnfocifnacadDoorRows
import Derived.Test.YtbapnfocifnacadDoorDraw
import Derived.Test.YtbapnfocifnacadDoorPlain
import Derived.Test.YtbapnfocifnacadDoorTxt
import Derived.Test.YtbapnfocifnacadDoorDec
namespace Go.Proofs.YtbapnfocifnacadDoor
open Go.ChangeShapes Go.WideShapes Go.ChangeAt Go.RowKit Go.Deep
set_option linter.unusedVariables false

namespace Wd
theorem join_or (c z : Int) (m : Nat) (h0 : 0 ≤ c) (h1 : c < 2 ^ (8 * m)) (z0 : 0 ≤ z) (z1 : z ≤ 255) (hm : m ≤ 3) : bits .or .u32 c (z * 2 ^ (8 * m) % 4294967296) = c + z * 2 ^ (8 * m) := by
  obtain ⟨C, rfl⟩ := Int.eq_ofNat_of_zero_le h0
  obtain ⟨Z, rfl⟩ := Int.eq_ofNat_of_zero_le z0
  have e : (Z : Int) * 2 ^ (8 * m) = ((2 ^ (8 * m) * Z : Nat) : Int) := by simp [Int.mul_comm]
  have hC : C < 2 ^ (8 * m) := by
    have : (C : Int) < ((2 ^ (8 * m) : Nat) : Int) := by simpa using h1
    omega
  have hp : 2 ^ (8 * m) ≤ 2 ^ 24 := Nat.pow_le_pow_right (by omega) (by omega)
  have hq : 2 ^ (8 * m) * Z ≤ 2 ^ 24 * 255 := Nat.mul_le_mul hp (by omega)
  rw [e, u32_or _ _ (by omega) (by omega) (by omega) (by omega)]
  have hj := Nat.two_pow_add_eq_or_of_lt hC Z
  have em : (((2 ^ (8 * m) * Z : Nat) : Int) % 4294967296).toNat = 2 ^ (8 * m) * Z := by omega
  rw [em, Int.toNat_natCast, Nat.or_comm, ← hj]
  omega
theorem join4 (x y z t : Int) (g1 : 0 ≤ x) (g2 : x ≤ 255) (g3 : 0 ≤ y) (g4 : y ≤ 255) (g5 : 0 ≤ z) (g6 : z ≤ 255) (g7 : 0 ≤ t) (g8 : t ≤ 255) :
    bits .or .u32 (bits .or .u32 (bits .or .u32 (bits .or .u32 0 x) (y * 256)) (z * 65536)) (t * 16777216) = x + 256 * y + 65536 * z + 16777216 * t := by
  have H1 := join_or 0 x 0 (by omega) (by omega) g1 g2 (by omega)
  have H2 := join_or x y 1 (by omega) (by omega) g3 g4 (by omega)
  have H3 := join_or (x + y * 256) z 2 (by omega) (by omega) g5 g6 (by omega)
  have H4 := join_or (x + y * 256 + z * 65536) t 3 (by omega) (by omega) g7 g8 (by omega)
  simp only [Nat.mul_zero, Nat.mul_one, Int.pow_zero, Int.mul_one, Int.zero_add, show (2 : Int) ^ 8 = 256 by decide, show (2 : Int) ^ (8 * 2) = 65536 by decide, show (2 : Int) ^ (8 * 3) = 16777216 by decide] at H1 H2 H3 H4
  rw [show x % 4294967296 = x by omega] at H1
  rw [show y * 256 % 4294967296 = y * 256 by omega] at H2
  rw [show z * 65536 % 4294967296 = z * 65536 by omega] at H3
  rw [show t * 16777216 % 4294967296 = t * 16777216 by omega] at H4
  rw [H1, H2, H3, H4]
  omega
end Wd
set_option maxHeartbeats 400000 in
theorem rot_any (x k : Int) (w : World) (h1 : 0 ≤ x) (h2 : x ≤ 4294967295) :
    Calls Tryd.prog 18 #[.int .u32 x, .int .i64 k] w fun e w' => ∃ y : Int, e = .returned (.int .u32 y) ∧ 0 ≤ y ∧ y ≤ 4294967295 ∧ Hid (y = (Wd.rot x.toNat (k % 32).toNat : Nat)) ∧ ∃ n, w' = w.drewN n := by
  have HE : Hid _ := Wd.rot_int x k h1 h2
  have HA : Hid _ := Wd.and31 k
  have HL : Hid _ := Wd.hor_lt (fun i => x.toNat.testBit (if i < (k % 32).toNat then i + 32 - (k % 32).toNat else i - (k % 32).toNat)) 32 0
  have b0 : 0 ≤ bits BinOp.and IntKind.i64 k 31 := by rw [HA.out]; omega
  have b1 : bits BinOp.and IntKind.i64 k 31 ≤ 31 := by rw [HA.out]; omega
  go_enter Tryd.func18, Tryd.ntmps18
  go_wp2
  go_quiet (fail)
  go_wp2
  go_ret
  refine ⟨(Wd.rot x.toNat (k % 32).toNat : Nat), ret_int ?_, by omega, ?_, rfl, _, rfl⟩
  · rw [← HE.out, ← HA.out]
  · have := HL.out
    unfold Wd.rot
    omega
set_option maxHeartbeats 400000 in
theorem rotword_any (x k : Int) (w : World) (h1 : 0 ≤ x) (h2 : x ≤ 4294967295) :
    Calls Tryd.prog 6 #[.int .u32 x, .int .i64 k] w fun e w' => ∃ y : Int, e = .returned (.int .u32 y) ∧ 0 ≤ y ∧ y ≤ 4294967295 ∧ Hid (y = (Wd.rot x.toNat (k % 32).toNat : Nat)) ∧ ∃ n, w' = w.drewN n := by
  go_enter Tryd.func6, Tryd.ntmps6
  go_wp2_with (go_at_call 18; refine (rot_any _ _ _ ?_ ?_).mono ?_; omega; omega; rintro e w' ⟨r, rfl, hr0, hr1, HR, n, rfl⟩)
  go_ret
  exact ⟨_, rfl, hr0, hr1, HR, _, rfl⟩
set_option maxHeartbeats 400000 in
theorem at_any (w : World) (a : Option Addr) (zs : List Int) (cap : Nat) (i : Int) (hs : Seg .u8 w a zs) (hb : ∀ z ∈ zs, (Lit.int .u8 z).wf = true) (hn : zs.length ≤ 1048576) (hi0 : 0 ≤ i) (hi1 : i ≤ 1000000) :
    Calls Tryd.prog 13 #[.slice a zs.length cap, .int .i64 i] w fun e w' => ∃ x : Int, e = .returned (.int .i64 x) ∧ 0 ≤ x ∧ x ≤ 255 ∧ w' = w := by
  have HB : Hid _ := hb
  clear hb
  by_cases hlt : i < (zs.length : Int)
  · obtain ⟨k, rfl⟩ := Int.eq_ofNat_of_zero_le hi0
    have hl : k < zs.length := by omega
    obtain ⟨b1, o1, rfl, hbl1, hcl⟩ := hs.at k hl
    have hbz := bounds_u8 (HB.out _ (getD_mem zs k hl))
    generalize zs.getD k 0 = z at hcl hbz
    generalize zs.length = n at hlt hn hl
    obtain ⟨hz0, hz1⟩ := hbz
    go_enter Tryd.func13, Tryd.ntmps13
    go_wp2
    go_ret
    exact ⟨_, rfl, hz0, hz1, rfl⟩
  · generalize zs.length = n at hlt hn
    go_enter Tryd.func13, Tryd.ntmps13
    go_wp2
    go_ret
    exact ⟨_, rfl, by omega, by omega, rfl⟩
set_option maxHeartbeats 400000 in
theorem impl_word (b off cap : Nat) (x y z t : Int) (w : World) (g1 : 0 ≤ x) (g2 : x ≤ 255) (g3 : 0 ≤ y) (g4 : y ≤ 255) (g5 : 0 ≤ z) (g6 : z ≤ 255) (g7 : 0 ≤ t) (g8 : t ≤ 255)
    (c0 : w.cell? ⟨b, off, none⟩ = some (.int .u8 x)) (c1 : w.cell? ⟨b, off + 1, none⟩ = some (.int .u8 y)) (c2 : w.cell? ⟨b, off + 2, none⟩ = some (.int .u8 z)) (c3 : w.cell? ⟨b, off + 3, none⟩ = some (.int .u8 t)) :
    Calls Tryd.prog 7 #[.slice (some ⟨b, off, none⟩) 4 cap] w fun e w' => e = .returned (.tuple #[.int .u32 (x + 256 * y + 65536 * z + 16777216 * t), .bool true]) ∧ ∃ m, w' = w.drewN m := by
  have HJ : Hid _ := Wd.join4 x y z t g1 g2 g3 g4 g5 g6 g7 g8
  go_enter Tryd.func7, Tryd.ntmps7
  go_wp2
  refine wp_loop_rounds 5 ?_
  rw [rounds_succ]
  go_wp2
  rw [rounds_succ]
  go_wp2
  rw [rounds_succ]
  go_wp2
  rw [rounds_succ]
  go_wp2
  rw [rounds_succ]
  go_wp2
  go_ret2
  exact ⟨ret_pair HJ.out rfl, 0, rfl⟩

theorem own_four (w : World) (a b c d : Int) (T : TypeId) : Own .u8 (w.alloc (.cells #[.int .u8 a, .int .u8 b, .int .u8 c, .int .u8 d] T)) w.heap.size [a, b, c, d] := by
  have h := World.rowIs_alloc w #[.int .u8 a, .int .u8 b, .int .u8 c, .int .u8 d] T (fun i => .int .u8 ([a, b, c, d].getD i 0)) (by
    intro i hi
    match i, hi with
    | 0, _ => rfl
    | 1, _ => rfl
    | 2, _ => rfl
    | 3, _ => rfl)
  exact ⟨by simp, fun i hi => h.cell hi, fun i => h.frozen i⟩
set_option maxHeartbeats 400000 in
theorem impl_bytes (x : Int) (w : World) (h1 : 0 ≤ x) (h2 : x ≤ 4294967295) :
    Calls Tryd.prog 8 #[.int .u32 x] w fun e w' => e = .returned (.slice (some ⟨w.heap.size, 0, none⟩) 4 4) ∧ Below w.heap.size w w' ∧ w'.heap.size = w.heap.size + 1 ∧ Own .u8 w' w.heap.size [x % 256, x / 256 % 256, x / 65536 % 256, x / 16777216] := by
  have hmk : ∀ w : World, (Instr.makeSlice 22 (.int .i64 4) (.int .i64 4)).run Tryd.prog w = .ok (.slice (some ⟨w.heap.size, 0, none⟩) 4 4) (w.alloc (.cells #[.int .u8 0, .int .u8 0, .int .u8 0, .int .u8 0] 5)) := fun _ => by kernel_rfl
  go_enter Tryd.func8, Tryd.ntmps8
  go_wp2
  refine wp_loop_rounds 5 ?_
  rw [rounds_succ]
  go_wp2
  rw [rounds_succ]
  go_wp2
  rw [rounds_succ]
  go_wp2
  rw [rounds_succ]
  go_wp2
  rw [rounds_succ]
  go_wp2
  go_ret
  exact ⟨rfl, (Below.refl _ _).alloc (Nat.le_refl _) _, by simp, own_four w _ _ _ _ 5⟩
set_option maxHeartbeats 400000 in
theorem impl_sext (x k : Int) (w : World) (h1 : 0 ≤ x) (h2 : x ≤ 4294967295) (h3 : 1 ≤ k) (h4 : k ≤ 32) :
    Calls Tryd.prog 14 #[.int .u32 x, .int .i64 k] w fun e w' => e = .returned (.int .u32 (Wd.sext x.toNat k.toNat : Int)) ∧ w' = w := by
  have HE : Hid _ := Wd.sext_int x k h1 h3 h4
  go_enter Tryd.func14, Tryd.ntmps14
  go_wp2
  go_ret
  exact ⟨ret_int HE.out, rfl⟩

set_option maxHeartbeats 400000 in
theorem big_no (w : World) (a : Option Addr) (n cap : Nat) (hn : n ≤ 1048576) : Calls Tryd.prog 4 #[.slice a n cap] w fun e w' => e = .returned (.bool false) ∧ w' = w := by
  go_enter Tryd.func4, Tryd.ntmps4
  go_wp2
  go_ret
  exact ⟨ret_bool (decide_eq_false (by omega)), rfl⟩
set_option maxHeartbeats 400000 in
theorem big_yes (w : World) (a : Option Addr) (n cap : Nat) (hn : ¬ n ≤ 1048576) : Calls Tryd.prog 4 #[.slice a n cap] w fun e w' => e = .returned (.bool true) ∧ w' = w := by
  go_enter Tryd.func4, Tryd.ntmps4
  go_wp2
  go_ret
  exact ⟨ret_bool (decide_eq_true (by omega)), rfl⟩

end Go.Proofs.YtbapnfocifnacadDoor
