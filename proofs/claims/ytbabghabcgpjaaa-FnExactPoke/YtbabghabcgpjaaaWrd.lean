
/-
  What the functions of chapter 1 on two words return, the specification's and the program's own: adding, below, to the right with the sign. No conditions but that the arguments are values of their types.
-/
import Derived.Test.YtbabghabcgpjaaaRows
import Derived.Test.YtbabghabcgpjaaaPlain
import Derived.Test.YtbabghabcgpjaaaSegs
import Derived.Deep.QuietTactic
import Derived.BigQuiet
namespace Go.Proofs.Ytbabghabcgpjaaa
open Go.ChangeShapes Go.WideShapes Go.ChangeAt Go.RowKit
set_option linter.unusedVariables false
set_option maxHeartbeats 400000 in
theorem impl_add (a b : Int) (w : World) (h1 : 0 ≤ a) (h2 : a ≤ 4294967295) (h3 : 0 ≤ b) (h4 : b ≤ 4294967295) :
    Calls Try.prog 39 #[.int .u32 a, .int .u32 b] w fun e w' => e = .returned (.tuple #[.int .u32 ((a + b) % 4294967296), .bool (decide (4294967296 ≤ a + b))]) ∧ w' = w := by
  have HE : Hid (decide ((a + b) % 4294967296 < a) = decide (4294967296 ≤ a + b)) := by
    show _ = _
    rw [decide_eq_decide]; omega
  go_enter Try.func39, Try.ntmps39
  go_wp2
  go_ret2
  exact ⟨ret_pair rfl HE.out, rfl⟩

set_option maxHeartbeats 400000 in
theorem spec_signed (a : Int) (w : World) (h1 : 0 ≤ a) (h2 : a ≤ 4294967295) :
    Calls Try.prog 78 #[.int .u32 a] w fun e w' => e = .returned (.int .i64 (wrap32 a)) ∧ w' = w := by
  have HE : Hid (wrap32 a = if 2147483648 ≤ a then a - 4294967296 else a) := by
    show _ = _
    unfold wrap32
    split <;> omega
  by_cases h : 2147483648 ≤ a
  · go_enter Try.func78, Try.ntmps78
    go_wp2
    go_ret
    exact ⟨ret_int (by rw [HE.out, if_pos h]), rfl⟩
  · go_enter Try.func78, Try.ntmps78
    go_wp2
    go_ret
    exact ⟨ret_int (by rw [HE.out, if_neg (by omega)]), rfl⟩
set_option maxHeartbeats 400000 in
theorem spec_less (a b : Int) (w : World) (h1 : 0 ≤ a) (h2 : a ≤ 4294967295) (h3 : 0 ≤ b) (h4 : b ≤ 4294967295) :
    Calls Try.prog 41 #[.int .u32 a, .int .u32 b] w fun e w' => e = .returned (.bool (decide (wrap32 a < wrap32 b))) ∧ w' = w := by
  go_enter Try.func41, Try.ntmps41
  go_wp2_with (go_at_call 78; refine (spec_signed _ _ ?_ ?_).mono ?_; omega; omega; rintro e w' ⟨rfl, rfl⟩)
  go_ret
  exact ⟨rfl, rfl⟩
set_option maxHeartbeats 400000 in
theorem impl_less (a b : Int) (w : World) (h1 : 0 ≤ a) (h2 : a ≤ 4294967295) (h3 : 0 ≤ b) (h4 : b ≤ 4294967295) :
    Calls Try.prog 42 #[.int .u32 a, .int .u32 b] w fun e w' => e = .returned (.bool (decide (wrap32 a < wrap32 b))) ∧ w' = w := by
  go_enter Try.func42, Try.ntmps42
  go_wp2
  go_ret
  exact ⟨rfl, rfl⟩

set_option maxHeartbeats 400000 in
theorem bit_any (x i : Int) (w : World) (h1 : 0 ≤ x) (h2 : x ≤ 4294967295) (h3 : 0 ≤ i) (h4 : i ≤ 31) :
    Calls Try.prog 90 #[.int .u32 x, .int .i64 i] w fun e w' => ∃ b : Int, e = .returned (.int .i64 b) ∧ 0 ≤ b ∧ b ≤ 1 ∧ Hid (b = ((x.toNat.testBit i.toNat).toNat : Nat)) ∧ w' = w := by
  have HE : Hid _ := Wd.bit_int x i h1 h2
  have HB : Hid _ := Bool.toNat_le (x.toNat.testBit i.toNat)
  go_enter Try.func90, Try.ntmps90
  go_wp2
  go_ret
  exact ⟨_, ret_int HE.out, by have := HB.out; omega, by have := HB.out; omega, rfl, rfl⟩
set_option maxHeartbeats 400000 in
theorem in_yes (x a b : Int) (w : World) (h1 : a ≤ x) (h2 : x ≤ b) :
    Calls Try.prog 45 #[.int .i64 x, .int .i64 a, .int .i64 b] w fun e w' => e = .returned (.bool true) ∧ w' = w := by
  go_enter Try.func45, Try.ntmps45
  go_wp2
  go_ret
  exact ⟨rfl, rfl⟩
set_option maxHeartbeats 400000 in
theorem in_no (x a b : Int) (w : World) (h : x < a ∨ b < x) :
    Calls Try.prog 45 #[.int .i64 x, .int .i64 a, .int .i64 b] w fun e w' => e = .returned (.bool false) ∧ w' = w := by
  by_cases h1 : a ≤ x
  · have h2 : ¬ x ≤ b := by omega
    clear h
    go_enter Try.func45, Try.ntmps45
    go_wp2
    go_ret
    exact ⟨rfl, rfl⟩
  · clear h
    go_enter Try.func45, Try.ntmps45
    go_wp2
    go_ret
    exact ⟨rfl, rfl⟩
set_option maxHeartbeats 400000 in
theorem spec_sar (x k : Int) (w : World) (h1 : 0 ≤ x) (h2 : x ≤ 4294967295) (h3 : 0 ≤ k) (h4 : k ≤ 4294967295) :
    Calls Try.prog 63 #[.int .u32 x, .int .u32 k] w fun e w' => e = .returned (.int .u32 (Wd.sar x.toNat (k % 32).toNat : Int)) ∧ w' = w := by
  go_enter Try.func63, Try.ntmps63
  go_wp2
  go_loop [6, 7] (fun n i => ∃ (m : Nat) (c : Int), m ≤ 32 ∧ i = .int .i64 (31 - (m : Int)) ∧ n = .int .i64 c ∧ 0 ≤ c ∧ c ≤ 4294967295 ∧ Hid (c = (Wd.hor (fun i => x.toNat.testBit (if i + (k % 32).toNat > 31 then 31 else i + (k % 32).toNat)) m (32 - m) : Nat))) (fun _ i => (intOf i + 1).toNat)
  case atStart => exact ⟨0, 0, by omega, rfl, rfl, by omega, by omega, rfl⟩
  case round =>
    obtain ⟨m, c, hm, rfl, rfl, hc0, hc1, HC⟩ := hrel
    by_cases hlt : m < 32
    · by_cases hk : 31 < 31 - (m : Int) + k % 32
      all_goals
        go_wp2_with (go_at_call 90; refine (bit_any _ _ _ ?_ ?_ ?_ ?_).mono ?_; omega; omega; omega; omega; rintro e w' ⟨b, rfl, hb0, hb1, HB, rfl⟩)
        go_round
        case rel =>
          have hr := Wd.hor_round _ m hlt c b HC.out (HB.out.trans (by congr 3; split <;> omega))
          exact ⟨m + 1, 2 * c + b, by omega, by go_num, rfl, hr.1, hr.2.1, hr.2.2⟩
        case measure => simp [intOf]; omega
    · obtain rfl : m = 32 := by omega
      go_wp2
      go_ret
      exact ⟨ret_int HC.out, rfl⟩
set_option maxHeartbeats 400000 in
theorem impl_sar (x k : Int) (w : World) (h1 : 0 ≤ x) (h2 : x ≤ 4294967295) (h3 : 0 ≤ k) (h4 : k ≤ 4294967295) :
    Calls Try.prog 40 #[.int .u32 x, .int .u32 k] w fun e w' => e = .returned (.int .u32 (Wd.sar x.toNat (k % 32).toNat : Int)) ∧ w' = w := by
  have HE : Hid _ := Wd.sar_of x k h1 h2
  go_enter Try.func40, Try.ntmps40
  go_wp2
  go_ret
  exact ⟨ret_int HE.out, rfl⟩


end Go.Proofs.Ytbabghabcgpjaaa
