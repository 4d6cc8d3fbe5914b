/-
  What each of the five functions of chapter 1 on two words returns, the specification's and the program's own: the same word at every argument. No conditions but that the arguments are values of their types.
-/
import Derived.Test.YtbapnfocifnacajRows
import Derived.Test.YtbapnfocifnacajPlain
import Derived.WalkKit
import Derived.ProofKit
import Derived.OpenShut
import Derived.Deep.QuietTactic
import Derived.BigQuiet
namespace Go.Proofs.Ytbapnfocifnacaj
open Go.ChangeShapes Go.WideShapes Go.ChangeAt Go.RowKit
set_option linter.unusedVariables false

theorem ret_int {k : IntKind} {a b : Int} (h : a = b) : Ending.returned (.int k a) = .returned (.int k b) := by rw [h]
theorem ret_bool {a b : Bool} (h : a = b) : Ending.returned (.bool a) = .returned (.bool b) := by rw [h]
theorem ret_pair {k : IntKind} {a b : Int} {c d : Bool} (h : a = b) (g : c = d) : Ending.returned (.tuple #[.int k a, .bool c]) = .returned (.tuple #[.int k b, .bool d]) := by rw [h, g]

/-! ### Adding -/
set_option maxHeartbeats 400000 in
theorem spec_add (a b : Int) (w : World) (h1 : 0 ≤ a) (h2 : a ≤ 4294967295) (h3 : 0 ≤ b) (h4 : b ≤ 4294967295) :
    Calls Try.prog 8 #[.int .u32 a, .int .u32 b] w fun e w' => e = .returned (.tuple #[.int .u32 ((a + b) % 4294967296), .bool (decide (4294967296 ≤ a + b))]) ∧ w' = w := by
  go_enter Try.func8, Try.ntmps8
  go_wp2
  go_ret2
  exact ⟨rfl, rfl⟩
set_option maxHeartbeats 400000 in
theorem impl_add (a b : Int) (w : World) (h1 : 0 ≤ a) (h2 : a ≤ 4294967295) (h3 : 0 ≤ b) (h4 : b ≤ 4294967295) :
    Calls Try.prog 9 #[.int .u32 a, .int .u32 b] w fun e w' => e = .returned (.tuple #[.int .u32 ((a + b) % 4294967296), .bool (decide (4294967296 ≤ a + b))]) ∧ w' = w := by
  have HE : Hid (decide ((a + b) % 4294967296 < a) = decide (4294967296 ≤ a + b)) := by
    show _ = _
    rw [decide_eq_decide]; omega
  go_enter Try.func9, Try.ntmps9
  go_wp2
  go_ret2
  exact ⟨ret_pair rfl HE.out, rfl⟩

/-! ### Below, with the sign -/
set_option maxHeartbeats 400000 in
theorem spec_signed (a : Int) (w : World) (h1 : 0 ≤ a) (h2 : a ≤ 4294967295) :
    Calls Try.prog 25 #[.int .u32 a] w fun e w' => e = .returned (.int .i64 (wrap32 a)) ∧ w' = w := by
  have HE : Hid (wrap32 a = if 2147483648 ≤ a then a - 4294967296 else a) := by
    show _ = _
    unfold wrap32
    split <;> omega
  by_cases h : 2147483648 ≤ a
  · go_enter Try.func25, Try.ntmps25
    go_wp2
    go_ret
    exact ⟨ret_int (by rw [HE.out, if_pos h]), rfl⟩
  · go_enter Try.func25, Try.ntmps25
    go_wp2
    go_ret
    exact ⟨ret_int (by rw [HE.out, if_neg (by omega)]), rfl⟩
set_option maxHeartbeats 400000 in
theorem spec_less (a b : Int) (w : World) (h1 : 0 ≤ a) (h2 : a ≤ 4294967295) (h3 : 0 ≤ b) (h4 : b ≤ 4294967295) :
    Calls Try.prog 16 #[.int .u32 a, .int .u32 b] w fun e w' => e = .returned (.bool (decide (wrap32 a < wrap32 b))) ∧ w' = w := by
  go_enter Try.func16, Try.ntmps16
  go_wp2_with (go_at_call 25; refine (spec_signed _ _ ?_ ?_).mono ?_; omega; omega; rintro e w' ⟨rfl, rfl⟩)
  go_ret
  exact ⟨rfl, rfl⟩
set_option maxHeartbeats 400000 in
theorem impl_less (a b : Int) (w : World) (h1 : 0 ≤ a) (h2 : a ≤ 4294967295) (h3 : 0 ≤ b) (h4 : b ≤ 4294967295) :
    Calls Try.prog 17 #[.int .u32 a, .int .u32 b] w fun e w' => e = .returned (.bool (decide (wrap32 a < wrap32 b))) ∧ w' = w := by
  go_enter Try.func17, Try.ntmps17
  go_wp2
  go_ret
  exact ⟨rfl, rfl⟩

/-! ### One bit; the remainder -/
set_option maxHeartbeats 400000 in
theorem bit_any (x i : Int) (w : World) (h1 : 0 ≤ x) (h2 : x ≤ 4294967295) (h3 : 0 ≤ i) (h4 : i ≤ 31) :
    Calls Try.prog 20 #[.int .u32 x, .int .i64 i] w fun e w' => ∃ b : Int, e = .returned (.int .i64 b) ∧ 0 ≤ b ∧ b ≤ 1 ∧ Hid (b = ((x.toNat.testBit i.toNat).toNat : Nat)) ∧ w' = w := by
  have HE : Hid _ := Wd.bit_int x i h1 h2
  have HB : Hid _ := Bool.toNat_le (x.toNat.testBit i.toNat)
  go_enter Try.func20, Try.ntmps20
  go_wp2
  go_ret
  exact ⟨_, ret_int HE.out, by have := HB.out; omega, by have := HB.out; omega, rfl, rfl⟩
set_option maxHeartbeats 400000 in
theorem mod_any (n : Int) (w : World) :
    Calls Try.prog 23 #[.int .i64 n, .int .i64 32] w fun e w' => e = .returned (.int .i64 (n % 32)) ∧ w' = w := by
  have HE : Hid _ := Wd.mod_int n
  by_cases h : n.tmod 32 < 0
  · go_enter Try.func23, Try.ntmps23
    go_wp2
    go_ret
    exact ⟨ret_int (HE.out.2.1 h), rfl⟩
  · go_enter Try.func23, Try.ntmps23
    go_wp2
    go_ret
    exact ⟨ret_int (HE.out.1 (by omega)), rfl⟩

/-! ### The sign carried up -/
set_option maxHeartbeats 400000 in
theorem in_yes (x a b : Int) (w : World) (h1 : a ≤ x) (h2 : x ≤ b) :
    Calls Try.prog 19 #[.int .i64 x, .int .i64 a, .int .i64 b] w fun e w' => e = .returned (.bool true) ∧ w' = w := by
  go_enter Try.func19, Try.ntmps19
  go_wp2
  go_ret
  exact ⟨rfl, rfl⟩
set_option maxHeartbeats 400000 in
theorem in_no (x a b : Int) (w : World) (h : x < a ∨ b < x) :
    Calls Try.prog 19 #[.int .i64 x, .int .i64 a, .int .i64 b] w fun e w' => e = .returned (.bool false) ∧ w' = w := by
  by_cases h1 : a ≤ x
  · have h2 : ¬ x ≤ b := by omega
    clear h
    go_enter Try.func19, Try.ntmps19
    go_wp2
    go_ret
    exact ⟨rfl, rfl⟩
  · clear h
    go_enter Try.func19, Try.ntmps19
    go_wp2
    go_ret
    exact ⟨rfl, rfl⟩
set_option maxHeartbeats 400000 in
theorem spec_sext_no (x k : Int) (w : World) (h : k < 1 ∨ 32 < k) :
    Calls Try.prog 10 #[.int .u32 x, .int .i64 k] w fun e w' => e = .returned (.int .u32 0) ∧ w' = w := by
  have H : Hid _ := h
  clear h
  go_enter Try.func10, Try.ntmps10
  go_wp2_with (go_at_call 19; refine (in_no _ _ _ _ H.out).mono ?_; rintro e w' ⟨rfl, rfl⟩)
  go_ret
  exact ⟨rfl, rfl⟩
set_option maxHeartbeats 400000 in
theorem impl_sext_no (x k : Int) (w : World) (h : k < 1 ∨ 32 < k) :
    Calls Try.prog 11 #[.int .u32 x, .int .i64 k] w fun e w' => e = .returned (.int .u32 0) ∧ w' = w := by
  by_cases h1 : k < 1
  · clear h
    go_enter Try.func11, Try.ntmps11
    go_wp2
    go_ret
    exact ⟨rfl, rfl⟩
  · have h2 : 32 < k := by omega
    clear h
    go_enter Try.func11, Try.ntmps11
    go_wp2
    go_ret
    exact ⟨rfl, rfl⟩
set_option maxHeartbeats 400000 in
theorem spec_sext (x k : Int) (w : World) (h1 : 0 ≤ x) (h2 : x ≤ 4294967295) (h3 : 1 ≤ k) (h4 : k ≤ 32) :
    Calls Try.prog 10 #[.int .u32 x, .int .i64 k] w fun e w' => e = .returned (.int .u32 (Wd.sext x.toNat k.toNat : Int)) ∧ w' = w := by
  go_enter Try.func10, Try.ntmps10
  go_wp2_with (go_at_call 19; refine (in_yes _ _ _ _ ?_ ?_).mono ?_; omega; omega; rintro e w' ⟨rfl, rfl⟩)
  go_loop [5, 6] (fun n i => ∃ (m : Nat) (c : Int), m ≤ 32 ∧ i = .int .i64 (31 - (m : Int)) ∧ n = .int .i64 c ∧ 0 ≤ c ∧ c ≤ 4294967295 ∧ Hid (c = (Wd.hor (fun i => x.toNat.testBit (if i > k.toNat - 1 then k.toNat - 1 else i)) m (32 - m) : Nat))) (fun _ i => (intOf i + 1).toNat)
  case atStart => exact ⟨0, 0, by omega, rfl, rfl, by omega, by omega, rfl⟩
  case round =>
    obtain ⟨m, c, hm, rfl, rfl, hc0, hc1, HC⟩ := hrel
    by_cases hlt : m < 32
    · by_cases hk : k - 1 < 31 - (m : Int)
      all_goals
        go_wp2_with (go_at_call 20; refine (bit_any _ _ _ ?_ ?_ ?_ ?_).mono ?_; omega; omega; omega; omega; rintro e w' ⟨b, rfl, hb0, hb1, HB, rfl⟩)
        go_round
        case rel =>
          have hr := Wd.hor_round _ m hlt c b HC.out (HB.out.trans (by congr 3; split <;> omega))
          exact ⟨m + 1, 2 * c + b, by omega, by go_num, rfl, hr.1, hr.2.1, hr.2.2⟩
        case measure => simp [intOf]; omega
    · obtain rfl : m = 32 := by omega
      go_wp2
      go_ret
      exact ⟨ret_int HC.out, rfl⟩
set_option maxHeartbeats 400000 in
theorem impl_sext (x k : Int) (w : World) (h1 : 0 ≤ x) (h2 : x ≤ 4294967295) (h3 : 1 ≤ k) (h4 : k ≤ 32) :
    Calls Try.prog 11 #[.int .u32 x, .int .i64 k] w fun e w' => e = .returned (.int .u32 (Wd.sext x.toNat k.toNat : Int)) ∧ w' = w := by
  have HE : Hid _ := Wd.sext_int x k h1 h3 h4
  go_enter Try.func11, Try.ntmps11
  go_wp2
  go_ret
  exact ⟨ret_int HE.out, rfl⟩

/-! ### To the right, with the sign -/
set_option maxHeartbeats 400000 in
theorem spec_sar (x k : Int) (w : World) (h1 : 0 ≤ x) (h2 : x ≤ 4294967295) (h3 : 0 ≤ k) (h4 : k ≤ 4294967295) :
    Calls Try.prog 12 #[.int .u32 x, .int .u32 k] w fun e w' => e = .returned (.int .u32 (Wd.sar x.toNat (k % 32).toNat : Int)) ∧ w' = w := by
  go_enter Try.func12, Try.ntmps12
  go_wp2
  go_loop [6, 7] (fun n i => ∃ (m : Nat) (c : Int), m ≤ 32 ∧ i = .int .i64 (31 - (m : Int)) ∧ n = .int .i64 c ∧ 0 ≤ c ∧ c ≤ 4294967295 ∧ Hid (c = (Wd.hor (fun i => x.toNat.testBit (if i + (k % 32).toNat > 31 then 31 else i + (k % 32).toNat)) m (32 - m) : Nat))) (fun _ i => (intOf i + 1).toNat)
  case atStart => exact ⟨0, 0, by omega, rfl, rfl, by omega, by omega, rfl⟩
  case round =>
    obtain ⟨m, c, hm, rfl, rfl, hc0, hc1, HC⟩ := hrel
    by_cases hlt : m < 32
    · by_cases hk : 31 < 31 - (m : Int) + k % 32
      all_goals
        go_wp2_with (go_at_call 20; refine (bit_any _ _ _ ?_ ?_ ?_ ?_).mono ?_; omega; omega; omega; omega; rintro e w' ⟨b, rfl, hb0, hb1, HB, rfl⟩)
        go_round
        case rel =>
          have hr := Wd.hor_round _ m hlt c b HC.out (HB.out.trans (by congr 3; split <;> omega))
          exact ⟨m + 1, 2 * c + b, by omega, by go_num, rfl, hr.1, hr.2.1, hr.2.2⟩
        case measure => simp [intOf]; omega
    · obtain rfl : m = 32 := by omega
      go_wp2
      go_ret
      exact ⟨ret_int HC.out, rfl⟩
set_option maxHeartbeats 400000 in
theorem impl_sar (x k : Int) (w : World) (h1 : 0 ≤ x) (h2 : x ≤ 4294967295) (h3 : 0 ≤ k) (h4 : k ≤ 4294967295) :
    Calls Try.prog 13 #[.int .u32 x, .int .u32 k] w fun e w' => e = .returned (.int .u32 (Wd.sar x.toNat (k % 32).toNat : Int)) ∧ w' = w := by
  have HE : Hid _ := Wd.sar_of x k h1 h2
  go_enter Try.func13, Try.ntmps13
  go_wp2
  go_ret
  exact ⟨ret_int HE.out, rfl⟩

/-! ### Turning -/
set_option maxHeartbeats 400000 in
theorem spec_rot (x k : Int) (w : World) (h1 : 0 ≤ x) (h2 : x ≤ 4294967295) :
    Calls Try.prog 14 #[.int .u32 x, .int .i64 k] w fun e w' => e = .returned (.int .u32 (Wd.rot x.toNat (k % 32).toNat : Int)) ∧ w' = w := by
  go_enter Try.func14, Try.ntmps14
  go_wp2_with (go_at_call 23; refine (mod_any _ _).mono ?_; rintro e w' ⟨rfl, rfl⟩)
  go_loop [6, 7] (fun n i => ∃ (m : Nat) (c : Int), m ≤ 32 ∧ i = .int .i64 (31 - (m : Int)) ∧ n = .int .i64 c ∧ 0 ≤ c ∧ c ≤ 4294967295 ∧ Hid (c = (Wd.hor (fun i => x.toNat.testBit (if i < (k % 32).toNat then i + 32 - (k % 32).toNat else i - (k % 32).toNat)) m (32 - m) : Nat))) (fun _ i => (intOf i + 1).toNat)
  case atStart => exact ⟨0, 0, by omega, rfl, rfl, by omega, by omega, rfl⟩
  case round =>
    obtain ⟨m, c, hm, rfl, rfl, hc0, hc1, HC⟩ := hrel
    by_cases hlt : m < 32
    · go_wp2_with (first | (go_at_call 23; refine (mod_any _ _).mono ?_; rintro e w' ⟨rfl, rfl⟩) | (go_at_call 20; refine (bit_any _ _ _ ?_ ?_ ?_ ?_).mono ?_; omega; omega; omega; omega; rintro e w' ⟨b, rfl, hb0, hb1, HB, rfl⟩))
      go_round
      case rel =>
        have hr := Wd.hor_round _ m hlt c b HC.out (HB.out.trans (by congr 3; split <;> omega))
        exact ⟨m + 1, 2 * c + b, by omega, by go_num, rfl, hr.1, hr.2.1, hr.2.2⟩
      case measure => simp [intOf]; omega
    · obtain rfl : m = 32 := by omega
      go_wp2
      go_ret
      exact ⟨ret_int HC.out, rfl⟩
set_option maxHeartbeats 400000 in
theorem impl_rot (x k : Int) (w : World) (h1 : 0 ≤ x) (h2 : x ≤ 4294967295) :
    Calls Try.prog 15 #[.int .u32 x, .int .i64 k] w fun e w' => e = .returned (.int .u32 (Wd.rot x.toNat (k % 32).toNat : Int)) ∧ ∃ n, w' = w.drewN n := by
  have HE : Hid _ := Wd.rot_int x k h1 h2
  have HA : Hid _ := Wd.and31 k
  have b0 : 0 ≤ bits BinOp.and IntKind.i64 k 31 := by rw [HA.out]; omega
  have b1 : bits BinOp.and IntKind.i64 k 31 ≤ 31 := by rw [HA.out]; omega
  go_enter Try.func15, Try.ntmps15
  go_wp2
  go_quiet (fail)
  go_wp2
  go_ret
  refine ⟨ret_int ?_, _, rfl⟩
  rw [← HE.out, ← HA.out]
theorem grown_drewN {W w : World} (h : Grown W w) (n : Nat) : Grown W (w.drewN n) := h

end Go.Proofs.Ytbapnfocifnacaj
