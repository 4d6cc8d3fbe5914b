/-
  What the functions of chapter 1 on two words return, the specification's and the program's own: adding, below, to the right with the sign. No conditions but that the arguments are values of their types.
  What the core's arithmetic and its branches come to, the specification's and the program's own: the same at every op and every two words. No conditions but that the arguments are values of their types.
-/
import Derived.Test.YtjlhkjiccibgdaaGreatDoorProg
import Derived.Test.YtjlhkjiccibgdaaGreatDoorGgt
import Derived.Test.YtjlhkjiccibgdaaGreatDoorSegs
import Derived.Deep.QuietTactic
import Derived.BigQuiet
namespace Go.Proofs.YtjlhkjiccibgdaaGreatDoor
open Go.ChangeShapes Go.WideShapes Go.ChangeAt Go.RowKit
set_option linter.unusedVariables false
set_option maxHeartbeats 400000 in
theorem spec_signed (a : Int) (w : World) (h1 : 0 ≤ a) (h2 : a ≤ 4294967295) :
    Calls Tryz.prog 87 #[.int .u32 a] w fun e w' => e = .returned (.int .i64 (wrap32 a)) ∧ w' = w := by
  have HE : Hid (wrap32 a = if 2147483648 ≤ a then a - 4294967296 else a) := by
    show _ = _
    unfold wrap32
    split <;> omega
  by_cases h : 2147483648 ≤ a
  · go_enter Tryz.func87, Tryz.ntmps87
    go_wp2
    go_ret
    exact ⟨ret_int (by rw [HE.out, if_pos h]), rfl⟩
  · go_enter Tryz.func87, Tryz.ntmps87
    go_wp2
    go_ret
    exact ⟨ret_int (by rw [HE.out, if_neg (by omega)]), rfl⟩
set_option maxHeartbeats 400000 in
theorem spec_less (a b : Int) (w : World) (h1 : 0 ≤ a) (h2 : a ≤ 4294967295) (h3 : 0 ≤ b) (h4 : b ≤ 4294967295) :
    Calls Tryz.prog 66 #[.int .u32 a, .int .u32 b] w fun e w' => e = .returned (.bool (decide (wrap32 a < wrap32 b))) ∧ w' = w := by
  go_enter Tryz.func66, Tryz.ntmps66
  go_wp2_with (go_at_call 87; refine (spec_signed _ _ ?_ ?_).mono ?_; omega; omega; rintro e w' ⟨rfl, rfl⟩)
  go_ret
  exact ⟨rfl, rfl⟩
set_option maxHeartbeats 400000 in
theorem impl_less (a b : Int) (w : World) (h1 : 0 ≤ a) (h2 : a ≤ 4294967295) (h3 : 0 ≤ b) (h4 : b ≤ 4294967295) :
    Calls Tryz.prog 96 #[.int .u32 a, .int .u32 b] w fun e w' => e = .returned (.bool (decide (wrap32 a < wrap32 b))) ∧ w' = w := by
  go_enter Tryz.func96, Tryz.ntmps96
  go_wp2
  go_ret
  exact ⟨rfl, rfl⟩

set_option maxHeartbeats 400000 in
theorem bit_any (x i : Int) (w : World) (h1 : 0 ≤ x) (h2 : x ≤ 4294967295) (h3 : 0 ≤ i) (h4 : i ≤ 31) :
    Calls Tryz.prog 86 #[.int .u32 x, .int .i64 i] w fun e w' => ∃ b : Int, e = .returned (.int .i64 b) ∧ 0 ≤ b ∧ b ≤ 1 ∧ Hid (b = ((x.toNat.testBit i.toNat).toNat : Nat)) ∧ w' = w := by
  have HE : Hid _ := Wd.bit_int x i h1 h2
  have HB : Hid _ := Bool.toNat_le (x.toNat.testBit i.toNat)
  go_enter Tryz.func86, Tryz.ntmps86
  go_wp2
  go_ret
  exact ⟨_, ret_int HE.out, by have := HB.out; omega, by have := HB.out; omega, rfl, rfl⟩
set_option maxHeartbeats 400000 in
theorem in_yes (x a b : Int) (w : World) (h1 : a ≤ x) (h2 : x ≤ b) :
    Calls Tryz.prog 40 #[.int .i64 x, .int .i64 a, .int .i64 b] w fun e w' => e = .returned (.bool true) ∧ w' = w := by
  go_enter Tryz.func40, Tryz.ntmps40
  go_wp2
  go_ret
  exact ⟨rfl, rfl⟩
set_option maxHeartbeats 400000 in
theorem in_no (x a b : Int) (w : World) (h : x < a ∨ b < x) :
    Calls Tryz.prog 40 #[.int .i64 x, .int .i64 a, .int .i64 b] w fun e w' => e = .returned (.bool false) ∧ w' = w := by
  by_cases h1 : a ≤ x
  · have h2 : ¬ x ≤ b := by omega
    clear h
    go_enter Tryz.func40, Tryz.ntmps40
    go_wp2
    go_ret
    exact ⟨rfl, rfl⟩
  · clear h
    go_enter Tryz.func40, Tryz.ntmps40
    go_wp2
    go_ret
    exact ⟨rfl, rfl⟩
set_option maxHeartbeats 400000 in
theorem spec_sar (x k : Int) (w : World) (h1 : 0 ≤ x) (h2 : x ≤ 4294967295) (h3 : 0 ≤ k) (h4 : k ≤ 4294967295) :
    Calls Tryz.prog 64 #[.int .u32 x, .int .u32 k] w fun e w' => e = .returned (.int .u32 (Wd.sar x.toNat (k % 32).toNat : Int)) ∧ w' = w := by
  go_enter Tryz.func64, Tryz.ntmps64
  go_wp2
  go_loop [6, 7] (fun n i => ∃ (m : Nat) (c : Int), m ≤ 32 ∧ i = .int .i64 (31 - (m : Int)) ∧ n = .int .i64 c ∧ 0 ≤ c ∧ c ≤ 4294967295 ∧ Hid (c = (Wd.hor (fun i => x.toNat.testBit (if i + (k % 32).toNat > 31 then 31 else i + (k % 32).toNat)) m (32 - m) : Nat))) (fun _ i => (intOf i + 1).toNat)
  case atStart => exact ⟨0, 0, by omega, rfl, rfl, by omega, by omega, rfl⟩
  case round =>
    obtain ⟨m, c, hm, rfl, rfl, hc0, hc1, HC⟩ := hrel
    by_cases hlt : m < 32
    · by_cases hk : 31 < 31 - (m : Int) + k % 32
      all_goals
        go_wp2_with (go_at_call 86; refine (bit_any _ _ _ ?_ ?_ ?_ ?_).mono ?_; omega; omega; omega; omega; rintro e w' ⟨b, rfl, hb0, hb1, HB, rfl⟩)
        go_round
        case rel =>
          have hr := Wd.hor_round _ m hlt c b HC.out (HB.out.trans (by congr 3; split <;> omega))
          exact ⟨m + 1, 2 * c + b, by omega, by go_num, rfl, hr.1, hr.2.1, hr.2.2⟩
        case measure => simp [intOf]; omega
    · obtain rfl : m = 32 := by omega
      go_wp2
      go_ret
      exact ⟨ret_int HC.out, rfl⟩
set_option maxHeartbeats 400000 in
theorem impl_sar (x k : Int) (w : World) (h1 : 0 ≤ x) (h2 : x ≤ 4294967295) (h3 : 0 ≤ k) (h4 : k ≤ 4294967295) :
    Calls Tryz.prog 97 #[.int .u32 x, .int .u32 k] w fun e w' => e = .returned (.int .u32 (Wd.sar x.toNat (k % 32).toNat : Int)) ∧ w' = w := by
  have HE : Hid _ := Wd.sar_of x k h1 h2
  go_enter Tryz.func97, Tryz.ntmps97
  go_wp2
  go_ret
  exact ⟨ret_int HE.out, rfl⟩


end Go.Proofs.YtjlhkjiccibgdaaGreatDoor
namespace Go.Proofs.YtjlhkjiccibgdaaGreatDoor
open Go.ChangeShapes Go.WideShapes Go.ChangeAt Go.RowKit
set_option linter.unusedVariables false

def takenF (op a b : Int) : Bool := if op = 19 then decide (a = b) else if op = 20 then !decide (a = b) else if op = 21 then decide (wrap32 a < wrap32 b) else false
theorem op_beq {op c : Int} (h : op = c) : (op == c) = true := by simp [h]
theorem op_bne {op c : Int} (h : ¬ op = c) : (op == c) = false := beq_eq_false_iff_ne.2 h
theorem beq_dec (a b : Int) : (a == b) = decide (a = b) := by
  by_cases h : a = b
  · simp [h]
  · simp [h]
set_option maxHeartbeats 400000 in
theorem spec_taken (op a b : Int) (w : World) (h1 : 0 ≤ a) (h2 : a ≤ 4294967295) (h3 : 0 ≤ b) (h4 : b ≤ 4294967295) :
    Calls Tryz.prog 46 #[.int .i64 op, .int .u32 a, .int .u32 b] w fun e w' => e = .returned (.bool (takenF op a b)) ∧ w' = w := by
  have HE : Hid (takenF op a b = if op = 19 then decide (a = b) else if op = 20 then !decide (a = b) else if op = 21 then decide (wrap32 a < wrap32 b) else false) := rfl
  have HB : Hid ((a == b) = decide (a = b)) := beq_dec a b
  by_cases c1 : op = 19
  · have b1 := op_beq c1
    have HE2 : Hid (takenF op a b = (a == b)) := by have := HE.out; show _ = _; rw [this, if_pos c1, HB.out]
    clear c1
    go_enter Tryz.func46, Tryz.ntmps46
    go_wp2
    go_ret
    exact ⟨ret_bool HE2.out.symm, rfl⟩
  · have b1 := op_bne c1
    by_cases c2 : op = 20
    · have b2 := op_beq c2
      have HE2 : Hid (takenF op a b = !(a == b)) := by have := HE.out; show _ = _; rw [this, if_neg c1, if_pos c2, HB.out]
      clear c1 c2
      go_enter Tryz.func46, Tryz.ntmps46
      go_wp2
      go_ret
      exact ⟨ret_bool HE2.out.symm, rfl⟩
    · have b2 := op_bne c2
      by_cases c3 : op = 21
      · have b3 := op_beq c3
        have HE2 : Hid (takenF op a b = decide (wrap32 a < wrap32 b)) := by have := HE.out; show _ = _; rw [this, if_neg c1, if_neg c2, if_pos c3]
        clear c1 c2 c3
        go_enter Tryz.func46, Tryz.ntmps46
        go_wp2_with (go_at_call 66; refine (spec_less _ _ _ ?_ ?_ ?_ ?_).mono ?_; omega; omega; omega; omega; rintro e w' ⟨rfl, rfl⟩)
        go_ret
        exact ⟨ret_bool HE2.out.symm, rfl⟩
      · have b3 := op_bne c3
        have HE2 : Hid (takenF op a b = false) := by have := HE.out; show _ = _; rw [this, if_neg c1, if_neg c2, if_neg c3]
        clear c1 c2 c3
        go_enter Tryz.func46, Tryz.ntmps46
        go_wp2
        go_ret
        exact ⟨ret_bool HE2.out.symm, rfl⟩
set_option maxHeartbeats 400000 in
theorem impl_taken (op a b : Int) (w : World) (h1 : 0 ≤ a) (h2 : a ≤ 4294967295) (h3 : 0 ≤ b) (h4 : b ≤ 4294967295) :
    Calls Tryz.prog 80 #[.int .i64 op, .int .u32 a, .int .u32 b] w fun e w' => e = .returned (.bool (takenF op a b)) ∧ w' = w := by
  have HE : Hid (takenF op a b = if op = 19 then decide (a = b) else if op = 20 then !decide (a = b) else if op = 21 then decide (wrap32 a < wrap32 b) else false) := rfl
  have HB : Hid ((a == b) = decide (a = b)) := beq_dec a b
  by_cases c1 : op = 19
  · have b1 := op_beq c1
    have HE2 : Hid (takenF op a b = (a == b)) := by have := HE.out; show _ = _; rw [this, if_pos c1, HB.out]
    clear c1
    go_enter Tryz.func80, Tryz.ntmps80
    go_wp2
    go_ret
    exact ⟨ret_bool HE2.out.symm, rfl⟩
  · have b1 := op_bne c1
    by_cases c2 : op = 20
    · have b2 := op_beq c2
      have HE2 : Hid (takenF op a b = !(a == b)) := by have := HE.out; show _ = _; rw [this, if_neg c1, if_pos c2, HB.out]
      clear c1 c2
      go_enter Tryz.func80, Tryz.ntmps80
      go_wp2
      go_ret
      exact ⟨ret_bool HE2.out.symm, rfl⟩
    · have b2 := op_bne c2
      by_cases c3 : op = 21
      · have b3 := op_beq c3
        have HE2 : Hid (takenF op a b = decide (wrap32 a < wrap32 b)) := by have := HE.out; show _ = _; rw [this, if_neg c1, if_neg c2, if_pos c3]
        clear c1 c2 c3
        go_enter Tryz.func80, Tryz.ntmps80
        go_wp2_with (go_at_call 96; refine (impl_less _ _ _ ?_ ?_ ?_ ?_).mono ?_; omega; omega; omega; omega; rintro e w' ⟨rfl, rfl⟩)
        go_ret
        exact ⟨ret_bool HE2.out.symm, rfl⟩
      · have b3 := op_bne c3
        have HE2 : Hid (takenF op a b = false) := by have := HE.out; show _ = _; rw [this, if_neg c1, if_neg c2, if_neg c3]
        clear c1 c2 c3
        go_enter Tryz.func80, Tryz.ntmps80
        go_wp2
        go_ret
        exact ⟨ret_bool HE2.out.symm, rfl⟩

/-- What an op of two registers comes to: the word, and what stands against it. -/
def aluF (op a b : Int) : Int × Int :=
  if op = 1 then ((a + b) % 4294967296, 0) else if op = 2 then ((a - b) % 4294967296, 0) else if op = 3 then (bits .and .u32 a b, 0) else if op = 4 then (bits .or .u32 a b, 0)
  else if op = 5 then (bits .xor .u32 a b, 0) else if op = 6 then (a * 2 ^ (b % 32).toNat % 4294967296, 0) else if op = 7 then (a / 2 ^ (b % 32).toNat, 0) else if op = 8 then ((Wd.sar a.toNat (b % 32).toNat : Int), 0)
  else if op = 9 then (a * b % 4294967296, 0) else if op = 10 then (if b = 0 then (0, 5) else (a / b, 0)) else if op = 11 then ((if wrap32 a < wrap32 b then 1 else 0), 0) else if op = 12 then ((if a < b then 1 else 0), 0) else (0, 4)
theorem ret_wf {a b c d : Int} (h : (a, c) = (b, d)) : Ending.returned (.tuple #[.int .u32 a, .int .i64 c]) = .returned (.tuple #[.int .u32 b, .int .i64 d]) := by cases h; rfl
set_option maxHeartbeats 400000 in
theorem spec_one (t : Bool) (w : World) : Calls Tryz.prog 65 #[.bool t] w fun e w' => e = .returned (.int .u32 (if t then 1 else 0)) ∧ w' = w := by
  cases t
  all_goals
    go_enter Tryz.func65, Tryz.ntmps65
    go_wp2
    go_ret
    exact ⟨rfl, rfl⟩
set_option maxHeartbeats 400000 in
theorem spec_alu1 (a b : Int) (w : World) (h1 : 0 ≤ a) (h2 : a ≤ 4294967295) (h3 : 0 ≤ b) (h4 : b ≤ 4294967295) :
    Calls Tryz.prog 41 #[.int .i64 1, .int .u32 a, .int .u32 b] w fun e w' => e = .returned (.tuple #[.int .u32 ((a + b) % 4294967296), .int .i64 0]) ∧ w' = w := by
  go_enter Tryz.func41, Tryz.ntmps41
  go_wp2_with (first | (go_at_call 66; refine (spec_less _ _ _ ?_ ?_ ?_ ?_).mono ?_; omega; omega; omega; omega; rintro e w' ⟨rfl, rfl⟩) | (go_at_call 64; refine (spec_sar _ _ _ ?_ ?_ ?_ ?_).mono ?_; omega; omega; omega; omega; rintro e w' ⟨rfl, rfl⟩) | (go_at_call 65; refine (spec_one _ _).mono ?_; rintro e w' ⟨rfl, rfl⟩))
  all_goals go_ret2
  all_goals exact ⟨ret_wf (by first | rfl | simp), rfl⟩
set_option maxHeartbeats 400000 in
theorem spec_alu2 (a b : Int) (w : World) (h1 : 0 ≤ a) (h2 : a ≤ 4294967295) (h3 : 0 ≤ b) (h4 : b ≤ 4294967295) :
    Calls Tryz.prog 41 #[.int .i64 2, .int .u32 a, .int .u32 b] w fun e w' => e = .returned (.tuple #[.int .u32 ((a - b) % 4294967296), .int .i64 0]) ∧ w' = w := by
  go_enter Tryz.func41, Tryz.ntmps41
  go_wp2_with (first | (go_at_call 66; refine (spec_less _ _ _ ?_ ?_ ?_ ?_).mono ?_; omega; omega; omega; omega; rintro e w' ⟨rfl, rfl⟩) | (go_at_call 64; refine (spec_sar _ _ _ ?_ ?_ ?_ ?_).mono ?_; omega; omega; omega; omega; rintro e w' ⟨rfl, rfl⟩) | (go_at_call 65; refine (spec_one _ _).mono ?_; rintro e w' ⟨rfl, rfl⟩))
  all_goals go_ret2
  all_goals exact ⟨ret_wf (by first | rfl | simp), rfl⟩
set_option maxHeartbeats 400000 in
theorem spec_alu3 (a b : Int) (w : World) (h1 : 0 ≤ a) (h2 : a ≤ 4294967295) (h3 : 0 ≤ b) (h4 : b ≤ 4294967295) :
    Calls Tryz.prog 41 #[.int .i64 3, .int .u32 a, .int .u32 b] w fun e w' => e = .returned (.tuple #[.int .u32 (bits .and .u32 a b), .int .i64 0]) ∧ w' = w := by
  go_enter Tryz.func41, Tryz.ntmps41
  go_wp2_with (first | (go_at_call 66; refine (spec_less _ _ _ ?_ ?_ ?_ ?_).mono ?_; omega; omega; omega; omega; rintro e w' ⟨rfl, rfl⟩) | (go_at_call 64; refine (spec_sar _ _ _ ?_ ?_ ?_ ?_).mono ?_; omega; omega; omega; omega; rintro e w' ⟨rfl, rfl⟩) | (go_at_call 65; refine (spec_one _ _).mono ?_; rintro e w' ⟨rfl, rfl⟩))
  all_goals go_ret2
  all_goals exact ⟨ret_wf (by first | rfl | simp), rfl⟩
set_option maxHeartbeats 400000 in
theorem spec_alu4 (a b : Int) (w : World) (h1 : 0 ≤ a) (h2 : a ≤ 4294967295) (h3 : 0 ≤ b) (h4 : b ≤ 4294967295) :
    Calls Tryz.prog 41 #[.int .i64 4, .int .u32 a, .int .u32 b] w fun e w' => e = .returned (.tuple #[.int .u32 (bits .or .u32 a b), .int .i64 0]) ∧ w' = w := by
  go_enter Tryz.func41, Tryz.ntmps41
  go_wp2_with (first | (go_at_call 66; refine (spec_less _ _ _ ?_ ?_ ?_ ?_).mono ?_; omega; omega; omega; omega; rintro e w' ⟨rfl, rfl⟩) | (go_at_call 64; refine (spec_sar _ _ _ ?_ ?_ ?_ ?_).mono ?_; omega; omega; omega; omega; rintro e w' ⟨rfl, rfl⟩) | (go_at_call 65; refine (spec_one _ _).mono ?_; rintro e w' ⟨rfl, rfl⟩))
  all_goals go_ret2
  all_goals exact ⟨ret_wf (by first | rfl | simp), rfl⟩
set_option maxHeartbeats 400000 in
theorem spec_alu5 (a b : Int) (w : World) (h1 : 0 ≤ a) (h2 : a ≤ 4294967295) (h3 : 0 ≤ b) (h4 : b ≤ 4294967295) :
    Calls Tryz.prog 41 #[.int .i64 5, .int .u32 a, .int .u32 b] w fun e w' => e = .returned (.tuple #[.int .u32 (bits .xor .u32 a b), .int .i64 0]) ∧ w' = w := by
  go_enter Tryz.func41, Tryz.ntmps41
  go_wp2_with (first | (go_at_call 66; refine (spec_less _ _ _ ?_ ?_ ?_ ?_).mono ?_; omega; omega; omega; omega; rintro e w' ⟨rfl, rfl⟩) | (go_at_call 64; refine (spec_sar _ _ _ ?_ ?_ ?_ ?_).mono ?_; omega; omega; omega; omega; rintro e w' ⟨rfl, rfl⟩) | (go_at_call 65; refine (spec_one _ _).mono ?_; rintro e w' ⟨rfl, rfl⟩))
  all_goals go_ret2
  all_goals exact ⟨ret_wf (by first | rfl | simp), rfl⟩
set_option maxHeartbeats 400000 in
theorem spec_alu6 (a b : Int) (w : World) (h1 : 0 ≤ a) (h2 : a ≤ 4294967295) (h3 : 0 ≤ b) (h4 : b ≤ 4294967295) :
    Calls Tryz.prog 41 #[.int .i64 6, .int .u32 a, .int .u32 b] w fun e w' => e = .returned (.tuple #[.int .u32 (a * 2 ^ (b % 32).toNat % 4294967296), .int .i64 0]) ∧ w' = w := by
  go_enter Tryz.func41, Tryz.ntmps41
  go_wp2_with (first | (go_at_call 66; refine (spec_less _ _ _ ?_ ?_ ?_ ?_).mono ?_; omega; omega; omega; omega; rintro e w' ⟨rfl, rfl⟩) | (go_at_call 64; refine (spec_sar _ _ _ ?_ ?_ ?_ ?_).mono ?_; omega; omega; omega; omega; rintro e w' ⟨rfl, rfl⟩) | (go_at_call 65; refine (spec_one _ _).mono ?_; rintro e w' ⟨rfl, rfl⟩))
  all_goals go_ret2
  all_goals exact ⟨ret_wf (by first | rfl | simp), rfl⟩
set_option maxHeartbeats 400000 in
theorem spec_alu7 (a b : Int) (w : World) (h1 : 0 ≤ a) (h2 : a ≤ 4294967295) (h3 : 0 ≤ b) (h4 : b ≤ 4294967295) :
    Calls Tryz.prog 41 #[.int .i64 7, .int .u32 a, .int .u32 b] w fun e w' => e = .returned (.tuple #[.int .u32 (a / 2 ^ (b % 32).toNat), .int .i64 0]) ∧ w' = w := by
  go_enter Tryz.func41, Tryz.ntmps41
  go_wp2_with (first | (go_at_call 66; refine (spec_less _ _ _ ?_ ?_ ?_ ?_).mono ?_; omega; omega; omega; omega; rintro e w' ⟨rfl, rfl⟩) | (go_at_call 64; refine (spec_sar _ _ _ ?_ ?_ ?_ ?_).mono ?_; omega; omega; omega; omega; rintro e w' ⟨rfl, rfl⟩) | (go_at_call 65; refine (spec_one _ _).mono ?_; rintro e w' ⟨rfl, rfl⟩))
  all_goals go_ret2
  all_goals exact ⟨ret_wf (by first | rfl | simp), rfl⟩
set_option maxHeartbeats 400000 in
theorem spec_alu8 (a b : Int) (w : World) (h1 : 0 ≤ a) (h2 : a ≤ 4294967295) (h3 : 0 ≤ b) (h4 : b ≤ 4294967295) :
    Calls Tryz.prog 41 #[.int .i64 8, .int .u32 a, .int .u32 b] w fun e w' => e = .returned (.tuple #[.int .u32 ((Wd.sar a.toNat (b % 32).toNat : Int)), .int .i64 0]) ∧ w' = w := by
  go_enter Tryz.func41, Tryz.ntmps41
  go_wp2_with (first | (go_at_call 66; refine (spec_less _ _ _ ?_ ?_ ?_ ?_).mono ?_; omega; omega; omega; omega; rintro e w' ⟨rfl, rfl⟩) | (go_at_call 64; refine (spec_sar _ _ _ ?_ ?_ ?_ ?_).mono ?_; omega; omega; omega; omega; rintro e w' ⟨rfl, rfl⟩) | (go_at_call 65; refine (spec_one _ _).mono ?_; rintro e w' ⟨rfl, rfl⟩))
  all_goals go_ret2
  all_goals exact ⟨ret_wf (by first | rfl | simp), rfl⟩
set_option maxHeartbeats 400000 in
theorem spec_alu9 (a b : Int) (w : World) (h1 : 0 ≤ a) (h2 : a ≤ 4294967295) (h3 : 0 ≤ b) (h4 : b ≤ 4294967295) :
    Calls Tryz.prog 41 #[.int .i64 9, .int .u32 a, .int .u32 b] w fun e w' => e = .returned (.tuple #[.int .u32 (a * b % 4294967296), .int .i64 0]) ∧ w' = w := by
  go_enter Tryz.func41, Tryz.ntmps41
  go_wp2_with (first | (go_at_call 66; refine (spec_less _ _ _ ?_ ?_ ?_ ?_).mono ?_; omega; omega; omega; omega; rintro e w' ⟨rfl, rfl⟩) | (go_at_call 64; refine (spec_sar _ _ _ ?_ ?_ ?_ ?_).mono ?_; omega; omega; omega; omega; rintro e w' ⟨rfl, rfl⟩) | (go_at_call 65; refine (spec_one _ _).mono ?_; rintro e w' ⟨rfl, rfl⟩))
  all_goals go_ret2
  all_goals exact ⟨ret_wf (by first | rfl | simp), rfl⟩
set_option maxHeartbeats 400000 in
theorem spec_alu10z (a : Int) (w : World) (h1 : 0 ≤ a) (h2 : a ≤ 4294967295) :
    Calls Tryz.prog 41 #[.int .i64 10, .int .u32 a, .int .u32 0] w fun e w' => e = .returned (.tuple #[.int .u32 0, .int .i64 5]) ∧ w' = w := by
  go_enter Tryz.func41, Tryz.ntmps41
  go_wp2
  go_ret2
  exact ⟨rfl, rfl⟩
set_option maxHeartbeats 400000 in
theorem spec_alu10 (a b : Int) (w : World) (h1 : 0 ≤ a) (h2 : a ≤ 4294967295) (h3 : 0 ≤ b) (h4 : b ≤ 4294967295) (hb : (b == 0) = false) :
    Calls Tryz.prog 41 #[.int .i64 10, .int .u32 a, .int .u32 b] w fun e w' => e = .returned (.tuple #[.int .u32 (a / b), .int .i64 0]) ∧ w' = w := by
  have hb1 : 1 ≤ b := by have := beq_eq_false_iff_ne.1 hb; omega
  have hb2 : ¬ b = 0 := by omega
  have HQ : Hid (a / b % 4294967296 = a / b) := by
    show _ = _
    have h5 : a / b ≤ a := Int.ediv_le_self b h1
    have h6 : 0 ≤ a / b := Int.ediv_nonneg h1 h3
    exact Int.emod_eq_of_lt h6 (by omega)
  go_enter Tryz.func41, Tryz.ntmps41
  go_wp2
  go_ret2
  exact ⟨ret_wf (by first | rfl | rw [HQ.out]), rfl⟩
set_option maxHeartbeats 400000 in
theorem spec_alu11 (a b : Int) (w : World) (h1 : 0 ≤ a) (h2 : a ≤ 4294967295) (h3 : 0 ≤ b) (h4 : b ≤ 4294967295) :
    Calls Tryz.prog 41 #[.int .i64 11, .int .u32 a, .int .u32 b] w fun e w' => e = .returned (.tuple #[.int .u32 ((if wrap32 a < wrap32 b then 1 else 0)), .int .i64 0]) ∧ w' = w := by
  go_enter Tryz.func41, Tryz.ntmps41
  go_wp2_with (first | (go_at_call 66; refine (spec_less _ _ _ ?_ ?_ ?_ ?_).mono ?_; omega; omega; omega; omega; rintro e w' ⟨rfl, rfl⟩) | (go_at_call 64; refine (spec_sar _ _ _ ?_ ?_ ?_ ?_).mono ?_; omega; omega; omega; omega; rintro e w' ⟨rfl, rfl⟩) | (go_at_call 65; refine (spec_one _ _).mono ?_; rintro e w' ⟨rfl, rfl⟩))
  all_goals go_ret2
  all_goals exact ⟨ret_wf (by first | rfl | simp), rfl⟩
set_option maxHeartbeats 400000 in
theorem spec_alu12 (a b : Int) (w : World) (h1 : 0 ≤ a) (h2 : a ≤ 4294967295) (h3 : 0 ≤ b) (h4 : b ≤ 4294967295) :
    Calls Tryz.prog 41 #[.int .i64 12, .int .u32 a, .int .u32 b] w fun e w' => e = .returned (.tuple #[.int .u32 ((if a < b then 1 else 0)), .int .i64 0]) ∧ w' = w := by
  go_enter Tryz.func41, Tryz.ntmps41
  go_wp2_with (first | (go_at_call 66; refine (spec_less _ _ _ ?_ ?_ ?_ ?_).mono ?_; omega; omega; omega; omega; rintro e w' ⟨rfl, rfl⟩) | (go_at_call 64; refine (spec_sar _ _ _ ?_ ?_ ?_ ?_).mono ?_; omega; omega; omega; omega; rintro e w' ⟨rfl, rfl⟩) | (go_at_call 65; refine (spec_one _ _).mono ?_; rintro e w' ⟨rfl, rfl⟩))
  all_goals go_ret2
  all_goals exact ⟨ret_wf (by first | rfl | simp), rfl⟩
set_option maxHeartbeats 400000 in
theorem spec_alu0 (op a b : Int) (w : World) (c1 : (op == 1) = false) (c2 : (op == 2) = false) (c3 : (op == 3) = false) (c4 : (op == 4) = false) (c5 : (op == 5) = false) (c6 : (op == 6) = false) (c7 : (op == 7) = false) (c8 : (op == 8) = false) (c9 : (op == 9) = false) (c10 : (op == 10) = false) (c11 : (op == 11) = false) (c12 : (op == 12) = false) :
    Calls Tryz.prog 41 #[.int .i64 op, .int .u32 a, .int .u32 b] w fun e w' => e = .returned (.tuple #[.int .u32 0, .int .i64 4]) ∧ w' = w := by
  go_enter Tryz.func41, Tryz.ntmps41
  go_wp2
  go_ret2
  exact ⟨rfl, rfl⟩
theorem spec_alu (op a b : Int) (w : World) (h1 : 0 ≤ a) (h2 : a ≤ 4294967295) (h3 : 0 ≤ b) (h4 : b ≤ 4294967295) :
    Calls Tryz.prog 41 #[.int .i64 op, .int .u32 a, .int .u32 b] w fun e w' => e = .returned (.tuple #[.int .u32 (aluF op a b).1, .int .i64 (aluF op a b).2]) ∧ w' = w := by
  by_cases c1 : op = 1
  · subst c1
    exact spec_alu1 a b w h1 h2 h3 h4
  by_cases c2 : op = 2
  · subst c2
    exact spec_alu2 a b w h1 h2 h3 h4
  by_cases c3 : op = 3
  · subst c3
    exact spec_alu3 a b w h1 h2 h3 h4
  by_cases c4 : op = 4
  · subst c4
    exact spec_alu4 a b w h1 h2 h3 h4
  by_cases c5 : op = 5
  · subst c5
    exact spec_alu5 a b w h1 h2 h3 h4
  by_cases c6 : op = 6
  · subst c6
    exact spec_alu6 a b w h1 h2 h3 h4
  by_cases c7 : op = 7
  · subst c7
    exact spec_alu7 a b w h1 h2 h3 h4
  by_cases c8 : op = 8
  · subst c8
    exact spec_alu8 a b w h1 h2 h3 h4
  by_cases c9 : op = 9
  · subst c9
    exact spec_alu9 a b w h1 h2 h3 h4
  by_cases c10 : op = 10
  · subst c10
    by_cases hb : b = 0
    · subst hb
      exact spec_alu10z a w h1 h2
    · rw [show aluF 10 a b = (a / b, 0) by simp [aluF, hb]]
      exact spec_alu10 a b w h1 h2 h3 h4 (op_bne hb)
  by_cases c11 : op = 11
  · subst c11
    exact spec_alu11 a b w h1 h2 h3 h4
  by_cases c12 : op = 12
  · subst c12
    exact spec_alu12 a b w h1 h2 h3 h4
  rw [show aluF op a b = (0, 4) by simp [aluF, c1, c2, c3, c4, c5, c6, c7, c8, c9, c10, c11, c12]]
  exact spec_alu0 op a b w (op_bne c1) (op_bne c2) (op_bne c3) (op_bne c4) (op_bne c5) (op_bne c6) (op_bne c7) (op_bne c8) (op_bne c9) (op_bne c10) (op_bne c11) (op_bne c12)
set_option maxHeartbeats 400000 in
theorem impl_one (t : Bool) (w : World) : Calls Tryz.prog 98 #[.bool t] w fun e w' => e = .returned (.int .u32 (if t then 1 else 0)) ∧ w' = w := by
  cases t
  all_goals
    go_enter Tryz.func98, Tryz.ntmps98
    go_wp2
    go_ret
    exact ⟨rfl, rfl⟩
set_option maxHeartbeats 400000 in
theorem impl_alu1 (a b : Int) (w : World) (h1 : 0 ≤ a) (h2 : a ≤ 4294967295) (h3 : 0 ≤ b) (h4 : b ≤ 4294967295) :
    Calls Tryz.prog 81 #[.int .i64 1, .int .u32 a, .int .u32 b] w fun e w' => e = .returned (.tuple #[.int .u32 ((a + b) % 4294967296), .int .i64 0]) ∧ w' = w := by
  go_enter Tryz.func81, Tryz.ntmps81
  go_wp2_with (first | (go_at_call 96; refine (impl_less _ _ _ ?_ ?_ ?_ ?_).mono ?_; omega; omega; omega; omega; rintro e w' ⟨rfl, rfl⟩) | (go_at_call 97; refine (impl_sar _ _ _ ?_ ?_ ?_ ?_).mono ?_; omega; omega; omega; omega; rintro e w' ⟨rfl, rfl⟩) | (go_at_call 98; refine (impl_one _ _).mono ?_; rintro e w' ⟨rfl, rfl⟩))
  all_goals go_ret2
  all_goals exact ⟨ret_wf (by first | rfl | simp), rfl⟩
set_option maxHeartbeats 400000 in
theorem impl_alu2 (a b : Int) (w : World) (h1 : 0 ≤ a) (h2 : a ≤ 4294967295) (h3 : 0 ≤ b) (h4 : b ≤ 4294967295) :
    Calls Tryz.prog 81 #[.int .i64 2, .int .u32 a, .int .u32 b] w fun e w' => e = .returned (.tuple #[.int .u32 ((a - b) % 4294967296), .int .i64 0]) ∧ w' = w := by
  go_enter Tryz.func81, Tryz.ntmps81
  go_wp2_with (first | (go_at_call 96; refine (impl_less _ _ _ ?_ ?_ ?_ ?_).mono ?_; omega; omega; omega; omega; rintro e w' ⟨rfl, rfl⟩) | (go_at_call 97; refine (impl_sar _ _ _ ?_ ?_ ?_ ?_).mono ?_; omega; omega; omega; omega; rintro e w' ⟨rfl, rfl⟩) | (go_at_call 98; refine (impl_one _ _).mono ?_; rintro e w' ⟨rfl, rfl⟩))
  all_goals go_ret2
  all_goals exact ⟨ret_wf (by first | rfl | simp), rfl⟩
set_option maxHeartbeats 400000 in
theorem impl_alu3 (a b : Int) (w : World) (h1 : 0 ≤ a) (h2 : a ≤ 4294967295) (h3 : 0 ≤ b) (h4 : b ≤ 4294967295) :
    Calls Tryz.prog 81 #[.int .i64 3, .int .u32 a, .int .u32 b] w fun e w' => e = .returned (.tuple #[.int .u32 (bits .and .u32 a b), .int .i64 0]) ∧ w' = w := by
  go_enter Tryz.func81, Tryz.ntmps81
  go_wp2_with (first | (go_at_call 96; refine (impl_less _ _ _ ?_ ?_ ?_ ?_).mono ?_; omega; omega; omega; omega; rintro e w' ⟨rfl, rfl⟩) | (go_at_call 97; refine (impl_sar _ _ _ ?_ ?_ ?_ ?_).mono ?_; omega; omega; omega; omega; rintro e w' ⟨rfl, rfl⟩) | (go_at_call 98; refine (impl_one _ _).mono ?_; rintro e w' ⟨rfl, rfl⟩))
  all_goals go_ret2
  all_goals exact ⟨ret_wf (by first | rfl | simp), rfl⟩
set_option maxHeartbeats 400000 in
theorem impl_alu4 (a b : Int) (w : World) (h1 : 0 ≤ a) (h2 : a ≤ 4294967295) (h3 : 0 ≤ b) (h4 : b ≤ 4294967295) :
    Calls Tryz.prog 81 #[.int .i64 4, .int .u32 a, .int .u32 b] w fun e w' => e = .returned (.tuple #[.int .u32 (bits .or .u32 a b), .int .i64 0]) ∧ w' = w := by
  go_enter Tryz.func81, Tryz.ntmps81
  go_wp2_with (first | (go_at_call 96; refine (impl_less _ _ _ ?_ ?_ ?_ ?_).mono ?_; omega; omega; omega; omega; rintro e w' ⟨rfl, rfl⟩) | (go_at_call 97; refine (impl_sar _ _ _ ?_ ?_ ?_ ?_).mono ?_; omega; omega; omega; omega; rintro e w' ⟨rfl, rfl⟩) | (go_at_call 98; refine (impl_one _ _).mono ?_; rintro e w' ⟨rfl, rfl⟩))
  all_goals go_ret2
  all_goals exact ⟨ret_wf (by first | rfl | simp), rfl⟩
set_option maxHeartbeats 400000 in
theorem impl_alu5 (a b : Int) (w : World) (h1 : 0 ≤ a) (h2 : a ≤ 4294967295) (h3 : 0 ≤ b) (h4 : b ≤ 4294967295) :
    Calls Tryz.prog 81 #[.int .i64 5, .int .u32 a, .int .u32 b] w fun e w' => e = .returned (.tuple #[.int .u32 (bits .xor .u32 a b), .int .i64 0]) ∧ w' = w := by
  go_enter Tryz.func81, Tryz.ntmps81
  go_wp2_with (first | (go_at_call 96; refine (impl_less _ _ _ ?_ ?_ ?_ ?_).mono ?_; omega; omega; omega; omega; rintro e w' ⟨rfl, rfl⟩) | (go_at_call 97; refine (impl_sar _ _ _ ?_ ?_ ?_ ?_).mono ?_; omega; omega; omega; omega; rintro e w' ⟨rfl, rfl⟩) | (go_at_call 98; refine (impl_one _ _).mono ?_; rintro e w' ⟨rfl, rfl⟩))
  all_goals go_ret2
  all_goals exact ⟨ret_wf (by first | rfl | simp), rfl⟩
set_option maxHeartbeats 400000 in
theorem impl_alu6 (a b : Int) (w : World) (h1 : 0 ≤ a) (h2 : a ≤ 4294967295) (h3 : 0 ≤ b) (h4 : b ≤ 4294967295) :
    Calls Tryz.prog 81 #[.int .i64 6, .int .u32 a, .int .u32 b] w fun e w' => e = .returned (.tuple #[.int .u32 (a * 2 ^ (b % 32).toNat % 4294967296), .int .i64 0]) ∧ w' = w := by
  go_enter Tryz.func81, Tryz.ntmps81
  go_wp2_with (first | (go_at_call 96; refine (impl_less _ _ _ ?_ ?_ ?_ ?_).mono ?_; omega; omega; omega; omega; rintro e w' ⟨rfl, rfl⟩) | (go_at_call 97; refine (impl_sar _ _ _ ?_ ?_ ?_ ?_).mono ?_; omega; omega; omega; omega; rintro e w' ⟨rfl, rfl⟩) | (go_at_call 98; refine (impl_one _ _).mono ?_; rintro e w' ⟨rfl, rfl⟩))
  all_goals go_ret2
  all_goals exact ⟨ret_wf (by first | rfl | simp), rfl⟩
set_option maxHeartbeats 400000 in
theorem impl_alu7 (a b : Int) (w : World) (h1 : 0 ≤ a) (h2 : a ≤ 4294967295) (h3 : 0 ≤ b) (h4 : b ≤ 4294967295) :
    Calls Tryz.prog 81 #[.int .i64 7, .int .u32 a, .int .u32 b] w fun e w' => e = .returned (.tuple #[.int .u32 (a / 2 ^ (b % 32).toNat), .int .i64 0]) ∧ w' = w := by
  go_enter Tryz.func81, Tryz.ntmps81
  go_wp2_with (first | (go_at_call 96; refine (impl_less _ _ _ ?_ ?_ ?_ ?_).mono ?_; omega; omega; omega; omega; rintro e w' ⟨rfl, rfl⟩) | (go_at_call 97; refine (impl_sar _ _ _ ?_ ?_ ?_ ?_).mono ?_; omega; omega; omega; omega; rintro e w' ⟨rfl, rfl⟩) | (go_at_call 98; refine (impl_one _ _).mono ?_; rintro e w' ⟨rfl, rfl⟩))
  all_goals go_ret2
  all_goals exact ⟨ret_wf (by first | rfl | simp), rfl⟩
set_option maxHeartbeats 400000 in
theorem impl_alu8 (a b : Int) (w : World) (h1 : 0 ≤ a) (h2 : a ≤ 4294967295) (h3 : 0 ≤ b) (h4 : b ≤ 4294967295) :
    Calls Tryz.prog 81 #[.int .i64 8, .int .u32 a, .int .u32 b] w fun e w' => e = .returned (.tuple #[.int .u32 ((Wd.sar a.toNat (b % 32).toNat : Int)), .int .i64 0]) ∧ w' = w := by
  go_enter Tryz.func81, Tryz.ntmps81
  go_wp2_with (first | (go_at_call 96; refine (impl_less _ _ _ ?_ ?_ ?_ ?_).mono ?_; omega; omega; omega; omega; rintro e w' ⟨rfl, rfl⟩) | (go_at_call 97; refine (impl_sar _ _ _ ?_ ?_ ?_ ?_).mono ?_; omega; omega; omega; omega; rintro e w' ⟨rfl, rfl⟩) | (go_at_call 98; refine (impl_one _ _).mono ?_; rintro e w' ⟨rfl, rfl⟩))
  all_goals go_ret2
  all_goals exact ⟨ret_wf (by first | rfl | simp), rfl⟩
set_option maxHeartbeats 400000 in
theorem impl_alu9 (a b : Int) (w : World) (h1 : 0 ≤ a) (h2 : a ≤ 4294967295) (h3 : 0 ≤ b) (h4 : b ≤ 4294967295) :
    Calls Tryz.prog 81 #[.int .i64 9, .int .u32 a, .int .u32 b] w fun e w' => e = .returned (.tuple #[.int .u32 (a * b % 4294967296), .int .i64 0]) ∧ w' = w := by
  go_enter Tryz.func81, Tryz.ntmps81
  go_wp2_with (first | (go_at_call 96; refine (impl_less _ _ _ ?_ ?_ ?_ ?_).mono ?_; omega; omega; omega; omega; rintro e w' ⟨rfl, rfl⟩) | (go_at_call 97; refine (impl_sar _ _ _ ?_ ?_ ?_ ?_).mono ?_; omega; omega; omega; omega; rintro e w' ⟨rfl, rfl⟩) | (go_at_call 98; refine (impl_one _ _).mono ?_; rintro e w' ⟨rfl, rfl⟩))
  all_goals go_ret2
  all_goals exact ⟨ret_wf (by first | rfl | simp), rfl⟩
set_option maxHeartbeats 400000 in
theorem impl_alu10z (a : Int) (w : World) (h1 : 0 ≤ a) (h2 : a ≤ 4294967295) :
    Calls Tryz.prog 81 #[.int .i64 10, .int .u32 a, .int .u32 0] w fun e w' => e = .returned (.tuple #[.int .u32 0, .int .i64 5]) ∧ w' = w := by
  go_enter Tryz.func81, Tryz.ntmps81
  go_wp2
  go_ret2
  exact ⟨rfl, rfl⟩
set_option maxHeartbeats 400000 in
theorem impl_alu10 (a b : Int) (w : World) (h1 : 0 ≤ a) (h2 : a ≤ 4294967295) (h3 : 0 ≤ b) (h4 : b ≤ 4294967295) (hb : (b == 0) = false) :
    Calls Tryz.prog 81 #[.int .i64 10, .int .u32 a, .int .u32 b] w fun e w' => e = .returned (.tuple #[.int .u32 (a / b), .int .i64 0]) ∧ w' = w := by
  have hb1 : 1 ≤ b := by have := beq_eq_false_iff_ne.1 hb; omega
  have hb2 : ¬ b = 0 := by omega
  have HQ : Hid (a / b % 4294967296 = a / b) := by
    show _ = _
    have h5 : a / b ≤ a := Int.ediv_le_self b h1
    have h6 : 0 ≤ a / b := Int.ediv_nonneg h1 h3
    exact Int.emod_eq_of_lt h6 (by omega)
  go_enter Tryz.func81, Tryz.ntmps81
  go_wp2
  go_ret2
  exact ⟨ret_wf (by first | rfl | rw [HQ.out]), rfl⟩
set_option maxHeartbeats 400000 in
theorem impl_alu11 (a b : Int) (w : World) (h1 : 0 ≤ a) (h2 : a ≤ 4294967295) (h3 : 0 ≤ b) (h4 : b ≤ 4294967295) :
    Calls Tryz.prog 81 #[.int .i64 11, .int .u32 a, .int .u32 b] w fun e w' => e = .returned (.tuple #[.int .u32 ((if wrap32 a < wrap32 b then 1 else 0)), .int .i64 0]) ∧ w' = w := by
  go_enter Tryz.func81, Tryz.ntmps81
  go_wp2_with (first | (go_at_call 96; refine (impl_less _ _ _ ?_ ?_ ?_ ?_).mono ?_; omega; omega; omega; omega; rintro e w' ⟨rfl, rfl⟩) | (go_at_call 97; refine (impl_sar _ _ _ ?_ ?_ ?_ ?_).mono ?_; omega; omega; omega; omega; rintro e w' ⟨rfl, rfl⟩) | (go_at_call 98; refine (impl_one _ _).mono ?_; rintro e w' ⟨rfl, rfl⟩))
  all_goals go_ret2
  all_goals exact ⟨ret_wf (by first | rfl | simp), rfl⟩
set_option maxHeartbeats 400000 in
theorem impl_alu12 (a b : Int) (w : World) (h1 : 0 ≤ a) (h2 : a ≤ 4294967295) (h3 : 0 ≤ b) (h4 : b ≤ 4294967295) :
    Calls Tryz.prog 81 #[.int .i64 12, .int .u32 a, .int .u32 b] w fun e w' => e = .returned (.tuple #[.int .u32 ((if a < b then 1 else 0)), .int .i64 0]) ∧ w' = w := by
  go_enter Tryz.func81, Tryz.ntmps81
  go_wp2_with (first | (go_at_call 96; refine (impl_less _ _ _ ?_ ?_ ?_ ?_).mono ?_; omega; omega; omega; omega; rintro e w' ⟨rfl, rfl⟩) | (go_at_call 97; refine (impl_sar _ _ _ ?_ ?_ ?_ ?_).mono ?_; omega; omega; omega; omega; rintro e w' ⟨rfl, rfl⟩) | (go_at_call 98; refine (impl_one _ _).mono ?_; rintro e w' ⟨rfl, rfl⟩))
  all_goals go_ret2
  all_goals exact ⟨ret_wf (by first | rfl | simp), rfl⟩
set_option maxHeartbeats 400000 in
theorem impl_alu0 (op a b : Int) (w : World) (c1 : (op == 1) = false) (c2 : (op == 2) = false) (c3 : (op == 3) = false) (c4 : (op == 4) = false) (c5 : (op == 5) = false) (c6 : (op == 6) = false) (c7 : (op == 7) = false) (c8 : (op == 8) = false) (c9 : (op == 9) = false) (c10 : (op == 10) = false) (c11 : (op == 11) = false) (c12 : (op == 12) = false) :
    Calls Tryz.prog 81 #[.int .i64 op, .int .u32 a, .int .u32 b] w fun e w' => e = .returned (.tuple #[.int .u32 0, .int .i64 4]) ∧ w' = w := by
  go_enter Tryz.func81, Tryz.ntmps81
  go_wp2
  go_ret2
  exact ⟨rfl, rfl⟩
theorem impl_alu (op a b : Int) (w : World) (h1 : 0 ≤ a) (h2 : a ≤ 4294967295) (h3 : 0 ≤ b) (h4 : b ≤ 4294967295) :
    Calls Tryz.prog 81 #[.int .i64 op, .int .u32 a, .int .u32 b] w fun e w' => e = .returned (.tuple #[.int .u32 (aluF op a b).1, .int .i64 (aluF op a b).2]) ∧ w' = w := by
  by_cases c1 : op = 1
  · subst c1
    exact impl_alu1 a b w h1 h2 h3 h4
  by_cases c2 : op = 2
  · subst c2
    exact impl_alu2 a b w h1 h2 h3 h4
  by_cases c3 : op = 3
  · subst c3
    exact impl_alu3 a b w h1 h2 h3 h4
  by_cases c4 : op = 4
  · subst c4
    exact impl_alu4 a b w h1 h2 h3 h4
  by_cases c5 : op = 5
  · subst c5
    exact impl_alu5 a b w h1 h2 h3 h4
  by_cases c6 : op = 6
  · subst c6
    exact impl_alu6 a b w h1 h2 h3 h4
  by_cases c7 : op = 7
  · subst c7
    exact impl_alu7 a b w h1 h2 h3 h4
  by_cases c8 : op = 8
  · subst c8
    exact impl_alu8 a b w h1 h2 h3 h4
  by_cases c9 : op = 9
  · subst c9
    exact impl_alu9 a b w h1 h2 h3 h4
  by_cases c10 : op = 10
  · subst c10
    by_cases hb : b = 0
    · subst hb
      exact impl_alu10z a w h1 h2
    · rw [show aluF 10 a b = (a / b, 0) by simp [aluF, hb]]
      exact impl_alu10 a b w h1 h2 h3 h4 (op_bne hb)
  by_cases c11 : op = 11
  · subst c11
    exact impl_alu11 a b w h1 h2 h3 h4
  by_cases c12 : op = 12
  · subst c12
    exact impl_alu12 a b w h1 h2 h3 h4
  rw [show aluF op a b = (0, 4) by simp [aluF, c1, c2, c3, c4, c5, c6, c7, c8, c9, c10, c11, c12]]
  exact impl_alu0 op a b w (op_bne c1) (op_bne c2) (op_bne c3) (op_bne c4) (op_bne c5) (op_bne c6) (op_bne c7) (op_bne c8) (op_bne c9) (op_bne c10) (op_bne c11) (op_bne c12)
end Go.Proofs.YtjlhkjiccibgdaaGreatDoor
