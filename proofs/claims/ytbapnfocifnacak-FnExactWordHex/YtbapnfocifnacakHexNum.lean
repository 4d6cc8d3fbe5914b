/-
  What WordHex returns: the specification's and the program's own, the same word, at every text. Conditions: none but that the text is one that memory holds.
-/
import Derived.Test.YtbapnfocifnacakFold
import Derived.Laws.RangeAny
namespace Go.Proofs.Ytbapnfocifnacak
open Go.ChangeShapes Go.WideShapes Go.ChangeAt Go.RowKit Go.Deep
set_option linter.unusedVariables false

namespace Wd
/-- The value of a digit. -/
def val (b : Int) : Option Int := if 48 ≤ b ∧ b ≤ 57 then some (b - 48) else if 97 ≤ b ∧ b ≤ 102 then some (b - 87) else none
theorem val_dec (b : Int) (h0 : 48 ≤ b) (h1 : b ≤ 57) : val b = some (b - 48) := by unfold val; rw [if_pos ⟨h0, h1⟩]
theorem val_let (b : Int) (h0 : 97 ≤ b) (h1 : b ≤ 102) : val b = some (b - 87) := by unfold val; rw [if_neg (by omega), if_pos ⟨h0, h1⟩]
theorem val_no (b : Int) (h0 : ¬ (48 ≤ b ∧ b ≤ 57)) (h1 : ¬ (97 ≤ b ∧ b ≤ 102)) : val b = none := by unfold val; rw [if_neg h0, if_neg h1]
/-- The number that the digits of a list carry 'n' on to. -/
def rd : List Int → Int → Option Int
  | [], n => some n
  | b :: l, n => (val b).bind fun d => rd l (16 * n + d)
def nums (s : ByteArray) : List Int := s.data.toList.map fun c => (c.toNat : Int)
theorem nums_len (s : ByteArray) : (nums s).length = s.size := by
  unfold nums
  rw [List.length_map]
  rfl
theorem nums_drop (s : ByteArray) (k : Nat) (h : k < s.size) : (nums s).drop k = (s[k].toNat : Int) :: (nums s).drop (k + 1) := by
  rw [List.drop_eq_getElem_cons (by rw [nums_len]; exact h)]
  congr 1
  simp [nums]
  rfl
def hexN (s : ByteArray) : Int := (rd (nums s) 0).getD 0
def hexOk (s : ByteArray) : Bool := (rd (nums s) 0).isSome
theorem rd_some (s : ByteArray) (k : Nat) (h : k < s.size) (c d : Int) (hv : val (s[k].toNat : Int) = some d) : rd ((nums s).drop k) c = rd ((nums s).drop (k + 1)) (16 * c + d) := by
  rw [nums_drop s k h, rd, hv]
  rfl
theorem rd_none (s : ByteArray) (k : Nat) (h : k < s.size) (c : Int) (hv : val (s[k].toNat : Int) = none) : rd ((nums s).drop k) c = none := by
  rw [nums_drop s k h, rd, hv]
  rfl
theorem rd_end (s : ByteArray) (k : Nat) (h : s.size ≤ k) (c : Int) : rd ((nums s).drop k) c = some c := by
  rw [List.drop_of_length_le (by rw [nums_len]; exact h), rd]
theorem or16 (c d : Int) (h0 : 0 ≤ c) (h1 : c ≤ 268435455) (d0 : 0 ≤ d) (d1 : d ≤ 15) : bits .or .u32 (c * 16) d = 16 * c + d := by
  obtain ⟨C, rfl⟩ := Int.eq_ofNat_of_zero_le h0
  obtain ⟨D, rfl⟩ := Int.eq_ofNat_of_zero_le d0
  rw [u32_or _ _ (by omega) (by omega) (by omega) (by omega)]
  have hj := Nat.two_pow_add_eq_or_of_lt (show D < 2 ^ 4 by omega) C
  rw [show ((C : Int) * 16).toNat = 2 ^ 4 * C by omega, Int.toNat_natCast, ← hj]
  omega
theorem pow16 (k : Nat) (hk : k < 8) (c d : Int) (h0 : 0 ≤ c) (h1 : c < 16 ^ k) (d0 : 0 ≤ d) (d1 : d ≤ 15) : 0 ≤ 16 * c + d ∧ 16 * c + d < 16 ^ (k + 1) ∧ c ≤ 268435455 := by
  have hp : (16 : Int) ^ (k + 1) = 16 ^ k * 16 := Int.pow_succ _ _
  have hq : (16 : Int) ^ k ≤ 16 ^ 7 := by
    have : (16 : Nat) ^ k ≤ 16 ^ 7 := Nat.pow_le_pow_right (by omega) (by omega)
    exact_mod_cast this
  omega
end Wd

set_option maxHeartbeats 400000 in
theorem spec_hexnum_no (s : ByteArray) (w : World) (h : s.size ≠ 8) (hn : s.size ≤ 1048576) :
    Calls Try.prog 22 #[.string s] w fun e w' => e = .returned (.tuple #[.int .u32 0, .bool false]) ∧ w' = w := by
  have hb : ((s.size : Int) != 8) = true := by rw [bne_iff_ne]; omega
  go_enter Try.func22, Try.ntmps22
  go_wp2
  go_ret2
  exact ⟨rfl, rfl⟩
set_option maxHeartbeats 400000 in
theorem impl_hexnum_no (s : ByteArray) (w : World) (h : s.size ≠ 8) (hn : s.size ≤ 1048576) :
    Calls Try.prog 23 #[.string s] w fun e w' => e = .returned (.tuple #[.int .u32 0, .bool false]) ∧ Below w.heap.size w w' := by
  have hb : ((s.size : Int) != 8) = true := by rw [bne_iff_ne]; omega
  go_enter Try.func23, Try.ntmps23
  go_wp2
  go_ret2
  exact ⟨rfl, Below.refl _ _⟩
set_option maxHeartbeats 400000 in
theorem spec_hexnum (s : ByteArray) (w : World) (h : s.size = 8) :
    Calls Try.prog 22 #[.string s] w fun e w' => e = .returned (.tuple #[.int .u32 (Wd.hexN s), .bool (Wd.hexOk s)]) ∧ w' = w := by
  have hb : ((s.size : Int) != 8) = false := by rw [h]; rfl
  have H8 : Hid _ := h
  have h8 : 8 ≤ s.size := by omega
  clear h
  go_enter Try.func22, Try.ntmps22
  go_wp2
  go_loop [4, 5] (fun n i => ∃ (k : Nat) (c : Int), k ≤ 8 ∧ i = .int .i64 k ∧ n = .int .i64 c ∧ 0 ≤ c ∧ c ≤ 4294967295 ∧ Hid (c < 16 ^ k ∧ Wd.rd ((Wd.nums s).drop k) c = Wd.rd (Wd.nums s) 0)) (fun _ i => 8 - (intOf i).toNat)
  case atStart => exact ⟨0, 0, by omega, rfl, rfl, by omega, by omega, by decide, by simp⟩
  case round =>
    obtain ⟨k, c, hk, rfl, rfl, hc0, hc1, HC⟩ := hrel
    by_cases hlt : k < 8
    · have hks : k < s.size := by omega
      have hby : (s[k].toNat : Int) ≤ 255 := by have := s[k].toNat_lt; omega
      by_cases h1 : 48 ≤ (s[k].toNat : Int) ∧ (s[k].toNat : Int) ≤ 57
      · have HV : Hid _ := Wd.rd_some s k hks c _ (Wd.val_dec _ h1.1 h1.2)
        have HP : Hid _ := Wd.pow16 k hlt c ((s[k].toNat : Int) - 48) hc0 HC.out.1 (by omega) (by omega)
        obtain ⟨h11, h12⟩ := h1
        go_wp2
        go_round
        case rel => exact ⟨k + 1, 16 * c + ((s[k].toNat : Int) - 48), by omega, by go_num, by go_num, HP.out.1, by have := HP.out.2.2; omega, HP.out.2.1, HV.out.symm.trans HC.out.2⟩
        case measure => simp [intOf]; omega
      · by_cases h2 : 97 ≤ (s[k].toNat : Int) ∧ (s[k].toNat : Int) ≤ 102
        · have HV : Hid _ := Wd.rd_some s k hks c _ (Wd.val_let _ h2.1 h2.2)
          have HP : Hid _ := Wd.pow16 k hlt c ((s[k].toNat : Int) - 87) hc0 HC.out.1 (by omega) (by omega)
          obtain ⟨h11, h12⟩ := h2
          have h13 : ¬ (s[k].toNat : Int) ≤ 57 := by omega
          clear h1
          go_wp2
          go_round
          case rel => exact ⟨k + 1, 16 * c + ((s[k].toNat : Int) - 87), by omega, by go_num, by go_num, HP.out.1, by have := HP.out.2.2; omega, HP.out.2.1, HV.out.symm.trans HC.out.2⟩
          case measure => simp [intOf]; omega
        · have HV : Hid _ := (Wd.rd_none s k hks c (Wd.val_no _ h1 h2)).symm.trans HC.out.2
          have HR : Hid (Wd.hexN s = 0 ∧ Wd.hexOk s = false) := by
            unfold Wd.hexN Wd.hexOk
            rw [← HV.out]
            exact ⟨rfl, rfl⟩
          by_cases h3 : (s[k].toNat : Int) < 48
          · clear h1 h2
            go_wp2
            go_ret2
            exact ⟨ret_pair HR.out.1.symm HR.out.2.symm, rfl⟩
          · by_cases h4 : (s[k].toNat : Int) < 97
            · have h5 : ¬ (s[k].toNat : Int) ≤ 57 := by omega
              clear h1 h2
              go_wp2
              go_ret2
              exact ⟨ret_pair HR.out.1.symm HR.out.2.symm, rfl⟩
            · have h5 : ¬ (s[k].toNat : Int) ≤ 102 := by omega
              clear h1 h2
              go_wp2
              go_ret2
              exact ⟨ret_pair HR.out.1.symm HR.out.2.symm, rfl⟩
    · obtain rfl : k = 8 := by omega
      have HR : Hid (Wd.hexN s = c ∧ Wd.hexOk s = true) := by
        have := Wd.rd_end s 8 (by have := H8.out; omega) c
        unfold Wd.hexN Wd.hexOk
        rw [← HC.out.2, this]
        exact ⟨rfl, rfl⟩
      go_wp2
      go_ret2
      exact ⟨ret_pair HR.out.1.symm HR.out.2.symm, rfl⟩
set_option maxHeartbeats 400000 in
theorem digit_dec (r : Int) (w : World) (h0 : 48 ≤ r) (h1 : r ≤ 57) :
    Calls Try.prog 28 #[.int .i32 r] w fun e w' => e = .returned (.tuple #[.int .u32 (r - 48), .bool true]) ∧ w' = w := by
  go_enter Try.func28, Try.ntmps28
  go_wp2
  go_ret2
  exact ⟨rfl, rfl⟩
set_option maxHeartbeats 400000 in
theorem digit_let (r : Int) (w : World) (h0 : 97 ≤ r) (h1 : r ≤ 102) :
    Calls Try.prog 28 #[.int .i32 r] w fun e w' => e = .returned (.tuple #[.int .u32 (r - 87), .bool true]) ∧ w' = w := by
  have h2 : ¬ r ≤ 57 := by omega
  have HE : Hid (r - 97 + 10 = r - 87) := by show _ = _; omega
  go_enter Try.func28, Try.ntmps28
  go_wp2
  go_ret2
  exact ⟨ret_pair HE.out rfl, rfl⟩
set_option maxHeartbeats 400000 in
theorem digit_no (r : Int) (w : World) (h0 : ¬ (48 ≤ r ∧ r ≤ 57)) (h1 : ¬ (97 ≤ r ∧ r ≤ 102)) :
    Calls Try.prog 28 #[.int .i32 r] w fun e w' => e = .returned (.tuple #[.int .u32 0, .bool false]) ∧ w' = w := by
  by_cases h3 : r < 48
  · have h4 : ¬ 97 ≤ r := by omega
    clear h0 h1
    go_enter Try.func28, Try.ntmps28
    go_wp2
    go_ret2
    exact ⟨rfl, rfl⟩
  · have h5 : ¬ r ≤ 57 := by omega
    by_cases h4 : r < 97
    · clear h0 h1
      go_enter Try.func28, Try.ntmps28
      go_wp2
      go_ret2
      exact ⟨rfl, rfl⟩
    · have h6 : ¬ r ≤ 102 := by omega
      clear h0 h1
      go_enter Try.func28, Try.ntmps28
      go_wp2
      go_ret2
      exact ⟨rfl, rfl⟩
set_option maxHeartbeats 800000 in
theorem impl_hexnum (s : ByteArray) (w : World) (h : s.size = 8) :
    Calls Try.prog 23 #[.string s] w fun e w' => e = .returned (.tuple #[.int .u32 (Wd.hexN s), .bool (Wd.hexOk s)]) ∧ Below w.heap.size w w' := by
  have hb : ((s.size : Int) != 8) = false := by rw [h]; rfl
  have H8 : Hid _ := h
  clear h
  have HBW : Hid (∀ p, Below w.heap.size w (w.iter s p)) := fun p => (Below.refl _ _).alloc (Nat.le_refl _) _
  go_enter Try.func23, Try.ntmps23
  go_wp2
  go_loopw [4] (fun n wr => ∃ (k : Nat) (c : Int), wr = w.iter s k ∧ k ≤ 8 ∧ n = .int .u32 c ∧ 0 ≤ c ∧ c ≤ 4294967295 ∧ Hid (c < 16 ^ k ∧ Wd.rd ((Wd.nums s).drop k) c = Wd.rd (Wd.nums s) 0)) (fun _ wr => 8 - wr.iterPos w.heap.size)
  case atStart => exact ⟨0, 0, rfl, by omega, rfl, by omega, by omega, by decide, by simp⟩
  case round =>
    obtain ⟨k, c, rfl, hk, rfl, hc0, hc1, HC⟩ := hrel
    by_cases hlt : k < 8
    · have hks : k < s.size := by have := H8.out; omega
      by_cases ha : s[k].toNat < 128
      · have hnx : ∀ ty, (Instr.next (.pointer (some ⟨w.heap.size, 0, none⟩)) true ty).run Try.prog (w.iter s k) = _ := fun ty => run_next_ascii w s k ty hks ha
        by_cases h1 : 48 ≤ (s[k].toNat : Int) ∧ (s[k].toNat : Int) ≤ 57
        · have HV : Hid _ := Wd.rd_some s k hks c _ (Wd.val_dec _ h1.1 h1.2)
          have HP : Hid _ := Wd.pow16 k hlt c ((s[k].toNat : Int) - 48) hc0 HC.out.1 (by omega) (by omega)
          have hor := Wd.or16 c ((s[k].toNat : Int) - 48) hc0 HP.out.2.2 (by omega) (by omega)
          have hc28 := HP.out.2.2
          obtain ⟨h11, h12⟩ := h1
          go_wp2_with fail
          refine (digit_dec _ _ h11 h12).mono ?_
          rintro e w' ⟨rfl, rfl⟩
          go_wp2
          go_roundw
          case rel => exact ⟨k + 1, 16 * c + ((s[k].toNat : Int) - 48), rfl, by omega, by go_num, HP.out.1, by have := HP.out.2.2; omega, HP.out.2.1, HV.out.symm.trans HC.out.2⟩
          case measure => simp; omega
        · by_cases h2 : 97 ≤ (s[k].toNat : Int) ∧ (s[k].toNat : Int) ≤ 102
          · have HV : Hid _ := Wd.rd_some s k hks c _ (Wd.val_let _ h2.1 h2.2)
            have HP : Hid _ := Wd.pow16 k hlt c ((s[k].toNat : Int) - 87) hc0 HC.out.1 (by omega) (by omega)
            have hor := Wd.or16 c ((s[k].toNat : Int) - 87) hc0 HP.out.2.2 (by omega) (by omega)
            have hc28 := HP.out.2.2
            obtain ⟨h11, h12⟩ := h2
            clear h1
            go_wp2_with fail
            refine (digit_let _ _ h11 h12).mono ?_
            rintro e w' ⟨rfl, rfl⟩
            go_wp2
            go_roundw
            case rel => exact ⟨k + 1, 16 * c + ((s[k].toNat : Int) - 87), rfl, by omega, by go_num, HP.out.1, by have := HP.out.2.2; omega, HP.out.2.1, HV.out.symm.trans HC.out.2⟩
            case measure => simp; omega
          · have HV : Hid _ := (Wd.rd_none s k hks c (Wd.val_no _ h1 h2)).symm.trans HC.out.2
            have HR : Hid (Wd.hexN s = 0 ∧ Wd.hexOk s = false) := by
              unfold Wd.hexN Wd.hexOk
              rw [← HV.out]
              exact ⟨rfl, rfl⟩
            have H1 : Hid _ := h1
            have H2 : Hid _ := h2
            clear h1 h2
            go_wp2_with fail
            refine (digit_no _ _ H1.out H2.out).mono ?_
            rintro e w' ⟨rfl, rfl⟩
            go_wp2
            go_ret2
            exact ⟨ret_pair HR.out.1.symm HR.out.2.symm, HBW.out _⟩
      · have hhi := decode_high s k hks (by omega)
        have hle := decode_le s k
        have hnx : ∀ ty, (Instr.next (.pointer (some ⟨w.heap.size, 0, none⟩)) true ty).run Try.prog (w.iter s k) = _ := fun ty => run_next_any w s k ty hks
        have HV : Hid _ := (Wd.rd_none s k hks c (Wd.val_no _ (by omega) (by omega))).symm.trans HC.out.2
        have HR : Hid (Wd.hexN s = 0 ∧ Wd.hexOk s = false) := by
          unfold Wd.hexN Wd.hexOk
          rw [← HV.out]
          exact ⟨rfl, rfl⟩
        generalize Utf8.decode s k = dc at hnx hhi hle
        obtain ⟨dr, dw⟩ := dc
        simp only at hnx hhi hle
        go_wp2_with fail
        refine (digit_no _ _ (by omega) (by omega)).mono ?_
        rintro e w' ⟨rfl, rfl⟩
        go_wp2
        go_ret2
        exact ⟨ret_pair HR.out.1.symm HR.out.2.symm, HBW.out _⟩
    · obtain rfl : k = 8 := by omega
      have hnx : ∀ ty, (Instr.next (.pointer (some ⟨w.heap.size, 0, none⟩)) true ty).run Try.prog (w.iter s 8) = _ := fun ty => run_next_end w s 8 ty (by have := H8.out; omega)
      have HR : Hid (Wd.hexN s = c ∧ Wd.hexOk s = true) := by
        have := Wd.rd_end s 8 (by have := H8.out; omega) c
        unfold Wd.hexN Wd.hexOk
        rw [← HC.out.2, this]
        exact ⟨rfl, rfl⟩
      go_wp2
      go_ret2
      exact ⟨ret_pair HR.out.1.symm HR.out.2.symm, HBW.out _⟩

end Go.Proofs.Ytbapnfocifnacak
