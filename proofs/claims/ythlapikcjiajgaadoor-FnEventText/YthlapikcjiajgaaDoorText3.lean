
/-
  What the specification's DecText returns, at every integer: its decimal text. No conditions but that the argument is a value of its type.
-/
import Derived.Test.YthlapikcjiajgaaDoorBas
import Derived.Test.YthlapikcjiajgaaDoorProg
import Derived.Test.YthlapikcjiajgaaDoorTxt
import Derived.Test.YthlapikcjiajgaaDoorDec3
import Derived.OpenShut
namespace Go.Proofs.YthlapikcjiajgaaDoor
open Go.ChangeShapes Go.WideShapes Go.ChangeAt Go.RowKit
set_option linter.unusedVariables false

theorem slice_dec (d : Int) (h0 : 0 ≤ d) (h1 : d ≤ 9) (w : World) : (Instr.slice 9 (.string ⟨#[48, 49, 50, 51, 52, 53, 54, 55, 56, 57]⟩) (some (.int .i64 d)) (some (.int .i64 (d + 1))) none).run Tryd.prog w = .ok (.string (Tx.txt [48 + d])) w := by
  obtain rfl | rfl | rfl | rfl | rfl | rfl | rfl | rfl | rfl | rfl : d = 0 ∨ d = 1 ∨ d = 2 ∨ d = 3 ∨ d = 4 ∨ d = 5 ∨ d = 6 ∨ d = 7 ∨ d = 8 ∨ d = 9 := by omega
  all_goals kernel_rfl
set_option maxHeartbeats 400000 in
theorem text_zero (w : World) : Calls Tryd.prog 15 #[.int .i64 0] w fun e w' => e = .returned (.string (Tx.txt (Dc.dect 0))) ∧ w' = w := by
  go_enter Tryd.func15, Tryd.ntmps15
  go_wp2
  go_ret
  exact ⟨rfl, rfl⟩
set_option maxHeartbeats 400000 in
theorem text_neg (n : Int) (w : World) (h1 : n < 0) (h2 : -9223372036854775808 ≤ n) :
    Calls Tryd.prog 15 #[.int .i64 n] w fun e w' => e = .returned (.string (Tx.txt (Dc.dect n))) ∧ w' = w := by
  have hb : (n == 0) = false := beq_eq_false_iff_ne.2 (by omega)
  have HT : Hid (Dc.dect n = 45 :: Dc.dg 20 n.natAbs) := by
    show _ = _
    unfold Dc.dect
    rw [if_neg (by omega), if_pos h1]
  go_enter Tryd.func15, Tryd.ntmps15
  go_wp2
  go_loop [3, 4] (fun out m => ∃ (c : Int) (s : ByteArray), m = .int .i64 (-c) ∧ 0 ≤ c ∧ c ≤ 9223372036854775808 ∧ out = .string s ∧ s.size ≤ 20 ∧ Hid (∃ l, s = Tx.txt l ∧ Dc.Left n.natAbs c l)) (fun _ m => (-(intOf m)).toNat)
  case atStart => exact ⟨-n, _, by go_num, by omega, by omega, rfl, by decide, [], rfl, Dc.left_start _ _ (by omega) (by omega)⟩
  case round =>
    obtain ⟨c, s, rfl, hc0, hc1, rfl, hs, HS⟩ := hrel
    by_cases hz : c = 0
    · subst hz
      have hne : (-(0 : Int) != 0) = false := by decide
      have HE : Hid (Tx.txt [45] ++ s = Tx.txt (Dc.dect n)) := by
        obtain ⟨l, rfl, hl⟩ := HS.out
        show _ = _
        rw [HT.out, Dc.left_end hl, Tx.txt_cons]
      go_wp2
      go_ret
      exact ⟨ret_str HE.out, rfl⟩
    · have hne : (-c != 0) = true := by rw [bne_iff_ne]; omega
      have e1 : (-c).tmod 10 = -(c % 10) := by rw [Int.neg_tmod, Int.tmod_eq_emod_of_nonneg hc0]
      have e2 : (-c).tdiv 10 = -(c / 10) := by rw [Int.neg_tdiv, Int.tdiv_eq_ediv_of_nonneg hc0]
      have hsl := slice_dec (c % 10) (by omega) (by omega)
      have HD : Hid ((Tx.txt [48 + c % 10] ++ s).size ≤ 20 ∧ ∃ l, Tx.txt [48 + c % 10] ++ s = Tx.txt l ∧ Dc.Left n.natAbs (c / 10) l) := by
        obtain ⟨l, rfl, hl⟩ := HS.out
        have h3 := Dc.left_step hl (by omega)
        rw [Tx.txt_cons]
        exact ⟨by rw [Tx.txt_size]; exact Dc.left_len h3, _, rfl, h3⟩
      have hd1 : (Tx.txt [48 + c % 10]).size ≤ 1 := by rw [Tx.txt_size]; exact Nat.le_refl _
      have HX : Hid (c % 10 = 0 → (⟨#[48, 49, 50, 51, 52, 53, 54, 55, 56, 57]⟩ : ByteArray).extract 0 1 = Tx.txt [48 + c % 10]) := by
        intro h
        rw [h]
        decide +kernel
      generalize Tx.txt [48 + c % 10] = t at hsl HD hd1 HX
      by_cases hd : c % 10 = 0
      · have hd2 : ¬ -(c % 10) < 0 := by omega
        have hd3 : -(c % 10) = c % 10 := by omega
        have HX2 : Hid _ := HX.out hd
        go_wp2
        go_round
        case rel => exact ⟨c / 10, _, by go_num, by omega, by omega, rfl, by rw [HX2.out]; exact HD.out.1, by rw [HX2.out]; exact HD.out.2⟩
        case measure => simp [intOf]; omega
      · have hd2 : -(c % 10) < 0 := by omega
        clear hd
        go_wp2
        go_round
        case rel => exact ⟨c / 10, _, by go_num, by omega, by omega, rfl, HD.out.1, HD.out.2⟩
        case measure => simp [intOf]; omega
set_option maxHeartbeats 400000 in
theorem text_pos (n : Int) (w : World) (h1 : 0 < n) (h2 : n ≤ 9223372036854775807) :
    Calls Tryd.prog 15 #[.int .i64 n] w fun e w' => e = .returned (.string (Tx.txt (Dc.dect n))) ∧ w' = w := by
  have hb : (n == 0) = false := beq_eq_false_iff_ne.2 (by omega)
  have HT : Hid (Dc.dect n = Dc.dg 20 n.natAbs) := by
    show _ = _
    unfold Dc.dect
    rw [if_neg (by omega), if_neg (by omega)]
  go_enter Tryd.func15, Tryd.ntmps15
  go_wp2
  go_loop [3, 4] (fun out m => ∃ (c : Int) (s : ByteArray), m = .int .i64 c ∧ 0 ≤ c ∧ c ≤ 9223372036854775807 ∧ out = .string s ∧ s.size ≤ 20 ∧ Hid (∃ l, s = Tx.txt l ∧ Dc.Left n.natAbs c l)) (fun _ m => (intOf m).toNat)
  case atStart => exact ⟨n, _, rfl, by omega, by omega, rfl, by decide, [], rfl, Dc.left_start _ _ (by omega) (by omega)⟩
  case round =>
    obtain ⟨c, s, rfl, hc0, hc1, rfl, hs, HS⟩ := hrel
    by_cases hz : c = 0
    · subst hz
      have hne : ((0 : Int) != 0) = false := by decide
      have HE : Hid (s = Tx.txt (Dc.dect n)) := by
        obtain ⟨l, rfl, hl⟩ := HS.out
        show _ = _
        rw [HT.out, Dc.left_end hl]
      go_wp2
      go_ret
      exact ⟨ret_str HE.out, rfl⟩
    · have hne : (c != 0) = true := by rw [bne_iff_ne]; omega
      have hsl := slice_dec (c % 10) (by omega) (by omega)
      have HD : Hid ((Tx.txt [48 + c % 10] ++ s).size ≤ 20 ∧ ∃ l, Tx.txt [48 + c % 10] ++ s = Tx.txt l ∧ Dc.Left n.natAbs (c / 10) l) := by
        obtain ⟨l, rfl, hl⟩ := HS.out
        have h3 := Dc.left_step hl (by omega)
        rw [Tx.txt_cons]
        exact ⟨by rw [Tx.txt_size]; exact Dc.left_len h3, _, rfl, h3⟩
      have hd1 : (Tx.txt [48 + c % 10]).size ≤ 1 := by rw [Tx.txt_size]; exact Nat.le_refl _
      generalize Tx.txt [48 + c % 10] = t at hsl HD hd1
      have hd2 : ¬ (c % 10) < 0 := by omega
      go_wp2
      go_round
      case rel => exact ⟨c / 10, _, by go_num, by omega, by omega, rfl, HD.out.1, HD.out.2⟩
      case measure => simp [intOf]; omega
theorem spec_text (n : Int) (w : World) (h1 : -9223372036854775808 ≤ n) (h2 : n ≤ 9223372036854775807) :
    Calls Tryd.prog 15 #[.int .i64 n] w fun e w' => e = .returned (.string (Tx.txt (Dc.dect n))) ∧ w' = w := by
  by_cases h0 : n = 0
  · subst h0; exact text_zero w
  · by_cases hn : n < 0
    · exact text_neg n w hn h1
    · exact text_pos n w (by omega) h2

end Go.Proofs.YthlapikcjiajgaaDoor
