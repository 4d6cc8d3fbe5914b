/-
  What DecNum returns: the specification's and the program's own, the same number, at every text and every bound. Conditions: the text is at most 1048576 bytes long.
-/
import Derived.Test.YtdjapcfejmhjnaaGreatDoorNum
namespace Go.Proofs.YtdjapcfejmhjnaaGreatDoor
open Go.ChangeShapes Go.WideShapes Go.ChangeAt Go.RowKit
set_option linter.unusedVariables false

namespace Dc
theorem dec_bd (most : Int) (h0 : 0 ≤ most) (ds : List Int) (n : Int) (h : dec most ds true 0 = some n) : 0 ≤ n ∧ n ≤ most := by
  rw [dec_first most h0] at h
  split at h
  · cases h
  · split at h
    · injection h with h; omega
    · split at h
      · cases h
      · cases hd : dv ds 0 with
        | none => rw [hd] at h; cases h
        | some m =>
          rw [hd] at h
          simp only [within, Option.bind_some] at h
          split at h
          · injection h with h
            have := dv_le ds 0 m (by omega) hd
            omega
          · cases h
theorem pow10 (k : Nat) (hk : k < 11) (c d : Int) (h0 : 0 ≤ c) (h1 : c < 10 ^ k) (d0 : 0 ≤ d) (d1 : d ≤ 9) : 0 ≤ 10 * c + d ∧ 10 * c + d < 10 ^ (k + 1) ∧ 10 * c + d ≤ 99999999999 := by
  have hp : (10 : Int) ^ (k + 1) = 10 ^ k * 10 := Int.pow_succ _ _
  have hq : (10 : Int) ^ k ≤ 10 ^ 10 := by
    have : (10 : Nat) ^ k ≤ 10 ^ 10 := Nat.pow_le_pow_right (by omega) (by omega)
    exact_mod_cast this
  omega
/-- What DecNum answers. -/
def ans (s : List Int) (most : Int) : Option Int := if 0 ≤ most ∧ most ≤ 4294967295 then num s most else none
end Dc

theorem size_none (t : ByteArray) (most : Int) (w : World) (hm0 : 0 ≤ most) (hm1 : most ≤ 4294967295) (ht : t.size ≤ 1048576) (h : Dc.dec most (Tx.nums t) true 0 = none) :
    Calls Tryz.prog 142 #[.string t, .int .i64 most] w fun e w' => e = .returned (.tuple #[.int .i64 0, .bool false]) ∧ Below w.heap.size w w' := by
  have := size_any t most w hm0 hm1 ht
  rw [h] at this
  exact this
theorem size_some (t : ByteArray) (most : Int) (w : World) (hm0 : 0 ≤ most) (hm1 : most ≤ 4294967295) (ht : t.size ≤ 1048576) (z : Int) (h : Dc.dec most (Tx.nums t) true 0 = some z) :
    Calls Tryz.prog 142 #[.string t, .int .i64 most] w fun e w' => e = .returned (.tuple #[.int .i64 z, .bool true]) ∧ Below w.heap.size w w' := by
  have := size_any t most w hm0 hm1 ht
  rw [h] at this
  exact this
set_option maxHeartbeats 400000 in
theorem cut_yes (s : ByteArray) (w : World) (h0 : 0 < s.size) (hs : s.size ≤ 1048576) (hh : (Tx.nums s).head? = some 45) :
    Calls Tryz.prog 141 #[.string s, .string ⟨#[45]⟩] w fun e w' => e = .returned (.tuple #[.string (s.extract 1 s.size), .bool true]) ∧ w' = w := by
  have ht := Tx.head_test s h0
  rw [hh] at ht
  simp only [decide_true] at ht
  clear hh
  go_enter Tryz.func141, Tryz.ntmps141
  go_wp2
  go_ret2
  exact ⟨rfl, rfl⟩
set_option maxHeartbeats 400000 in
theorem cut_no (s : ByteArray) (w : World) (hs : s.size ≤ 1048576) (hh : (Tx.nums s).head? ≠ some 45) :
    Calls Tryz.prog 141 #[.string s, .string ⟨#[45]⟩] w fun e w' => e = .returned (.tuple #[.string s, .bool false]) ∧ w' = w := by
  by_cases h0 : 0 < s.size
  · have ht := Tx.head_test s h0
    rw [decide_eq_false hh] at ht
    clear hh
    go_enter Tryz.func141, Tryz.ntmps141
    go_wp2
    go_ret2
    exact ⟨rfl, rfl⟩
  · have h1 : ¬ 1 ≤ (s.size : Int) := by omega
    clear hh
    go_enter Tryz.func141, Tryz.ntmps141
    go_wp2
    go_ret2
    exact ⟨rfl, rfl⟩

/-! ### The program's own -/
set_option maxHeartbeats 400000 in
theorem impl_out (s : ByteArray) (most : Int) (w : World) (h : most < 0 ∨ 4294967295 < most) :
    Calls Tryz.prog 122 #[.string s, .int .i64 most] w fun e w' => e = .returned (.tuple #[.int .i64 0, .bool false]) ∧ Below w.heap.size w w' := by
  by_cases h1 : most < 0
  · clear h
    go_enter Tryz.func122, Tryz.ntmps122
    go_wp2
    go_ret2
    exact ⟨rfl, Below.refl _ _⟩
  · have h2 : 4294967295 < most := by omega
    clear h
    go_enter Tryz.func122, Tryz.ntmps122
    go_wp2
    go_ret2
    exact ⟨rfl, Below.refl _ _⟩
set_option maxHeartbeats 400000 in
theorem impl_none (s t : ByteArray) (b : Bool) (most : Int) (w : World) (hm0 : 0 ≤ most) (hm1 : most ≤ 4294967295) (ht : t.size ≤ 1048576)
    (hc : Calls Tryz.prog 141 #[.string s, .string ⟨#[45]⟩] w fun e w' => e = .returned (.tuple #[.string t, .bool b]) ∧ w' = w) (h : Dc.dec most (Tx.nums t) true 0 = none) :
    Calls Tryz.prog 122 #[.string s, .int .i64 most] w fun e w' => e = .returned (.tuple #[.int .i64 0, .bool false]) ∧ Below w.heap.size w w' := by
  have HC : Hid _ := hc
  have HN : Hid _ := h
  clear hc h
  cases b
  all_goals
    go_enter Tryz.func122, Tryz.ntmps122
    go_wp2_with fail
    refine Calls.mono HC.out ?_
    rintro e w' ⟨rfl, rfl⟩
    go_wp2_with fail
    refine (size_none t most _ hm0 hm1 ht HN.out).mono ?_
    rintro e w2 ⟨rfl, hb⟩
    go_wp2
    go_ret2
    exact ⟨rfl, hb⟩
set_option maxHeartbeats 400000 in
theorem impl_plain (s t : ByteArray) (most z : Int) (w : World) (hm0 : 0 ≤ most) (hm1 : most ≤ 4294967295) (ht : t.size ≤ 1048576)
    (hc : Calls Tryz.prog 141 #[.string s, .string ⟨#[45]⟩] w fun e w' => e = .returned (.tuple #[.string t, .bool false]) ∧ w' = w) (h : Dc.dec most (Tx.nums t) true 0 = some z) :
    Calls Tryz.prog 122 #[.string s, .int .i64 most] w fun e w' => e = .returned (.tuple #[.int .i64 z, .bool true]) ∧ Below w.heap.size w w' := by
  have HC : Hid _ := hc
  have HN : Hid _ := h
  obtain ⟨hz0, hz1⟩ := Dc.dec_bd most hm0 _ z h
  clear hc h
  go_enter Tryz.func122, Tryz.ntmps122
  go_wp2_with fail
  refine Calls.mono HC.out ?_
  rintro e w' ⟨rfl, rfl⟩
  go_wp2_with fail
  refine (size_some t most _ hm0 hm1 ht z HN.out).mono ?_
  rintro e w2 ⟨rfl, hb⟩
  go_wp2
  go_ret2
  exact ⟨rfl, hb⟩
set_option maxHeartbeats 400000 in
theorem impl_zero (s t : ByteArray) (most z : Int) (w : World) (hm0 : 0 ≤ most) (hm1 : most ≤ 4294967295) (ht : t.size ≤ 1048576) (h0 : z = 0)
    (hc : Calls Tryz.prog 141 #[.string s, .string ⟨#[45]⟩] w fun e w' => e = .returned (.tuple #[.string t, .bool true]) ∧ w' = w) (h : Dc.dec most (Tx.nums t) true 0 = some z) :
    Calls Tryz.prog 122 #[.string s, .int .i64 most] w fun e w' => e = .returned (.tuple #[.int .i64 0, .bool false]) ∧ Below w.heap.size w w' := by
  have HC : Hid _ := hc
  have HN : Hid _ := h
  have hz : (z == 0) = true := by simp [h0]
  clear hc h h0
  go_enter Tryz.func122, Tryz.ntmps122
  go_wp2_with fail
  refine Calls.mono HC.out ?_
  rintro e w' ⟨rfl, rfl⟩
  go_wp2_with fail
  refine (size_some t most _ hm0 hm1 ht z HN.out).mono ?_
  rintro e w2 ⟨rfl, hb⟩
  go_wp2
  go_ret2
  exact ⟨rfl, hb⟩
set_option maxHeartbeats 400000 in
theorem impl_neg (s t : ByteArray) (most z : Int) (w : World) (hm0 : 0 ≤ most) (hm1 : most ≤ 4294967295) (ht : t.size ≤ 1048576) (h0 : z ≠ 0)
    (hc : Calls Tryz.prog 141 #[.string s, .string ⟨#[45]⟩] w fun e w' => e = .returned (.tuple #[.string t, .bool true]) ∧ w' = w) (h : Dc.dec most (Tx.nums t) true 0 = some z) :
    Calls Tryz.prog 122 #[.string s, .int .i64 most] w fun e w' => e = .returned (.tuple #[.int .i64 (-z), .bool true]) ∧ Below w.heap.size w w' := by
  have HC : Hid _ := hc
  have HN : Hid _ := h
  obtain ⟨hz0, hz1⟩ := Dc.dec_bd most hm0 _ z h
  have hz : (z == 0) = false := beq_eq_false_iff_ne.2 h0
  clear hc h h0
  go_enter Tryz.func122, Tryz.ntmps122
  go_wp2_with fail
  refine Calls.mono HC.out ?_
  rintro e w' ⟨rfl, rfl⟩
  go_wp2_with fail
  refine (size_some t most _ hm0 hm1 ht z HN.out).mono ?_
  rintro e w2 ⟨rfl, hb⟩
  go_wp2
  go_ret2
  exact ⟨rfl, hb⟩
theorem impl_num (s : ByteArray) (most : Int) (w : World) (hs : s.size ≤ 1048576) :
    Calls Tryz.prog 122 #[.string s, .int .i64 most] w fun e w' => e = tell (Dc.ans (Tx.nums s) most) ∧ Below w.heap.size w w' := by
  by_cases hm : 0 ≤ most ∧ most ≤ 4294967295
  · obtain ⟨hm0, hm1⟩ := hm
    have e1 : Dc.ans (Tx.nums s) most = Dc.num (Tx.nums s) most := by unfold Dc.ans; rw [if_pos ⟨hm0, hm1⟩]
    rw [e1]
    by_cases hh : (Tx.nums s).head? = some 45
    · have h0 : 0 < s.size := by
        have := Tx.nums_len s
        cases hl : Tx.nums s with
        | nil => rw [hl] at hh; cases hh
        | cons a l => rw [hl] at this; simp at this; omega
      have ht : (s.extract 1 s.size).size ≤ 1048576 := by
        have := Tx.nums_len (s.extract 1 s.size)
        rw [Tx.nums_tail, List.length_tail, Tx.nums_len] at this
        omega
      rw [Dc.num, if_pos hh]
      cases hd : Dc.dec most (Tx.nums s).tail true 0 with
      | none =>
        exact (impl_none s _ true most w hm0 hm1 ht (cut_yes s w h0 hs hh) (by rw [Tx.nums_tail]; exact hd)).mono fun e w' h => h
      | some z =>
        by_cases hz : z = 0
        · simp only [Option.bind_some]
          rw [if_pos hz]
          exact impl_zero s _ most z w hm0 hm1 ht hz (cut_yes s w h0 hs hh) (by rw [Tx.nums_tail]; exact hd)
        · simp only [Option.bind_some]
          rw [if_neg hz]
          exact impl_neg s _ most z w hm0 hm1 ht hz (cut_yes s w h0 hs hh) (by rw [Tx.nums_tail]; exact hd)
    · rw [Dc.num, if_neg hh]
      cases hd : Dc.dec most (Tx.nums s) true 0 with
      | none => exact impl_none s s false most w hm0 hm1 hs (cut_no s w hs hh) hd
      | some z => exact impl_plain s s most z w hm0 hm1 hs (cut_no s w hs hh) hd
  · have e1 : Dc.ans (Tx.nums s) most = none := by unfold Dc.ans; rw [if_neg hm]
    rw [e1]
    exact impl_out s most w (by omega)

/-! ### The specification's -/
set_option maxHeartbeats 400000 in
theorem nin_yes (x a b : Int) (w : World) (h1 : a ≤ x) (h2 : x ≤ b) :
    Calls Tryz.prog 61 #[.int .i64 x, .int .i64 a, .int .i64 b] w fun e w' => e = .returned (.bool true) ∧ w' = w := by
  go_enter Tryz.func61, Tryz.ntmps61
  go_wp2
  go_ret
  exact ⟨rfl, rfl⟩
set_option maxHeartbeats 400000 in
theorem nin_no (x a b : Int) (w : World) (h : x < a ∨ b < x) :
    Calls Tryz.prog 61 #[.int .i64 x, .int .i64 a, .int .i64 b] w fun e w' => e = .returned (.bool false) ∧ w' = w := by
  by_cases h1 : a ≤ x
  · have h2 : ¬ x ≤ b := by omega
    clear h
    go_enter Tryz.func61, Tryz.ntmps61
    go_wp2
    go_ret
    exact ⟨rfl, rfl⟩
  · clear h
    go_enter Tryz.func61, Tryz.ntmps61
    go_wp2
    go_ret
    exact ⟨rfl, rfl⟩
set_option maxHeartbeats 400000 in
theorem spec_out (s : ByteArray) (most : Int) (w : World) (h : (most < 0 ∨ 4294967295 < most) ∨ s.size = 0 ∨ 12 ≤ s.size) (hs : s.size ≤ 1048576) :
    Calls Tryz.prog 85 #[.string s, .int .i64 most] w fun e w' => e = .returned (.tuple #[.int .i64 0, .bool false]) ∧ w' = w := by
  by_cases h1 : most < 0 ∨ 4294967295 < most
  · have H1 : Hid _ := h1
    clear h h1
    go_enter Tryz.func85, Tryz.ntmps85
    go_wp2_with fail
    refine (nin_no _ _ _ _ H1.out).mono ?_
    rintro e w' ⟨rfl, rfl⟩
    go_wp2
    go_ret2
    exact ⟨rfl, rfl⟩
  · have hm0 : 0 ≤ most := by omega
    have hm1 : most ≤ 4294967295 := by omega
    by_cases h2 : s.size = 0
    · have hb : ((s.size : Int) == 0) = true := by simp [h2]
      clear h h1 h2
      go_enter Tryz.func85, Tryz.ntmps85
      go_wp2_with fail
      refine (nin_yes _ _ _ _ hm0 hm1).mono ?_
      rintro e w' ⟨rfl, rfl⟩
      go_wp2
      go_ret2
      exact ⟨rfl, rfl⟩
    · have hb : ((s.size : Int) == 0) = false := beq_eq_false_iff_ne.2 (by omega)
      have h3 : 11 < (s.size : Int) := by omega
      clear h h1 h2
      go_enter Tryz.func85, Tryz.ntmps85
      go_wp2_with fail
      refine (nin_yes _ _ _ _ hm0 hm1).mono ?_
      rintro e w' ⟨rfl, rfl⟩
      go_wp2
      go_ret2
      exact ⟨rfl, rfl⟩

set_option maxHeartbeats 1000000 in
theorem spec_plain (s : ByteArray) (most : Int) (w : World) (hm0 : 0 ≤ most) (hm1 : most ≤ 4294967295) (h0 : 0 < s.size) (hs : s.size ≤ 11) (hh : ¬ (s[0].toNat : Int) = 45) :
    Calls Tryz.prog 85 #[.string s, .int .i64 most] w fun e w' => e = tell (Dc.held (Tx.nums s) most (Dc.dv ((Tx.nums s).drop 0) 0)) ∧ w' = w := by
  have hb0 : ((s.size : Int) == 0) = false := beq_eq_false_iff_ne.2 (by omega)
  have hb45 : ((s[0].toNat : Int) == 45) = false := beq_eq_false_iff_ne.2 hh
  have h3 : ¬ 11 < (s.size : Int) := by omega
  clear hh
  go_enter Tryz.func85, Tryz.ntmps85
  go_wp2_with fail
  refine (nin_yes _ _ _ _ hm0 hm1).mono ?_
  rintro e w' ⟨rfl, rfl⟩
  go_wp2
  go_loop [7, 8] (fun n i => ∃ (k : Nat) (c : Int), k ≤ s.size ∧ i = .int .i64 k ∧ n = .int .i64 c ∧ 0 ≤ c ∧ c ≤ 99999999999 ∧ Hid (c < 10 ^ k ∧ Dc.dv ((Tx.nums s).drop k) c = Dc.dv ((Tx.nums s).drop 0) 0)) (fun _ i => s.size - (intOf i).toNat)
  case atStart => exact ⟨0, 0, by omega, rfl, rfl, by omega, by omega, by decide, rfl⟩
  case round =>
    obtain ⟨k, c, hk, rfl, rfl, hc0, hc1, HC⟩ := hrel
    by_cases hlt : k < s.size
    · have HD : Hid _ := Tx.nums_drop s k hlt
      have hby : (s[k].toNat : Int) ≤ 255 := by have := s[k].toNat_lt; omega
      by_cases h1 : 48 ≤ (s[k].toNat : Int) ∧ (s[k].toNat : Int) ≤ 57
      · have HV : Hid (Dc.dv ((Tx.nums s).drop (k + 1)) (10 * c + ((s[k].toNat : Int) - 48)) = Dc.dv ((Tx.nums s).drop 0) 0) := by
          show _ = _
          rw [← HC.out.2, HD.out, Dc.dv_cons _ _ _ h1]
        have HP : Hid _ := Dc.pow10 k (by omega) c ((s[k].toNat : Int) - 48) hc0 HC.out.1 (by omega) (by omega)
        obtain ⟨h11, h12⟩ := h1
        go_wp2_with fail
        refine (nin_yes _ _ _ _ ?_ ?_).mono ?_
        · omega
        · omega
        rintro e w' ⟨rfl, rfl⟩
        go_wp2
        go_round
        case rel => exact ⟨k + 1, 10 * c + ((s[k].toNat : Int) - 48), by omega, by go_num, by go_num, HP.out.1, HP.out.2.2, HP.out.2.1, HV⟩
        case measure => simp [intOf]; omega
      · have HR : Hid (Dc.held (Tx.nums s) most (Dc.dv ((Tx.nums s).drop 0) 0) = none) := by
          show _ = _
          rw [← HC.out.2, HD.out, Dc.dv_bad _ _ _ h1]; rfl
        have H1 : Hid ((s[k].toNat : Int) < 48 ∨ 57 < (s[k].toNat : Int)) := by show _ ∨ _; omega
        clear h1
        go_wp2_with fail
        refine (nin_no _ _ _ _ ?_).mono ?_
        · have := H1.out; omega
        rintro e w' ⟨rfl, rfl⟩
        go_wp2
        go_ret2
        exact ⟨tell_none HR.out, rfl⟩
    · have hdr : (Tx.nums s).drop k = [] := List.drop_of_length_le (by rw [Tx.nums_len]; omega)
      have HD : Hid ((Dc.dv ((Tx.nums s).drop 0) 0) = some (c)) := by
        show _ = _
        rw [← HC.out.2, hdr]; rfl
      clear hdr
      by_cases he : Dc.dect (c) = Tx.nums s
      · have HE : Hid _ := Tx.txt_eq _ s he
        by_cases hr : c ≤ most ∧ -most ≤ c
        · have HR : Hid (Dc.held (Tx.nums s) most (Dc.dv ((Tx.nums s).drop 0) 0) = some (c)) := by
            show _ = _
            rw [HD.out]
            simp only [Dc.held, Option.bind_some]
            rw [if_pos ⟨he, hr.1, hr.2⟩]
          obtain ⟨hr1, hr2⟩ := hr
          clear he
          go_wp2_with fail
          refine (spec_text _ _ ?_ ?_).mono ?_
          · omega
          · omega
          rintro e w' ⟨rfl, rfl⟩
          rw [HE.out]
          go_wp2
          go_ret2
          exact ⟨tell_some HR.out, rfl⟩
        · have HR : Hid (Dc.held (Tx.nums s) most (Dc.dv ((Tx.nums s).drop 0) 0) = none) := by
            show _ = _
            rw [HD.out]
            simp only [Dc.held, Option.bind_some]
            rw [if_neg (fun h => hr h.2)]
          clear he
          by_cases hr1 : most < c
          · clear hr
            go_wp2_with fail
            refine (spec_text _ _ ?_ ?_).mono ?_
            · omega
            · omega
            rintro e w' ⟨rfl, rfl⟩
            rw [HE.out]
            go_wp2
            go_ret2
            exact ⟨tell_none HR.out, rfl⟩
          · have hr2 : c < -most := by omega
            clear hr
            go_wp2_with fail
            refine (spec_text _ _ ?_ ?_).mono ?_
            · omega
            · omega
            rintro e w' ⟨rfl, rfl⟩
            rw [HE.out]
            go_wp2
            go_ret2
            exact ⟨tell_none HR.out, rfl⟩
      · have HR : Hid (Dc.held (Tx.nums s) most (Dc.dv ((Tx.nums s).drop 0) 0) = none) := by
          show _ = _
          rw [HD.out]
          simp only [Dc.held, Option.bind_some]
          rw [if_neg (fun h => he h.1)]
        have hne := Tx.list_ne _ s (Tx.txt_ne _ s (Dc.dect_byte (c)) he)
        clear he
        go_wp2_with fail
        refine (spec_text _ _ ?_ ?_).mono ?_
        · omega
        · omega
        rintro e w' ⟨rfl, rfl⟩
        generalize Tx.txt (Dc.dect (c)) = t at hne
        go_wp2
        go_ret2
        exact ⟨tell_none HR.out, rfl⟩

set_option maxHeartbeats 1000000 in
theorem spec_signed (s : ByteArray) (most : Int) (w : World) (hm0 : 0 ≤ most) (hm1 : most ≤ 4294967295) (h0 : 0 < s.size) (hs : s.size ≤ 11) (hh : (s[0].toNat : Int) = 45) :
    Calls Tryz.prog 85 #[.string s, .int .i64 most] w fun e w' => e = tell (Dc.held (Tx.nums s) most ((Dc.dv ((Tx.nums s).drop 1) 0).map fun n => -n)) ∧ w' = w := by
  have hb0 : ((s.size : Int) == 0) = false := beq_eq_false_iff_ne.2 (by omega)
  have hb45 : ((s[0].toNat : Int) == 45) = true := by simp [hh]
  have h3 : ¬ 11 < (s.size : Int) := by omega
  clear hh
  go_enter Tryz.func85, Tryz.ntmps85
  go_wp2_with fail
  refine (nin_yes _ _ _ _ hm0 hm1).mono ?_
  rintro e w' ⟨rfl, rfl⟩
  go_wp2
  go_loop [7, 8] (fun n i => ∃ (k : Nat) (c : Int), k ≤ s.size ∧ i = .int .i64 k ∧ n = .int .i64 c ∧ 0 ≤ c ∧ c ≤ 99999999999 ∧ Hid (c < 10 ^ k ∧ Dc.dv ((Tx.nums s).drop k) c = Dc.dv ((Tx.nums s).drop 1) 0)) (fun _ i => s.size - (intOf i).toNat)
  case atStart => exact ⟨1, 0, by omega, rfl, rfl, by omega, by omega, by decide, rfl⟩
  case round =>
    obtain ⟨k, c, hk, rfl, rfl, hc0, hc1, HC⟩ := hrel
    by_cases hlt : k < s.size
    · have HD : Hid _ := Tx.nums_drop s k hlt
      have hby : (s[k].toNat : Int) ≤ 255 := by have := s[k].toNat_lt; omega
      by_cases h1 : 48 ≤ (s[k].toNat : Int) ∧ (s[k].toNat : Int) ≤ 57
      · have HV : Hid (Dc.dv ((Tx.nums s).drop (k + 1)) (10 * c + ((s[k].toNat : Int) - 48)) = Dc.dv ((Tx.nums s).drop 1) 0) := by
          show _ = _
          rw [← HC.out.2, HD.out, Dc.dv_cons _ _ _ h1]
        have HP : Hid _ := Dc.pow10 k (by omega) c ((s[k].toNat : Int) - 48) hc0 HC.out.1 (by omega) (by omega)
        obtain ⟨h11, h12⟩ := h1
        go_wp2_with fail
        refine (nin_yes _ _ _ _ ?_ ?_).mono ?_
        · omega
        · omega
        rintro e w' ⟨rfl, rfl⟩
        go_wp2
        go_round
        case rel => exact ⟨k + 1, 10 * c + ((s[k].toNat : Int) - 48), by omega, by go_num, by go_num, HP.out.1, HP.out.2.2, HP.out.2.1, HV⟩
        case measure => simp [intOf]; omega
      · have HR : Hid (Dc.held (Tx.nums s) most ((Dc.dv ((Tx.nums s).drop 1) 0).map fun n => -n) = none) := by
          show _ = _
          rw [← HC.out.2, HD.out, Dc.dv_bad _ _ _ h1]; rfl
        have H1 : Hid ((s[k].toNat : Int) < 48 ∨ 57 < (s[k].toNat : Int)) := by show _ ∨ _; omega
        clear h1
        go_wp2_with fail
        refine (nin_no _ _ _ _ ?_).mono ?_
        · have := H1.out; omega
        rintro e w' ⟨rfl, rfl⟩
        go_wp2
        go_ret2
        exact ⟨tell_none HR.out, rfl⟩
    · have hdr : (Tx.nums s).drop k = [] := List.drop_of_length_le (by rw [Tx.nums_len]; omega)
      have HD : Hid (((Dc.dv ((Tx.nums s).drop 1) 0).map fun n => -n) = some (-c)) := by
        show _ = _
        rw [← HC.out.2, hdr]; rfl
      clear hdr
      by_cases he : Dc.dect (-c) = Tx.nums s
      · have HE : Hid _ := Tx.txt_eq _ s he
        by_cases hr : -c ≤ most ∧ -most ≤ -c
        · have HR : Hid (Dc.held (Tx.nums s) most ((Dc.dv ((Tx.nums s).drop 1) 0).map fun n => -n) = some (-c)) := by
            show _ = _
            rw [HD.out]
            simp only [Dc.held, Option.bind_some]
            rw [if_pos ⟨he, hr.1, hr.2⟩]
          obtain ⟨hr1, hr2⟩ := hr
          clear he
          go_wp2_with fail
          refine (spec_text _ _ ?_ ?_).mono ?_
          · omega
          · omega
          rintro e w' ⟨rfl, rfl⟩
          rw [HE.out]
          go_wp2
          go_ret2
          exact ⟨tell_some HR.out, rfl⟩
        · have HR : Hid (Dc.held (Tx.nums s) most ((Dc.dv ((Tx.nums s).drop 1) 0).map fun n => -n) = none) := by
            show _ = _
            rw [HD.out]
            simp only [Dc.held, Option.bind_some]
            rw [if_neg (fun h => hr h.2)]
          clear he
          by_cases hr1 : most < -c
          · clear hr
            go_wp2_with fail
            refine (spec_text _ _ ?_ ?_).mono ?_
            · omega
            · omega
            rintro e w' ⟨rfl, rfl⟩
            rw [HE.out]
            go_wp2
            go_ret2
            exact ⟨tell_none HR.out, rfl⟩
          · have hr2 : -c < -most := by omega
            clear hr
            go_wp2_with fail
            refine (spec_text _ _ ?_ ?_).mono ?_
            · omega
            · omega
            rintro e w' ⟨rfl, rfl⟩
            rw [HE.out]
            go_wp2
            go_ret2
            exact ⟨tell_none HR.out, rfl⟩
      · have HR : Hid (Dc.held (Tx.nums s) most ((Dc.dv ((Tx.nums s).drop 1) 0).map fun n => -n) = none) := by
          show _ = _
          rw [HD.out]
          simp only [Dc.held, Option.bind_some]
          rw [if_neg (fun h => he h.1)]
        have hne := Tx.list_ne _ s (Tx.txt_ne _ s (Dc.dect_byte (-c)) he)
        clear he
        go_wp2_with fail
        refine (spec_text _ _ ?_ ?_).mono ?_
        · omega
        · omega
        rintro e w' ⟨rfl, rfl⟩
        generalize Tx.txt (Dc.dect (-c)) = t at hne
        go_wp2
        go_ret2
        exact ⟨tell_none HR.out, rfl⟩

theorem spec_num (s : ByteArray) (most : Int) (w : World) (hs : s.size ≤ 1048576) :
    Calls Tryz.prog 85 #[.string s, .int .i64 most] w fun e w' => e = tell (Dc.ans (Tx.nums s) most) ∧ w' = w := by
  by_cases hm : 0 ≤ most ∧ most ≤ 4294967295
  · obtain ⟨hm0, hm1⟩ := hm
    have e1 : Dc.ans (Tx.nums s) most = Dc.num (Tx.nums s) most := by unfold Dc.ans; rw [if_pos ⟨hm0, hm1⟩]
    rw [e1]
    have hl := Tx.nums_len s
    by_cases h0 : s.size = 0
    · have : Tx.nums s = [] := List.length_eq_zero_iff.1 (by omega)
      rw [this]
      exact spec_out s most w (by omega) hs
    · by_cases h12 : 12 ≤ s.size
      · rw [Dc.num_long _ most hm0 hm1 (by omega)]
        exact spec_out s most w (by omega) hs
      · have hh := Tx.nums_head s (by omega)
        by_cases h45 : (s[0].toNat : Int) = 45
        · have hc := Tx.nums_drop s 0 (by omega)
          rw [List.drop_zero, h45] at hc
          have := spec_signed s most w hm0 hm1 (by omega) (by omega) h45
          have hd1 : (Tx.nums s).drop 1 = (Tx.nums s).drop (0 + 1) := rfl
          rw [hd1] at this
          generalize hrest : (Tx.nums s).drop (0 + 1) = rest at this hc
          have hrl : rest.length ≤ 10 := by rw [← hrest, List.length_drop]; omega
          rw [hc, Dc.signed rest most hm0 hrl] at this
          rw [hc]
          exact this
        · have := spec_plain s most w hm0 hm1 (by omega) (by omega) h45
          rw [List.drop_zero, Dc.plain _ most hm0 (by omega) (Tx.nums_ne s (by omega)) (by rw [hh]; intro e; injection e with e; exact h45 e)] at this
          exact this
  · have e1 : Dc.ans (Tx.nums s) most = none := by unfold Dc.ans; rw [if_neg hm]
    rw [e1]
    exact spec_out s most w (by omega) hs

end Go.Proofs.YtdjapcfejmhjnaaGreatDoor
