/-
  What DecText and DecNum of the program return. Conditions: a text is at most 1048576 bytes long; the library's table of powers of ten holds what the program's text lays.
-/
import Derived.Test.YtbapnfocifnacadDoorHex
import Derived.Test.YtbapnfocifnacadDoorShelf
namespace Go.Proofs.YtbapnfocifnacadDoor
open Go.ChangeShapes Go.WideShapes Go.ChangeAt Go.RowKit
set_option linter.unusedVariables false

namespace Dc
theorem dec_ok (most : Int) (b : Int) (l : List Int) (first : Bool) (z : Int) (hb : 48 ≤ b ∧ b ≤ 57) (hz : first = true ∨ z ≠ 0) (hm : ¬ most < 10 * z + (b - 48)) : dec most (b :: l) first z = dec most l false (10 * z + (b - 48)) := by
  rw [dec, if_pos ⟨hb, hz⟩, if_neg hm]
theorem dec_over (most : Int) (b : Int) (l : List Int) (first : Bool) (z : Int) (hm : most < 10 * z + (b - 48)) : dec most (b :: l) first z = none := by
  unfold dec
  simp [hm]
theorem dec_no (most : Int) (b : Int) (l : List Int) (first : Bool) (z : Int) (h : ¬ ((48 ≤ b ∧ b ≤ 57) ∧ (first = true ∨ z ≠ 0))) : dec most (b :: l) first z = none := by
  rw [dec, if_neg h]
end Dc
/-- What is told of a number that may not be there. -/
def tell (o : Option Int) : Ending := .returned (.tuple #[.int .i64 (o.getD 0), .bool o.isSome])
theorem tell_none {o : Option Int} (h : o = none) : Ending.returned (.tuple #[.int .i64 0, .bool false]) = tell o := by rw [h]; rfl
theorem tell_some {o : Option Int} {z : Int} (h : o = some z) : Ending.returned (.tuple #[.int .i64 z, .bool true]) = tell o := by rw [h]; rfl

set_option maxHeartbeats 1000000 in
theorem size_any (t : ByteArray) (most : Int) (w : World) (hm0 : 0 ≤ most) (hm1 : most ≤ 4294967295) (ht : t.size ≤ 1048576) :
    Calls Tryd.prog 23 #[.string t, .int .i64 most] w fun e w' => e = tell (Dc.dec most (Tx.nums t) true 0) ∧ Below w.heap.size w w' := by
  have HBW : Hid (∀ p, Below w.heap.size w (w.iter t p)) := fun p => (Below.refl _ _).alloc (Nat.le_refl _) _
  go_enter Tryd.func23, Tryd.ntmps23
  go_wp2
  go_loopw [6] (fun n wr => ∃ (k : Nat) (c : Int), wr = w.iter t k ∧ k ≤ t.size ∧ n = .int .i64 c ∧ 0 ≤ c ∧ c ≤ most ∧ Hid (Dc.dec most ((Tx.nums t).drop k) (decide (k = 0)) c = Dc.dec most (Tx.nums t) true 0) ∧ Hid (k = 0 → c = 0)) (fun _ wr => t.size - wr.iterPos w.heap.size)
  case atStart => exact ⟨0, 0, rfl, by omega, rfl, by omega, by omega, by simp [Hid], fun _ => rfl⟩
  case round =>
    obtain ⟨k, c, rfl, hk, rfl, hc0, hc1, HC, HK⟩ := hrel
    by_cases hlt : k < t.size
    · have HD : Hid _ := Tx.nums_drop t k hlt
      by_cases ha : t[k].toNat < 128
      · have hnx : ∀ ty, (Instr.next (.pointer (some ⟨w.heap.size, 0, none⟩)) true ty).run Tryd.prog (w.iter t k) = _ := fun ty => run_next_ascii w t k ty hlt ha
        by_cases h1 : 48 ≤ (t[k].toNat : Int) ∧ (t[k].toNat : Int) ≤ 57
        · by_cases hz : k = 0 ∨ c ≠ 0
          · by_cases hm : most < 10 * c + ((t[k].toNat : Int) - 48)
            · have HR : Hid (Dc.dec most (Tx.nums t) true 0 = none) := by
                show _ = _
                rw [← HC.out, HD.out, Dc.dec_over _ _ _ _ _ hm]
              obtain ⟨h11, h12⟩ := h1
              by_cases hk0 : k = 0
              · subst hk0
                clear hz
                go_wp2
                go_ret2
                exact ⟨tell_none HR.out, HBW.out _⟩
              · have hz1 : (c == 0) = false := beq_eq_false_iff_ne.2 (by omega)
                have hk1 : 0 < k := by omega
                clear hz hk0
                go_wp2
                go_ret2
                exact ⟨tell_none HR.out, HBW.out _⟩
            · have HV : Hid (Dc.dec most ((Tx.nums t).drop (k + 1)) (decide (k + 1 = 0)) (10 * c + ((t[k].toNat : Int) - 48)) = Dc.dec most (Tx.nums t) true 0) := by
                show _ = _
                rw [← HC.out, HD.out, Dc.dec_ok _ _ _ _ _ h1 (by rcases hz with h | h; left; simp [h]; right; exact h) hm]
                simp
              obtain ⟨h11, h12⟩ := h1
              by_cases hk0 : k = 0
              · subst hk0
                clear hz
                go_wp2
                go_roundw
                case rel => exact ⟨0 + 1, 10 * c + ((t[0].toNat : Int) - 48), rfl, by omega, by go_num, by omega, by omega, HV, fun h => absurd h (by omega)⟩
                case measure => simp; omega
              · have hz1 : (c == 0) = false := beq_eq_false_iff_ne.2 (by omega)
                have hk1 : 0 < k := by omega
                clear hz hk0
                go_wp2
                go_roundw
                case rel => exact ⟨k + 1, 10 * c + ((t[k].toNat : Int) - 48), rfl, by omega, by go_num, by omega, by omega, HV, fun h => absurd h (by omega)⟩
                case measure => simp; omega
          · have hk1 : 0 < k := by omega
            obtain rfl : c = 0 := by omega
            have HR : Hid (Dc.dec most (Tx.nums t) true 0 = none) := by
              show _ = _
              rw [← HC.out, HD.out, Dc.dec_no _ _ _ _ _ (by simp; omega)]
            obtain ⟨h11, h12⟩ := h1
            clear hz
            go_wp2
            go_ret2
            exact ⟨tell_none HR.out, HBW.out _⟩
        · have HR : Hid (Dc.dec most (Tx.nums t) true 0 = none) := by
            show _ = _
            rw [← HC.out, HD.out, Dc.dec_no _ _ _ _ _ (fun h => h1 h.1)]
          by_cases h2 : (t[k].toNat : Int) < 48
          · clear h1
            by_cases hk0 : k = 0
            · subst hk0
              go_wp2
              go_ret2
              exact ⟨tell_none HR.out, HBW.out _⟩
            · have hk1 : 0 < k := by omega
              clear hk0
              by_cases hc : c = 0
              · have hz1 : (c == 0) = true := by simp [hc]
                clear hc
                go_wp2
                go_ret2
                exact ⟨tell_none HR.out, HBW.out _⟩
              · have hz1 : (c == 0) = false := beq_eq_false_iff_ne.2 hc
                clear hc
                go_wp2
                go_ret2
                exact ⟨tell_none HR.out, HBW.out _⟩
          · have h3 : 57 < (t[k].toNat : Int) := by omega
            clear h1
            by_cases hk0 : k = 0
            · subst hk0
              go_wp2
              go_ret2
              exact ⟨tell_none HR.out, HBW.out _⟩
            · have hk1 : 0 < k := by omega
              clear hk0
              by_cases hc : c = 0
              · have hz1 : (c == 0) = true := by simp [hc]
                clear hc
                go_wp2
                go_ret2
                exact ⟨tell_none HR.out, HBW.out _⟩
              · have hz1 : (c == 0) = false := beq_eq_false_iff_ne.2 hc
                clear hc
                go_wp2
                go_ret2
                exact ⟨tell_none HR.out, HBW.out _⟩
      · have hhi := decode_high t k hlt (by omega)
        have hle := decode_le t k
        have hnx : ∀ ty, (Instr.next (.pointer (some ⟨w.heap.size, 0, none⟩)) true ty).run Tryd.prog (w.iter t k) = _ := fun ty => run_next_any w t k ty hlt
        have HR : Hid (Dc.dec most (Tx.nums t) true 0 = none) := by
          show _ = _
          rw [← HC.out, HD.out, Dc.dec_no _ _ _ _ _ (fun h => by omega)]
        generalize Utf8.decode t k = dc at hnx hhi hle
        obtain ⟨dr, dw⟩ := dc
        simp only at hnx hhi hle
        obtain ⟨hh1, hh2⟩ := hhi
        have h3 : 57 < (dr : Int) := by omega
        have h4 : ¬ (dr : Int) < 48 := by omega
        by_cases hk0 : k = 0
        · subst hk0
          go_wp2
          go_ret2
          exact ⟨tell_none HR.out, HBW.out _⟩
        · have hk1 : 0 < k := by omega
          clear hk0
          by_cases hc : c = 0
          · have hz1 : (c == 0) = true := by simp [hc]
            clear hc
            go_wp2
            go_ret2
            exact ⟨tell_none HR.out, HBW.out _⟩
          · have hz1 : (c == 0) = false := beq_eq_false_iff_ne.2 hc
            clear hc
            go_wp2
            go_ret2
            exact ⟨tell_none HR.out, HBW.out _⟩
    · have hke : k = t.size := by omega
      have hnx : ∀ ty, (Instr.next (.pointer (some ⟨w.heap.size, 0, none⟩)) true ty).run Tryd.prog (w.iter t k) = _ := fun ty => run_next_end w t k ty hlt
      have hdr : (Tx.nums t).drop k = [] := List.drop_of_length_le (by rw [Tx.nums_len]; omega)
      by_cases h0 : k = 0
      · have HR : Hid (Dc.dec most (Tx.nums t) true 0 = none) := by
          show _ = _
          rw [← HC.out, hdr, h0]; rfl
        have he := Tx.empty_yes t (by omega)
        obtain rfl : c = 0 := HK.out h0
        subst h0
        clear hdr hke
        go_wp2
        go_ret2
        exact ⟨tell_none HR.out, HBW.out _⟩
      · have HR : Hid (Dc.dec most (Tx.nums t) true 0 = some c) := by
          show _ = _
          rw [← HC.out, hdr]
          simp [Dc.dec, h0]
        have he := Tx.empty_no t (by omega)
        clear hdr hke
        go_wp2
        go_ret2
        exact ⟨tell_some HR.out, HBW.out _⟩

namespace Dc
theorem dec_bd (most : Int) (h0 : 0 ≤ most) (ds : List Int) (n : Int) (h : dec most ds true 0 = some n) : 0 ≤ n ∧ n ≤ most := by
  rw [dec_first most h0] at h
  split at h
  · cases h
  · split at h
    · injection h with h; omega
    · split at h
      · cases h
      · cases hd : dv ds 0 with
        | none => rw [hd] at h; cases h
        | some m =>
          rw [hd] at h
          simp only [within, Option.bind_some] at h
          split at h
          · injection h with h
            have := dv_le ds 0 m (by omega) hd
            omega
          · cases h
theorem pow10 (k : Nat) (hk : k < 11) (c d : Int) (h0 : 0 ≤ c) (h1 : c < 10 ^ k) (d0 : 0 ≤ d) (d1 : d ≤ 9) : 0 ≤ 10 * c + d ∧ 10 * c + d < 10 ^ (k + 1) ∧ 10 * c + d ≤ 99999999999 := by
  have hp : (10 : Int) ^ (k + 1) = 10 ^ k * 10 := Int.pow_succ _ _
  have hq : (10 : Int) ^ k ≤ 10 ^ 10 := by
    have : (10 : Nat) ^ k ≤ 10 ^ 10 := Nat.pow_le_pow_right (by omega) (by omega)
    exact_mod_cast this
  omega
/-- What DecNum answers. -/
def ans (s : List Int) (most : Int) : Option Int := if 0 ≤ most ∧ most ≤ 4294967295 then num s most else none
end Dc

theorem size_none (t : ByteArray) (most : Int) (w : World) (hm0 : 0 ≤ most) (hm1 : most ≤ 4294967295) (ht : t.size ≤ 1048576) (h : Dc.dec most (Tx.nums t) true 0 = none) :
    Calls Tryd.prog 23 #[.string t, .int .i64 most] w fun e w' => e = .returned (.tuple #[.int .i64 0, .bool false]) ∧ Below w.heap.size w w' := by
  have := size_any t most w hm0 hm1 ht
  rw [h] at this
  exact this
theorem size_some (t : ByteArray) (most : Int) (w : World) (hm0 : 0 ≤ most) (hm1 : most ≤ 4294967295) (ht : t.size ≤ 1048576) (z : Int) (h : Dc.dec most (Tx.nums t) true 0 = some z) :
    Calls Tryd.prog 23 #[.string t, .int .i64 most] w fun e w' => e = .returned (.tuple #[.int .i64 z, .bool true]) ∧ Below w.heap.size w w' := by
  have := size_any t most w hm0 hm1 ht
  rw [h] at this
  exact this
set_option maxHeartbeats 400000 in
theorem cut_yes (s : ByteArray) (w : World) (h0 : 0 < s.size) (hs : s.size ≤ 1048576) (hh : (Tx.nums s).head? = some 45) :
    Calls Tryd.prog 22 #[.string s, .string ⟨#[45]⟩] w fun e w' => e = .returned (.tuple #[.string (s.extract 1 s.size), .bool true]) ∧ w' = w := by
  have ht := Tx.head_test s h0
  rw [hh] at ht
  simp only [decide_true] at ht
  clear hh
  go_enter Tryd.func22, Tryd.ntmps22
  go_wp2
  go_ret2
  exact ⟨rfl, rfl⟩
set_option maxHeartbeats 400000 in
theorem cut_no (s : ByteArray) (w : World) (hs : s.size ≤ 1048576) (hh : (Tx.nums s).head? ≠ some 45) :
    Calls Tryd.prog 22 #[.string s, .string ⟨#[45]⟩] w fun e w' => e = .returned (.tuple #[.string s, .bool false]) ∧ w' = w := by
  by_cases h0 : 0 < s.size
  · have ht := Tx.head_test s h0
    rw [decide_eq_false hh] at ht
    clear hh
    go_enter Tryd.func22, Tryd.ntmps22
    go_wp2
    go_ret2
    exact ⟨rfl, rfl⟩
  · have h1 : ¬ 1 ≤ (s.size : Int) := by omega
    clear hh
    go_enter Tryd.func22, Tryd.ntmps22
    go_wp2
    go_ret2
    exact ⟨rfl, rfl⟩

/-! ### The program's own -/
set_option maxHeartbeats 400000 in
theorem impl_out (s : ByteArray) (most : Int) (w : World) (h : most < 0 ∨ 4294967295 < most) :
    Calls Tryd.prog 11 #[.string s, .int .i64 most] w fun e w' => e = .returned (.tuple #[.int .i64 0, .bool false]) ∧ Below w.heap.size w w' := by
  by_cases h1 : most < 0
  · clear h
    go_enter Tryd.func11, Tryd.ntmps11
    go_wp2
    go_ret2
    exact ⟨rfl, Below.refl _ _⟩
  · have h2 : 4294967295 < most := by omega
    clear h
    go_enter Tryd.func11, Tryd.ntmps11
    go_wp2
    go_ret2
    exact ⟨rfl, Below.refl _ _⟩
set_option maxHeartbeats 400000 in
theorem impl_none (s t : ByteArray) (b : Bool) (most : Int) (w : World) (hm0 : 0 ≤ most) (hm1 : most ≤ 4294967295) (ht : t.size ≤ 1048576)
    (hc : Calls Tryd.prog 22 #[.string s, .string ⟨#[45]⟩] w fun e w' => e = .returned (.tuple #[.string t, .bool b]) ∧ w' = w) (h : Dc.dec most (Tx.nums t) true 0 = none) :
    Calls Tryd.prog 11 #[.string s, .int .i64 most] w fun e w' => e = .returned (.tuple #[.int .i64 0, .bool false]) ∧ Below w.heap.size w w' := by
  have HC : Hid _ := hc
  have HN : Hid _ := h
  clear hc h
  cases b
  all_goals
    go_enter Tryd.func11, Tryd.ntmps11
    go_wp2_with fail
    refine Calls.mono HC.out ?_
    rintro e w' ⟨rfl, rfl⟩
    go_wp2_with fail
    refine (size_none t most _ hm0 hm1 ht HN.out).mono ?_
    rintro e w2 ⟨rfl, hb⟩
    go_wp2
    go_ret2
    exact ⟨rfl, hb⟩
set_option maxHeartbeats 400000 in
theorem impl_plain (s t : ByteArray) (most z : Int) (w : World) (hm0 : 0 ≤ most) (hm1 : most ≤ 4294967295) (ht : t.size ≤ 1048576)
    (hc : Calls Tryd.prog 22 #[.string s, .string ⟨#[45]⟩] w fun e w' => e = .returned (.tuple #[.string t, .bool false]) ∧ w' = w) (h : Dc.dec most (Tx.nums t) true 0 = some z) :
    Calls Tryd.prog 11 #[.string s, .int .i64 most] w fun e w' => e = .returned (.tuple #[.int .i64 z, .bool true]) ∧ Below w.heap.size w w' := by
  have HC : Hid _ := hc
  have HN : Hid _ := h
  obtain ⟨hz0, hz1⟩ := Dc.dec_bd most hm0 _ z h
  clear hc h
  go_enter Tryd.func11, Tryd.ntmps11
  go_wp2_with fail
  refine Calls.mono HC.out ?_
  rintro e w' ⟨rfl, rfl⟩
  go_wp2_with fail
  refine (size_some t most _ hm0 hm1 ht z HN.out).mono ?_
  rintro e w2 ⟨rfl, hb⟩
  go_wp2
  go_ret2
  exact ⟨rfl, hb⟩
set_option maxHeartbeats 400000 in
theorem impl_zero (s t : ByteArray) (most z : Int) (w : World) (hm0 : 0 ≤ most) (hm1 : most ≤ 4294967295) (ht : t.size ≤ 1048576) (h0 : z = 0)
    (hc : Calls Tryd.prog 22 #[.string s, .string ⟨#[45]⟩] w fun e w' => e = .returned (.tuple #[.string t, .bool true]) ∧ w' = w) (h : Dc.dec most (Tx.nums t) true 0 = some z) :
    Calls Tryd.prog 11 #[.string s, .int .i64 most] w fun e w' => e = .returned (.tuple #[.int .i64 0, .bool false]) ∧ Below w.heap.size w w' := by
  have HC : Hid _ := hc
  have HN : Hid _ := h
  have hz : (z == 0) = true := by simp [h0]
  clear hc h h0
  go_enter Tryd.func11, Tryd.ntmps11
  go_wp2_with fail
  refine Calls.mono HC.out ?_
  rintro e w' ⟨rfl, rfl⟩
  go_wp2_with fail
  refine (size_some t most _ hm0 hm1 ht z HN.out).mono ?_
  rintro e w2 ⟨rfl, hb⟩
  go_wp2
  go_ret2
  exact ⟨rfl, hb⟩
set_option maxHeartbeats 400000 in
theorem impl_neg (s t : ByteArray) (most z : Int) (w : World) (hm0 : 0 ≤ most) (hm1 : most ≤ 4294967295) (ht : t.size ≤ 1048576) (h0 : z ≠ 0)
    (hc : Calls Tryd.prog 22 #[.string s, .string ⟨#[45]⟩] w fun e w' => e = .returned (.tuple #[.string t, .bool true]) ∧ w' = w) (h : Dc.dec most (Tx.nums t) true 0 = some z) :
    Calls Tryd.prog 11 #[.string s, .int .i64 most] w fun e w' => e = .returned (.tuple #[.int .i64 (-z), .bool true]) ∧ Below w.heap.size w w' := by
  have HC : Hid _ := hc
  have HN : Hid _ := h
  obtain ⟨hz0, hz1⟩ := Dc.dec_bd most hm0 _ z h
  have hz : (z == 0) = false := beq_eq_false_iff_ne.2 h0
  clear hc h h0
  go_enter Tryd.func11, Tryd.ntmps11
  go_wp2_with fail
  refine Calls.mono HC.out ?_
  rintro e w' ⟨rfl, rfl⟩
  go_wp2_with fail
  refine (size_some t most _ hm0 hm1 ht z HN.out).mono ?_
  rintro e w2 ⟨rfl, hb⟩
  go_wp2
  go_ret2
  exact ⟨rfl, hb⟩
theorem impl_num (s : ByteArray) (most : Int) (w : World) (hs : s.size ≤ 1048576) :
    Calls Tryd.prog 11 #[.string s, .int .i64 most] w fun e w' => e = tell (Dc.ans (Tx.nums s) most) ∧ Below w.heap.size w w' := by
  by_cases hm : 0 ≤ most ∧ most ≤ 4294967295
  · obtain ⟨hm0, hm1⟩ := hm
    have e1 : Dc.ans (Tx.nums s) most = Dc.num (Tx.nums s) most := by unfold Dc.ans; rw [if_pos ⟨hm0, hm1⟩]
    rw [e1]
    by_cases hh : (Tx.nums s).head? = some 45
    · have h0 : 0 < s.size := by
        have := Tx.nums_len s
        cases hl : Tx.nums s with
        | nil => rw [hl] at hh; cases hh
        | cons a l => rw [hl] at this; simp at this; omega
      have ht : (s.extract 1 s.size).size ≤ 1048576 := by
        have := Tx.nums_len (s.extract 1 s.size)
        rw [Tx.nums_tail, List.length_tail, Tx.nums_len] at this
        omega
      rw [Dc.num, if_pos hh]
      cases hd : Dc.dec most (Tx.nums s).tail true 0 with
      | none =>
        exact (impl_none s _ true most w hm0 hm1 ht (cut_yes s w h0 hs hh) (by rw [Tx.nums_tail]; exact hd)).mono fun e w' h => h
      | some z =>
        by_cases hz : z = 0
        · simp only [Option.bind_some]
          rw [if_pos hz]
          exact impl_zero s _ most z w hm0 hm1 ht hz (cut_yes s w h0 hs hh) (by rw [Tx.nums_tail]; exact hd)
        · simp only [Option.bind_some]
          rw [if_neg hz]
          exact impl_neg s _ most z w hm0 hm1 ht hz (cut_yes s w h0 hs hh) (by rw [Tx.nums_tail]; exact hd)
    · rw [Dc.num, if_neg hh]
      cases hd : Dc.dec most (Tx.nums s) true 0 with
      | none => exact impl_none s s false most w hm0 hm1 hs (cut_no s w hs hh) hd
      | some z => exact impl_plain s s most z w hm0 hm1 hs (cut_no s w hs hh) hd
  · have e1 : Dc.ans (Tx.nums s) most = none := by unfold Dc.ans; rw [if_neg hm]
    rw [e1]
    exact impl_out s most w (by omega)

theorem dig_eq : ∀ (f u : Nat), 1 ≤ u → u < 10 ^ f → Lib.decDigits u = (Dc.dg f u).map fun n => UInt8.ofNat n.toNat
  | 0, u, h1, h2 => by simp at h2; omega
  | f + 1, u, h1, h2 => by
    rw [Dc.dg_pos _ _ (by omega), List.map_append]
    by_cases h : u < 10
    · rw [Lib.decDigits_one h, show u / 10 = 0 by omega, Dc.dg_zero]
      simp only [List.map_nil, List.nil_append, List.map_cons]
      rw [show ((48 : Int) + ((u % 10 : Nat) : Int)).toNat = 48 + u by omega]
    · rw [Lib.decDigits, dif_neg h, dig_eq f (u / 10) (by omega) (by rw [Nat.pow_succ] at h2; omega)]
      simp only [List.map_nil, List.map_cons]
      rw [show ((48 : Int) + ((u % 10 : Nat) : Int)).toNat = 48 + u % 10 by omega]
theorem itoa_eq (n : Int) (h0 : -9223372036854775808 ≤ n) (h1 : n ≤ 9223372036854775807) : (⟨(Lib.itoa n).toArray⟩ : ByteArray) = Tx.txt (Dc.dect n) := by
  unfold Tx.txt
  congr 2
  unfold Lib.itoa Dc.dect
  by_cases h : n = 0
  · subst h
    rw [if_neg (by omega), if_pos rfl, Int.toNat_zero, Lib.decDigits_one (by omega)]
    rfl
  · rw [if_neg h]
    by_cases hn : n < 0
    · rw [if_pos hn, if_pos hn, List.map_cons, dig_eq 20 n.natAbs (by omega) (by omega)]
      rfl
    · rw [if_neg hn, if_neg hn, show n.toNat = n.natAbs by omega, dig_eq 20 n.natAbs (by omega) (by omega)]
theorem below_grow (w : World) (k : Nat) (os : Array Obj) : Below w.heap.size w (Sort.grow (w.drewN k) os) := by
  refine ⟨rfl, rfl, rfl, ?_, fun i hi => ?_⟩
  · show w.heap.size ≤ (w.heap ++ os).size
    simp
  · show (w.heap ++ os)[i]? = w.heap[i]?
    rw [Array.getElem?_append_left hi]
set_option maxHeartbeats 400000 in
theorem impl_text (n : Int) (w : World) (h0 : -9223372036854775808 ≤ n) (h1 : n ≤ 9223372036854775807) (htab : Lib.TabIs Tryd.prog w "internal/strconv.uint64pow10" .u64 Lib.pow10Tab) :
    Calls Tryd.prog 12 #[.int .i64 n] w fun e w' => e = .returned (.string (Tx.txt (Dc.dect n))) ∧ Below w.heap.size w w' := by
  have HT : Hid _ := htab
  have HE : Hid _ := itoa_eq n h0 h1
  clear htab
  go_enter Tryd.func12, Tryd.ntmps12
  go_wp2_with fail
  refine (Tryd.strconv_Itoa n h0 h1 _ HT.out).mono ?_
  rintro e w1 ⟨rfl, k, os, rfl⟩
  rw [HE.out]
  go_wp2
  go_ret
  exact ⟨rfl, below_grow w k os⟩

end Go.Proofs.YtbapnfocifnacadDoor
