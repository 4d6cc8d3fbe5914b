/-
  What DecNum returns: the specification's and the program's own, the same number, at every text and every bound. Conditions: the text is at most 1048576 bytes long.
-/
import Derived.Test.YtdjapcfejmhjnaaGreatDoorText
import Derived.Laws.RangeAny
import Derived.Below
namespace Go.Proofs.YtdjapcfejmhjnaaGreatDoor
open Go.ChangeShapes Go.WideShapes Go.ChangeAt Go.RowKit
set_option linter.unusedVariables false

namespace Dc
theorem dec_ok (most : Int) (b : Int) (l : List Int) (first : Bool) (z : Int) (hb : 48 ≤ b ∧ b ≤ 57) (hz : first = true ∨ z ≠ 0) (hm : ¬ most < 10 * z + (b - 48)) : dec most (b :: l) first z = dec most l false (10 * z + (b - 48)) := by
  rw [dec, if_pos ⟨hb, hz⟩, if_neg hm]
theorem dec_over (most : Int) (b : Int) (l : List Int) (first : Bool) (z : Int) (hm : most < 10 * z + (b - 48)) : dec most (b :: l) first z = none := by
  unfold dec
  simp [hm]
theorem dec_no (most : Int) (b : Int) (l : List Int) (first : Bool) (z : Int) (h : ¬ ((48 ≤ b ∧ b ≤ 57) ∧ (first = true ∨ z ≠ 0))) : dec most (b :: l) first z = none := by
  rw [dec, if_neg h]
end Dc
/-- What is told of a number that may not be there. -/
def tell (o : Option Int) : Ending := .returned (.tuple #[.int .i64 (o.getD 0), .bool o.isSome])
theorem tell_none {o : Option Int} (h : o = none) : Ending.returned (.tuple #[.int .i64 0, .bool false]) = tell o := by rw [h]; rfl
theorem tell_some {o : Option Int} {z : Int} (h : o = some z) : Ending.returned (.tuple #[.int .i64 z, .bool true]) = tell o := by rw [h]; rfl

set_option maxHeartbeats 1000000 in
theorem size_any (t : ByteArray) (most : Int) (w : World) (hm0 : 0 ≤ most) (hm1 : most ≤ 4294967295) (ht : t.size ≤ 1048576) :
    Calls Tryz.prog 142 #[.string t, .int .i64 most] w fun e w' => e = tell (Dc.dec most (Tx.nums t) true 0) ∧ Below w.heap.size w w' := by
  have HBW : Hid (∀ p, Below w.heap.size w (w.iter t p)) := fun p => (Below.refl _ _).alloc (Nat.le_refl _) _
  go_enter Tryz.func142, Tryz.ntmps142
  go_wp2
  go_loopw [6] (fun n wr => ∃ (k : Nat) (c : Int), wr = w.iter t k ∧ k ≤ t.size ∧ n = .int .i64 c ∧ 0 ≤ c ∧ c ≤ most ∧ Hid (Dc.dec most ((Tx.nums t).drop k) (decide (k = 0)) c = Dc.dec most (Tx.nums t) true 0) ∧ Hid (k = 0 → c = 0)) (fun _ wr => t.size - wr.iterPos w.heap.size)
  case atStart => exact ⟨0, 0, rfl, by omega, rfl, by omega, by omega, by simp [Hid], fun _ => rfl⟩
  case round =>
    obtain ⟨k, c, rfl, hk, rfl, hc0, hc1, HC, HK⟩ := hrel
    by_cases hlt : k < t.size
    · have HD : Hid _ := Tx.nums_drop t k hlt
      by_cases ha : t[k].toNat < 128
      · have hnx : ∀ ty, (Instr.next (.pointer (some ⟨w.heap.size, 0, none⟩)) true ty).run Tryz.prog (w.iter t k) = _ := fun ty => run_next_ascii w t k ty hlt ha
        by_cases h1 : 48 ≤ (t[k].toNat : Int) ∧ (t[k].toNat : Int) ≤ 57
        · by_cases hz : k = 0 ∨ c ≠ 0
          · by_cases hm : most < 10 * c + ((t[k].toNat : Int) - 48)
            · have HR : Hid (Dc.dec most (Tx.nums t) true 0 = none) := by
                show _ = _
                rw [← HC.out, HD.out, Dc.dec_over _ _ _ _ _ hm]
              obtain ⟨h11, h12⟩ := h1
              by_cases hk0 : k = 0
              · subst hk0
                clear hz
                go_wp2
                go_ret2
                exact ⟨tell_none HR.out, HBW.out _⟩
              · have hz1 : (c == 0) = false := beq_eq_false_iff_ne.2 (by omega)
                have hk1 : 0 < k := by omega
                clear hz hk0
                go_wp2
                go_ret2
                exact ⟨tell_none HR.out, HBW.out _⟩
            · have HV : Hid (Dc.dec most ((Tx.nums t).drop (k + 1)) (decide (k + 1 = 0)) (10 * c + ((t[k].toNat : Int) - 48)) = Dc.dec most (Tx.nums t) true 0) := by
                show _ = _
                rw [← HC.out, HD.out, Dc.dec_ok _ _ _ _ _ h1 (by rcases hz with h | h; left; simp [h]; right; exact h) hm]
                simp
              obtain ⟨h11, h12⟩ := h1
              by_cases hk0 : k = 0
              · subst hk0
                clear hz
                go_wp2
                go_roundw
                case rel => exact ⟨0 + 1, 10 * c + ((t[0].toNat : Int) - 48), rfl, by omega, by go_num, by omega, by omega, HV, fun h => absurd h (by omega)⟩
                case measure => simp; omega
              · have hz1 : (c == 0) = false := beq_eq_false_iff_ne.2 (by omega)
                have hk1 : 0 < k := by omega
                clear hz hk0
                go_wp2
                go_roundw
                case rel => exact ⟨k + 1, 10 * c + ((t[k].toNat : Int) - 48), rfl, by omega, by go_num, by omega, by omega, HV, fun h => absurd h (by omega)⟩
                case measure => simp; omega
          · have hk1 : 0 < k := by omega
            obtain rfl : c = 0 := by omega
            have HR : Hid (Dc.dec most (Tx.nums t) true 0 = none) := by
              show _ = _
              rw [← HC.out, HD.out, Dc.dec_no _ _ _ _ _ (by simp; omega)]
            obtain ⟨h11, h12⟩ := h1
            clear hz
            go_wp2
            go_ret2
            exact ⟨tell_none HR.out, HBW.out _⟩
        · have HR : Hid (Dc.dec most (Tx.nums t) true 0 = none) := by
            show _ = _
            rw [← HC.out, HD.out, Dc.dec_no _ _ _ _ _ (fun h => h1 h.1)]
          by_cases h2 : (t[k].toNat : Int) < 48
          · clear h1
            by_cases hk0 : k = 0
            · subst hk0
              go_wp2
              go_ret2
              exact ⟨tell_none HR.out, HBW.out _⟩
            · have hk1 : 0 < k := by omega
              clear hk0
              by_cases hc : c = 0
              · have hz1 : (c == 0) = true := by simp [hc]
                clear hc
                go_wp2
                go_ret2
                exact ⟨tell_none HR.out, HBW.out _⟩
              · have hz1 : (c == 0) = false := beq_eq_false_iff_ne.2 hc
                clear hc
                go_wp2
                go_ret2
                exact ⟨tell_none HR.out, HBW.out _⟩
          · have h3 : 57 < (t[k].toNat : Int) := by omega
            clear h1
            by_cases hk0 : k = 0
            · subst hk0
              go_wp2
              go_ret2
              exact ⟨tell_none HR.out, HBW.out _⟩
            · have hk1 : 0 < k := by omega
              clear hk0
              by_cases hc : c = 0
              · have hz1 : (c == 0) = true := by simp [hc]
                clear hc
                go_wp2
                go_ret2
                exact ⟨tell_none HR.out, HBW.out _⟩
              · have hz1 : (c == 0) = false := beq_eq_false_iff_ne.2 hc
                clear hc
                go_wp2
                go_ret2
                exact ⟨tell_none HR.out, HBW.out _⟩
      · have hhi := decode_high t k hlt (by omega)
        have hle := decode_le t k
        have hnx : ∀ ty, (Instr.next (.pointer (some ⟨w.heap.size, 0, none⟩)) true ty).run Tryz.prog (w.iter t k) = _ := fun ty => run_next_any w t k ty hlt
        have HR : Hid (Dc.dec most (Tx.nums t) true 0 = none) := by
          show _ = _
          rw [← HC.out, HD.out, Dc.dec_no _ _ _ _ _ (fun h => by omega)]
        generalize Utf8.decode t k = dc at hnx hhi hle
        obtain ⟨dr, dw⟩ := dc
        simp only at hnx hhi hle
        obtain ⟨hh1, hh2⟩ := hhi
        have h3 : 57 < (dr : Int) := by omega
        have h4 : ¬ (dr : Int) < 48 := by omega
        by_cases hk0 : k = 0
        · subst hk0
          go_wp2
          go_ret2
          exact ⟨tell_none HR.out, HBW.out _⟩
        · have hk1 : 0 < k := by omega
          clear hk0
          by_cases hc : c = 0
          · have hz1 : (c == 0) = true := by simp [hc]
            clear hc
            go_wp2
            go_ret2
            exact ⟨tell_none HR.out, HBW.out _⟩
          · have hz1 : (c == 0) = false := beq_eq_false_iff_ne.2 hc
            clear hc
            go_wp2
            go_ret2
            exact ⟨tell_none HR.out, HBW.out _⟩
    · have hke : k = t.size := by omega
      have hnx : ∀ ty, (Instr.next (.pointer (some ⟨w.heap.size, 0, none⟩)) true ty).run Tryz.prog (w.iter t k) = _ := fun ty => run_next_end w t k ty hlt
      have hdr : (Tx.nums t).drop k = [] := List.drop_of_length_le (by rw [Tx.nums_len]; omega)
      by_cases h0 : k = 0
      · have HR : Hid (Dc.dec most (Tx.nums t) true 0 = none) := by
          show _ = _
          rw [← HC.out, hdr, h0]; rfl
        have he := Tx.empty_yes t (by omega)
        obtain rfl : c = 0 := HK.out h0
        subst h0
        clear hdr hke
        go_wp2
        go_ret2
        exact ⟨tell_none HR.out, HBW.out _⟩
      · have HR : Hid (Dc.dec most (Tx.nums t) true 0 = some c) := by
          show _ = _
          rw [← HC.out, hdr]
          simp [Dc.dec, h0]
        have he := Tx.empty_no t (by omega)
        clear hdr hke
        go_wp2
        go_ret2
        exact ⟨tell_some HR.out, HBW.out _⟩

end Go.Proofs.YtdjapcfejmhjnaaGreatDoor
