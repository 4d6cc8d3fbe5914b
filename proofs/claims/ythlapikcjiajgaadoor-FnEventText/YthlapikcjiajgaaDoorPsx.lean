
/-
  Lines, words and numbers of a text: what the program's isLined, linesOf, strings.Split and DecNum return, and the specification's l01Lines, l01Split and DecNum. Condition: texts are at most 1048576 bytes long.
-/
import Derived.Test.YthlapikcjiajgaaDoorBas
import Derived.Test.YthlapikcjiajgaaDoorText3
import Derived.Test.YthlapikcjiajgaaDoorShelfs
import Derived.Lib.SplitLaws
import Derived.Laws.RangeAny
import Derived.Below
import Derived.WalkKit
import Derived.ProofKit
import Derived.OpenShut
import Derived.Deep.OwnRows
import Derived.Deep.Draws
import Derived.WalkSmall
import Derived.Deep.RegionWith
import Derived.BigRegion
import Derived.Deep.MidRow
import Derived.Deep.RegionHeld3
import Derived.Lib.SmallJoins
import Derived.Deep.QuietTactic
import Derived.BigQuiet
import Derived.Deep.AppendLies
import Derived.OwnWalk
namespace Go.Proofs.YthlapikcjiajgaaDoor
open Go.ChangeShapes Go.WideShapes Go.ChangeAt Go.RowKit Go.Deep
set_option linter.unusedVariables false
set_option maxRecDepth 20000

namespace Sp
def glue (p : List UInt8) : List (List UInt8) → List (List UInt8)
  | [] => [p]
  | x :: r => (p ++ x) :: r
/-- What stands between the bytes c of a text. -/
def cut (c : UInt8) : List UInt8 → List (List UInt8)
  | [] => [[]]
  | b :: l => if b = c then [] :: cut c l else glue [b] (cut c l)
theorem cut_ne (c : UInt8) : ∀ l, cut c l ≠ []
  | [] => by simp [cut]
  | b :: l => by
    unfold cut
    split
    · simp
    · unfold glue
      split <;> simp
theorem glue_nil (R : List (List UInt8)) (h : R ≠ []) : glue [] R = R := by
  cases R with
  | nil => exact absurd rfl h
  | cons x r => rfl
theorem glue_glue (p q : List UInt8) (R : List (List UInt8)) : glue p (glue q R) = glue (p ++ q) R := by
  cases R <;> simp [glue]
theorem split_hit (c : UInt8) (l : List UInt8) : Lib.split (c :: l) [c] = [] :: Lib.split l [c] := by
  have hi : Lib.index (c :: l) [c] = ((0 : Nat) : Int) := by simp [Lib.index]
  unfold Lib.split
  rw [Lib.count_hit (by simp) hi, Nat.add_comm 1, Lib.splitK, if_neg (by rw [hi]; decide), hi]
  simp
theorem split_miss (b c : UInt8) (l : List UInt8) (h : b ≠ c) : Lib.split (b :: l) [c] = glue [b] (Lib.split l [c]) := by
  have hp : ([c].isPrefixOf (b :: l)) = false := by simp [List.isPrefixOf]; exact fun e => h e.symm
  by_cases hm : Lib.index l [c] = -1
  · have hi : Lib.index (b :: l) [c] = -1 := by
      unfold Lib.index
      rw [hp]
      simp [hm]
    unfold Lib.split
    rw [Lib.count_miss hm, Lib.count_miss hi]
    rfl
  · have hge := Lib.index_ge l [c]
    obtain ⟨i, hi⟩ := Int.eq_ofNat_of_zero_le (a := Lib.index l [c]) (by omega)
    have hi2 : Lib.index (b :: l) [c] = ((i + 1 : Nat) : Int) := by
      unfold Lib.index
      rw [hp]
      simp only [Bool.false_eq_true, if_false]
      rw [if_neg (by rw [beq_iff_eq]; exact hm), hi]
      rfl
    have e1 : Lib.count (b :: l) [c] = Lib.count (l.drop (i + 1)) [c] + 1 := by
      rw [Lib.count_hit (by simp) hi2, Nat.add_comm 1]
      rfl
    have e2 : Lib.count l [c] = Lib.count (l.drop (i + 1)) [c] + 1 := by
      rw [Lib.count_hit (by simp) hi, Nat.add_comm 1]
      rfl
    unfold Lib.split
    rw [e1, e2]
    unfold Lib.splitK
    rw [if_neg (by rw [hi2, beq_iff_eq]; omega), if_neg (by rw [hi, beq_iff_eq]; omega), hi, hi2]
    simp [glue]
theorem split_eq (c : UInt8) : ∀ l, Lib.split l [c] = cut c l
  | [] => by
    have hi : Lib.index [] [c] = -1 := by simp [Lib.index]
    unfold Lib.split
    rw [Lib.count_miss hi]
    rfl
  | b :: l => by
    by_cases h : b = c
    · subst h
      rw [split_hit, split_eq b l, cut, if_pos rfl]
    · rw [split_miss _ _ _ h, split_eq c l, cut, if_neg h]
/-- The pieces, as texts. -/
def texts (c : UInt8) (s : ByteArray) : List ByteArray := (cut c s.data.toList).map fun l => ⟨l.toArray⟩
theorem splitB_eq (c : UInt8) (s : ByteArray) : Lib.splitB ⟨#[c]⟩ 0 (Lib.countB s ⟨#[c]⟩) s = texts c s := by
  have h := Lib.splitB_data ⟨#[c]⟩ 0 (Lib.countB s ⟨#[c]⟩) s
  have e : Lib.splitK [c] 0 (Lib.countB s ⟨#[c]⟩) s.data.toList = cut c s.data.toList := split_eq c _
  unfold texts
  rw [← e, ← show (_ : List (List UInt8)) = Lib.splitK [c] 0 (Lib.countB s ⟨#[c]⟩) s.data.toList from h, List.map_map]
  conv => lhs; rw [← List.map_id (Lib.splitB ⟨#[c]⟩ 0 (Lib.countB s ⟨#[c]⟩) s)]
  apply List.map_congr_left
  intro x _
  cases x
  simp
theorem cut_len (c : UInt8) (s : ByteArray) : (texts c s).length = Lib.countB s ⟨#[c]⟩ + 1 := by
  rw [← splitB_eq]
  exact Lib.splitB_all ⟨#[c]⟩ (Nat.le_refl 1) 0 _ s rfl
/-- How far a walk from left to right has come: done are the pieces behind which a byte c was seen; p is what was seen since. -/
def At (c : UInt8) (l : List UInt8) (i from' : Nat) (done : List (List UInt8)) : Prop := cut c l = done ++ glue ((l.take i).drop from') (cut c (l.drop i)) ∧ from' ≤ i
theorem at_start (c : UInt8) (l : List UInt8) : At c l 0 0 [] := by
  refine ⟨?_, Nat.le_refl _⟩
  simp [glue_nil _ (cut_ne c l)]
theorem at_hit {c : UInt8} {l : List UInt8} {i f : Nat} {done : List (List UInt8)} (h : At c l i f done) (hi : i < l.length) (hc : l[i] = c) : At c l (i + 1) (i + 1) (done ++ [(l.take i).drop f]) := by
  obtain ⟨h1, h2⟩ := h
  refine ⟨?_, Nat.le_refl _⟩
  rw [h1, List.drop_eq_getElem_cons hi, cut, if_pos hc]
  have e : (l.take (i + 1)).drop (i + 1) = [] := List.drop_of_length_le (by simp; omega)
  rw [e, glue_nil _ (cut_ne c _)]
  simp [glue]
theorem at_miss {c : UInt8} {l : List UInt8} {i f : Nat} {done : List (List UInt8)} (h : At c l i f done) (hi : i < l.length) (hc : l[i] ≠ c) : At c l (i + 1) f done := by
  obtain ⟨h1, h2⟩ := h
  refine ⟨?_, by omega⟩
  have e : (l.take (i + 1)).drop f = (l.take i).drop f ++ [l[i]] := by
    rw [List.take_succ_eq_append_getElem hi, List.drop_append_of_le_length (by simp; omega)]
  rw [h1, List.drop_eq_getElem_cons hi, cut, if_neg hc, glue_glue, e]
theorem at_end {c : UInt8} {l : List UInt8} {f : Nat} {done : List (List UInt8)} (h : At c l l.length f done) : cut c l = done ++ [l.drop f] := by
  obtain ⟨h1, h2⟩ := h
  rw [h1, List.take_length, List.drop_length]
  simp [cut, glue]
end Sp
namespace Dc
theorem dec_ok (most : Int) (b : Int) (l : List Int) (first : Bool) (z : Int) (hb : 48 ≤ b ∧ b ≤ 57) (hz : first = true ∨ z ≠ 0) (hm : ¬ most < 10 * z + (b - 48)) : dec most (b :: l) first z = dec most l false (10 * z + (b - 48)) := by
  rw [dec, if_pos ⟨hb, hz⟩, if_neg hm]
theorem dec_over (most : Int) (b : Int) (l : List Int) (first : Bool) (z : Int) (hm : most < 10 * z + (b - 48)) : dec most (b :: l) first z = none := by
  unfold dec
  simp [hm]
theorem dec_no (most : Int) (b : Int) (l : List Int) (first : Bool) (z : Int) (h : ¬ ((48 ≤ b ∧ b ≤ 57) ∧ (first = true ∨ z ≠ 0))) : dec most (b :: l) first z = none := by
  rw [dec, if_neg h]
end Dc
/-- What is told of a number that may not be there. -/
def tell (o : Option Int) : Ending := .returned (.tuple #[.int .i64 (o.getD 0), .bool o.isSome])
theorem tell_none {o : Option Int} (h : o = none) : Ending.returned (.tuple #[.int .i64 0, .bool false]) = tell o := by rw [h]; rfl
theorem tell_some {o : Option Int} {z : Int} (h : o = some z) : Ending.returned (.tuple #[.int .i64 z, .bool true]) = tell o := by rw [h]; rfl
set_option maxHeartbeats 1000000 in
theorem size_any (t : ByteArray) (most : Int) (w : World) (hm0 : 0 ≤ most) (hm1 : most ≤ 4294967295) (ht : t.size ≤ 1048576) :
    Calls Tryd.prog 55 #[.string t, .int .i64 most] w fun e w' => e = tell (Dc.dec most (Tx.nums t) true 0) ∧ Below w.heap.size w w' := by
  have HBW : Hid (∀ p, Below w.heap.size w (w.iter t p)) := fun p => (Below.refl _ _).alloc (Nat.le_refl _) _
  go_enter Tryd.func55, Tryd.ntmps55
  go_wp2
  go_loopw [6] (fun n wr => ∃ (k : Nat) (c : Int), wr = w.iter t k ∧ k ≤ t.size ∧ n = .int .i64 c ∧ 0 ≤ c ∧ c ≤ most ∧ Hid (Dc.dec most ((Tx.nums t).drop k) (decide (k = 0)) c = Dc.dec most (Tx.nums t) true 0) ∧ Hid (k = 0 → c = 0)) (fun _ wr => t.size - wr.iterPos w.heap.size)
  case atStart => exact ⟨0, 0, rfl, by omega, rfl, by omega, by omega, by simp [Hid], fun _ => rfl⟩
  case round =>
    obtain ⟨k, c, rfl, hk, rfl, hc0, hc1, HC, HK⟩ := hrel
    by_cases hlt : k < t.size
    · have HD : Hid _ := Tx.nums_drop t k hlt
      by_cases ha : t[k].toNat < 128
      · have hnx : ∀ ty, (Instr.next (.pointer (some ⟨w.heap.size, 0, none⟩)) true ty).run Tryd.prog (w.iter t k) = _ := fun ty => run_next_ascii w t k ty hlt ha
        by_cases h1 : 48 ≤ (t[k].toNat : Int) ∧ (t[k].toNat : Int) ≤ 57
        · by_cases hz : k = 0 ∨ c ≠ 0
          · by_cases hm : most < 10 * c + ((t[k].toNat : Int) - 48)
            · have HR : Hid (Dc.dec most (Tx.nums t) true 0 = none) := by
                show _ = _
                rw [← HC.out, HD.out, Dc.dec_over _ _ _ _ _ hm]
              obtain ⟨h11, h12⟩ := h1
              by_cases hk0 : k = 0
              · subst hk0
                clear hz
                go_wp2
                go_ret2
                exact ⟨tell_none HR.out, HBW.out _⟩
              · have hz1 : (c == 0) = false := beq_eq_false_iff_ne.2 (by omega)
                have hk1 : 0 < k := by omega
                clear hz hk0
                go_wp2
                go_ret2
                exact ⟨tell_none HR.out, HBW.out _⟩
            · have HV : Hid (Dc.dec most ((Tx.nums t).drop (k + 1)) (decide (k + 1 = 0)) (10 * c + ((t[k].toNat : Int) - 48)) = Dc.dec most (Tx.nums t) true 0) := by
                show _ = _
                rw [← HC.out, HD.out, Dc.dec_ok _ _ _ _ _ h1 (by rcases hz with h | h; left; simp [h]; right; exact h) hm]
                simp
              obtain ⟨h11, h12⟩ := h1
              by_cases hk0 : k = 0
              · subst hk0
                clear hz
                go_wp2
                go_roundw
                case rel => exact ⟨0 + 1, 10 * c + ((t[0].toNat : Int) - 48), rfl, by omega, by go_num, by omega, by omega, HV, fun h => absurd h (by omega)⟩
                case measure => simp; omega
              · have hz1 : (c == 0) = false := beq_eq_false_iff_ne.2 (by omega)
                have hk1 : 0 < k := by omega
                clear hz hk0
                go_wp2
                go_roundw
                case rel => exact ⟨k + 1, 10 * c + ((t[k].toNat : Int) - 48), rfl, by omega, by go_num, by omega, by omega, HV, fun h => absurd h (by omega)⟩
                case measure => simp; omega
          · have hk1 : 0 < k := by omega
            obtain rfl : c = 0 := by omega
            have HR : Hid (Dc.dec most (Tx.nums t) true 0 = none) := by
              show _ = _
              rw [← HC.out, HD.out, Dc.dec_no _ _ _ _ _ (by simp; omega)]
            obtain ⟨h11, h12⟩ := h1
            clear hz
            go_wp2
            go_ret2
            exact ⟨tell_none HR.out, HBW.out _⟩
        · have HR : Hid (Dc.dec most (Tx.nums t) true 0 = none) := by
            show _ = _
            rw [← HC.out, HD.out, Dc.dec_no _ _ _ _ _ (fun h => h1 h.1)]
          by_cases h2 : (t[k].toNat : Int) < 48
          · clear h1
            by_cases hk0 : k = 0
            · subst hk0
              go_wp2
              go_ret2
              exact ⟨tell_none HR.out, HBW.out _⟩
            · have hk1 : 0 < k := by omega
              clear hk0
              by_cases hc : c = 0
              · have hz1 : (c == 0) = true := by simp [hc]
                clear hc
                go_wp2
                go_ret2
                exact ⟨tell_none HR.out, HBW.out _⟩
              · have hz1 : (c == 0) = false := beq_eq_false_iff_ne.2 hc
                clear hc
                go_wp2
                go_ret2
                exact ⟨tell_none HR.out, HBW.out _⟩
          · have h3 : 57 < (t[k].toNat : Int) := by omega
            clear h1
            by_cases hk0 : k = 0
            · subst hk0
              go_wp2
              go_ret2
              exact ⟨tell_none HR.out, HBW.out _⟩
            · have hk1 : 0 < k := by omega
              clear hk0
              by_cases hc : c = 0
              · have hz1 : (c == 0) = true := by simp [hc]
                clear hc
                go_wp2
                go_ret2
                exact ⟨tell_none HR.out, HBW.out _⟩
              · have hz1 : (c == 0) = false := beq_eq_false_iff_ne.2 hc
                clear hc
                go_wp2
                go_ret2
                exact ⟨tell_none HR.out, HBW.out _⟩
      · have hhi := decode_high t k hlt (by omega)
        have hle := decode_le t k
        have hnx : ∀ ty, (Instr.next (.pointer (some ⟨w.heap.size, 0, none⟩)) true ty).run Tryd.prog (w.iter t k) = _ := fun ty => run_next_any w t k ty hlt
        have HR : Hid (Dc.dec most (Tx.nums t) true 0 = none) := by
          show _ = _
          rw [← HC.out, HD.out, Dc.dec_no _ _ _ _ _ (fun h => by omega)]
        generalize Utf8.decode t k = dc at hnx hhi hle
        obtain ⟨dr, dw⟩ := dc
        simp only at hnx hhi hle
        obtain ⟨hh1, hh2⟩ := hhi
        have h3 : 57 < (dr : Int) := by omega
        have h4 : ¬ (dr : Int) < 48 := by omega
        by_cases hk0 : k = 0
        · subst hk0
          go_wp2
          go_ret2
          exact ⟨tell_none HR.out, HBW.out _⟩
        · have hk1 : 0 < k := by omega
          clear hk0
          by_cases hc : c = 0
          · have hz1 : (c == 0) = true := by simp [hc]
            clear hc
            go_wp2
            go_ret2
            exact ⟨tell_none HR.out, HBW.out _⟩
          · have hz1 : (c == 0) = false := beq_eq_false_iff_ne.2 hc
            clear hc
            go_wp2
            go_ret2
            exact ⟨tell_none HR.out, HBW.out _⟩
    · have hke : k = t.size := by omega
      have hnx : ∀ ty, (Instr.next (.pointer (some ⟨w.heap.size, 0, none⟩)) true ty).run Tryd.prog (w.iter t k) = _ := fun ty => run_next_end w t k ty hlt
      have hdr : (Tx.nums t).drop k = [] := List.drop_of_length_le (by rw [Tx.nums_len]; omega)
      by_cases h0 : k = 0
      · have HR : Hid (Dc.dec most (Tx.nums t) true 0 = none) := by
          show _ = _
          rw [← HC.out, hdr, h0]; rfl
        have he := Tx.empty_yes t (by omega)
        obtain rfl : c = 0 := HK.out h0
        subst h0
        clear hdr hke
        go_wp2
        go_ret2
        exact ⟨tell_none HR.out, HBW.out _⟩
      · have HR : Hid (Dc.dec most (Tx.nums t) true 0 = some c) := by
          show _ = _
          rw [← HC.out, hdr]
          simp [Dc.dec, h0]
        have he := Tx.empty_no t (by omega)
        clear hdr hke
        go_wp2
        go_ret2
        exact ⟨tell_some HR.out, HBW.out _⟩
namespace Dc
theorem dec_bd (most : Int) (h0 : 0 ≤ most) (ds : List Int) (n : Int) (h : dec most ds true 0 = some n) : 0 ≤ n ∧ n ≤ most := by
  rw [dec_first most h0] at h
  split at h
  · cases h
  · split at h
    · injection h with h; omega
    · split at h
      · cases h
      · cases hd : dv ds 0 with
        | none => rw [hd] at h; cases h
        | some m =>
          rw [hd] at h
          simp only [within, Option.bind_some] at h
          split at h
          · injection h with h
            have := dv_le ds 0 m (by omega) hd
            omega
          · cases h
theorem pow10 (k : Nat) (hk : k < 11) (c d : Int) (h0 : 0 ≤ c) (h1 : c < 10 ^ k) (d0 : 0 ≤ d) (d1 : d ≤ 9) : 0 ≤ 10 * c + d ∧ 10 * c + d < 10 ^ (k + 1) ∧ 10 * c + d ≤ 99999999999 := by
  have hp : (10 : Int) ^ (k + 1) = 10 ^ k * 10 := Int.pow_succ _ _
  have hq : (10 : Int) ^ k ≤ 10 ^ 10 := by
    have : (10 : Nat) ^ k ≤ 10 ^ 10 := Nat.pow_le_pow_right (by omega) (by omega)
    exact_mod_cast this
  omega
/-- What DecNum answers. -/
def ans (s : List Int) (most : Int) : Option Int := if 0 ≤ most ∧ most ≤ 4294967295 then num s most else none
end Dc
theorem size_none (t : ByteArray) (most : Int) (w : World) (hm0 : 0 ≤ most) (hm1 : most ≤ 4294967295) (ht : t.size ≤ 1048576) (h : Dc.dec most (Tx.nums t) true 0 = none) :
    Calls Tryd.prog 55 #[.string t, .int .i64 most] w fun e w' => e = .returned (.tuple #[.int .i64 0, .bool false]) ∧ Below w.heap.size w w' := by
  have := size_any t most w hm0 hm1 ht
  rw [h] at this
  exact this
theorem size_some (t : ByteArray) (most : Int) (w : World) (hm0 : 0 ≤ most) (hm1 : most ≤ 4294967295) (ht : t.size ≤ 1048576) (z : Int) (h : Dc.dec most (Tx.nums t) true 0 = some z) :
    Calls Tryd.prog 55 #[.string t, .int .i64 most] w fun e w' => e = .returned (.tuple #[.int .i64 z, .bool true]) ∧ Below w.heap.size w w' := by
  have := size_any t most w hm0 hm1 ht
  rw [h] at this
  exact this
set_option maxHeartbeats 400000 in
theorem cut_yes (s : ByteArray) (w : World) (h0 : 0 < s.size) (hs : s.size ≤ 1048576) (hh : (Tx.nums s).head? = some 45) :
    Calls Tryd.prog 54 #[.string s, .string ⟨#[45]⟩] w fun e w' => e = .returned (.tuple #[.string (s.extract 1 s.size), .bool true]) ∧ w' = w := by
  have ht := Tx.head_test s h0
  rw [hh] at ht
  simp only [decide_true] at ht
  clear hh
  go_enter Tryd.func54, Tryd.ntmps54
  go_wp2
  go_ret2
  exact ⟨rfl, rfl⟩
set_option maxHeartbeats 400000 in
theorem cut_no (s : ByteArray) (w : World) (hs : s.size ≤ 1048576) (hh : (Tx.nums s).head? ≠ some 45) :
    Calls Tryd.prog 54 #[.string s, .string ⟨#[45]⟩] w fun e w' => e = .returned (.tuple #[.string s, .bool false]) ∧ w' = w := by
  by_cases h0 : 0 < s.size
  · have ht := Tx.head_test s h0
    rw [decide_eq_false hh] at ht
    clear hh
    go_enter Tryd.func54, Tryd.ntmps54
    go_wp2
    go_ret2
    exact ⟨rfl, rfl⟩
  · have h1 : ¬ 1 ≤ (s.size : Int) := by omega
    clear hh
    go_enter Tryd.func54, Tryd.ntmps54
    go_wp2
    go_ret2
    exact ⟨rfl, rfl⟩
set_option maxHeartbeats 400000 in
theorem impl_out (s : ByteArray) (most : Int) (w : World) (h : most < 0 ∨ 4294967295 < most) :
    Calls Tryd.prog 41 #[.string s, .int .i64 most] w fun e w' => e = .returned (.tuple #[.int .i64 0, .bool false]) ∧ Below w.heap.size w w' := by
  by_cases h1 : most < 0
  · clear h
    go_enter Tryd.func41, Tryd.ntmps41
    go_wp2
    go_ret2
    exact ⟨rfl, Below.refl _ _⟩
  · have h2 : 4294967295 < most := by omega
    clear h
    go_enter Tryd.func41, Tryd.ntmps41
    go_wp2
    go_ret2
    exact ⟨rfl, Below.refl _ _⟩
set_option maxHeartbeats 400000 in
theorem impl_none (s t : ByteArray) (b : Bool) (most : Int) (w : World) (hm0 : 0 ≤ most) (hm1 : most ≤ 4294967295) (ht : t.size ≤ 1048576)
    (hc : Calls Tryd.prog 54 #[.string s, .string ⟨#[45]⟩] w fun e w' => e = .returned (.tuple #[.string t, .bool b]) ∧ w' = w) (h : Dc.dec most (Tx.nums t) true 0 = none) :
    Calls Tryd.prog 41 #[.string s, .int .i64 most] w fun e w' => e = .returned (.tuple #[.int .i64 0, .bool false]) ∧ Below w.heap.size w w' := by
  have HC : Hid _ := hc
  have HN : Hid _ := h
  clear hc h
  cases b
  all_goals
    go_enter Tryd.func41, Tryd.ntmps41
    go_wp2_with fail
    refine Calls.mono HC.out ?_
    rintro e w' ⟨rfl, rfl⟩
    go_wp2_with fail
    refine (size_none t most _ hm0 hm1 ht HN.out).mono ?_
    rintro e w2 ⟨rfl, hb⟩
    go_wp2
    go_ret2
    exact ⟨rfl, hb⟩
set_option maxHeartbeats 400000 in
theorem impl_plain (s t : ByteArray) (most z : Int) (w : World) (hm0 : 0 ≤ most) (hm1 : most ≤ 4294967295) (ht : t.size ≤ 1048576)
    (hc : Calls Tryd.prog 54 #[.string s, .string ⟨#[45]⟩] w fun e w' => e = .returned (.tuple #[.string t, .bool false]) ∧ w' = w) (h : Dc.dec most (Tx.nums t) true 0 = some z) :
    Calls Tryd.prog 41 #[.string s, .int .i64 most] w fun e w' => e = .returned (.tuple #[.int .i64 z, .bool true]) ∧ Below w.heap.size w w' := by
  have HC : Hid _ := hc
  have HN : Hid _ := h
  obtain ⟨hz0, hz1⟩ := Dc.dec_bd most hm0 _ z h
  clear hc h
  go_enter Tryd.func41, Tryd.ntmps41
  go_wp2_with fail
  refine Calls.mono HC.out ?_
  rintro e w' ⟨rfl, rfl⟩
  go_wp2_with fail
  refine (size_some t most _ hm0 hm1 ht z HN.out).mono ?_
  rintro e w2 ⟨rfl, hb⟩
  go_wp2
  go_ret2
  exact ⟨rfl, hb⟩
set_option maxHeartbeats 400000 in
theorem impl_zero (s t : ByteArray) (most z : Int) (w : World) (hm0 : 0 ≤ most) (hm1 : most ≤ 4294967295) (ht : t.size ≤ 1048576) (h0 : z = 0)
    (hc : Calls Tryd.prog 54 #[.string s, .string ⟨#[45]⟩] w fun e w' => e = .returned (.tuple #[.string t, .bool true]) ∧ w' = w) (h : Dc.dec most (Tx.nums t) true 0 = some z) :
    Calls Tryd.prog 41 #[.string s, .int .i64 most] w fun e w' => e = .returned (.tuple #[.int .i64 0, .bool false]) ∧ Below w.heap.size w w' := by
  have HC : Hid _ := hc
  have HN : Hid _ := h
  have hz : (z == 0) = true := by simp [h0]
  clear hc h h0
  go_enter Tryd.func41, Tryd.ntmps41
  go_wp2_with fail
  refine Calls.mono HC.out ?_
  rintro e w' ⟨rfl, rfl⟩
  go_wp2_with fail
  refine (size_some t most _ hm0 hm1 ht z HN.out).mono ?_
  rintro e w2 ⟨rfl, hb⟩
  go_wp2
  go_ret2
  exact ⟨rfl, hb⟩
set_option maxHeartbeats 400000 in
theorem impl_neg (s t : ByteArray) (most z : Int) (w : World) (hm0 : 0 ≤ most) (hm1 : most ≤ 4294967295) (ht : t.size ≤ 1048576) (h0 : z ≠ 0)
    (hc : Calls Tryd.prog 54 #[.string s, .string ⟨#[45]⟩] w fun e w' => e = .returned (.tuple #[.string t, .bool true]) ∧ w' = w) (h : Dc.dec most (Tx.nums t) true 0 = some z) :
    Calls Tryd.prog 41 #[.string s, .int .i64 most] w fun e w' => e = .returned (.tuple #[.int .i64 (-z), .bool true]) ∧ Below w.heap.size w w' := by
  have HC : Hid _ := hc
  have HN : Hid _ := h
  obtain ⟨hz0, hz1⟩ := Dc.dec_bd most hm0 _ z h
  have hz : (z == 0) = false := beq_eq_false_iff_ne.2 h0
  clear hc h h0
  go_enter Tryd.func41, Tryd.ntmps41
  go_wp2_with fail
  refine Calls.mono HC.out ?_
  rintro e w' ⟨rfl, rfl⟩
  go_wp2_with fail
  refine (size_some t most _ hm0 hm1 ht z HN.out).mono ?_
  rintro e w2 ⟨rfl, hb⟩
  go_wp2
  go_ret2
  exact ⟨rfl, hb⟩
theorem impl_num (s : ByteArray) (most : Int) (w : World) (hs : s.size ≤ 1048576) :
    Calls Tryd.prog 41 #[.string s, .int .i64 most] w fun e w' => e = tell (Dc.ans (Tx.nums s) most) ∧ Below w.heap.size w w' := by
  by_cases hm : 0 ≤ most ∧ most ≤ 4294967295
  · obtain ⟨hm0, hm1⟩ := hm
    have e1 : Dc.ans (Tx.nums s) most = Dc.num (Tx.nums s) most := by unfold Dc.ans; rw [if_pos ⟨hm0, hm1⟩]
    rw [e1]
    by_cases hh : (Tx.nums s).head? = some 45
    · have h0 : 0 < s.size := by
        have := Tx.nums_len s
        cases hl : Tx.nums s with
        | nil => rw [hl] at hh; cases hh
        | cons a l => rw [hl] at this; simp at this; omega
      have ht : (s.extract 1 s.size).size ≤ 1048576 := by
        have := Tx.nums_len (s.extract 1 s.size)
        rw [Tx.nums_tail, List.length_tail, Tx.nums_len] at this
        omega
      rw [Dc.num, if_pos hh]
      cases hd : Dc.dec most (Tx.nums s).tail true 0 with
      | none =>
        exact (impl_none s _ true most w hm0 hm1 ht (cut_yes s w h0 hs hh) (by rw [Tx.nums_tail]; exact hd)).mono fun e w' h => h
      | some z =>
        by_cases hz : z = 0
        · simp only [Option.bind_some]
          rw [if_pos hz]
          exact impl_zero s _ most z w hm0 hm1 ht hz (cut_yes s w h0 hs hh) (by rw [Tx.nums_tail]; exact hd)
        · simp only [Option.bind_some]
          rw [if_neg hz]
          exact impl_neg s _ most z w hm0 hm1 ht hz (cut_yes s w h0 hs hh) (by rw [Tx.nums_tail]; exact hd)
    · rw [Dc.num, if_neg hh]
      cases hd : Dc.dec most (Tx.nums s) true 0 with
      | none => exact impl_none s s false most w hm0 hm1 hs (cut_no s w hs hh) hd
      | some z => exact impl_plain s s most z w hm0 hm1 hs (cut_no s w hs hh) hd
  · have e1 : Dc.ans (Tx.nums s) most = none := by unfold Dc.ans; rw [if_neg hm]
    rw [e1]
    exact impl_out s most w (by omega)
set_option maxHeartbeats 400000 in
theorem nin_yes (x a b : Int) (w : World) (h1 : a ≤ x) (h2 : x ≤ b) :
    Calls Tryd.prog 32 #[.int .i64 x, .int .i64 a, .int .i64 b] w fun e w' => e = .returned (.bool true) ∧ w' = w := by
  go_enter Tryd.func32, Tryd.ntmps32
  go_wp2
  go_ret
  exact ⟨rfl, rfl⟩
set_option maxHeartbeats 400000 in
theorem nin_no (x a b : Int) (w : World) (h : x < a ∨ b < x) :
    Calls Tryd.prog 32 #[.int .i64 x, .int .i64 a, .int .i64 b] w fun e w' => e = .returned (.bool false) ∧ w' = w := by
  by_cases h1 : a ≤ x
  · have h2 : ¬ x ≤ b := by omega
    clear h
    go_enter Tryd.func32, Tryd.ntmps32
    go_wp2
    go_ret
    exact ⟨rfl, rfl⟩
  · clear h
    go_enter Tryd.func32, Tryd.ntmps32
    go_wp2
    go_ret
    exact ⟨rfl, rfl⟩
set_option maxHeartbeats 400000 in
theorem spec_out (s : ByteArray) (most : Int) (w : World) (h : (most < 0 ∨ 4294967295 < most) ∨ s.size = 0 ∨ 12 ≤ s.size) (hs : s.size ≤ 1048576) :
    Calls Tryd.prog 39 #[.string s, .int .i64 most] w fun e w' => e = .returned (.tuple #[.int .i64 0, .bool false]) ∧ w' = w := by
  by_cases h1 : most < 0 ∨ 4294967295 < most
  · have H1 : Hid _ := h1
    clear h h1
    go_enter Tryd.func39, Tryd.ntmps39
    go_wp2_with fail
    refine (nin_no _ _ _ _ H1.out).mono ?_
    rintro e w' ⟨rfl, rfl⟩
    go_wp2
    go_ret2
    exact ⟨rfl, rfl⟩
  · have hm0 : 0 ≤ most := by omega
    have hm1 : most ≤ 4294967295 := by omega
    by_cases h2 : s.size = 0
    · have hb : ((s.size : Int) == 0) = true := by simp [h2]
      clear h h1 h2
      go_enter Tryd.func39, Tryd.ntmps39
      go_wp2_with fail
      refine (nin_yes _ _ _ _ hm0 hm1).mono ?_
      rintro e w' ⟨rfl, rfl⟩
      go_wp2
      go_ret2
      exact ⟨rfl, rfl⟩
    · have hb : ((s.size : Int) == 0) = false := beq_eq_false_iff_ne.2 (by omega)
      have h3 : 11 < (s.size : Int) := by omega
      clear h h1 h2
      go_enter Tryd.func39, Tryd.ntmps39
      go_wp2_with fail
      refine (nin_yes _ _ _ _ hm0 hm1).mono ?_
      rintro e w' ⟨rfl, rfl⟩
      go_wp2
      go_ret2
      exact ⟨rfl, rfl⟩
set_option maxHeartbeats 1000000 in
theorem spec_plain (s : ByteArray) (most : Int) (w : World) (hm0 : 0 ≤ most) (hm1 : most ≤ 4294967295) (h0 : 0 < s.size) (hs : s.size ≤ 11) (hh : ¬ (s[0].toNat : Int) = 45) :
    Calls Tryd.prog 39 #[.string s, .int .i64 most] w fun e w' => e = tell (Dc.held (Tx.nums s) most (Dc.dv ((Tx.nums s).drop 0) 0)) ∧ w' = w := by
  have hb0 : ((s.size : Int) == 0) = false := beq_eq_false_iff_ne.2 (by omega)
  have hb45 : ((s[0].toNat : Int) == 45) = false := beq_eq_false_iff_ne.2 hh
  have h3 : ¬ 11 < (s.size : Int) := by omega
  clear hh
  go_enter Tryd.func39, Tryd.ntmps39
  go_wp2_with fail
  refine (nin_yes _ _ _ _ hm0 hm1).mono ?_
  rintro e w' ⟨rfl, rfl⟩
  go_wp2
  go_loop [7, 8] (fun n i => ∃ (k : Nat) (c : Int), k ≤ s.size ∧ i = .int .i64 k ∧ n = .int .i64 c ∧ 0 ≤ c ∧ c ≤ 99999999999 ∧ Hid (c < 10 ^ k ∧ Dc.dv ((Tx.nums s).drop k) c = Dc.dv ((Tx.nums s).drop 0) 0)) (fun _ i => s.size - (intOf i).toNat)
  case atStart => exact ⟨0, 0, by omega, rfl, rfl, by omega, by omega, by decide, rfl⟩
  case round =>
    obtain ⟨k, c, hk, rfl, rfl, hc0, hc1, HC⟩ := hrel
    by_cases hlt : k < s.size
    · have HD : Hid _ := Tx.nums_drop s k hlt
      have hby : (s[k].toNat : Int) ≤ 255 := by have := s[k].toNat_lt; omega
      by_cases h1 : 48 ≤ (s[k].toNat : Int) ∧ (s[k].toNat : Int) ≤ 57
      · have HV : Hid (Dc.dv ((Tx.nums s).drop (k + 1)) (10 * c + ((s[k].toNat : Int) - 48)) = Dc.dv ((Tx.nums s).drop 0) 0) := by
          show _ = _
          rw [← HC.out.2, HD.out, Dc.dv_cons _ _ _ h1]
        have HP : Hid _ := Dc.pow10 k (by omega) c ((s[k].toNat : Int) - 48) hc0 HC.out.1 (by omega) (by omega)
        obtain ⟨h11, h12⟩ := h1
        go_wp2_with fail
        refine (nin_yes _ _ _ _ ?_ ?_).mono ?_
        · omega
        · omega
        rintro e w' ⟨rfl, rfl⟩
        go_wp2
        go_round
        case rel => exact ⟨k + 1, 10 * c + ((s[k].toNat : Int) - 48), by omega, by go_num, by go_num, HP.out.1, HP.out.2.2, HP.out.2.1, HV⟩
        case measure => simp [intOf]; omega
      · have HR : Hid (Dc.held (Tx.nums s) most (Dc.dv ((Tx.nums s).drop 0) 0) = none) := by
          show _ = _
          rw [← HC.out.2, HD.out, Dc.dv_bad _ _ _ h1]; rfl
        have H1 : Hid ((s[k].toNat : Int) < 48 ∨ 57 < (s[k].toNat : Int)) := by show _ ∨ _; omega
        clear h1
        go_wp2_with fail
        refine (nin_no _ _ _ _ ?_).mono ?_
        · have := H1.out; omega
        rintro e w' ⟨rfl, rfl⟩
        go_wp2
        go_ret2
        exact ⟨tell_none HR.out, rfl⟩
    · have hdr : (Tx.nums s).drop k = [] := List.drop_of_length_le (by rw [Tx.nums_len]; omega)
      have HD : Hid ((Dc.dv ((Tx.nums s).drop 0) 0) = some (c)) := by
        show _ = _
        rw [← HC.out.2, hdr]; rfl
      clear hdr
      by_cases he : Dc.dect (c) = Tx.nums s
      · have HE : Hid _ := Tx.txt_eq _ s he
        by_cases hr : c ≤ most ∧ -most ≤ c
        · have HR : Hid (Dc.held (Tx.nums s) most (Dc.dv ((Tx.nums s).drop 0) 0) = some (c)) := by
            show _ = _
            rw [HD.out]
            simp only [Dc.held, Option.bind_some]
            rw [if_pos ⟨he, hr.1, hr.2⟩]
          obtain ⟨hr1, hr2⟩ := hr
          clear he
          go_wp2_with fail
          refine (spec_text _ _ ?_ ?_).mono ?_
          · omega
          · omega
          rintro e w' ⟨rfl, rfl⟩
          rw [HE.out]
          go_wp2
          go_ret2
          exact ⟨tell_some HR.out, rfl⟩
        · have HR : Hid (Dc.held (Tx.nums s) most (Dc.dv ((Tx.nums s).drop 0) 0) = none) := by
            show _ = _
            rw [HD.out]
            simp only [Dc.held, Option.bind_some]
            rw [if_neg (fun h => hr h.2)]
          clear he
          by_cases hr1 : most < c
          · clear hr
            go_wp2_with fail
            refine (spec_text _ _ ?_ ?_).mono ?_
            · omega
            · omega
            rintro e w' ⟨rfl, rfl⟩
            rw [HE.out]
            go_wp2
            go_ret2
            exact ⟨tell_none HR.out, rfl⟩
          · have hr2 : c < -most := by omega
            clear hr
            go_wp2_with fail
            refine (spec_text _ _ ?_ ?_).mono ?_
            · omega
            · omega
            rintro e w' ⟨rfl, rfl⟩
            rw [HE.out]
            go_wp2
            go_ret2
            exact ⟨tell_none HR.out, rfl⟩
      · have HR : Hid (Dc.held (Tx.nums s) most (Dc.dv ((Tx.nums s).drop 0) 0) = none) := by
          show _ = _
          rw [HD.out]
          simp only [Dc.held, Option.bind_some]
          rw [if_neg (fun h => he h.1)]
        have hne := Tx.list_ne _ s (Tx.txt_ne _ s (Dc.dect_byte (c)) he)
        clear he
        go_wp2_with fail
        refine (spec_text _ _ ?_ ?_).mono ?_
        · omega
        · omega
        rintro e w' ⟨rfl, rfl⟩
        generalize Tx.txt (Dc.dect (c)) = t at hne
        go_wp2
        go_ret2
        exact ⟨tell_none HR.out, rfl⟩
set_option maxHeartbeats 1000000 in
theorem spec_signed (s : ByteArray) (most : Int) (w : World) (hm0 : 0 ≤ most) (hm1 : most ≤ 4294967295) (h0 : 0 < s.size) (hs : s.size ≤ 11) (hh : (s[0].toNat : Int) = 45) :
    Calls Tryd.prog 39 #[.string s, .int .i64 most] w fun e w' => e = tell (Dc.held (Tx.nums s) most ((Dc.dv ((Tx.nums s).drop 1) 0).map fun n => -n)) ∧ w' = w := by
  have hb0 : ((s.size : Int) == 0) = false := beq_eq_false_iff_ne.2 (by omega)
  have hb45 : ((s[0].toNat : Int) == 45) = true := by simp [hh]
  have h3 : ¬ 11 < (s.size : Int) := by omega
  clear hh
  go_enter Tryd.func39, Tryd.ntmps39
  go_wp2_with fail
  refine (nin_yes _ _ _ _ hm0 hm1).mono ?_
  rintro e w' ⟨rfl, rfl⟩
  go_wp2
  go_loop [7, 8] (fun n i => ∃ (k : Nat) (c : Int), k ≤ s.size ∧ i = .int .i64 k ∧ n = .int .i64 c ∧ 0 ≤ c ∧ c ≤ 99999999999 ∧ Hid (c < 10 ^ k ∧ Dc.dv ((Tx.nums s).drop k) c = Dc.dv ((Tx.nums s).drop 1) 0)) (fun _ i => s.size - (intOf i).toNat)
  case atStart => exact ⟨1, 0, by omega, rfl, rfl, by omega, by omega, by decide, rfl⟩
  case round =>
    obtain ⟨k, c, hk, rfl, rfl, hc0, hc1, HC⟩ := hrel
    by_cases hlt : k < s.size
    · have HD : Hid _ := Tx.nums_drop s k hlt
      have hby : (s[k].toNat : Int) ≤ 255 := by have := s[k].toNat_lt; omega
      by_cases h1 : 48 ≤ (s[k].toNat : Int) ∧ (s[k].toNat : Int) ≤ 57
      · have HV : Hid (Dc.dv ((Tx.nums s).drop (k + 1)) (10 * c + ((s[k].toNat : Int) - 48)) = Dc.dv ((Tx.nums s).drop 1) 0) := by
          show _ = _
          rw [← HC.out.2, HD.out, Dc.dv_cons _ _ _ h1]
        have HP : Hid _ := Dc.pow10 k (by omega) c ((s[k].toNat : Int) - 48) hc0 HC.out.1 (by omega) (by omega)
        obtain ⟨h11, h12⟩ := h1
        go_wp2_with fail
        refine (nin_yes _ _ _ _ ?_ ?_).mono ?_
        · omega
        · omega
        rintro e w' ⟨rfl, rfl⟩
        go_wp2
        go_round
        case rel => exact ⟨k + 1, 10 * c + ((s[k].toNat : Int) - 48), by omega, by go_num, by go_num, HP.out.1, HP.out.2.2, HP.out.2.1, HV⟩
        case measure => simp [intOf]; omega
      · have HR : Hid (Dc.held (Tx.nums s) most ((Dc.dv ((Tx.nums s).drop 1) 0).map fun n => -n) = none) := by
          show _ = _
          rw [← HC.out.2, HD.out, Dc.dv_bad _ _ _ h1]; rfl
        have H1 : Hid ((s[k].toNat : Int) < 48 ∨ 57 < (s[k].toNat : Int)) := by show _ ∨ _; omega
        clear h1
        go_wp2_with fail
        refine (nin_no _ _ _ _ ?_).mono ?_
        · have := H1.out; omega
        rintro e w' ⟨rfl, rfl⟩
        go_wp2
        go_ret2
        exact ⟨tell_none HR.out, rfl⟩
    · have hdr : (Tx.nums s).drop k = [] := List.drop_of_length_le (by rw [Tx.nums_len]; omega)
      have HD : Hid (((Dc.dv ((Tx.nums s).drop 1) 0).map fun n => -n) = some (-c)) := by
        show _ = _
        rw [← HC.out.2, hdr]; rfl
      clear hdr
      by_cases he : Dc.dect (-c) = Tx.nums s
      · have HE : Hid _ := Tx.txt_eq _ s he
        by_cases hr : -c ≤ most ∧ -most ≤ -c
        · have HR : Hid (Dc.held (Tx.nums s) most ((Dc.dv ((Tx.nums s).drop 1) 0).map fun n => -n) = some (-c)) := by
            show _ = _
            rw [HD.out]
            simp only [Dc.held, Option.bind_some]
            rw [if_pos ⟨he, hr.1, hr.2⟩]
          obtain ⟨hr1, hr2⟩ := hr
          clear he
          go_wp2_with fail
          refine (spec_text _ _ ?_ ?_).mono ?_
          · omega
          · omega
          rintro e w' ⟨rfl, rfl⟩
          rw [HE.out]
          go_wp2
          go_ret2
          exact ⟨tell_some HR.out, rfl⟩
        · have HR : Hid (Dc.held (Tx.nums s) most ((Dc.dv ((Tx.nums s).drop 1) 0).map fun n => -n) = none) := by
            show _ = _
            rw [HD.out]
            simp only [Dc.held, Option.bind_some]
            rw [if_neg (fun h => hr h.2)]
          clear he
          by_cases hr1 : most < -c
          · clear hr
            go_wp2_with fail
            refine (spec_text _ _ ?_ ?_).mono ?_
            · omega
            · omega
            rintro e w' ⟨rfl, rfl⟩
            rw [HE.out]
            go_wp2
            go_ret2
            exact ⟨tell_none HR.out, rfl⟩
          · have hr2 : -c < -most := by omega
            clear hr
            go_wp2_with fail
            refine (spec_text _ _ ?_ ?_).mono ?_
            · omega
            · omega
            rintro e w' ⟨rfl, rfl⟩
            rw [HE.out]
            go_wp2
            go_ret2
            exact ⟨tell_none HR.out, rfl⟩
      · have HR : Hid (Dc.held (Tx.nums s) most ((Dc.dv ((Tx.nums s).drop 1) 0).map fun n => -n) = none) := by
          show _ = _
          rw [HD.out]
          simp only [Dc.held, Option.bind_some]
          rw [if_neg (fun h => he h.1)]
        have hne := Tx.list_ne _ s (Tx.txt_ne _ s (Dc.dect_byte (-c)) he)
        clear he
        go_wp2_with fail
        refine (spec_text _ _ ?_ ?_).mono ?_
        · omega
        · omega
        rintro e w' ⟨rfl, rfl⟩
        generalize Tx.txt (Dc.dect (-c)) = t at hne
        go_wp2
        go_ret2
        exact ⟨tell_none HR.out, rfl⟩
theorem spec_num (s : ByteArray) (most : Int) (w : World) (hs : s.size ≤ 1048576) :
    Calls Tryd.prog 39 #[.string s, .int .i64 most] w fun e w' => e = tell (Dc.ans (Tx.nums s) most) ∧ w' = w := by
  by_cases hm : 0 ≤ most ∧ most ≤ 4294967295
  · obtain ⟨hm0, hm1⟩ := hm
    have e1 : Dc.ans (Tx.nums s) most = Dc.num (Tx.nums s) most := by unfold Dc.ans; rw [if_pos ⟨hm0, hm1⟩]
    rw [e1]
    have hl := Tx.nums_len s
    by_cases h0 : s.size = 0
    · have : Tx.nums s = [] := List.length_eq_zero_iff.1 (by omega)
      rw [this]
      exact spec_out s most w (by omega) hs
    · by_cases h12 : 12 ≤ s.size
      · rw [Dc.num_long _ most hm0 hm1 (by omega)]
        exact spec_out s most w (by omega) hs
      · have hh := Tx.nums_head s (by omega)
        by_cases h45 : (s[0].toNat : Int) = 45
        · have hc := Tx.nums_drop s 0 (by omega)
          rw [List.drop_zero, h45] at hc
          have := spec_signed s most w hm0 hm1 (by omega) (by omega) h45
          have hd1 : (Tx.nums s).drop 1 = (Tx.nums s).drop (0 + 1) := rfl
          rw [hd1] at this
          generalize hrest : (Tx.nums s).drop (0 + 1) = rest at this hc
          have hrl : rest.length ≤ 10 := by rw [← hrest, List.length_drop]; omega
          rw [hc, Dc.signed rest most hm0 hrl] at this
          rw [hc]
          exact this
        · have := spec_plain s most w hm0 hm1 (by omega) (by omega) h45
          rw [List.drop_zero, Dc.plain _ most hm0 (by omega) (Tx.nums_ne s (by omega)) (by rw [hh]; intro e; injection e with e; exact h45 e)] at this
          exact this
  · have e1 : Dc.ans (Tx.nums s) most = none := by unfold Dc.ans; rw [if_neg hm]
    rw [e1]
    exact spec_out s most w (by omega) hs
theorem ret_val {a b : Value} (h : a = b) : Ending.returned a = .returned b := by rw [h]
/-- A slice that begins at 'a' reads as the texts 'ws', its length theirs. -/
def Flds (w : World) (a : Option Addr) (ws : List ByteArray) : Prop :=
  0 < ws.length → ∃ b off, a = some ⟨b, off, none⟩ ∧ b < w.heap.size ∧ ∀ i x, ws[i]? = some x → w.cell? ⟨b, off + i, none⟩ = some (.string x)
/-- The library's own variable holds a number. -/
def TabM (w : World) : Prop := ∃ m, w.cell? ⟨1, 0, none⟩ = some (.int .i64 m)
namespace Sp
theorem cut_many (c : UInt8) : ∀ l, (cut c l).length ≤ l.length + 1
  | [] => by simp [cut]
  | b :: l => by
    have ih := cut_many c l
    unfold cut
    split
    · simp; omega
    · cases h : cut c l with
      | nil => simp [glue]
      | cons y r => rw [h] at ih; simp [glue] at ih ⊢; omega
end Sp
theorem split_any (c : UInt8) (s : ByteArray) (ws : List ByteArray) (w : World) (hM : TabM w) (hs : s.size ≤ 1048576) (hw : Sp.texts c s = ws) :
    Calls Tryd.prog 26 #[.string s, .string ⟨#[c]⟩] w fun e w' => e = .returned (.slice (some ⟨w.heap.size, 0, none⟩) ws.length ws.length) ∧ Below w.heap.size w w' ∧ Flds w' (some ⟨w.heap.size, 0, none⟩) ws ∧ w'.heap.size = w.heap.size + 1 := by
  obtain ⟨m, hm⟩ := hM
  refine (Tryd.strings_Split s ⟨#[c]⟩ m w (by omega) hm (Nat.le_refl 1)).mono ?_
  rintro e w' ⟨rfl, rfl⟩
  have hl := Sp.cut_len c s
  rw [hw] at hl
  refine ⟨by rw [hl], (Below.refl _ _).alloc (Nat.le_refl _) _, fun h0 => ⟨w.heap.size, 0, rfl, by simp, fun i x hi => ?_⟩, by simp⟩
  rw [Sp.splitB_eq, hw, Nat.zero_add]
  simp [hi]
theorem info9 : (Tryd.prog.info? 9).map (fun i => (i.zero, i.size, i.bytes)) = some (some (.string ⟨#[]⟩), 1, 16) := by kernel_rfl
theorem info9' : ∃ i, Tryd.prog.info? 9 = some i ∧ i.zero = some (.string ⟨#[]⟩) ∧ i.size = 1 ∧ i.bytes = 16 := by
  obtain ⟨i, hi, h⟩ := Option.map_eq_some_iff.1 info9
  simp only [Prod.mk.injEq] at h
  exact ⟨i, hi, h.1, h.2.1, h.2.2⟩
/-- A list of texts that the call owns, from block 'base' on. -/
def OwnS (w : World) (base : Nat) (v : Value) (ws : List ByteArray) : Prop := w.ownsRow base 9 1 v ws.length (ws.map Value.string)
theorem OwnS.nil (w : World) : OwnS (w.alloc (.cells #[] 9)) w.heap.size (.slice (some ⟨w.heap.size, 0, none⟩) 0 0) [] :=
  ⟨rfl, .inr ⟨w.heap.size, 0, #[], rfl, Nat.le_refl _, by show (w.heap.push _)[w.heap.size]? = _; simp, Nat.le_refl _, by simp, rfl, rfl⟩⟩
theorem OwnS.flds {w : World} {base : Nat} {v : Value} {ws : List ByteArray} (h : OwnS w base v ws) : ∃ a cap, v = .slice a ws.length cap ∧ ws.length ≤ cap ∧ Flds w a ws := by
  rcases h.2 with ⟨h0, h1⟩ | ⟨g, cap, cur, rfl, hb, hg, h1, h2, h3, h4⟩
  · exact ⟨none, 0, by rw [h0, h1], by omega, fun h => absurd h (by omega)⟩
  · refine ⟨_, _, rfl, h1, fun h0 => ⟨g, 0, rfl, ?_, fun i x hi => ?_⟩⟩
    · rcases Nat.lt_or_ge g w.heap.size with hlt | hge
      · exact hlt
      · rw [Array.getElem?_eq_none hge] at hg; cases hg
    · rw [Nat.zero_add]
      have hil : i < ws.length := by
        rcases Nat.lt_or_ge i ws.length with h | h
        · exact h
        · rw [List.getElem?_eq_none h] at hi; cases hi
      have e : cur[i]? = some (.string x) := by
        have := congrArg (·[i]?) h4
        simp only [Nat.mul_one] at this
        rw [List.getElem?_take, if_pos hil, List.getElem?_map, hi] at this
        simpa using this
      simp [World.cell?, hg, e]
theorem OwnS.block {w : World} {base : Nat} {v : Value} {ws : List ByteArray} (h : OwnS w base v ws) : ∀ k, v.ownBlock = some k → base ≤ k := by
  rcases h.2 with ⟨h0, h1⟩ | ⟨g, cap, cur, rfl, hb, hg, h1, h2, h3, h4⟩
  · subst h0; intro k hk; cases hk
  · intro k hk; cases hk; exact hb
theorem OwnS.snoc {w : World} {base g cap : Nat} {ws : List ByteArray} {r : ByteArray} (h : w.ownsRow base 9 1 (.slice (some ⟨g, 0, none⟩) (ws.length + 1) cap) (ws.length + 1) (ws.map Value.string ++ [.string r])) :
    OwnS w base (.slice (some ⟨g, 0, none⟩) (ws.length + 1) cap) (ws ++ [r]) := by
  unfold OwnS
  simpa using h
theorem newsS (w : World) (v : Value) : ∀ j u, [v][j]? = some u → (w.alloc (.cells #[v] 9)).cell? ((⟨w.heap.size, 0, none⟩ : Addr).add j) = some u :=
  World.news_of_block (cs := #[v]) (t := 9) (fr := (0, 0)) (by show (w.heap.push _)[w.heap.size]? = _; simp)
theorem oneS (r : ByteArray) : ∀ u ∈ [Value.string r], u.oneCell' = true := by
  intro u hu
  simp only [List.mem_singleton] at hu
  subst hu
  rfl
namespace Sp
def mk (l : List UInt8) : ByteArray := ⟨l.toArray⟩
theorem mk_extract (s : ByteArray) (f i : Nat) : mk ((s.data.toList.take i).drop f) = s.extract f i := by
  apply ByteArray.ext
  apply Array.toList_inj.1
  rw [ByteArray.data_extract, Array.toList_extract, List.drop_take]
  rfl
theorem mk_end (s : ByteArray) (f : Nat) : mk (s.data.toList.drop f) = s.extract f s.size := by
  rw [← mk_extract, show s.data.toList.take s.size = s.data.toList from List.take_of_length_le (Nat.le_refl s.size)]
end Sp
set_option maxHeartbeats 2000000 in
theorem spec_split (s : ByteArray) (w : World) (hs : s.size ≤ 1048576) :
    Calls Tryd.prog 22 #[.string s] w fun e w' => ∃ a cap, e = .returned (.slice a (Sp.texts 32 s).length cap) ∧ (Sp.texts 32 s).length ≤ cap ∧ Flds w' a (Sp.texts 32 s) ∧ Below w.heap.size w w' := by
  obtain ⟨i9, hi9, hz9, hs9, hb9⟩ := info9'
  have HI : Hid _ := And.intro hi9 (And.intro hz9 (And.intro hs9 hb9))
  clear hi9 hz9 hs9 hb9
  have hzz : s.data.toList.length = s.size := rfl
  have HZ : Hid _ := hzz
  clear hzz
  go_enter Tryd.func22, Tryd.ntmps22
  go_wp2
  go_loopw [3, 4, 5] (fun v fr i wr => ∃ (k f : Nat) (done : List (List UInt8)), k ≤ s.size ∧ f ≤ k ∧ fr = .int .i64 f ∧ i = .int .i64 k ∧ done.length ≤ k ∧ Hid (OwnS wr w.heap.size v (done.map Sp.mk) ∧ Below w.heap.size w wr ∧ Sp.At 32 s.data.toList k f done)) (fun _ _ i _ => s.size - (intOf i).toNat)
  case atStart => exact ⟨0, 0, [], by omega, by omega, rfl, rfl, by simp, OwnS.nil w, (Below.refl _ _).alloc (Nat.le_refl _) _, Sp.at_start _ _⟩
  case round =>
    obtain ⟨k, f, done, hk, hf, rfl, rfl, hd, HR⟩ := hrel
    by_cases hlt : k < s.size
    · have hlt' : (k : Int) < (s.size : Int) := by omega
      by_cases hc : s[k] = 32
      · have hc' : ((s[k].toNat : Int) == 32) = true := by rw [hc]; rfl
        have HA : Hid _ := Sp.at_hit HR.out.2.2 (by rw [HZ.out]; exact hlt) hc
        have hown := HR.out.1
        have HN : Hid _ := And.intro HR.out.1 HR.out.2.1
        have HT : Hid _ := Sp.mk_extract s f k
        have HL : Hid ((done.map Sp.mk).length = done.length) := List.length_map ..
        have hdl : (done.map Sp.mk).length ≤ 1048576 := by rw [HL.out]; omega
        clear hc
        go_wp2_with (at_builtin; refine wpList_append_lies _ rfl (.tmp 17) (.tmp 22) 40 rfl w.heap.size 9 i9 (.string ⟨#[]⟩) 1 16 Tryd.underlying40 HI.out.1 HI.out.2.1 HI.out.2.2.1 HI.out.2.2.2 rfl (by omega) _ _ _ rfl (World.ownsRow.alloc hown _) _ 1 1 [.string (s.extract f k)] rfl rfl (newsS _ _) (oneS _) (by omega) (by unfold maxLen; omega) (by omega) (by have := HN.out.2.size; simp; omega) _ rfl ?_; intro g cap1 w1 hown1 hgrow hat hlt1)
        go_wp2
        go_roundw
        case rel =>
          refine ⟨k + 1, k + 1, _, by omega, by omega, by go_num, by go_num, ?_, ?_, ?_, HA⟩
          · simp; omega
          · rw [List.map_append, List.map_cons, List.map_nil, HT.out]
            have h3 := OwnS.snoc hown1
            rw [HL.out] at h3
            exact h3
          · exact (HN.out.2.alloc HN.out.2.size _).grown hgrow (by have := HN.out.2.size; simp; omega) (OwnS.block HN.out.1)
        case measure => simp [intOf]; omega
      · have hc' : ((s[k].toNat : Int) == 32) = false := by
          rw [beq_eq_false_iff_ne]
          intro e
          apply hc
          rw [← UInt8.toNat_inj]
          simpa using (by omega : s[k].toNat = 32)
        have HA : Hid _ := Sp.at_miss HR.out.2.2 (by rw [HZ.out]; exact hlt) hc
        clear hc
        go_wp2
        go_roundw
        case rel => exact ⟨k + 1, f, done, by omega, by omega, rfl, by go_num, by omega, HR.out.1, HR.out.2.1, HA⟩
        case measure => simp [intOf]; omega
    · obtain rfl : k = s.size := by omega
      have HE : Hid (Sp.texts 32 s = done.map Sp.mk ++ [s.extract f s.size]) := by
        show _ = _
        have := Sp.at_end (show Sp.At 32 s.data.toList s.data.toList.length f done from HR.out.2.2)
        unfold Sp.texts
        rw [this, List.map_append, List.map_cons, List.map_nil, ← Sp.mk_end]
        rfl
      have hown := HR.out.1
      have HN : Hid _ := And.intro HR.out.1 HR.out.2.1
      have HL : Hid ((done.map Sp.mk).length = done.length) := List.length_map ..
      have hdl : (done.map Sp.mk).length ≤ 1048576 := by rw [HL.out]; omega
      go_wp2_with (at_builtin; refine wpList_append_lies _ rfl (.tmp 26) (.tmp 30) 40 rfl w.heap.size 9 i9 (.string ⟨#[]⟩) 1 16 Tryd.underlying40 HI.out.1 HI.out.2.1 HI.out.2.2.1 HI.out.2.2.2 rfl (by omega) _ _ _ rfl (World.ownsRow.alloc hown _) _ 1 1 [.string (s.extract f s.size)] rfl rfl (newsS _ _) (oneS _) (by omega) (by unfold maxLen; omega) (by omega) (by have := HN.out.2.size; simp; omega) _ rfl ?_; intro g cap1 w1 hown1 hgrow hat hlt1)
      have HB : Hid _ := (HN.out.2.alloc HN.out.2.size _).grown hgrow (by have := HN.out.2.size; simp; omega) (OwnS.block HN.out.1)
      have HO : Hid _ := OwnS.snoc hown1
      clear hgrow hown1 hown hat
      go_wp2
      go_ret
      have h2 := HO.out
      rw [← HE.out] at h2
      obtain ⟨a, cap, e1, e2, e3⟩ := OwnS.flds h2
      rw [HL.out] at e1
      exact ⟨a, cap, ret_val e1, e2, e3, HB.out⟩
theorem wrap_pred (n : Nat) (h1 : 1 ≤ n) (h2 : n ≤ 1048576) : IntKind.i64.wrap ((n : Int) - 1) = ((n - 1 : Nat) : Int) := by
  rw [IntKind.wrap_i64]
  omega
namespace Ln
/-- What stands ahead of each newline. -/
def pieces (s : ByteArray) : List ByteArray := ((Sp.cut 10 s.data.toList).dropLast).map Sp.mk
/-- Whether a text is lined. -/
def ok (s : ByteArray) : Bool := decide (s.size ≤ 20000) && ((decide (s.size = 0) || s.data.toList.getLast? == some 10) && decide ((pieces s).length ≤ 600))
theorem last_nl (s : ByteArray) (h : 1 ≤ s.size) : (s.data.toList.getLast? == some 10) = ((s[s.size - 1].toNat : Int) == 10) := by
  have hz : s.data.toList.length = s.size := rfl
  have e : s.data.toList.getLast? = some s[s.size - 1] := by
    rw [List.getLast?_eq_getElem?, List.getElem?_eq_getElem (by omega)]
    rfl
  rw [e, Bool.eq_iff_iff]
  simp only [beq_iff_eq, Option.some.injEq]
  constructor
  · intro h; rw [h]; rfl
  · intro h
    rw [← UInt8.toNat_inj]
    simpa using (by omega : s[s.size - 1].toNat = 10)
theorem pieces_many (s : ByteArray) : (pieces s).length ≤ s.size := by
  unfold pieces
  rw [List.length_map, List.length_dropLast]
  have := Sp.cut_many 10 s.data.toList
  have hz : s.data.toList.length = s.size := rfl
  omega
end Ln
/-- Texts that lie in a block from 'lo' on. -/
def FldL (w : World) (lo : Nat) (a : Option Addr) (ws : List ByteArray) : Prop := Flds w a ws ∧ ∀ b off, a = some ⟨b, off, none⟩ → lo ≤ b
/-- Texts that lie in block 'b'. -/
def FldB (w : World) (b : Nat) (a : Option Addr) (ws : List ByteArray) : Prop :=
  0 < ws.length → b < w.heap.size ∧ ∃ off, a = some ⟨b, off, none⟩ ∧ ∀ i x, ws[i]? = some x → w.cell? ⟨b, off + i, none⟩ = some (.string x)
namespace Ln
theorem suf_nl (l : List UInt8) : Lib.hasSuffix l [10] = (l.getLast? == some 10) := by
  unfold Lib.hasSuffix
  rw [Bool.eq_iff_iff, List.isSuffixOf_iff_suffix, beq_iff_eq]
  constructor
  · rintro ⟨t, rfl⟩
    simp
  · intro h
    obtain ⟨t, rfl⟩ := List.getLast?_eq_some_iff.1 h
    exact ⟨t, rfl⟩
theorem cut_count (c : UInt8) : ∀ l : List UInt8, (Sp.cut c l).length = l.count c + 1
  | [] => by simp [Sp.cut]
  | b :: l => by
    have ih := cut_count c l
    unfold Sp.cut
    by_cases h : b = c
    · rw [if_pos h, h]
      simp [ih]
    · rw [if_neg h]
      rw [List.count_cons_of_ne (by simpa using h)]
      cases hq : Sp.cut c l with
      | nil => rw [hq] at ih; simp at ih
      | cons y r => rw [hq] at ih; simpa [Sp.glue] using ih
theorem pieces_count (s : ByteArray) : (pieces s).length = Lib.countByte s.data.toList 10 := by
  unfold pieces Lib.countByte
  rw [List.length_map, List.length_dropLast, cut_count]
  omega
end Ln
end Go.Proofs.YthlapikcjiajgaaDoor
