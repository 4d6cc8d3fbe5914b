/-
  What LabelOk returns, the specification's and the program's own, at every text: whether it is the name of a label. Condition: the text is at most 1048576 bytes long.
-/
import Derived.Test.YtdjapcfejmhjnaaGreatDoorTxt
import Derived.Laws.RangeAny
import Derived.OpenShut
import Derived.Below
import Derived.Test.YtdjapcfejmhjnaaGreatDoorProg
namespace Go.Proofs.YtdjapcfejmhjnaaGreatDoor
open Go.ChangeShapes Go.WideShapes Go.ChangeAt Go.RowKit
set_option linter.unusedVariables false
namespace Lab
def low : List Int → Bool
  | [] => true
  | b :: l => decide (97 ≤ b ∧ b ≤ 122) && low l
def ok (l : List Int) : Bool := decide (1 ≤ l.length ∧ l.length ≤ 12) && low l
theorem low_yes (b : Int) (l : List Int) (h1 : 97 ≤ b) (h2 : b ≤ 122) : low (b :: l) = low l := by simp [low, h1, h2]
theorem low_no (b : Int) (l : List Int) (h : ¬ (97 ≤ b ∧ b ≤ 122)) : low (b :: l) = false := by
  unfold low
  rw [decide_eq_false h]
  rfl
theorem ok_in (l : List Int) (h1 : 1 ≤ l.length) (h2 : l.length ≤ 12) : ok l = low l := by simp [ok, h1, h2]
theorem ok_out (l : List Int) (h : ¬ (1 ≤ l.length ∧ l.length ≤ 12)) : ok l = false := by
  unfold ok
  rw [decide_eq_false h]
  rfl
end Lab
theorem ret_bl {a b : Bool} (h : a = b) : Ending.returned (.bool a) = .returned (.bool b) := by rw [h]
set_option maxHeartbeats 400000 in
theorem lin_yes (x a b : Int) (w : World) (h1 : a ≤ x) (h2 : x ≤ b) :
    Calls Tryz.prog 61 #[.int .i64 x, .int .i64 a, .int .i64 b] w fun e w' => e = .returned (.bool true) ∧ w' = w := by
  go_enter Tryz.func61, Tryz.ntmps61
  go_wp2
  go_ret
  exact ⟨rfl, rfl⟩
set_option maxHeartbeats 400000 in
theorem lin_no (x a b : Int) (w : World) (h : ¬ (a ≤ x ∧ x ≤ b)) :
    Calls Tryz.prog 61 #[.int .i64 x, .int .i64 a, .int .i64 b] w fun e w' => e = .returned (.bool false) ∧ w' = w := by
  by_cases h1 : a ≤ x
  · have h2 : ¬ x ≤ b := by omega
    clear h
    go_enter Tryz.func61, Tryz.ntmps61
    go_wp2
    go_ret
    exact ⟨rfl, rfl⟩
  · clear h
    go_enter Tryz.func61, Tryz.ntmps61
    go_wp2
    go_ret
    exact ⟨rfl, rfl⟩
theorem lin_any (x a b : Int) (w : World) :
    Calls Tryz.prog 61 #[.int .i64 x, .int .i64 a, .int .i64 b] w fun e w' => e = .returned (.bool (decide (a ≤ x ∧ x ≤ b))) ∧ w' = w := by
  by_cases h : a ≤ x ∧ x ≤ b
  · rw [decide_eq_true h]; exact lin_yes x a b w h.1 h.2
  · rw [decide_eq_false h]; exact lin_no x a b w h
set_option maxHeartbeats 400000 in
theorem impl_isn_out (t : ByteArray) (w : World) (ht : t.size ≤ 1048576) (h : ¬ (1 ≤ t.size ∧ t.size ≤ 12)) :
    Calls Tryz.prog 121 #[.string t, .int .i64 12] w fun e w' => e = .returned (.bool false) ∧ Below w.heap.size w w' := by
  by_cases h1 : t.size < 1
  · have h2 : (t.size : Int) < 1 := by omega
    clear h
    go_enter Tryz.func121, Tryz.ntmps121
    go_wp2
    go_ret
    exact ⟨rfl, Below.refl _ _⟩
  · have h2 : ¬ (t.size : Int) < 1 := by omega
    have h3 : 12 < (t.size : Int) := by omega
    clear h h1
    go_enter Tryz.func121, Tryz.ntmps121
    go_wp2
    go_ret
    exact ⟨rfl, Below.refl _ _⟩
set_option maxHeartbeats 1000000 in
theorem impl_isn_in (t : ByteArray) (w : World) (g1 : 1 ≤ t.size) (g2 : t.size ≤ 12) :
    Calls Tryz.prog 121 #[.string t, .int .i64 12] w fun e w' => e = .returned (.bool (Lab.low (Tx.nums t))) ∧ Below w.heap.size w w' := by
  have HBW : Hid (∀ p, Below w.heap.size w (w.iter t p)) := fun p => (Below.refl _ _).alloc (Nat.le_refl _) _
  have g3 : ¬ (t.size : Int) < 1 := by omega
  have g4 : ¬ 12 < (t.size : Int) := by omega
  go_enter Tryz.func121, Tryz.ntmps121
  go_wp2
  go_loopw [6] (fun r wr => ∃ (k : Nat), wr = w.iter t k ∧ k ≤ t.size ∧ Hid (Lab.low ((Tx.nums t).drop k) = Lab.low (Tx.nums t))) (fun _ wr => t.size - wr.iterPos w.heap.size)
  case atStart => exact ⟨0, rfl, by omega, by simp [Hid]⟩
  case round =>
    obtain ⟨k, rfl, hk, HC⟩ := hrel
    by_cases hlt : k < t.size
    · have HD : Hid _ := Tx.nums_drop t k hlt
      by_cases ha : t[k].toNat < 128
      · have hnx : ∀ ty, (Instr.next (.pointer (some ⟨w.heap.size, 0, none⟩)) true ty).run Tryz.prog (w.iter t k) = _ := fun ty => run_next_ascii w t k ty hlt ha
        by_cases h1 : 97 ≤ (t[k].toNat : Int) ∧ (t[k].toNat : Int) ≤ 122
        · have HV : Hid (Lab.low ((Tx.nums t).drop (k + 1)) = Lab.low (Tx.nums t)) := by
            show _ = _
            rw [← HC.out, HD.out, Lab.low_yes _ _ h1.1 h1.2]
          obtain ⟨h11, h12⟩ := h1
          go_wp2
          go_roundw
          case rel => exact ⟨k + 1, rfl, by omega, HV⟩
          case measure => simp; omega
        · have HR : Hid (false = Lab.low (Tx.nums t)) := by
            show _ = _
            rw [← HC.out, HD.out, Lab.low_no _ _ h1]
          by_cases h2 : (t[k].toNat : Int) < 97
          · clear h1
            go_wp2
            go_ret
            exact ⟨ret_bl HR.out, HBW.out _⟩
          · have h3 : 122 < (t[k].toNat : Int) := by omega
            clear h1
            go_wp2
            go_ret
            exact ⟨ret_bl HR.out, HBW.out _⟩
      · have hhi := decode_high t k hlt (by omega)
        have hle := decode_le t k
        have hnx : ∀ ty, (Instr.next (.pointer (some ⟨w.heap.size, 0, none⟩)) true ty).run Tryz.prog (w.iter t k) = _ := fun ty => run_next_any w t k ty hlt
        have HR : Hid (false = Lab.low (Tx.nums t)) := by
          show _ = _
          rw [← HC.out, HD.out, Lab.low_no _ _ (fun h => by omega)]
        generalize Utf8.decode t k = dc at hnx hhi hle
        obtain ⟨dr, dw⟩ := dc
        simp only at hnx hhi hle
        obtain ⟨hh1, hh2⟩ := hhi
        have h3 : 122 < (dr : Int) := by omega
        have h4 : ¬ (dr : Int) < 97 := by omega
        go_wp2
        go_ret
        exact ⟨ret_bl HR.out, HBW.out _⟩
    · have hke : k = t.size := by omega
      have hnx : ∀ ty, (Instr.next (.pointer (some ⟨w.heap.size, 0, none⟩)) true ty).run Tryz.prog (w.iter t k) = _ := fun ty => run_next_end w t k ty hlt
      have HR : Hid (true = Lab.low (Tx.nums t)) := by
        show _ = _
        rw [← HC.out, List.drop_of_length_le (by rw [Tx.nums_len]; omega)]
        rfl
      clear hke
      go_wp2
      go_ret
      exact ⟨ret_bl HR.out, HBW.out _⟩
theorem impl_isn (t : ByteArray) (w : World) (ht : t.size ≤ 1048576) :
    Calls Tryz.prog 121 #[.string t, .int .i64 12] w fun e w' => e = .returned (.bool (Lab.ok (Tx.nums t))) ∧ Below w.heap.size w w' := by
  by_cases h : 1 ≤ t.size ∧ t.size ≤ 12
  · rw [Lab.ok_in _ (by rw [Tx.nums_len]; exact h.1) (by rw [Tx.nums_len]; exact h.2)]
    exact impl_isn_in t w h.1 h.2
  · rw [Lab.ok_out _ (by rw [Tx.nums_len]; exact h)]
    exact impl_isn_out t w ht h
theorem impl_lab (t : ByteArray) (w : World) (ht : t.size ≤ 1048576) :
    Calls Tryz.prog 98 #[.string t] w fun e w' => e = .returned (.bool (Lab.ok (Tx.nums t))) ∧ Below w.heap.size w w' := by
  obtain ⟨v, HV⟩ : ∃ v, Hid (Lab.ok (Tx.nums t) = v) := ⟨_, rfl⟩
  rw [HV.out]
  go_enter Tryz.func98, Tryz.ntmps98
  go_wp2_with fail
  refine Calls.mono (impl_isn t _ ht) ?_
  rintro e w1 ⟨rfl, hb⟩
  rw [HV.out]
  have HB : Hid _ := hb
  clear hb
  go_wp2
  go_ret
  exact ⟨rfl, HB.out⟩
set_option maxHeartbeats 1000000 in
theorem spec_lab (t : ByteArray) (w : World) (ht : t.size ≤ 1048576) :
    Calls Tryz.prog 84 #[.string t] w fun e w' => e = .returned (.bool (Lab.ok (Tx.nums t))) ∧ w' = w := by
  go_enter Tryz.func84, Tryz.ntmps84
  go_wp2
  go_loop [3] (fun i => ∃ (k : Nat), i = .int .i64 k ∧ k ≤ t.size ∧ k ≤ 13 ∧ Hid (Lab.low ((Tx.nums t).drop k) = Lab.low (Tx.nums t))) (fun i => t.size - (intOf i).toNat)
  case atStart => exact ⟨0, rfl, by omega, by omega, by simp [Hid]⟩
  case round =>
    obtain ⟨k, rfl, hk, hk13, HC⟩ := hrel
    by_cases hlt : k < t.size
    · by_cases h13 : k < 13
      · have HD : Hid _ := Tx.nums_drop t k hlt
        have hlt' : (k : Int) < (t.size : Int) := by omega
        have h13' : (k : Int) < 13 := by omega
        by_cases h1 : 97 ≤ (t[k].toNat : Int) ∧ (t[k].toNat : Int) ≤ 122
        · have HV : Hid (Lab.low ((Tx.nums t).drop (k + 1)) = Lab.low (Tx.nums t)) := by
            show _ = _
            rw [← HC.out, HD.out, Lab.low_yes _ _ h1.1 h1.2]
          obtain ⟨h11, h12⟩ := h1
          go_wp2_with fail
          refine (lin_yes _ _ _ _ (by first | assumption | omega) (by first | assumption | omega)).mono ?_
          rintro e w1 ⟨rfl, rfl⟩
          go_wp2
          go_round
          case rel => exact ⟨k + 1, by go_num, by omega, by omega, HV⟩
          case measure => simp [intOf]; omega
        · have HR : Hid (Lab.ok (Tx.nums t) = false) := by
            show _ = _
            unfold Lab.ok
            rw [← HC.out, HD.out, Lab.low_no _ _ h1, Bool.and_false]
          have H1 : Hid _ := h1
          have hb0 : 0 ≤ (t[k].toNat : Int) := by omega
          have hb1 : (t[k].toNat : Int) ≤ 255 := by have := t[k].toNat_lt; omega
          clear h1
          go_wp2_with fail
          refine (lin_no _ _ _ _ H1.out).mono ?_
          rintro e w1 ⟨rfl, rfl⟩
          go_wp2
          go_ret
          exact ⟨ret_bl HR.out.symm, rfl⟩
      · have h13' : ¬ (k : Int) < 13 := by omega
        have hlt' : (k : Int) < (t.size : Int) := by omega
        have HR : Hid (Lab.ok (Tx.nums t) = false) := Lab.ok_out _ (by rw [Tx.nums_len]; omega)
        have ho : ¬ (1 ≤ (t.size : Int) ∧ (t.size : Int) ≤ 12) := by omega
        have HO : Hid _ := ho
        clear ho
        go_wp2_with fail
        refine (lin_no _ _ _ _ HO.out).mono ?_
        rintro e w1 ⟨rfl, rfl⟩
        go_wp2
        go_ret
        exact ⟨ret_bl HR.out.symm, rfl⟩
    · have hlt' : ¬ (k : Int) < (t.size : Int) := by omega
      have HR : Hid (Lab.ok (Tx.nums t) = decide (1 ≤ (t.size : Int) ∧ (t.size : Int) ≤ 12)) := by
        show _ = _
        unfold Lab.ok
        rw [← HC.out, List.drop_of_length_le (by rw [Tx.nums_len]; omega), Tx.nums_len]
        have e : ((1 ≤ t.size ∧ t.size ≤ 12) ↔ (1 ≤ (t.size : Int) ∧ (t.size : Int) ≤ 12)) := by omega
        simp [Lab.low, e]
      go_wp2_with fail
      refine (lin_any _ _ _ _).mono ?_
      rintro e w1 ⟨rfl, rfl⟩
      generalize decide (1 ≤ (t.size : Int) ∧ (t.size : Int) ≤ 12) = bb at HR
      go_wp2
      go_ret
      exact ⟨ret_bl HR.out.symm, rfl⟩
end Go.Proofs.YtdjapcfejmhjnaaGreatDoor
