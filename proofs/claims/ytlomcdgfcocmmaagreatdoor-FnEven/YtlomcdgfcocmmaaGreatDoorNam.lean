/-
  Texts as lists of bytes: plain facts. No function of the program in sight; no conditions but those that each fact names.
  What NameOk returns, the specification's and the program's own, at every text: whether it is a name. Condition: the text is at most 1048576 bytes long.
-/
import Derived.Test.YtlomcdgfcocmmaaGreatDoorBas
import Derived.WalkKit
import Derived.ProofKit
import Derived.Laws.RangeAny
import Derived.OpenShut
import Derived.Below
import Derived.Test.YtlomcdgfcocmmaaGreatDoorProg
namespace Go.Proofs.YtlomcdgfcocmmaaGreatDoor
open Go.RowKit
theorem ret_str {a b : ByteArray} (h : a = b) : Ending.returned (.string a) = .returned (.string b) := by rw [h]
namespace Tx
def txt (l : List Int) : ByteArray := ⟨(l.map fun n => UInt8.ofNat n.toNat).toArray⟩
def nums (s : ByteArray) : List Int := s.data.toList.map fun c => (c.toNat : Int)
theorem nums_len (s : ByteArray) : (nums s).length = s.size := by
  unfold nums
  rw [List.length_map]
  rfl
theorem nums_drop (s : ByteArray) (k : Nat) (h : k < s.size) : (nums s).drop k = (s[k].toNat : Int) :: (nums s).drop (k + 1) := by
  rw [List.drop_eq_getElem_cons (by rw [nums_len]; exact h)]
  congr 1
  simp [nums]
  rfl
theorem txt_size (l : List Int) : (txt l).size = l.length := by simp [txt, ByteArray.size]
theorem txt_cons (d : Int) (l : List Int) : txt [d] ++ txt l = txt (d :: l) := by
  apply ByteArray.ext
  simp [txt]
theorem txt_nums (s : ByteArray) : txt (nums s) = s := by
  apply ByteArray.ext
  have : (nums s).map (fun n => UInt8.ofNat n.toNat) = s.data.toList := by
    unfold nums
    rw [List.map_map]
    conv => rhs; rw [← List.map_id s.data.toList]
    apply List.map_congr_left
    intro c _
    simp
  simp [txt, this]
theorem nums_txt (l : List Int) (h : ∀ n ∈ l, 0 ≤ n ∧ n ≤ 255) : nums (txt l) = l := by
  unfold nums txt
  rw [List.toList_toArray, List.map_map]
  conv => rhs; rw [← List.map_id l]
  apply List.map_congr_left
  intro n hn
  have := h n hn
  simp
  omega
theorem txt_eq (l : List Int) (s : ByteArray) (h : l = nums s) : txt l = s := by rw [h, txt_nums]
theorem txt_ne (l : List Int) (s : ByteArray) (hl : ∀ n ∈ l, 0 ≤ n ∧ n ≤ 255) (h : ¬ l = nums s) : txt l ≠ s := by
  intro e
  exact h (by rw [← e, nums_txt l hl])
theorem empty_no (t : ByteArray) (h : 0 < t.size) : t.toList.isEmpty = false := by
  rw [ByteArray.toList_eq]
  cases hl : t.data.toList with
  | nil =>
    have : t.size = t.data.toList.length := rfl
    rw [hl, List.length_nil] at this
    omega
  | cons _ _ => rfl
theorem empty_yes (t : ByteArray) (h : t.size = 0) : t.toList.isEmpty = true := by
  rw [ByteArray.toList_eq]
  cases hl : t.data.toList with
  | nil => rfl
  | cons a l =>
    have : t.size = t.data.toList.length := rfl
    rw [hl, List.length_cons] at this
    omega
theorem head_test (s : ByteArray) (h : 0 < s.size) : ((s.extract 0 1).toList == [45]) = decide ((nums s).head? = some 45) := by
  have hz : s.data.toList.length = s.size := rfl
  have e : (s.extract 0 1).toList = s.data.toList.take 1 := by
    rw [ByteArray.toList_eq, ByteArray.data_extract]
    simp
  rw [e]
  unfold nums
  cases hl : s.data.toList with
  | nil => rw [hl, List.length_nil] at hz; omega
  | cons a l =>
    rw [Bool.eq_iff_iff]
    simp [← UInt8.toNat_inj]
    omega
theorem nums_tail (s : ByteArray) : nums (s.extract 1 s.size) = (nums s).tail := by
  have hz : s.data.toList.length = s.size := rfl
  unfold nums
  rw [ByteArray.data_extract, ← List.map_tail]
  congr 1
  rw [← hz]
  cases hl : s.data with
  | mk l => cases l <;> simp
theorem nums_head (s : ByteArray) (h : 0 < s.size) : (nums s).head? = some (s[0].toNat : Int) := by
  have := nums_drop s 0 h
  rw [List.drop_zero] at this
  rw [this]
  rfl
theorem nums_ne (s : ByteArray) (h : 0 < s.size) : nums s ≠ [] := by
  intro e
  have := nums_len s
  rw [e] at this
  simp at this
  omega
theorem list_ne (t s : ByteArray) (h : t ≠ s) : (t.toList == s.toList) = false := by
  rw [ByteArray.toList_eq, ByteArray.toList_eq]
  rw [beq_eq_false_iff_ne]
  intro e
  exact h (by
    apply ByteArray.ext
    exact Array.toList_inj.1 e)
end Tx
end Go.Proofs.YtlomcdgfcocmmaaGreatDoor
namespace Go.Proofs.YtlomcdgfcocmmaaGreatDoor
open Go.ChangeShapes Go.WideShapes Go.ChangeAt Go.RowKit
set_option linter.unusedVariables false
namespace Lab
def low : List Int → Bool
  | [] => true
  | b :: l => decide (97 ≤ b ∧ b ≤ 122) && low l
def ok (l : List Int) : Bool := decide (1 ≤ l.length ∧ l.length ≤ 12) && low l
theorem low_yes (b : Int) (l : List Int) (h1 : 97 ≤ b) (h2 : b ≤ 122) : low (b :: l) = low l := by simp [low, h1, h2]
theorem low_no (b : Int) (l : List Int) (h : ¬ (97 ≤ b ∧ b ≤ 122)) : low (b :: l) = false := by
  unfold low
  rw [decide_eq_false h]
  rfl
theorem ok_in (l : List Int) (h1 : 1 ≤ l.length) (h2 : l.length ≤ 12) : ok l = low l := by simp [ok, h1, h2]
theorem ok_out (l : List Int) (h : ¬ (1 ≤ l.length ∧ l.length ≤ 12)) : ok l = false := by
  unfold ok
  rw [decide_eq_false h]
  rfl
def nok (l : List Int) : Bool := decide (1 ≤ l.length ∧ l.length ≤ 8) && low l
theorem nok_in (l : List Int) (h1 : 1 ≤ l.length) (h2 : l.length ≤ 8) : nok l = low l := by simp [nok, h1, h2]
theorem nok_out (l : List Int) (h : ¬ (1 ≤ l.length ∧ l.length ≤ 8)) : nok l = false := by
  unfold nok
  rw [decide_eq_false h]
  rfl
theorem nok_ok (l : List Int) (h : l.length ≤ 8) : nok l = ok l := by
  by_cases h1 : 1 ≤ l.length
  · rw [nok_in l h1 h, ok_in l h1 (by omega)]
  · rw [nok_out l (fun g => h1 g.1), ok_out l (fun g => h1 g.1)]
end Lab
set_option maxHeartbeats 400000 in
theorem lin_yes (x a b : Int) (w : World) (h1 : a ≤ x) (h2 : x ≤ b) :
    Calls Tryz.prog 33 #[.int .i64 x, .int .i64 a, .int .i64 b] w fun e w' => e = .returned (.bool true) ∧ w' = w := by
  go_enter Tryz.func33, Tryz.ntmps33
  go_wp2
  go_ret
  exact ⟨rfl, rfl⟩
set_option maxHeartbeats 400000 in
theorem lin_no (x a b : Int) (w : World) (h : ¬ (a ≤ x ∧ x ≤ b)) :
    Calls Tryz.prog 33 #[.int .i64 x, .int .i64 a, .int .i64 b] w fun e w' => e = .returned (.bool false) ∧ w' = w := by
  by_cases h1 : a ≤ x
  · have h2 : ¬ x ≤ b := by omega
    clear h
    go_enter Tryz.func33, Tryz.ntmps33
    go_wp2
    go_ret
    exact ⟨rfl, rfl⟩
  · clear h
    go_enter Tryz.func33, Tryz.ntmps33
    go_wp2
    go_ret
    exact ⟨rfl, rfl⟩
theorem lin_any (x a b : Int) (w : World) :
    Calls Tryz.prog 33 #[.int .i64 x, .int .i64 a, .int .i64 b] w fun e w' => e = .returned (.bool (decide (a ≤ x ∧ x ≤ b))) ∧ w' = w := by
  by_cases h : a ≤ x ∧ x ≤ b
  · rw [decide_eq_true h]; exact lin_yes x a b w h.1 h.2
  · rw [decide_eq_false h]; exact lin_no x a b w h
set_option maxHeartbeats 400000 in
theorem impl_isn_out (t : ByteArray) (w : World) (ht : t.size ≤ 1048576) (h : ¬ (1 ≤ t.size ∧ t.size ≤ 8)) :
    Calls Tryz.prog 177 #[.string t, .int .i64 8] w fun e w' => e = .returned (.bool false) ∧ Below w.heap.size w w' := by
  by_cases h1 : t.size < 1
  · have h2 : (t.size : Int) < 1 := by omega
    clear h
    go_enter Tryz.func177, Tryz.ntmps177
    go_wp2
    go_ret
    exact ⟨rfl, Below.refl _ _⟩
  · have h2 : ¬ (t.size : Int) < 1 := by omega
    have h3 : 8 < (t.size : Int) := by omega
    clear h h1
    go_enter Tryz.func177, Tryz.ntmps177
    go_wp2
    go_ret
    exact ⟨rfl, Below.refl _ _⟩
set_option maxHeartbeats 1000000 in
theorem impl_isn_in (t : ByteArray) (w : World) (g1 : 1 ≤ t.size) (g2 : t.size ≤ 8) :
    Calls Tryz.prog 177 #[.string t, .int .i64 8] w fun e w' => e = .returned (.bool (Lab.low (Tx.nums t))) ∧ Below w.heap.size w w' := by
  have HBW : Hid (∀ p, Below w.heap.size w (w.iter t p)) := fun p => (Below.refl _ _).alloc (Nat.le_refl _) _
  have g3 : ¬ (t.size : Int) < 1 := by omega
  have g4 : ¬ 8 < (t.size : Int) := by omega
  go_enter Tryz.func177, Tryz.ntmps177
  go_wp2
  go_loopw [6] (fun r wr => ∃ (k : Nat), wr = w.iter t k ∧ k ≤ t.size ∧ Hid (Lab.low ((Tx.nums t).drop k) = Lab.low (Tx.nums t))) (fun _ wr => t.size - wr.iterPos w.heap.size)
  case atStart => exact ⟨0, rfl, by omega, by simp [Hid]⟩
  case round =>
    obtain ⟨k, rfl, hk, HC⟩ := hrel
    by_cases hlt : k < t.size
    · have HD : Hid _ := Tx.nums_drop t k hlt
      by_cases ha : t[k].toNat < 128
      · have hnx : ∀ ty, (Instr.next (.pointer (some ⟨w.heap.size, 0, none⟩)) true ty).run Tryz.prog (w.iter t k) = _ := fun ty => run_next_ascii w t k ty hlt ha
        by_cases h1 : 97 ≤ (t[k].toNat : Int) ∧ (t[k].toNat : Int) ≤ 122
        · have HV : Hid (Lab.low ((Tx.nums t).drop (k + 1)) = Lab.low (Tx.nums t)) := by
            show _ = _
            rw [← HC.out, HD.out, Lab.low_yes _ _ h1.1 h1.2]
          obtain ⟨h11, h12⟩ := h1
          go_wp2
          go_roundw
          case rel => exact ⟨k + 1, rfl, by omega, HV⟩
          case measure => simp; omega
        · have HR : Hid (false = Lab.low (Tx.nums t)) := by
            show _ = _
            rw [← HC.out, HD.out, Lab.low_no _ _ h1]
          by_cases h2 : (t[k].toNat : Int) < 97
          · clear h1
            go_wp2
            go_ret
            exact ⟨ret_bool HR.out, HBW.out _⟩
          · have h3 : 122 < (t[k].toNat : Int) := by omega
            clear h1
            go_wp2
            go_ret
            exact ⟨ret_bool HR.out, HBW.out _⟩
      · have hhi := decode_high t k hlt (by omega)
        have hle := decode_le t k
        have hnx : ∀ ty, (Instr.next (.pointer (some ⟨w.heap.size, 0, none⟩)) true ty).run Tryz.prog (w.iter t k) = _ := fun ty => run_next_any w t k ty hlt
        have HR : Hid (false = Lab.low (Tx.nums t)) := by
          show _ = _
          rw [← HC.out, HD.out, Lab.low_no _ _ (fun h => by omega)]
        generalize Utf8.decode t k = dc at hnx hhi hle
        obtain ⟨dr, dw⟩ := dc
        simp only at hnx hhi hle
        obtain ⟨hh1, hh2⟩ := hhi
        have h3 : 122 < (dr : Int) := by omega
        have h4 : ¬ (dr : Int) < 97 := by omega
        go_wp2
        go_ret
        exact ⟨ret_bool HR.out, HBW.out _⟩
    · have hke : k = t.size := by omega
      have hnx : ∀ ty, (Instr.next (.pointer (some ⟨w.heap.size, 0, none⟩)) true ty).run Tryz.prog (w.iter t k) = _ := fun ty => run_next_end w t k ty hlt
      have HR : Hid (true = Lab.low (Tx.nums t)) := by
        show _ = _
        rw [← HC.out, List.drop_of_length_le (by rw [Tx.nums_len]; omega)]
        rfl
      clear hke
      go_wp2
      go_ret
      exact ⟨ret_bool HR.out, HBW.out _⟩
theorem impl_isn (t : ByteArray) (w : World) (ht : t.size ≤ 1048576) :
    Calls Tryz.prog 177 #[.string t, .int .i64 8] w fun e w' => e = .returned (.bool (Lab.nok (Tx.nums t))) ∧ Below w.heap.size w w' := by
  by_cases h : 1 ≤ t.size ∧ t.size ≤ 8
  · rw [Lab.nok_in _ (by rw [Tx.nums_len]; exact h.1) (by rw [Tx.nums_len]; exact h.2)]
    exact impl_isn_in t w h.1 h.2
  · rw [Lab.nok_out _ (by rw [Tx.nums_len]; exact h)]
    exact impl_isn_out t w ht h
set_option maxHeartbeats 1000000 in
theorem spec_lab (t : ByteArray) (w : World) (ht : t.size ≤ 1048576) :
    Calls Tryz.prog 174 #[.string t] w fun e w' => e = .returned (.bool (Lab.ok (Tx.nums t))) ∧ w' = w := by
  go_enter Tryz.func174, Tryz.ntmps174
  go_wp2
  go_loop [3] (fun i => ∃ (k : Nat), i = .int .i64 k ∧ k ≤ t.size ∧ k ≤ 13 ∧ Hid (Lab.low ((Tx.nums t).drop k) = Lab.low (Tx.nums t))) (fun i => t.size - (intOf i).toNat)
  case atStart => exact ⟨0, rfl, by omega, by omega, by simp [Hid]⟩
  case round =>
    obtain ⟨k, rfl, hk, hk13, HC⟩ := hrel
    by_cases hlt : k < t.size
    · by_cases h13 : k < 13
      · have HD : Hid _ := Tx.nums_drop t k hlt
        have hlt' : (k : Int) < (t.size : Int) := by omega
        have h13' : (k : Int) < 13 := by omega
        by_cases h1 : 97 ≤ (t[k].toNat : Int) ∧ (t[k].toNat : Int) ≤ 122
        · have HV : Hid (Lab.low ((Tx.nums t).drop (k + 1)) = Lab.low (Tx.nums t)) := by
            show _ = _
            rw [← HC.out, HD.out, Lab.low_yes _ _ h1.1 h1.2]
          obtain ⟨h11, h12⟩ := h1
          go_wp2_with fail
          refine (lin_yes _ _ _ _ (by first | assumption | omega) (by first | assumption | omega)).mono ?_
          rintro e w1 ⟨rfl, rfl⟩
          go_wp2
          go_round
          case rel => exact ⟨k + 1, by go_num, by omega, by omega, HV⟩
          case measure => simp [intOf]; omega
        · have HR : Hid (Lab.ok (Tx.nums t) = false) := by
            show _ = _
            unfold Lab.ok
            rw [← HC.out, HD.out, Lab.low_no _ _ h1, Bool.and_false]
          have H1 : Hid _ := h1
          have hb0 : 0 ≤ (t[k].toNat : Int) := by omega
          have hb1 : (t[k].toNat : Int) ≤ 255 := by have := t[k].toNat_lt; omega
          clear h1
          go_wp2_with fail
          refine (lin_no _ _ _ _ H1.out).mono ?_
          rintro e w1 ⟨rfl, rfl⟩
          go_wp2
          go_ret
          exact ⟨ret_bool HR.out.symm, rfl⟩
      · have h13' : ¬ (k : Int) < 13 := by omega
        have hlt' : (k : Int) < (t.size : Int) := by omega
        have HR : Hid (Lab.ok (Tx.nums t) = false) := Lab.ok_out _ (by rw [Tx.nums_len]; omega)
        have ho : ¬ (1 ≤ (t.size : Int) ∧ (t.size : Int) ≤ 12) := by omega
        have HO : Hid _ := ho
        clear ho
        go_wp2_with fail
        refine (lin_no _ _ _ _ HO.out).mono ?_
        rintro e w1 ⟨rfl, rfl⟩
        go_wp2
        go_ret
        exact ⟨ret_bool HR.out.symm, rfl⟩
    · have hlt' : ¬ (k : Int) < (t.size : Int) := by omega
      have HR : Hid (Lab.ok (Tx.nums t) = decide (1 ≤ (t.size : Int) ∧ (t.size : Int) ≤ 12)) := by
        show _ = _
        unfold Lab.ok
        rw [← HC.out, List.drop_of_length_le (by rw [Tx.nums_len]; omega), Tx.nums_len]
        have e : ((1 ≤ t.size ∧ t.size ≤ 12) ↔ (1 ≤ (t.size : Int) ∧ (t.size : Int) ≤ 12)) := by omega
        simp [Lab.low, e]
      go_wp2_with fail
      refine (lin_any _ _ _ _).mono ?_
      rintro e w1 ⟨rfl, rfl⟩
      generalize decide (1 ≤ (t.size : Int) ∧ (t.size : Int) ≤ 12) = bb at HR
      go_wp2
      go_ret
      exact ⟨ret_bool HR.out.symm, rfl⟩
theorem impl_name (t : ByteArray) (q : Bool) (w : World) (ht : t.size ≤ 1048576) (hq : Hid (Lab.nok (Tx.nums t) = q)) :
    Calls Tryz.prog 131 #[.string t] w fun e w' => e = .returned (.bool q) ∧ Below w.heap.size w w' := by
  have HI : Hid _ := fun X => impl_isn t X ht
  rw [hq.out] at HI
  go_enter Tryz.func131, Tryz.ntmps131
  go_wp2_with fail
  refine (HI.out _).mono ?_
  rintro e w1 ⟨rfl, hb⟩
  have HB : Hid _ := hb
  clear hb
  go_wp2
  go_ret
  exact ⟨rfl, HB.out⟩
theorem spec_name (t : ByteArray) (q : Bool) (w : World) (ht : t.size ≤ 1048576) (hq : Hid (Lab.nok (Tx.nums t) = q)) :
    Calls Tryz.prog 108 #[.string t] w fun e w' => e = .returned (.bool q) ∧ w' = w := by
  by_cases h8 : t.size ≤ 8
  · have h8' : (t.size : Int) ≤ 8 := by omega
    have HI : Hid _ := fun X => spec_lab t X ht
    have hq2 := hq.out
    rw [Lab.nok_ok _ (by rw [Tx.nums_len]; exact h8)] at hq2
    rw [hq2] at HI
    clear hq2 hq h8
    go_enter Tryz.func108, Tryz.ntmps108
    go_wp2_with fail
    refine (HI.out _).mono ?_
    rintro e w1 ⟨rfl, rfl⟩
    go_wp2
    go_ret
    exact ⟨rfl, rfl⟩
  · have h8' : ¬ (t.size : Int) ≤ 8 := by omega
    have HQ : Hid (q = false) := by
      show _ = _
      rw [← hq.out, Lab.nok_out _ (by rw [Tx.nums_len]; omega)]
    clear hq h8
    go_enter Tryz.func108, Tryz.ntmps108
    go_wp2
    go_ret
    exact ⟨ret_bool HQ.out.symm, rfl⟩
end Go.Proofs.YtlomcdgfcocmmaaGreatDoor
