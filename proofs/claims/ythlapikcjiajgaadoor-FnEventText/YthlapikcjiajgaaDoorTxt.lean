
/-
  Texts as lists of bytes: plain facts. No function of the program in sight; no conditions but those that each fact names.
-/
import Derived.Test.YthlapikcjiajgaaDoorBas
import Derived.WalkKit
import Derived.ProofKit
namespace Go.Proofs.YthlapikcjiajgaaDoor
open Go.RowKit
theorem ret_str {a b : ByteArray} (h : a = b) : Ending.returned (.string a) = .returned (.string b) := by rw [h]
namespace Tx
def txt (l : List Int) : ByteArray := ⟨(l.map fun n => UInt8.ofNat n.toNat).toArray⟩
def nums (s : ByteArray) : List Int := s.data.toList.map fun c => (c.toNat : Int)
theorem nums_len (s : ByteArray) : (nums s).length = s.size := by
  unfold nums
  rw [List.length_map]
  rfl
theorem nums_drop (s : ByteArray) (k : Nat) (h : k < s.size) : (nums s).drop k = (s[k].toNat : Int) :: (nums s).drop (k + 1) := by
  rw [List.drop_eq_getElem_cons (by rw [nums_len]; exact h)]
  congr 1
  simp [nums]
  rfl
theorem txt_size (l : List Int) : (txt l).size = l.length := by simp [txt, ByteArray.size]
theorem txt_cons (d : Int) (l : List Int) : txt [d] ++ txt l = txt (d :: l) := by
  apply ByteArray.ext
  simp [txt]
theorem txt_nums (s : ByteArray) : txt (nums s) = s := by
  apply ByteArray.ext
  have : (nums s).map (fun n => UInt8.ofNat n.toNat) = s.data.toList := by
    unfold nums
    rw [List.map_map]
    conv => rhs; rw [← List.map_id s.data.toList]
    apply List.map_congr_left
    intro c _
    simp
  simp [txt, this]
theorem nums_txt (l : List Int) (h : ∀ n ∈ l, 0 ≤ n ∧ n ≤ 255) : nums (txt l) = l := by
  unfold nums txt
  rw [List.toList_toArray, List.map_map]
  conv => rhs; rw [← List.map_id l]
  apply List.map_congr_left
  intro n hn
  have := h n hn
  simp
  omega
theorem txt_eq (l : List Int) (s : ByteArray) (h : l = nums s) : txt l = s := by rw [h, txt_nums]
theorem txt_ne (l : List Int) (s : ByteArray) (hl : ∀ n ∈ l, 0 ≤ n ∧ n ≤ 255) (h : ¬ l = nums s) : txt l ≠ s := by
  intro e
  exact h (by rw [← e, nums_txt l hl])
theorem empty_no (t : ByteArray) (h : 0 < t.size) : t.toList.isEmpty = false := by
  rw [ByteArray.toList_eq]
  cases hl : t.data.toList with
  | nil =>
    have : t.size = t.data.toList.length := rfl
    rw [hl, List.length_nil] at this
    omega
  | cons _ _ => rfl
theorem empty_yes (t : ByteArray) (h : t.size = 0) : t.toList.isEmpty = true := by
  rw [ByteArray.toList_eq]
  cases hl : t.data.toList with
  | nil => rfl
  | cons a l =>
    have : t.size = t.data.toList.length := rfl
    rw [hl, List.length_cons] at this
    omega
theorem head_test (s : ByteArray) (h : 0 < s.size) : ((s.extract 0 1).toList == [45]) = decide ((nums s).head? = some 45) := by
  have hz : s.data.toList.length = s.size := rfl
  have e : (s.extract 0 1).toList = s.data.toList.take 1 := by
    rw [ByteArray.toList_eq, ByteArray.data_extract]
    simp
  rw [e]
  unfold nums
  cases hl : s.data.toList with
  | nil => rw [hl, List.length_nil] at hz; omega
  | cons a l =>
    rw [Bool.eq_iff_iff]
    simp [← UInt8.toNat_inj]
    omega
theorem nums_tail (s : ByteArray) : nums (s.extract 1 s.size) = (nums s).tail := by
  have hz : s.data.toList.length = s.size := rfl
  unfold nums
  rw [ByteArray.data_extract, ← List.map_tail]
  congr 1
  rw [← hz]
  cases hl : s.data with
  | mk l => cases l <;> simp
theorem nums_head (s : ByteArray) (h : 0 < s.size) : (nums s).head? = some (s[0].toNat : Int) := by
  have := nums_drop s 0 h
  rw [List.drop_zero] at this
  rw [this]
  rfl
theorem nums_ne (s : ByteArray) (h : 0 < s.size) : nums s ≠ [] := by
  intro e
  have := nums_len s
  rw [e] at this
  simp at this
  omega
theorem list_ne (t s : ByteArray) (h : t ≠ s) : (t.toList == s.toList) = false := by
  rw [ByteArray.toList_eq, ByteArray.toList_eq]
  rw [beq_eq_false_iff_ne]
  intro e
  exact h (by
    apply ByteArray.ext
    exact Array.toList_inj.1 e)
end Tx
end Go.Proofs.YthlapikcjiajgaaDoor
