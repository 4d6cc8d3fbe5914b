
/-
  What the program's own DecText returns, at every integer: its decimal text, the specification's; and the walk of the law. Conditions: the library's table of powers of ten holds what the program's text lays.
-/
import Derived.Test.YthlapikcjiajgaaDoorBas
import Derived.Test.YthlapikcjiajgaaDoorText3
import Derived.Test.YthlapikcjiajgaaDoorShelf
import Derived.Below
namespace Go.Proofs.YthlapikcjiajgaaDoor
open Go.ChangeShapes Go.WideShapes Go.ChangeAt Go.RowKit
set_option linter.unusedVariables false

theorem dig_eq : ∀ (f u : Nat), 1 ≤ u → u < 10 ^ f → Lib.decDigits u = (Dc.dg f u).map fun n => UInt8.ofNat n.toNat
  | 0, u, h1, h2 => by simp at h2; omega
  | f + 1, u, h1, h2 => by
    rw [Dc.dg_pos _ _ (by omega), List.map_append]
    by_cases h : u < 10
    · rw [Lib.decDigits_one h, show u / 10 = 0 by omega, Dc.dg_zero]
      simp only [List.map_nil, List.nil_append, List.map_cons]
      rw [show ((48 : Int) + ((u % 10 : Nat) : Int)).toNat = 48 + u by omega]
    · rw [Lib.decDigits, dif_neg h, dig_eq f (u / 10) (by omega) (by rw [Nat.pow_succ] at h2; omega)]
      simp only [List.map_nil, List.map_cons]
      rw [show ((48 : Int) + ((u % 10 : Nat) : Int)).toNat = 48 + u % 10 by omega]
theorem itoa_eq (n : Int) (h0 : -9223372036854775808 ≤ n) (h1 : n ≤ 9223372036854775807) : (⟨(Lib.itoa n).toArray⟩ : ByteArray) = Tx.txt (Dc.dect n) := by
  unfold Tx.txt
  congr 2
  unfold Lib.itoa Dc.dect
  by_cases h : n = 0
  · subst h
    rw [if_neg (by omega), if_pos rfl, Int.toNat_zero, Lib.decDigits_one (by omega)]
    rfl
  · rw [if_neg h]
    by_cases hn : n < 0
    · rw [if_pos hn, if_pos hn, List.map_cons, dig_eq 20 n.natAbs (by omega) (by omega)]
      rfl
    · rw [if_neg hn, if_neg hn, show n.toNat = n.natAbs by omega, dig_eq 20 n.natAbs (by omega) (by omega)]
theorem below_grow (w : World) (k : Nat) (os : Array Obj) : Below w.heap.size w (Sort.grow (w.drewN k) os) := by
  refine ⟨rfl, rfl, rfl, ?_, fun i hi => ?_⟩
  · show w.heap.size ≤ (w.heap ++ os).size
    simp
  · show (w.heap ++ os)[i]? = w.heap[i]?
    rw [Array.getElem?_append_left hi]
set_option maxHeartbeats 400000 in
theorem impl_text (n : Int) (w : World) (h0 : -9223372036854775808 ≤ n) (h1 : n ≤ 9223372036854775807) (htab : Lib.TabIs Tryd.prog w "internal/strconv.uint64pow10" .u64 Lib.pow10Tab) :
    Calls Tryd.prog 20 #[.int .i64 n] w fun e w' => e = .returned (.string (Tx.txt (Dc.dect n))) ∧ Below w.heap.size w w' := by
  have HT : Hid _ := htab
  have HE : Hid _ := itoa_eq n h0 h1
  clear htab
  go_enter Tryd.func20, Tryd.ntmps20
  go_wp2_with fail
  refine (Tryd.strconv_Itoa n h0 h1 _ HT.out).mono ?_
  rintro e w1 ⟨rfl, k, os, rfl⟩
  rw [HE.out]
  go_wp2
  go_ret
  exact ⟨rfl, below_grow w k os⟩
end Go.Proofs.YthlapikcjiajgaaDoor
