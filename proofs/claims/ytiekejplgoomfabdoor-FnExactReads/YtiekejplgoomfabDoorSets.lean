/-
  Three numbers sorted, each once, without 0: plain facts on lists. No function of the program in sight; no conditions but those that each fact names.
-/
import Derived.Lib.SlicesCompact
namespace Go.Proofs.YtiekejplgoomfabDoor
def sorted (zs : List Int) : List Int := zs.mergeSort fun x y => decide (x ≤ y)
def put (x : Int) : List Int → List Int
  | [] => [x]
  | y :: l => if x ≤ y then x :: y :: l else y :: put x l
theorem put_perm (x : Int) : ∀ l, (put x l).Perm (x :: l)
  | [] => .refl _
  | y :: l => by
    unfold put
    split
    · exact .refl _
    · exact ((put_perm x l).cons y).trans (.swap x y l)
theorem put_sorted (x : Int) : ∀ l, l.Pairwise (· ≤ ·) → (put x l).Pairwise (· ≤ ·)
  | [], _ => by simp [put]
  | y :: l, h => by
    unfold put
    have h' := List.pairwise_cons.1 h
    split
    · rename_i hxy
      exact List.pairwise_cons.2 ⟨fun b hb => by rcases List.mem_cons.1 hb with rfl | hb; exact hxy; exact Int.le_trans hxy (h'.1 b hb), h⟩
    · rename_i hxy
      refine List.pairwise_cons.2 ⟨fun b hb => ?_, put_sorted x l h'.2⟩
      rcases List.mem_cons.1 ((put_perm x l).mem_iff.1 hb) with rfl | hb
      · omega
      · exact h'.1 b hb
theorem sorted3 (x y z : Int) : sorted [x, y, z] = put x (put y [z]) := by
  apply List.Perm.eq_of_pairwise (le := fun a b : Int => a ≤ b)
  · intro a b _ _ h1 h2
    omega
  · have := List.pairwise_mergeSort (le := fun x y : Int => decide (x ≤ y)) (fun a b c h1 h2 => by simp at *; omega) (fun a b => by simp; omega) [x, y, z]
    exact this.imp (fun h => by simpa using h)
  · exact put_sorted x _ (put_sorted y _ (by simp))
  · exact (List.mergeSort_perm _ _).trans (((put_perm x _).trans ((put_perm y [z]).cons x)).symm)
def setOf (zs : List Int) : List Int := ((List.range 15).map fun (i : Nat) => (i : Int) + 1).filter fun r => zs.contains r
def regs (x y z : Int) : List Int := if (Lib.compact (sorted [x, y, z])).getD 0 0 == 0 then (Lib.compact (sorted [x, y, z])).tail else Lib.compact (sorted [x, y, z])
def regs' (x y z : Int) : List Int := if (Lib.compact (put x (put y [z]))).getD 0 0 == 0 then (Lib.compact (put x (put y [z]))).tail else Lib.compact (put x (put y [z]))
theorem regs_all : ∀ x y z : Fin 16, (regs' x.val y.val z.val) = setOf [(x.val : Int), (y.val : Int), (z.val : Int)] := by decide +kernel
theorem len_all : ∀ x y z : Fin 16, 1 ≤ (Lib.compact (put x.val (put y.val [(z.val : Int)]))).length ∧ (Lib.compact (put x.val (put y.val [(z.val : Int)]))).length ≤ 3 := by decide +kernel
theorem regs_eq (x y z : Int) (h1 : 0 ≤ x) (h2 : x ≤ 15) (h3 : 0 ≤ y) (h4 : y ≤ 15) (h5 : 0 ≤ z) (h6 : z ≤ 15) : regs x y z = setOf [x, y, z] := by
  obtain ⟨X, rfl⟩ := Int.eq_ofNat_of_zero_le h1
  obtain ⟨Y, rfl⟩ := Int.eq_ofNat_of_zero_le h3
  obtain ⟨Z, rfl⟩ := Int.eq_ofNat_of_zero_le h5
  unfold regs
  rw [sorted3]
  exact regs_all ⟨X, by omega⟩ ⟨Y, by omega⟩ ⟨Z, by omega⟩
theorem len_eq (x y z : Int) (h1 : 0 ≤ x) (h2 : x ≤ 15) (h3 : 0 ≤ y) (h4 : y ≤ 15) (h5 : 0 ≤ z) (h6 : z ≤ 15) : 1 ≤ (Lib.compact (sorted [x, y, z])).length ∧ (Lib.compact (sorted [x, y, z])).length ≤ 3 := by
  obtain ⟨X, rfl⟩ := Int.eq_ofNat_of_zero_le h1
  obtain ⟨Y, rfl⟩ := Int.eq_ofNat_of_zero_le h3
  obtain ⟨Z, rfl⟩ := Int.eq_ofNat_of_zero_le h5
  rw [sorted3]
  exact len_all ⟨X, by omega⟩ ⟨Y, by omega⟩ ⟨Z, by omega⟩
end Go.Proofs.YtiekejplgoomfabDoor
