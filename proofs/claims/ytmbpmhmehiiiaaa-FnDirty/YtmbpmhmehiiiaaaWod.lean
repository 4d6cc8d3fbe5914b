
/-
  The most lines that a flush can tell: the specification's and the program's own functions answer alike. No conditions.
-/
import Derived.Test.YtmbpmhmehiiiaaaShp
namespace Go.Proofs.Ytmbpmhmehiiiaaa
open Go.ChangeShapes Go.WideShapes Go.ChangeAt Go.RowKit
set_option linter.unusedVariables false

def worstD (s y l : Int) : Int := if shapeOk s y l = true then s * y else 0
theorem wrap_small (x : Int) (h : 0 ≤ x ∧ x ≤ 1000000000000) : IntKind.i64.wrap x = x := by go_bits; trivial
theorem sets_mul {s y l : Int} (h : shapeOk s y l = true) : 0 ≤ s * y ∧ s * y ≤ 64 := by
  obtain ⟨⟨h1, h2⟩, ⟨h3, h4⟩, _⟩ := shapeOk_parts h
  have h5 : s * y ≤ 16 * y := Int.mul_le_mul_of_nonneg_right h2 (by omega)
  have h6 : 0 ≤ s * y := Int.mul_nonneg (by omega) (by omega)
  omega
set_option maxHeartbeats 400000 in
theorem impl_wod (s y l : Int) (w : World) : Calls Try.prog 14 #[shp s y l] w fun x w' => x = .returned (.int .i64 (worstD s y l)) ∧ Below w.heap.size w w' := by
  obtain ⟨q, Q⟩ : ∃ q, Hid (shapeOk s y l = q) := ⟨_, rfl⟩
  obtain ⟨r, R⟩ : ∃ r, Hid (worstD s y l = r) := ⟨_, rfl⟩
  rw [R.out]
  go_enter Try.func14, Try.ntmps14
  go_wp2_with fail
  refine (impl_shok s y l _).mono ?_
  rintro x w1 ⟨rfl, hb⟩
  have hb' := ((Below.refl _ w).alloc (Nat.le_refl _) (shrow 25 s y l)).trans (hb.mono (by simp))
  have c0 := (hb.cell (p := ⟨w.heap.size, 0, none⟩) (by simp)).trans (new_cell w _ 25 0 (.int .i64 s) rfl)
  have c1 := (hb.cell (p := ⟨w.heap.size, 1, none⟩) (by simp)).trans (new_cell w _ 25 1 (.int .i64 y) rfl)
  clear hb
  rw [Q.out]
  cases q
  · have HR : Hid (r = 0) := by have h := R.out; unfold worstD at h; rw [Q.out] at h; exact h.symm
    go_wp2
    go_ret
    exact ⟨ret_int HR.out.symm, hb'⟩
  · have HR : Hid (r = s * y) := by have h := R.out; unfold worstD at h; rw [if_pos Q.out] at h; exact h.symm
    have hm := sets_mul Q.out
    have hw : IntKind.i64.wrap (s * y) = s * y := wrap_small _ (by omega)
    clear hm
    go_wp2
    go_ret
    exact ⟨ret_int HR.out.symm, hb'⟩
end Go.Proofs.Ytmbpmhmehiiiaaa
