
/-
  The specification's RecvOn: what the plain functions say, in memory of its own. Conditions: the words read as words, at most 1048576 of them and no more than the capacity.
-/
import Derived.Test.YtobgaakcinjnaaaProg
import Derived.Test.YtobgaakcinjnaaaChl
namespace Go.Proofs.Ytobgaakcinjnaaa
open Go.ChangeShapes Go.WideShapes Go.ChangeAt Go.RowKit Go.Deep
set_option linter.unusedVariables false

/-- What RecvOn answers: the words left, the word, the code. -/
def rcvF (k f t d n : Int) (zs : List Int) : List Int × Int × Int :=
  if inOk k f t d n = true then (if n = 0 then ([], 0, 1) else if k = 0 then (zs, zs.getD 0 0, 0) else (zs.drop 1, zs.getD 0 0, 0)) else ([], 0, 3)
theorem rcv_len {k f t d : Int} {n : Nat} {zs ys : List Int} {x cd : Int} (g : rcvF k f t d (n : Int) zs = (ys, x, cd)) (hl : zs.length = n) (hn : n ≤ 1048576) : ys.length ≤ 1048576 := by
  unfold rcvF at g
  split at g
  · split at g
    · injection g with g1 g2; rw [← g1]; simp
    · split at g
      · injection g with g1 g2; rw [← g1]; omega
      · injection g with g1 g2; rw [← g1]; simp; omega
  · injection g with g1 g2; rw [← g1]; simp
theorem seg_drop {w : World} {b off : Nat} {zs : List Int} (h : Seg .u32 w (some ⟨b, off, none⟩) zs) : Seg .u32 w (some ⟨b, off + 1, none⟩) (zs.drop 1) := fun h0 => by
  simp at h0
  obtain ⟨b1, o1, e, hlt, hc⟩ := h (by omega)
  injection e with e
  injection e with e1 e2 e3
  subst e1 e2
  refine ⟨b, off + 1, rfl, hlt, fun i hi => ?_⟩
  simp at hi
  have := hc (i + 1) (by omega)
  rw [show off + 1 + i = off + (i + 1) by omega, this]
  simp [List.getD]
set_option maxRecDepth 100000 in
theorem slice_one (b off n c : Nat) (zs : List Int) (hl : zs.length = n) (hn : 0 < n) (hc : n ≤ c) : ∃ aS, (∀ w : World, (Instr.slice 26 (.slice (some ⟨b, off, none⟩) n c) (some (.int .i64 1)) none none).run Try.prog w = .ok (.slice aS (n - 1) (c - 1)) w) ∧ ∀ X : World, Seg .u32 X (some ⟨b, off, none⟩) zs → Seg .u32 X aS (zs.drop 1) := by
  by_cases h1 : c = 1
  · refine ⟨some ⟨b, off, none⟩, fun w => ?_, fun X h => ?_⟩
    · rw [run_slice_l w 26 (some ⟨b, off, none⟩) n c Try.underlying26 .i64 1 (by omega) (by omega)]
      have e : ∀ w, (sizeOf (Try.prog.elem 26)).run Try.prog w = .ok 1 w := fun w => by kernel_rfl
      simp [e, sliced, h1]
    · have : zs.drop 1 = [] := List.drop_eq_nil_of_le (by omega)
      rw [this]
      exact fun h0 => absurd h0 (by simp)
  · refine ⟨some ⟨b, off + 1, none⟩, fun w => ?_, fun X h => seg_drop h⟩
    rw [run_slice_l w 26 (some ⟨b, off, none⟩) n c Try.underlying26 .i64 1 (by omega) (by omega)]
    have e : ∀ w, (sizeOf (Try.prog.elem 26)).run Try.prog w = .ok 1 w := fun w => by kernel_rfl
    simp [e, sliced, Addr.add, h1]
    try omega
end Go.Proofs.Ytobgaakcinjnaaa
