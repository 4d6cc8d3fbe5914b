
/-
  A device's script as plain functions: what an op leaves of the two lists and what it tells; all ops one behind the other. No function of the program in sight; no conditions but those that each fact names.
-/
import Derived.Test.YthfmggfohegpnaaTrd
import Derived.Test.YthfmggfohegpnaaDvo
namespace Go.Proofs.Ythfmggfohegpnaa
open Go.ChangeShapes Go.WideShapes Go.ChangeAt Go.RowKit Go.Deep
set_option linter.unusedVariables false

abbrev Ds := List Int × List Int
/-- One op: what it leaves, and what it tells. -/
def stpD (s : Ds) (op : Cp) : Ds × Ac :=
  if op.1 = 0 then (((inpF s.1 s.2 op.2).1, (inpF s.1 s.2 op.2).2.1), ((inpF s.1 s.2 op.2).2.2, 0, 0))
  else if op.1 = 1 then (((opnF s.1 s.2).1, (opnF s.1 s.2).2.1), ((opnF s.1 s.2).2.2, 0, 0))
  else (((redF s.1 s.2).1, (redF s.1 s.2).2.1), (false, (redF s.1 s.2).2.2.1, (redF s.1 s.2).2.2.2))
def stN (ops : List Cp) : Nat → Ds
  | 0 => ([], [])
  | m + 1 => (stpD (stN ops m) (ops.getD m cp0)).1
def sdN (ops : List Cp) (m : Nat) : Ac := (stpD (stN ops m) (ops.getD m cp0)).2
def sdL (ops : List Cp) (m : Nat) : List Ac := (List.range m).map (sdN ops)
theorem sdL_len (ops : List Cp) (m : Nat) : (sdL ops m).length = m := by simp [sdL]
theorem sdL_succ (ops : List Cp) (m : Nat) : sdL ops (m + 1) = sdL ops m ++ [sdN ops m] := by simp [sdL, List.range_succ]
theorem sdL_at (ops : List Cp) (m i : Nat) (hi : i < m) : (sdL ops m).getD i ad = sdN ops i := by simp [sdL, hi, List.getD]
/-- Both lists are right. -/
def FewD (s : Ds) : Prop := s.1.length ≤ 8 ∧ s.2.length ≤ 8
theorem few_stp {s : Ds} {op : Cp} (h : FewD s) : FewD (stpD s op).1 := by
  obtain ⟨zs, ys⟩ := s
  have hok : dvOk zs.length ys.length = true := by simp [dvOk]; exact h
  have h1 := h.1
  have h2 := h.2
  simp only at h1 h2
  unfold stpD
  split
  · show (inpF zs ys op.2).1.length ≤ 8 ∧ (inpF zs ys op.2).2.1.length ≤ 8
    unfold inpF
    rw [if_pos hok]
    split
    · exact ⟨h1, h2⟩
    · exact ⟨by simp; omega, h2⟩
  · split
    · show (opnF zs ys).1.length ≤ 8 ∧ (opnF zs ys).2.1.length ≤ 8
      unfold opnF goes
      rw [if_pos hok]
      exact ⟨by simp; omega, by simp; omega⟩
    · show (redF zs ys).1.length ≤ 8 ∧ (redF zs ys).2.1.length ≤ 8
      unfold redF
      rw [if_pos hok]
      split
      · exact ⟨h1, h2⟩
      · exact ⟨h1, by simp; omega⟩
theorem few_stN (ops : List Cp) : ∀ m, FewD (stN ops m)
  | 0 => ⟨by simp [stN], by simp [stN]⟩
  | m + 1 => few_stp (few_stN ops m)
/-- A script that is right. -/
def kdsOk (ops : List Cp) : Prop := ∀ i, i < ops.length → 0 ≤ (ops.getD i cp0).1 ∧ (ops.getD i cp0).1 ≤ 2
open Classical in
/-- What DevPlay answers. -/
noncomputable def plyD (ops : List Cp) : List Ac := if ops.length ≤ 1000 ∧ kdsOk ops then sdL ops ops.length else []
theorem ply_len (ops : List Cp) : (plyD ops).length ≤ 1000 := by
  unfold plyD
  split
  · rename_i h
    rw [sdL_len]
    exact h.1
  · simp
end Go.Proofs.Ythfmggfohegpnaa
