
/-
  A channel's script as plain functions: what an op leaves of the two ends and what it tells; all ops one behind the other. No function of the program in sight; no conditions but those that each fact names.
-/
import Derived.Test.YtoofjlfbedjbnaaChb
import Derived.Test.YtoofjlfbedjbnaaPnl
namespace Go.Proofs.Ytoofjlfbedjbnaa
open Go.ChangeShapes Go.WideShapes Go.ChangeAt Go.RowKit Go.Deep
set_option linter.unusedVariables false

/-- The two ends: Held, the words sent, the words ready. -/
abbrev Chs := Int × List Int × List Int
/-- One op: what it leaves, and what it tells. -/
def stpF (k f t d : Int) (s : Chs) (op : Cp) : Chs × Cp :=
  if op.1 = 0 then (((sndF k f t d s.1 s.2.1.length s.2.1 op.2).1, (sndF k f t d s.1 s.2.1.length s.2.1 op.2).2.1, s.2.2), ((sndF k f t d s.1 s.2.1.length s.2.1 op.2).2.2, 0))
  else if op.1 = 1 then ((s.1, s.2.1, (rcvF k f t d s.2.2.length s.2.2).1), ((rcvF k f t d s.2.2.length s.2.2).2.2, (rcvF k f t d s.2.2.length s.2.2).2.1))
  else if op.1 = 2 then (((borF k f t d s.1 s.2.1.length s.2.2.length s.2.1 s.2.2).1, [], (borF k f t d s.1 s.2.1.length s.2.2.length s.2.1 s.2.2).2.1), (0, 0))
  else (((if outOk k f t d s.1 s.2.1.length = true then s.1 else 0), [], s.2.2), (0, 0))
/-- The ends behind the first m ops. -/
def stN (k f t d : Int) (ops : List Cp) : Nat → Chs
  | 0 => (0, [], [])
  | m + 1 => (stpF k f t d (stN k f t d ops m) (ops.getD m cp0)).1
/-- What op m tells. -/
def sdN (k f t d : Int) (ops : List Cp) (m : Nat) : Cp := (stpF k f t d (stN k f t d ops m) (ops.getD m cp0)).2
/-- What the first m ops tell. -/
def sdL (k f t d : Int) (ops : List Cp) (m : Nat) : List Cp := (List.range m).map (sdN k f t d ops)
theorem sdL_len (k f t d : Int) (ops : List Cp) (m : Nat) : (sdL k f t d ops m).length = m := by simp [sdL]
theorem sdL_succ (k f t d : Int) (ops : List Cp) (m : Nat) : sdL k f t d ops (m + 1) = sdL k f t d ops m ++ [sdN k f t d ops m] := by simp [sdL, List.range_succ]
theorem sdL_at (k f t d : Int) (ops : List Cp) (m i : Nat) (hi : i < m) : (sdL k f t d ops m).getD i cp0 = sdN k f t d ops i := by simp [sdL, hi, List.getD]
/-- The words of both ends are few. -/
def Few (s : Chs) : Prop := s.2.1.length ≤ 1048576 ∧ s.2.2.length ≤ 1048576
theorem bor_few {k f t d h : Int} {n m : Nat} {zs rs : List Int} (hl : zs.length = n) (hn : n ≤ 1048576) (hlr : rs.length = m) (hm : m ≤ 1048576) : (borF k f t d h (n : Int) (m : Int) zs rs).2.1.length ≤ 1048576 := by
  unfold borF
  split
  · rename_i hq
    split
    · split
      · show rs.length ≤ _; omega
      · show zs.length ≤ _; omega
    · rename_i hk
      show (rs ++ zs).length ≤ _
      unfold borOk at hq
      simp only [Bool.and_eq_true] at hq
      have h1 := hq.1.1
      have h2 := hq.1.2
      unfold outOk at h1
      unfold inOk at h2
      rw [if_neg hk] at h1 h2
      simp only [Bool.and_eq_true] at h1 h2
      rcases chOk_k h2.1 with ⟨e, _⟩ | ⟨_, e1, e2⟩
      · exact absurd e hk
      · have g1 := h1.2
        have g2 := h2.2
        simp [inr] at g1 g2
        simp
        omega
  · show ([] : List Int).length ≤ _; simp
theorem few_stp {k f t d : Int} {s : Chs} {op : Cp} (h : Few s) : Few (stpF k f t d s op).1 := by
  unfold stpF
  split
  · exact ⟨snd_len (Prod.eta _).symm rfl h.1, h.2⟩
  · split
    · exact ⟨h.1, rcv_len (Prod.eta _).symm rfl h.2⟩
    · split
      · exact ⟨by simp, bor_few rfl h.1 rfl h.2⟩
      · exact ⟨by simp, h.2⟩
theorem few_stN (k f t d : Int) (ops : List Cp) : ∀ m, Few (stN k f t d ops m)
  | 0 => ⟨by simp [stN], by simp [stN]⟩
  | m + 1 => few_stp (few_stN k f t d ops m)
/-- A script that is right. -/
def kdsOk (ops : List Cp) : Prop := ∀ i, i < ops.length → 0 ≤ (ops.getD i cp0).1 ∧ (ops.getD i cp0).1 ≤ 3
open Classical in
/-- What ChanPlay answers. -/
noncomputable def plyF (k f t d : Int) (ops : List Cp) : List Cp := if chOk k f t d = true ∧ ops.length ≤ 1000 ∧ kdsOk ops then sdL k f t d ops ops.length else []
end Go.Proofs.Ytoofjlfbedjbnaa
