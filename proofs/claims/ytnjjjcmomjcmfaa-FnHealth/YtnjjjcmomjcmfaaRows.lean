/-
  No cell of these rows narrows 'for every input' (looked for: loops, veiled, ifaces, maps, wideKeys, modest, calm, conditions, laid).
  DERIVED. THE GIVEN ROWS OF THIS SEAT. 6 by the template 'for every input the law returns true; each argument reads behind the call as it read before'; 0 by the template 'total and deterministic' (their statements: YtnjjjcmomjcmfaaTotals.lean).
  GIVEN WITH THE SEED: the statements are not yours to turn. If you find one false, say at which input.
  Laid BY PROGRAM, IN A SANDBOX (cutbox-rows.mjs): the forced cells as the released guide's own fill.sh prints them over the translation b09ed2efc2ff7e21… (all of the seat's roots in one cut). By AI agents, Wed Nov 11 2026. No macro, syntax, notation, axiom, sorry.
-/
import Derived.Test.YtnjjjcmomjcmfaaChecked
import GoSem.Claim
import GoSem.ClaimJoined
import GoSem.ClaimMapViews
import Derived.JoinedTies
import Derived.KernelRfl
namespace Go.Proofs.Ytnjjjcmomjcmfaa
/- THE CELL 'sum', in the pinned program and in every row, IS THE sha256 OF THE DUMP (.gsa) THAT YtnjjjcmomjcmfaaProg.lean LOADS. Nothing in Lean hashes anything: it is a label: what it is worth is what the hold of that sum in a sandbox is worth. -/
noncomputable def Try.pinned : Pinned := { name := "ytnjjjcmomjcmfaa", sum := "b09ed2efc2ff7e211e59200d6a11f2077d1eb9cfcf1329a8e9b9f862c56fc1c0", checked := Try.checked }
namespace Rows
def none {H : Type} : Left H := { results := [], args := [] }

/-- 'laws.FnExactPolicyOk': WHATEVER THE INPUT: true; the input reads as it did. -/
def fnExactPolicyOkSpec : ChangeSpec := { name := "fnExactPolicyOk", fn := fun _ => fun
  | [d] => { results := [.lit (.bool true)], args := [d] }
  | _ => none }
def fnExactPolicyOkRow : OpenClaim := { program := "ytnjjjcmomjcmfaa", sum := "b09ed2efc2ff7e211e59200d6a11f2077d1eb9cfcf1329a8e9b9f862c56fc1c0", func := "loop.example/g00076/laws.FnExactPolicyOk", spec := "fnExactPolicyOk", unfollowed := true, recurses := true, apart := false }
def FnExactPolicyOkSaid : Prop := fnExactPolicyOkRow.holds Try.pinned (OpenSpec.ofChange fnExactPolicyOkSpec)

/-- ITS FALSE NEIGHBOUR: 'it returns false'. Refute it at one input. -/
def fnExactPolicyOkWrong : ChangeSpec := { name := "fnExactPolicyOk", fn := fun _ => fun
  | [d] => { results := [.lit (.bool false)], args := [d] }
  | _ => none }
def FnExactPolicyOkWrongFalsely : Prop := fnExactPolicyOkRow.holds Try.pinned (OpenSpec.ofChange fnExactPolicyOkWrong)

/-- 'laws.FnExactHealthOk': WHATEVER THE INPUT: true; the input reads as it did. -/
def fnExactHealthOkSpec : ChangeSpec := { name := "fnExactHealthOk", fn := fun _ => fun
  | [d] => { results := [.lit (.bool true)], args := [d] }
  | _ => none }
def fnExactHealthOkRow : OpenClaim := { program := "ytnjjjcmomjcmfaa", sum := "b09ed2efc2ff7e211e59200d6a11f2077d1eb9cfcf1329a8e9b9f862c56fc1c0", func := "loop.example/g00076/laws.FnExactHealthOk", spec := "fnExactHealthOk", apart := false }
def FnExactHealthOkSaid : Prop := fnExactHealthOkRow.holds Try.pinned (OpenSpec.ofChange fnExactHealthOkSpec)

/-- ITS FALSE NEIGHBOUR: 'it returns false'. Refute it at one input. -/
def fnExactHealthOkWrong : ChangeSpec := { name := "fnExactHealthOk", fn := fun _ => fun
  | [d] => { results := [.lit (.bool false)], args := [d] }
  | _ => none }
def FnExactHealthOkWrongFalsely : Prop := fnExactHealthOkRow.holds Try.pinned (OpenSpec.ofChange fnExactHealthOkWrong)

/-- 'laws.FnExactOperator': WHATEVER THE INPUT: true; the input reads as it did. -/
def fnExactOperatorSpec : ChangeSpec := { name := "fnExactOperator", fn := fun _ => fun
  | [d] => { results := [.lit (.bool true)], args := [d] }
  | _ => none }
def fnExactOperatorRow : OpenClaim := { program := "ytnjjjcmomjcmfaa", sum := "b09ed2efc2ff7e211e59200d6a11f2077d1eb9cfcf1329a8e9b9f862c56fc1c0", func := "loop.example/g00076/laws.FnExactOperator", spec := "fnExactOperator", apart := false }
def FnExactOperatorSaid : Prop := fnExactOperatorRow.holds Try.pinned (OpenSpec.ofChange fnExactOperatorSpec)

/-- ITS FALSE NEIGHBOUR: 'it returns false'. Refute it at one input. -/
def fnExactOperatorWrong : ChangeSpec := { name := "fnExactOperator", fn := fun _ => fun
  | [d] => { results := [.lit (.bool false)], args := [d] }
  | _ => none }
def FnExactOperatorWrongFalsely : Prop := fnExactOperatorRow.holds Try.pinned (OpenSpec.ofChange fnExactOperatorWrong)

/-- 'laws.FnExactOnFault': WHATEVER THE INPUT: true; the input reads as it did. -/
def fnExactOnFaultSpec : ChangeSpec := { name := "fnExactOnFault", fn := fun _ => fun
  | [d1, d2, d3] => { results := [.lit (.bool true)], args := [d1, d2, d3] }
  | _ => none }
def fnExactOnFaultRow : OpenClaim := { program := "ytnjjjcmomjcmfaa", sum := "b09ed2efc2ff7e211e59200d6a11f2077d1eb9cfcf1329a8e9b9f862c56fc1c0", func := "loop.example/g00076/laws.FnExactOnFault", spec := "fnExactOnFault", unfollowed := true, recurses := true, apart := false }
def FnExactOnFaultSaid : Prop := fnExactOnFaultRow.holds Try.pinned (OpenSpec.ofChange fnExactOnFaultSpec)

/-- ITS FALSE NEIGHBOUR: 'it returns false'. Refute it at one input. -/
def fnExactOnFaultWrong : ChangeSpec := { name := "fnExactOnFault", fn := fun _ => fun
  | [d1, d2, d3] => { results := [.lit (.bool false)], args := [d1, d2, d3] }
  | _ => none }
def FnExactOnFaultWrongFalsely : Prop := fnExactOnFaultRow.holds Try.pinned (OpenSpec.ofChange fnExactOnFaultWrong)

/-- 'laws.FnExactHealthRun': WHATEVER THE INPUT: true; the input reads as it did. -/
def fnExactHealthRunSpec : ChangeSpec := { name := "fnExactHealthRun", fn := fun _ => fun
  | [d1, d2] => { results := [.lit (.bool true)], args := [d1, d2] }
  | _ => none }
def fnExactHealthRunRow : OpenClaim := { program := "ytnjjjcmomjcmfaa", sum := "b09ed2efc2ff7e211e59200d6a11f2077d1eb9cfcf1329a8e9b9f862c56fc1c0", func := "loop.example/g00076/laws.FnExactHealthRun", spec := "fnExactHealthRun", unfollowed := true, recurses := true, apart := false }
def FnExactHealthRunSaid : Prop := fnExactHealthRunRow.holds Try.pinned (OpenSpec.ofChange fnExactHealthRunSpec)

/-- ITS FALSE NEIGHBOUR: 'it returns false'. Refute it at one input. -/
def fnExactHealthRunWrong : ChangeSpec := { name := "fnExactHealthRun", fn := fun _ => fun
  | [d1, d2] => { results := [.lit (.bool false)], args := [d1, d2] }
  | _ => none }
def FnExactHealthRunWrongFalsely : Prop := fnExactHealthRunRow.holds Try.pinned (OpenSpec.ofChange fnExactHealthRunWrong)

/-- 'laws.FnHealth': WHATEVER THE INPUT: true; the input reads as it did. -/
def fnHealthSpec : ChangeSpec := { name := "fnHealth", fn := fun _ => fun
  | [d] => { results := [.lit (.bool true)], args := [d] }
  | _ => none }
def fnHealthRow : OpenClaim := { program := "ytnjjjcmomjcmfaa", sum := "b09ed2efc2ff7e211e59200d6a11f2077d1eb9cfcf1329a8e9b9f862c56fc1c0", func := "loop.example/g00076/laws.FnHealth", spec := "fnHealth", unfollowed := true, recurses := true, apart := false }
def FnHealthSaid : Prop := fnHealthRow.holds Try.pinned (OpenSpec.ofChange fnHealthSpec)

/-- ITS FALSE NEIGHBOUR: 'it returns false'. Refute it at one input. -/
def fnHealthWrong : ChangeSpec := { name := "fnHealth", fn := fun _ => fun
  | [d] => { results := [.lit (.bool false)], args := [d] }
  | _ => none }
def FnHealthWrongFalsely : Prop := fnHealthRow.holds Try.pinned (OpenSpec.ofChange fnHealthWrong)

/- THE SECOND FORM. 'bulk': how many values and letters a reading holds, each counted each time it is reached (what is shared counts as often as it is met; a slice's spare places count too). A statement '..UptoSaid' is the law's where the arguments, and the package variables that the reading takes, are together of bulk at most 1048576: NARROWER than '..Said'. Prove '..Said' where nothing that the law and all that it calls make is longer than what came in: it says more and counts as full. Else prove '..UptoSaid'. A law counts once. -/
mutual
def uptoBulk {H : Type} : DataW H → Nat
  | .lit (.string bytes) => bytes.length + 1
  | .lit _ => 1
  | .nil => 1
  | .ptr d => uptoBulk d + 1
  | .slice elems spare => uptoBulkAll elems + uptoBulkAll spare + 1
  | .agg parts => uptoBulkAll parts + 1
  | .iface _ d => uptoBulk d + 1
  | .map entries => uptoBulkEntries entries + 1
  | .held _ => 1
def uptoBulkAll {H : Type} : List (DataW H) → Nat
  | [] => 0
  | d :: r => uptoBulk d + uptoBulkAll r
def uptoBulkEntries {H : Type} : List (Lit × DataW H) → Nat
  | [] => 0
  | x :: r => uptoBulkEntry x + uptoBulkEntries r
def uptoBulkEntry {H : Type} : Lit × DataW H → Nat
  | (.string bytes, d) => bytes.length + uptoBulk d + 1
  | (_, d) => uptoBulk d + 1
 end
def uptoSmall : (H : Type) → List (DataW H) → Bool := fun _ ds => decide (uptoBulkAll ds ≤ 1048576)
def OpenSpec.upto (s : _root_.Go.ChangeSpec) : _root_.Go.OpenSpec := { _root_.Go.OpenSpec.ofChange s with cond := some uptoSmall }

/-- 'laws.FnExactPolicyOk', WHERE WHAT IT READS IS OF BULK AT MOST 1048576: true; the input reads as it did. -/
def fnExactPolicyOkUptoRow : OpenClaim := { program := "ytnjjjcmomjcmfaa", sum := "b09ed2efc2ff7e211e59200d6a11f2077d1eb9cfcf1329a8e9b9f862c56fc1c0", func := "loop.example/g00076/laws.FnExactPolicyOk", spec := "fnExactPolicyOk", unfollowed := true, recurses := true, apart := false, narrowed := true }
def FnExactPolicyOkUptoSaid : Prop := fnExactPolicyOkUptoRow.holds Try.pinned (OpenSpec.upto fnExactPolicyOkSpec)

/-- 'laws.FnExactHealthOk', WHERE WHAT IT READS IS OF BULK AT MOST 1048576: true; the input reads as it did. -/
def fnExactHealthOkUptoRow : OpenClaim := { program := "ytnjjjcmomjcmfaa", sum := "b09ed2efc2ff7e211e59200d6a11f2077d1eb9cfcf1329a8e9b9f862c56fc1c0", func := "loop.example/g00076/laws.FnExactHealthOk", spec := "fnExactHealthOk", apart := false, narrowed := true }
def FnExactHealthOkUptoSaid : Prop := fnExactHealthOkUptoRow.holds Try.pinned (OpenSpec.upto fnExactHealthOkSpec)

/-- 'laws.FnExactOperator', WHERE WHAT IT READS IS OF BULK AT MOST 1048576: true; the input reads as it did. -/
def fnExactOperatorUptoRow : OpenClaim := { program := "ytnjjjcmomjcmfaa", sum := "b09ed2efc2ff7e211e59200d6a11f2077d1eb9cfcf1329a8e9b9f862c56fc1c0", func := "loop.example/g00076/laws.FnExactOperator", spec := "fnExactOperator", apart := false, narrowed := true }
def FnExactOperatorUptoSaid : Prop := fnExactOperatorUptoRow.holds Try.pinned (OpenSpec.upto fnExactOperatorSpec)

/-- 'laws.FnExactOnFault', WHERE WHAT IT READS IS OF BULK AT MOST 1048576: true; the input reads as it did. -/
def fnExactOnFaultUptoRow : OpenClaim := { program := "ytnjjjcmomjcmfaa", sum := "b09ed2efc2ff7e211e59200d6a11f2077d1eb9cfcf1329a8e9b9f862c56fc1c0", func := "loop.example/g00076/laws.FnExactOnFault", spec := "fnExactOnFault", unfollowed := true, recurses := true, apart := false, narrowed := true }
def FnExactOnFaultUptoSaid : Prop := fnExactOnFaultUptoRow.holds Try.pinned (OpenSpec.upto fnExactOnFaultSpec)

/-- 'laws.FnExactHealthRun', WHERE WHAT IT READS IS OF BULK AT MOST 1048576: true; the input reads as it did. -/
def fnExactHealthRunUptoRow : OpenClaim := { program := "ytnjjjcmomjcmfaa", sum := "b09ed2efc2ff7e211e59200d6a11f2077d1eb9cfcf1329a8e9b9f862c56fc1c0", func := "loop.example/g00076/laws.FnExactHealthRun", spec := "fnExactHealthRun", unfollowed := true, recurses := true, apart := false, narrowed := true }
def FnExactHealthRunUptoSaid : Prop := fnExactHealthRunUptoRow.holds Try.pinned (OpenSpec.upto fnExactHealthRunSpec)

/-- 'laws.FnHealth', WHERE WHAT IT READS IS OF BULK AT MOST 1048576: true; the input reads as it did. -/
def fnHealthUptoRow : OpenClaim := { program := "ytnjjjcmomjcmfaa", sum := "b09ed2efc2ff7e211e59200d6a11f2077d1eb9cfcf1329a8e9b9f862c56fc1c0", func := "loop.example/g00076/laws.FnHealth", spec := "fnHealth", unfollowed := true, recurses := true, apart := false, narrowed := true }
def FnHealthUptoSaid : Prop := fnHealthUptoRow.holds Try.pinned (OpenSpec.upto fnHealthSpec)

end Rows
end Go.Proofs.Ytnjjjcmomjcmfaa
