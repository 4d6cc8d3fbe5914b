/-
  No cell of these rows narrows 'for every input' (looked for: loops, veiled, ifaces, maps, wideKeys, modest, calm, conditions, laid).
  DERIVED. THE GIVEN ROWS OF THIS SEAT. 5 by the template 'for every input the law returns true; each argument reads behind the call as it read before'; 0 by the template 'total and deterministic' (their statements: YtpecihkkbfjahaaTotals.lean).
  GIVEN WITH THE SEED: the statements are not yours to turn. If you find one false, say at which input.
  Laid BY PROGRAM, IN A SANDBOX (cutbox-rows.mjs): the forced cells as the released guide's own fill.sh prints them over the translation 69355108e090f49d… (all of the seat's roots in one cut). By AI agents, Wed Nov 11 2026. No macro, syntax, notation, axiom, sorry.
-/
import Derived.Test.YtpecihkkbfjahaaChecked
import GoSem.Claim
import GoSem.ClaimJoined
import GoSem.ClaimMapViews
import Derived.JoinedTies
import Derived.KernelRfl
namespace Go.Proofs.Ytpecihkkbfjahaa
/- THE CELL 'sum', in the pinned program and in every row, IS THE sha256 OF THE DUMP (.gsa) THAT YtpecihkkbfjahaaProg.lean LOADS. Nothing in Lean hashes anything: it is a label: what it is worth is what the hold of that sum in a sandbox is worth. -/
noncomputable def Try.pinned : Pinned := { name := "ytpecihkkbfjahaa", sum := "69355108e090f49d3b67b0538b168751261369ba0a879d7127ab042014807989", checked := Try.checked }
namespace Rows
def none {H : Type} : Left H := { results := [], args := [] }

/-- 'laws.FnExactTlbOk': WHATEVER THE INPUT: true; the input reads as it did. -/
def fnExactTlbOkSpec : ChangeSpec := { name := "fnExactTlbOk", fn := fun _ => fun
  | [d] => { results := [.lit (.bool true)], args := [d] }
  | _ => none }
def fnExactTlbOkRow : OpenClaim := { program := "ytpecihkkbfjahaa", sum := "69355108e090f49d3b67b0538b168751261369ba0a879d7127ab042014807989", func := "loop.example/g00076/laws.FnExactTlbOk", spec := "fnExactTlbOk", apart := false }
def FnExactTlbOkSaid : Prop := fnExactTlbOkRow.holds Try.pinned (OpenSpec.ofChange fnExactTlbOkSpec)

/-- ITS FALSE NEIGHBOUR: 'it returns false'. Refute it at one input. -/
def fnExactTlbOkWrong : ChangeSpec := { name := "fnExactTlbOk", fn := fun _ => fun
  | [d] => { results := [.lit (.bool false)], args := [d] }
  | _ => none }
def FnExactTlbOkWrongFalsely : Prop := fnExactTlbOkRow.holds Try.pinned (OpenSpec.ofChange fnExactTlbOkWrong)

/-- 'laws.FnExactTlbEmpty': WHATEVER THE INPUT: true; the input reads as it did. -/
def fnExactTlbEmptySpec : ChangeSpec := { name := "fnExactTlbEmpty", fn := fun _ => fun
  | [d] => { results := [.lit (.bool true)], args := [d] }
  | _ => none }
def fnExactTlbEmptyRow : OpenClaim := { program := "ytpecihkkbfjahaa", sum := "69355108e090f49d3b67b0538b168751261369ba0a879d7127ab042014807989", func := "loop.example/g00076/laws.FnExactTlbEmpty", spec := "fnExactTlbEmpty", apart := false }
def FnExactTlbEmptySaid : Prop := fnExactTlbEmptyRow.holds Try.pinned (OpenSpec.ofChange fnExactTlbEmptySpec)

/-- ITS FALSE NEIGHBOUR: 'it returns false'. Refute it at one input. -/
def fnExactTlbEmptyWrong : ChangeSpec := { name := "fnExactTlbEmpty", fn := fun _ => fun
  | [d] => { results := [.lit (.bool false)], args := [d] }
  | _ => none }
def FnExactTlbEmptyWrongFalsely : Prop := fnExactTlbEmptyRow.holds Try.pinned (OpenSpec.ofChange fnExactTlbEmptyWrong)

/-- 'laws.FnExactTlbUse': WHATEVER THE INPUT: true; the input reads as it did. -/
def fnExactTlbUseSpec : ChangeSpec := { name := "fnExactTlbUse", fn := fun _ => fun
  | [d1, d2] => { results := [.lit (.bool true)], args := [d1, d2] }
  | _ => none }
def fnExactTlbUseRow : OpenClaim := { program := "ytpecihkkbfjahaa", sum := "69355108e090f49d3b67b0538b168751261369ba0a879d7127ab042014807989", func := "loop.example/g00076/laws.FnExactTlbUse", spec := "fnExactTlbUse", apart := false }
def FnExactTlbUseSaid : Prop := fnExactTlbUseRow.holds Try.pinned (OpenSpec.ofChange fnExactTlbUseSpec)

/-- ITS FALSE NEIGHBOUR: 'it returns false'. Refute it at one input. -/
def fnExactTlbUseWrong : ChangeSpec := { name := "fnExactTlbUse", fn := fun _ => fun
  | [d1, d2] => { results := [.lit (.bool false)], args := [d1, d2] }
  | _ => none }
def FnExactTlbUseWrongFalsely : Prop := fnExactTlbUseRow.holds Try.pinned (OpenSpec.ofChange fnExactTlbUseWrong)

/-- 'laws.FnExactTlbHolds': WHATEVER THE INPUT: true; the input reads as it did. -/
def fnExactTlbHoldsSpec : ChangeSpec := { name := "fnExactTlbHolds", fn := fun _ => fun
  | [d1, d2] => { results := [.lit (.bool true)], args := [d1, d2] }
  | _ => none }
def fnExactTlbHoldsRow : OpenClaim := { program := "ytpecihkkbfjahaa", sum := "69355108e090f49d3b67b0538b168751261369ba0a879d7127ab042014807989", func := "loop.example/g00076/laws.FnExactTlbHolds", spec := "fnExactTlbHolds", apart := false }
def FnExactTlbHoldsSaid : Prop := fnExactTlbHoldsRow.holds Try.pinned (OpenSpec.ofChange fnExactTlbHoldsSpec)

/-- ITS FALSE NEIGHBOUR: 'it returns false'. Refute it at one input. -/
def fnExactTlbHoldsWrong : ChangeSpec := { name := "fnExactTlbHolds", fn := fun _ => fun
  | [d1, d2] => { results := [.lit (.bool false)], args := [d1, d2] }
  | _ => none }
def FnExactTlbHoldsWrongFalsely : Prop := fnExactTlbHoldsRow.holds Try.pinned (OpenSpec.ofChange fnExactTlbHoldsWrong)

/-- 'laws.FnExactTlbRun': WHATEVER THE INPUT: true; the input reads as it did. -/
def fnExactTlbRunSpec : ChangeSpec := { name := "fnExactTlbRun", fn := fun _ => fun
  | [d1, d2] => { results := [.lit (.bool true)], args := [d1, d2] }
  | _ => none }
def fnExactTlbRunRow : OpenClaim := { program := "ytpecihkkbfjahaa", sum := "69355108e090f49d3b67b0538b168751261369ba0a879d7127ab042014807989", func := "loop.example/g00076/laws.FnExactTlbRun", spec := "fnExactTlbRun", apart := false }
def FnExactTlbRunSaid : Prop := fnExactTlbRunRow.holds Try.pinned (OpenSpec.ofChange fnExactTlbRunSpec)

/-- ITS FALSE NEIGHBOUR: 'it returns false'. Refute it at one input. -/
def fnExactTlbRunWrong : ChangeSpec := { name := "fnExactTlbRun", fn := fun _ => fun
  | [d1, d2] => { results := [.lit (.bool false)], args := [d1, d2] }
  | _ => none }
def FnExactTlbRunWrongFalsely : Prop := fnExactTlbRunRow.holds Try.pinned (OpenSpec.ofChange fnExactTlbRunWrong)

/- THE SECOND FORM. 'bulk': how many values and letters a reading holds, each counted each time it is reached (what is shared counts as often as it is met; a slice's spare places count too). A statement '..UptoSaid' is the law's where the arguments, and the package variables that the reading takes, are together of bulk at most 1048576: NARROWER than '..Said'. Prove '..Said' where nothing that the law and all that it calls make is longer than what came in: it says more and counts as full. Else prove '..UptoSaid'. A law counts once. -/
mutual
def uptoBulk {H : Type} : DataW H → Nat
  | .lit (.string bytes) => bytes.length + 1
  | .lit _ => 1
  | .nil => 1
  | .ptr d => uptoBulk d + 1
  | .slice elems spare => uptoBulkAll elems + uptoBulkAll spare + 1
  | .agg parts => uptoBulkAll parts + 1
  | .iface _ d => uptoBulk d + 1
  | .map entries => uptoBulkEntries entries + 1
  | .held _ => 1
def uptoBulkAll {H : Type} : List (DataW H) → Nat
  | [] => 0
  | d :: r => uptoBulk d + uptoBulkAll r
def uptoBulkEntries {H : Type} : List (Lit × DataW H) → Nat
  | [] => 0
  | x :: r => uptoBulkEntry x + uptoBulkEntries r
def uptoBulkEntry {H : Type} : Lit × DataW H → Nat
  | (.string bytes, d) => bytes.length + uptoBulk d + 1
  | (_, d) => uptoBulk d + 1
 end
def uptoSmall : (H : Type) → List (DataW H) → Bool := fun _ ds => decide (uptoBulkAll ds ≤ 1048576)
def OpenSpec.upto (s : _root_.Go.ChangeSpec) : _root_.Go.OpenSpec := { _root_.Go.OpenSpec.ofChange s with cond := some uptoSmall }

/-- 'laws.FnExactTlbOk', WHERE WHAT IT READS IS OF BULK AT MOST 1048576: true; the input reads as it did. -/
def fnExactTlbOkUptoRow : OpenClaim := { program := "ytpecihkkbfjahaa", sum := "69355108e090f49d3b67b0538b168751261369ba0a879d7127ab042014807989", func := "loop.example/g00076/laws.FnExactTlbOk", spec := "fnExactTlbOk", apart := false, narrowed := true }
def FnExactTlbOkUptoSaid : Prop := fnExactTlbOkUptoRow.holds Try.pinned (OpenSpec.upto fnExactTlbOkSpec)

/-- 'laws.FnExactTlbEmpty', WHERE WHAT IT READS IS OF BULK AT MOST 1048576: true; the input reads as it did. -/
def fnExactTlbEmptyUptoRow : OpenClaim := { program := "ytpecihkkbfjahaa", sum := "69355108e090f49d3b67b0538b168751261369ba0a879d7127ab042014807989", func := "loop.example/g00076/laws.FnExactTlbEmpty", spec := "fnExactTlbEmpty", apart := false, narrowed := true }
def FnExactTlbEmptyUptoSaid : Prop := fnExactTlbEmptyUptoRow.holds Try.pinned (OpenSpec.upto fnExactTlbEmptySpec)

/-- 'laws.FnExactTlbUse', WHERE WHAT IT READS IS OF BULK AT MOST 1048576: true; the input reads as it did. -/
def fnExactTlbUseUptoRow : OpenClaim := { program := "ytpecihkkbfjahaa", sum := "69355108e090f49d3b67b0538b168751261369ba0a879d7127ab042014807989", func := "loop.example/g00076/laws.FnExactTlbUse", spec := "fnExactTlbUse", apart := false, narrowed := true }
def FnExactTlbUseUptoSaid : Prop := fnExactTlbUseUptoRow.holds Try.pinned (OpenSpec.upto fnExactTlbUseSpec)

/-- 'laws.FnExactTlbHolds', WHERE WHAT IT READS IS OF BULK AT MOST 1048576: true; the input reads as it did. -/
def fnExactTlbHoldsUptoRow : OpenClaim := { program := "ytpecihkkbfjahaa", sum := "69355108e090f49d3b67b0538b168751261369ba0a879d7127ab042014807989", func := "loop.example/g00076/laws.FnExactTlbHolds", spec := "fnExactTlbHolds", apart := false, narrowed := true }
def FnExactTlbHoldsUptoSaid : Prop := fnExactTlbHoldsUptoRow.holds Try.pinned (OpenSpec.upto fnExactTlbHoldsSpec)

/-- 'laws.FnExactTlbRun', WHERE WHAT IT READS IS OF BULK AT MOST 1048576: true; the input reads as it did. -/
def fnExactTlbRunUptoRow : OpenClaim := { program := "ytpecihkkbfjahaa", sum := "69355108e090f49d3b67b0538b168751261369ba0a879d7127ab042014807989", func := "loop.example/g00076/laws.FnExactTlbRun", spec := "fnExactTlbRun", apart := false, narrowed := true }
def FnExactTlbRunUptoSaid : Prop := fnExactTlbRunUptoRow.holds Try.pinned (OpenSpec.upto fnExactTlbRunSpec)

end Rows
end Go.Proofs.Ytpecihkkbfjahaa
