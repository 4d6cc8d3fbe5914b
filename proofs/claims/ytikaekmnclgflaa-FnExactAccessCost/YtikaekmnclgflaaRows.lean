/-
  No cell of these rows narrows 'for every input' (looked for: loops, veiled, ifaces, maps, wideKeys, modest, calm, conditions, laid).
  DERIVED. THE GIVEN ROWS OF THIS SEAT. 3 by the template 'for every input the law returns true; each argument reads behind the call as it read before'; 0 by the template 'total and deterministic' (their statements: YtikaekmnclgflaaTotals.lean).
  GIVEN WITH THE SEED: the statements are not yours to turn. If you find one false, say at which input.
  Laid BY PROGRAM, IN A SANDBOX (cutbox-rows.mjs): the forced cells as the released guide's own fill.sh prints them over the translation 088e10ef1eb17133… (all of the seat's roots in one cut). By AI agents, Wed Nov 11 2026. No macro, syntax, notation, axiom, sorry.
-/
import Derived.Test.YtikaekmnclgflaaChecked
import GoSem.Claim
import GoSem.ClaimJoined
import GoSem.ClaimMapViews
import Derived.JoinedTies
import Derived.KernelRfl
namespace Go.Proofs.Ytikaekmnclgflaa
/- THE CELL 'sum', in the pinned program and in every row, IS THE sha256 OF THE DUMP (.gsa) THAT YtikaekmnclgflaaProg.lean LOADS. Nothing in Lean hashes anything: it is a label: what it is worth is what the hold of that sum in a sandbox is worth. -/
noncomputable def Try.pinned : Pinned := { name := "ytikaekmnclgflaa", sum := "088e10ef1eb17133dd8ce2c6e0c045c4430ed02a7ce769c34bdb1ba9bd03beb3", checked := Try.checked }
namespace Rows
def none {H : Type} : Left H := { results := [], args := [] }

/-- 'laws.FnExactCostsOk': WHATEVER THE INPUT: true; the input reads as it did. -/
def fnExactCostsOkSpec : ChangeSpec := { name := "fnExactCostsOk", fn := fun _ => fun
  | [d] => { results := [.lit (.bool true)], args := [d] }
  | _ => none }
def fnExactCostsOkRow : OpenClaim := { program := "ytikaekmnclgflaa", sum := "088e10ef1eb17133dd8ce2c6e0c045c4430ed02a7ce769c34bdb1ba9bd03beb3", func := "loop.example/g00076/laws.FnExactCostsOk", spec := "fnExactCostsOk", apart := false }
def FnExactCostsOkSaid : Prop := fnExactCostsOkRow.holds Try.pinned (OpenSpec.ofChange fnExactCostsOkSpec)

/-- ITS FALSE NEIGHBOUR: 'it returns false'. Refute it at one input. -/
def fnExactCostsOkWrong : ChangeSpec := { name := "fnExactCostsOk", fn := fun _ => fun
  | [d] => { results := [.lit (.bool false)], args := [d] }
  | _ => none }
def FnExactCostsOkWrongFalsely : Prop := fnExactCostsOkRow.holds Try.pinned (OpenSpec.ofChange fnExactCostsOkWrong)

/-- 'laws.FnExactAccessCost': WHATEVER THE INPUT: true; the input reads as it did. -/
def fnExactAccessCostSpec : ChangeSpec := { name := "fnExactAccessCost", fn := fun _ => fun
  | [d1, d2] => { results := [.lit (.bool true)], args := [d1, d2] }
  | _ => none }
def fnExactAccessCostRow : OpenClaim := { program := "ytikaekmnclgflaa", sum := "088e10ef1eb17133dd8ce2c6e0c045c4430ed02a7ce769c34bdb1ba9bd03beb3", func := "loop.example/g00076/laws.FnExactAccessCost", spec := "fnExactAccessCost", apart := false }
def FnExactAccessCostSaid : Prop := fnExactAccessCostRow.holds Try.pinned (OpenSpec.ofChange fnExactAccessCostSpec)

/-- ITS FALSE NEIGHBOUR: 'it returns false'. Refute it at one input. -/
def fnExactAccessCostWrong : ChangeSpec := { name := "fnExactAccessCost", fn := fun _ => fun
  | [d1, d2] => { results := [.lit (.bool false)], args := [d1, d2] }
  | _ => none }
def FnExactAccessCostWrongFalsely : Prop := fnExactAccessCostRow.holds Try.pinned (OpenSpec.ofChange fnExactAccessCostWrong)

/-- 'laws.FnExactWorstAccess': WHATEVER THE INPUT: true; the input reads as it did. -/
def fnExactWorstAccessSpec : ChangeSpec := { name := "fnExactWorstAccess", fn := fun _ => fun
  | [d] => { results := [.lit (.bool true)], args := [d] }
  | _ => none }
def fnExactWorstAccessRow : OpenClaim := { program := "ytikaekmnclgflaa", sum := "088e10ef1eb17133dd8ce2c6e0c045c4430ed02a7ce769c34bdb1ba9bd03beb3", func := "loop.example/g00076/laws.FnExactWorstAccess", spec := "fnExactWorstAccess", apart := false }
def FnExactWorstAccessSaid : Prop := fnExactWorstAccessRow.holds Try.pinned (OpenSpec.ofChange fnExactWorstAccessSpec)

/-- ITS FALSE NEIGHBOUR: 'it returns false'. Refute it at one input. -/
def fnExactWorstAccessWrong : ChangeSpec := { name := "fnExactWorstAccess", fn := fun _ => fun
  | [d] => { results := [.lit (.bool false)], args := [d] }
  | _ => none }
def FnExactWorstAccessWrongFalsely : Prop := fnExactWorstAccessRow.holds Try.pinned (OpenSpec.ofChange fnExactWorstAccessWrong)

/- THE SECOND FORM. 'bulk': how many values and letters a reading holds, each counted each time it is reached (what is shared counts as often as it is met; a slice's spare places count too). A statement '..UptoSaid' is the law's where the arguments, and the package variables that the reading takes, are together of bulk at most 1048576: NARROWER than '..Said'. Prove '..Said' where nothing that the law and all that it calls make is longer than what came in: it says more and counts as full. Else prove '..UptoSaid'. A law counts once. -/
mutual
def uptoBulk {H : Type} : DataW H → Nat
  | .lit (.string bytes) => bytes.length + 1
  | .lit _ => 1
  | .nil => 1
  | .ptr d => uptoBulk d + 1
  | .slice elems spare => uptoBulkAll elems + uptoBulkAll spare + 1
  | .agg parts => uptoBulkAll parts + 1
  | .iface _ d => uptoBulk d + 1
  | .map entries => uptoBulkEntries entries + 1
  | .held _ => 1
def uptoBulkAll {H : Type} : List (DataW H) → Nat
  | [] => 0
  | d :: r => uptoBulk d + uptoBulkAll r
def uptoBulkEntries {H : Type} : List (Lit × DataW H) → Nat
  | [] => 0
  | x :: r => uptoBulkEntry x + uptoBulkEntries r
def uptoBulkEntry {H : Type} : Lit × DataW H → Nat
  | (.string bytes, d) => bytes.length + uptoBulk d + 1
  | (_, d) => uptoBulk d + 1
 end
def uptoSmall : (H : Type) → List (DataW H) → Bool := fun _ ds => decide (uptoBulkAll ds ≤ 1048576)
def OpenSpec.upto (s : _root_.Go.ChangeSpec) : _root_.Go.OpenSpec := { _root_.Go.OpenSpec.ofChange s with cond := some uptoSmall }

/-- 'laws.FnExactCostsOk', WHERE WHAT IT READS IS OF BULK AT MOST 1048576: true; the input reads as it did. -/
def fnExactCostsOkUptoRow : OpenClaim := { program := "ytikaekmnclgflaa", sum := "088e10ef1eb17133dd8ce2c6e0c045c4430ed02a7ce769c34bdb1ba9bd03beb3", func := "loop.example/g00076/laws.FnExactCostsOk", spec := "fnExactCostsOk", apart := false, narrowed := true }
def FnExactCostsOkUptoSaid : Prop := fnExactCostsOkUptoRow.holds Try.pinned (OpenSpec.upto fnExactCostsOkSpec)

/-- 'laws.FnExactAccessCost', WHERE WHAT IT READS IS OF BULK AT MOST 1048576: true; the input reads as it did. -/
def fnExactAccessCostUptoRow : OpenClaim := { program := "ytikaekmnclgflaa", sum := "088e10ef1eb17133dd8ce2c6e0c045c4430ed02a7ce769c34bdb1ba9bd03beb3", func := "loop.example/g00076/laws.FnExactAccessCost", spec := "fnExactAccessCost", apart := false, narrowed := true }
def FnExactAccessCostUptoSaid : Prop := fnExactAccessCostUptoRow.holds Try.pinned (OpenSpec.upto fnExactAccessCostSpec)

/-- 'laws.FnExactWorstAccess', WHERE WHAT IT READS IS OF BULK AT MOST 1048576: true; the input reads as it did. -/
def fnExactWorstAccessUptoRow : OpenClaim := { program := "ytikaekmnclgflaa", sum := "088e10ef1eb17133dd8ce2c6e0c045c4430ed02a7ce769c34bdb1ba9bd03beb3", func := "loop.example/g00076/laws.FnExactWorstAccess", spec := "fnExactWorstAccess", apart := false, narrowed := true }
def FnExactWorstAccessUptoSaid : Prop := fnExactWorstAccessUptoRow.holds Try.pinned (OpenSpec.upto fnExactWorstAccessSpec)

end Rows
end Go.Proofs.Ytikaekmnclgflaa
