/-
  No cell of these rows narrows 'for every input' (looked for: loops, veiled, ifaces, maps, wideKeys, modest, calm, conditions, laid).
  DERIVED. THE GIVEN ROWS OF THIS SEAT. 2 by the template 'for every input the law returns true; each argument reads behind the call as it read before'; 0 by the template 'total and deterministic' (their statements: YthffggccahnnkaaTotals.lean).
  GIVEN WITH THE SEED: the statements are not yours to turn. If you find one false, say at which input.
  Laid BY PROGRAM, IN A SANDBOX (cutbox-rows.mjs): the forced cells as the released guide's own fill.sh prints them over the translation 1c38817c0eb5f8fa… (all of the seat's roots in one cut). By AI agents, Wed Nov 11 2026. No macro, syntax, notation, axiom, sorry.
-/
import Derived.Test.YthffggccahnnkaaChecked
import GoSem.Claim
import GoSem.ClaimJoined
import GoSem.ClaimMapViews
import Derived.JoinedTies
import Derived.KernelRfl
namespace Go.Proofs.Ythffggccahnnkaa
/- THE CELL 'sum', in the pinned program and in every row, IS THE sha256 OF THE DUMP (.gsa) THAT YthffggccahnnkaaProg.lean LOADS. Nothing in Lean hashes anything: it is a label: what it is worth is what the hold of that sum in a sandbox is worth. -/
noncomputable def Try.pinned : Pinned := { name := "ythffggccahnnkaa", sum := "1c38817c0eb5f8faf3d73dce9450c2ee289189c93c7c46389e97c3d3e925b047", checked := Try.checked }
namespace Rows
def none {H : Type} : Left H := { results := [], args := [] }

/-- 'laws.FnExactRetired': WHATEVER THE INPUT: true; the input reads as it did. -/
def fnExactRetiredSpec : ChangeSpec := { name := "fnExactRetired", fn := fun _ => fun
  | [d1, d2] => { results := [.lit (.bool true)], args := [d1, d2] }
  | _ => none }
def fnExactRetiredRow : OpenClaim := { program := "ythffggccahnnkaa", sum := "1c38817c0eb5f8faf3d73dce9450c2ee289189c93c7c46389e97c3d3e925b047", func := "loop.example/g00076/laws.FnExactRetired", spec := "fnExactRetired", apart := false }
def FnExactRetiredSaid : Prop := fnExactRetiredRow.holds Try.pinned (OpenSpec.ofChange fnExactRetiredSpec)

/-- ITS FALSE NEIGHBOUR: 'it returns false'. Refute it at one input. -/
def fnExactRetiredWrong : ChangeSpec := { name := "fnExactRetired", fn := fun _ => fun
  | [d1, d2] => { results := [.lit (.bool false)], args := [d1, d2] }
  | _ => none }
def FnExactRetiredWrongFalsely : Prop := fnExactRetiredRow.holds Try.pinned (OpenSpec.ofChange fnExactRetiredWrong)

/-- 'laws.FnExactBusyOf': WHATEVER THE INPUT: true; the input reads as it did. -/
def fnExactBusyOfSpec : ChangeSpec := { name := "fnExactBusyOf", fn := fun _ => fun
  | [d] => { results := [.lit (.bool true)], args := [d] }
  | _ => none }
def fnExactBusyOfRow : OpenClaim := { program := "ythffggccahnnkaa", sum := "1c38817c0eb5f8faf3d73dce9450c2ee289189c93c7c46389e97c3d3e925b047", func := "loop.example/g00076/laws.FnExactBusyOf", spec := "fnExactBusyOf", apart := false }
def FnExactBusyOfSaid : Prop := fnExactBusyOfRow.holds Try.pinned (OpenSpec.ofChange fnExactBusyOfSpec)

/-- ITS FALSE NEIGHBOUR: 'it returns false'. Refute it at one input. -/
def fnExactBusyOfWrong : ChangeSpec := { name := "fnExactBusyOf", fn := fun _ => fun
  | [d] => { results := [.lit (.bool false)], args := [d] }
  | _ => none }
def FnExactBusyOfWrongFalsely : Prop := fnExactBusyOfRow.holds Try.pinned (OpenSpec.ofChange fnExactBusyOfWrong)

/- THE SECOND FORM. 'bulk': how many values and letters a reading holds, each counted each time it is reached (what is shared counts as often as it is met; a slice's spare places count too). A statement '..UptoSaid' is the law's where the arguments, and the package variables that the reading takes, are together of bulk at most 1048576: NARROWER than '..Said'. Prove '..Said' where nothing that the law and all that it calls make is longer than what came in: it says more and counts as full. Else prove '..UptoSaid'. A law counts once. -/
mutual
def uptoBulk {H : Type} : DataW H → Nat
  | .lit (.string bytes) => bytes.length + 1
  | .lit _ => 1
  | .nil => 1
  | .ptr d => uptoBulk d + 1
  | .slice elems spare => uptoBulkAll elems + uptoBulkAll spare + 1
  | .agg parts => uptoBulkAll parts + 1
  | .iface _ d => uptoBulk d + 1
  | .map entries => uptoBulkEntries entries + 1
  | .held _ => 1
def uptoBulkAll {H : Type} : List (DataW H) → Nat
  | [] => 0
  | d :: r => uptoBulk d + uptoBulkAll r
def uptoBulkEntries {H : Type} : List (Lit × DataW H) → Nat
  | [] => 0
  | x :: r => uptoBulkEntry x + uptoBulkEntries r
def uptoBulkEntry {H : Type} : Lit × DataW H → Nat
  | (.string bytes, d) => bytes.length + uptoBulk d + 1
  | (_, d) => uptoBulk d + 1
 end
def uptoSmall : (H : Type) → List (DataW H) → Bool := fun _ ds => decide (uptoBulkAll ds ≤ 1048576)
def OpenSpec.upto (s : _root_.Go.ChangeSpec) : _root_.Go.OpenSpec := { _root_.Go.OpenSpec.ofChange s with cond := some uptoSmall }

/-- 'laws.FnExactRetired', WHERE WHAT IT READS IS OF BULK AT MOST 1048576: true; the input reads as it did. -/
def fnExactRetiredUptoRow : OpenClaim := { program := "ythffggccahnnkaa", sum := "1c38817c0eb5f8faf3d73dce9450c2ee289189c93c7c46389e97c3d3e925b047", func := "loop.example/g00076/laws.FnExactRetired", spec := "fnExactRetired", apart := false, narrowed := true }
def FnExactRetiredUptoSaid : Prop := fnExactRetiredUptoRow.holds Try.pinned (OpenSpec.upto fnExactRetiredSpec)

/-- 'laws.FnExactBusyOf', WHERE WHAT IT READS IS OF BULK AT MOST 1048576: true; the input reads as it did. -/
def fnExactBusyOfUptoRow : OpenClaim := { program := "ythffggccahnnkaa", sum := "1c38817c0eb5f8faf3d73dce9450c2ee289189c93c7c46389e97c3d3e925b047", func := "loop.example/g00076/laws.FnExactBusyOf", spec := "fnExactBusyOf", apart := false, narrowed := true }
def FnExactBusyOfUptoSaid : Prop := fnExactBusyOfUptoRow.holds Try.pinned (OpenSpec.upto fnExactBusyOfSpec)

end Rows
end Go.Proofs.Ythffggccahnnkaa
