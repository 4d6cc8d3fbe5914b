/-
  No cell of these rows narrows 'for every input' (looked for: loops, veiled, ifaces, maps, wideKeys, modest, calm, conditions, laid).
  DERIVED. THE GIVEN ROWS OF THIS SEAT. 5 by the template 'for every input the law returns true; each argument reads behind the call as it read before'; 0 by the template 'total and deterministic' (their statements: YthohemncfdjdeaaTotals.lean).
  GIVEN WITH THE SEED: the statements are not yours to turn. If you find one false, say at which input.
  Laid BY PROGRAM, IN A SANDBOX (cutbox-rows.mjs): the forced cells as the released guide's own fill.sh prints them over the translation 6bd2cfb375d845a7… (all of the seat's roots in one cut). By AI agents, Wed Nov 11 2026. No macro, syntax, notation, axiom, sorry.
-/
import Derived.Test.YthohemncfdjdeaaChecked
import GoSem.Claim
import GoSem.ClaimJoined
import GoSem.ClaimMapViews
import Derived.JoinedTies
import Derived.KernelRfl
namespace Go.Proofs.Ythohemncfdjdeaa
/- THE CELL 'sum', in the pinned program and in every row, IS THE sha256 OF THE DUMP (.gsa) THAT YthohemncfdjdeaaProg.lean LOADS. Nothing in Lean hashes anything: it is a label: what it is worth is what the hold of that sum in a sandbox is worth. -/
noncomputable def Try.pinned : Pinned := { name := "ythohemncfdjdeaa", sum := "6bd2cfb375d845a7b95816b35c512d9c54bfde9887ac7f90dbf176fcdc68519d", checked := Try.checked }
namespace Rows
def none {H : Type} : Left H := { results := [], args := [] }

/-- 'laws.FnExactLeave': WHATEVER THE INPUT: true; the input reads as it did. -/
def fnExactLeaveSpec : ChangeSpec := { name := "fnExactLeave", fn := fun _ => fun
  | [d] => { results := [.lit (.bool true)], args := [d] }
  | _ => none }
def fnExactLeaveRow : OpenClaim := { program := "ythohemncfdjdeaa", sum := "6bd2cfb375d845a7b95816b35c512d9c54bfde9887ac7f90dbf176fcdc68519d", func := "loop.example/g00076/laws.FnExactLeave", spec := "fnExactLeave", apart := false }
def FnExactLeaveSaid : Prop := fnExactLeaveRow.holds Try.pinned (OpenSpec.ofChange fnExactLeaveSpec)

/-- ITS FALSE NEIGHBOUR: 'it returns false'. Refute it at one input. -/
def fnExactLeaveWrong : ChangeSpec := { name := "fnExactLeave", fn := fun _ => fun
  | [d] => { results := [.lit (.bool false)], args := [d] }
  | _ => none }
def FnExactLeaveWrongFalsely : Prop := fnExactLeaveRow.holds Try.pinned (OpenSpec.ofChange fnExactLeaveWrong)

/-- 'laws.FnExactHold': WHATEVER THE INPUT: true; the input reads as it did. -/
def fnExactHoldSpec : ChangeSpec := { name := "fnExactHold", fn := fun _ => fun
  | [d1, d2] => { results := [.lit (.bool true)], args := [d1, d2] }
  | _ => none }
def fnExactHoldRow : OpenClaim := { program := "ythohemncfdjdeaa", sum := "6bd2cfb375d845a7b95816b35c512d9c54bfde9887ac7f90dbf176fcdc68519d", func := "loop.example/g00076/laws.FnExactHold", spec := "fnExactHold", apart := false }
def FnExactHoldSaid : Prop := fnExactHoldRow.holds Try.pinned (OpenSpec.ofChange fnExactHoldSpec)

/-- ITS FALSE NEIGHBOUR: 'it returns false'. Refute it at one input. -/
def fnExactHoldWrong : ChangeSpec := { name := "fnExactHold", fn := fun _ => fun
  | [d1, d2] => { results := [.lit (.bool false)], args := [d1, d2] }
  | _ => none }
def FnExactHoldWrongFalsely : Prop := fnExactHoldRow.holds Try.pinned (OpenSpec.ofChange fnExactHoldWrong)

/-- 'laws.FnExactEnter': WHATEVER THE INPUT: true; the input reads as it did. -/
def fnExactEnterSpec : ChangeSpec := { name := "fnExactEnter", fn := fun _ => fun
  | [d1, d2, d3] => { results := [.lit (.bool true)], args := [d1, d2, d3] }
  | _ => none }
def fnExactEnterRow : OpenClaim := { program := "ythohemncfdjdeaa", sum := "6bd2cfb375d845a7b95816b35c512d9c54bfde9887ac7f90dbf176fcdc68519d", func := "loop.example/g00076/laws.FnExactEnter", spec := "fnExactEnter", apart := false }
def FnExactEnterSaid : Prop := fnExactEnterRow.holds Try.pinned (OpenSpec.ofChange fnExactEnterSpec)

/-- ITS FALSE NEIGHBOUR: 'it returns false'. Refute it at one input. -/
def fnExactEnterWrong : ChangeSpec := { name := "fnExactEnter", fn := fun _ => fun
  | [d1, d2, d3] => { results := [.lit (.bool false)], args := [d1, d2, d3] }
  | _ => none }
def FnExactEnterWrongFalsely : Prop := fnExactEnterRow.holds Try.pinned (OpenSpec.ofChange fnExactEnterWrong)

/-- 'laws.FnExactCsrRead': WHATEVER THE INPUT: true; the input reads as it did. -/
def fnExactCsrReadSpec : ChangeSpec := { name := "fnExactCsrRead", fn := fun _ => fun
  | [d1, d2, d3] => { results := [.lit (.bool true)], args := [d1, d2, d3] }
  | _ => none }
def fnExactCsrReadRow : OpenClaim := { program := "ythohemncfdjdeaa", sum := "6bd2cfb375d845a7b95816b35c512d9c54bfde9887ac7f90dbf176fcdc68519d", func := "loop.example/g00076/laws.FnExactCsrRead", spec := "fnExactCsrRead", unfollowed := true, recurses := true, apart := false }
def FnExactCsrReadSaid : Prop := fnExactCsrReadRow.holds Try.pinned (OpenSpec.ofChange fnExactCsrReadSpec)

/-- ITS FALSE NEIGHBOUR: 'it returns false'. Refute it at one input. -/
def fnExactCsrReadWrong : ChangeSpec := { name := "fnExactCsrRead", fn := fun _ => fun
  | [d1, d2, d3] => { results := [.lit (.bool false)], args := [d1, d2, d3] }
  | _ => none }
def FnExactCsrReadWrongFalsely : Prop := fnExactCsrReadRow.holds Try.pinned (OpenSpec.ofChange fnExactCsrReadWrong)

/-- 'laws.FnExactCsrWrite': WHATEVER THE INPUT: true; the input reads as it did. -/
def fnExactCsrWriteSpec : ChangeSpec := { name := "fnExactCsrWrite", fn := fun _ => fun
  | [d1, d2, d3] => { results := [.lit (.bool true)], args := [d1, d2, d3] }
  | _ => none }
def fnExactCsrWriteRow : OpenClaim := { program := "ythohemncfdjdeaa", sum := "6bd2cfb375d845a7b95816b35c512d9c54bfde9887ac7f90dbf176fcdc68519d", func := "loop.example/g00076/laws.FnExactCsrWrite", spec := "fnExactCsrWrite", unfollowed := true, recurses := true, apart := false }
def FnExactCsrWriteSaid : Prop := fnExactCsrWriteRow.holds Try.pinned (OpenSpec.ofChange fnExactCsrWriteSpec)

/-- ITS FALSE NEIGHBOUR: 'it returns false'. Refute it at one input. -/
def fnExactCsrWriteWrong : ChangeSpec := { name := "fnExactCsrWrite", fn := fun _ => fun
  | [d1, d2, d3] => { results := [.lit (.bool false)], args := [d1, d2, d3] }
  | _ => none }
def FnExactCsrWriteWrongFalsely : Prop := fnExactCsrWriteRow.holds Try.pinned (OpenSpec.ofChange fnExactCsrWriteWrong)

/- THE SECOND FORM. 'bulk': how many values and letters a reading holds, each counted each time it is reached (what is shared counts as often as it is met; a slice's spare places count too). A statement '..UptoSaid' is the law's where the arguments, and the package variables that the reading takes, are together of bulk at most 1048576: NARROWER than '..Said'. Prove '..Said' where nothing that the law and all that it calls make is longer than what came in: it says more and counts as full. Else prove '..UptoSaid'. A law counts once. -/
mutual
def uptoBulk {H : Type} : DataW H → Nat
  | .lit (.string bytes) => bytes.length + 1
  | .lit _ => 1
  | .nil => 1
  | .ptr d => uptoBulk d + 1
  | .slice elems spare => uptoBulkAll elems + uptoBulkAll spare + 1
  | .agg parts => uptoBulkAll parts + 1
  | .iface _ d => uptoBulk d + 1
  | .map entries => uptoBulkEntries entries + 1
  | .held _ => 1
def uptoBulkAll {H : Type} : List (DataW H) → Nat
  | [] => 0
  | d :: r => uptoBulk d + uptoBulkAll r
def uptoBulkEntries {H : Type} : List (Lit × DataW H) → Nat
  | [] => 0
  | x :: r => uptoBulkEntry x + uptoBulkEntries r
def uptoBulkEntry {H : Type} : Lit × DataW H → Nat
  | (.string bytes, d) => bytes.length + uptoBulk d + 1
  | (_, d) => uptoBulk d + 1
 end
def uptoSmall : (H : Type) → List (DataW H) → Bool := fun _ ds => decide (uptoBulkAll ds ≤ 1048576)
def OpenSpec.upto (s : _root_.Go.ChangeSpec) : _root_.Go.OpenSpec := { _root_.Go.OpenSpec.ofChange s with cond := some uptoSmall }

/-- 'laws.FnExactLeave', WHERE WHAT IT READS IS OF BULK AT MOST 1048576: true; the input reads as it did. -/
def fnExactLeaveUptoRow : OpenClaim := { program := "ythohemncfdjdeaa", sum := "6bd2cfb375d845a7b95816b35c512d9c54bfde9887ac7f90dbf176fcdc68519d", func := "loop.example/g00076/laws.FnExactLeave", spec := "fnExactLeave", apart := false, narrowed := true }
def FnExactLeaveUptoSaid : Prop := fnExactLeaveUptoRow.holds Try.pinned (OpenSpec.upto fnExactLeaveSpec)

/-- 'laws.FnExactHold', WHERE WHAT IT READS IS OF BULK AT MOST 1048576: true; the input reads as it did. -/
def fnExactHoldUptoRow : OpenClaim := { program := "ythohemncfdjdeaa", sum := "6bd2cfb375d845a7b95816b35c512d9c54bfde9887ac7f90dbf176fcdc68519d", func := "loop.example/g00076/laws.FnExactHold", spec := "fnExactHold", apart := false, narrowed := true }
def FnExactHoldUptoSaid : Prop := fnExactHoldUptoRow.holds Try.pinned (OpenSpec.upto fnExactHoldSpec)

/-- 'laws.FnExactEnter', WHERE WHAT IT READS IS OF BULK AT MOST 1048576: true; the input reads as it did. -/
def fnExactEnterUptoRow : OpenClaim := { program := "ythohemncfdjdeaa", sum := "6bd2cfb375d845a7b95816b35c512d9c54bfde9887ac7f90dbf176fcdc68519d", func := "loop.example/g00076/laws.FnExactEnter", spec := "fnExactEnter", apart := false, narrowed := true }
def FnExactEnterUptoSaid : Prop := fnExactEnterUptoRow.holds Try.pinned (OpenSpec.upto fnExactEnterSpec)

/-- 'laws.FnExactCsrRead', WHERE WHAT IT READS IS OF BULK AT MOST 1048576: true; the input reads as it did. -/
def fnExactCsrReadUptoRow : OpenClaim := { program := "ythohemncfdjdeaa", sum := "6bd2cfb375d845a7b95816b35c512d9c54bfde9887ac7f90dbf176fcdc68519d", func := "loop.example/g00076/laws.FnExactCsrRead", spec := "fnExactCsrRead", unfollowed := true, recurses := true, apart := false, narrowed := true }
def FnExactCsrReadUptoSaid : Prop := fnExactCsrReadUptoRow.holds Try.pinned (OpenSpec.upto fnExactCsrReadSpec)

/-- 'laws.FnExactCsrWrite', WHERE WHAT IT READS IS OF BULK AT MOST 1048576: true; the input reads as it did. -/
def fnExactCsrWriteUptoRow : OpenClaim := { program := "ythohemncfdjdeaa", sum := "6bd2cfb375d845a7b95816b35c512d9c54bfde9887ac7f90dbf176fcdc68519d", func := "loop.example/g00076/laws.FnExactCsrWrite", spec := "fnExactCsrWrite", unfollowed := true, recurses := true, apart := false, narrowed := true }
def FnExactCsrWriteUptoSaid : Prop := fnExactCsrWriteUptoRow.holds Try.pinned (OpenSpec.upto fnExactCsrWriteSpec)

end Rows
end Go.Proofs.Ythohemncfdjdeaa
