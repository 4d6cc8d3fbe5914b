/-
  NARROWER THAN 'FOR EVERY INPUT', by the rows' own cells (each row's printed sentence says how): FnWorst: laid · FnExactOpCost: laid · FnExactWorstStep: laid.
  DERIVED. THE GIVEN ROWS OF THIS SEAT. 3 by the template 'for every input the law returns true; each argument reads behind the call as it read before'; 0 by the template 'total and deterministic' (their statements: YtikaekmnclgflaaDoorTotals.lean).
  GIVEN WITH THE SEED: the statements are not yours to turn. If you find one false, say at which input.
  Laid BY PROGRAM, IN A SANDBOX (cutbox-rows.mjs): the forced cells as the released guide's own fill.sh prints them over the translation 6e882dfb6d5fc7b5… (all of the seat's roots in one cut). By AI agents, Wed Nov 11 2026. No macro, syntax, notation, axiom, sorry.
-/
import Derived.Test.YtikaekmnclgflaaDoorChecked
import GoSem.Claim
import GoSem.ClaimJoined
import GoSem.ClaimMapViews
import Derived.JoinedTies
import Derived.KernelRfl
namespace Go.Proofs.YtikaekmnclgflaaDoor
/- THE CELL 'sum', in the pinned program and in every row, IS THE sha256 OF THE DUMP (.gsa) THAT YtikaekmnclgflaaDoorProg.lean LOADS. Nothing in Lean hashes anything: it is a label: what it is worth is what the hold of that sum in a sandbox is worth. -/
noncomputable def Tryd.pinned : Pinned := { name := "ytikaekmnclgflaadoor", sum := "6e882dfb6d5fc7b552814e361ae253926145e2812b8bca1ae9fa533d75cf0d01", checked := Tryd.checked }
namespace Rows
def none {H : Type} : Left H := { results := [], args := [] }

/- WHAT THE LISTED PACKAGE-LEVEL VARIABLES READ AS WHEN THE CALL BEGINS. Each datum BY PROGRAM (the guide's laid-datum.mjs) off the statement by which the dump's own 'gosem.cut.vars' lays the variable. In a bare row this is a premise. The card (YtikaekmnclgflaaDoorCards.lean) ties it to the program's text. -/
def laid_loop_example_g00076_impl_opExtras {H : Type} : DataW H := .agg [.lit (.int .i64 0), .lit (.int .i64 0), .lit (.int .i64 0), .lit (.int .i64 0), .lit (.int .i64 0), .lit (.int .i64 0), .lit (.int .i64 0), .lit (.int .i64 0), .lit (.int .i64 0), .lit (.int .i64 1), .lit (.int .i64 1), .lit (.int .i64 0), .lit (.int .i64 0), .lit (.int .i64 0), .lit (.int .i64 0), .lit (.int .i64 2), .lit (.int .i64 2), .lit (.int .i64 2), .lit (.int .i64 2), .lit (.int .i64 0), .lit (.int .i64 0), .lit (.int .i64 0), .lit (.int .i64 0), .lit (.int .i64 0), .lit (.int .i64 0), .lit (.int .i64 3), .lit (.int .i64 3), .lit (.int .i64 3), .lit (.int .i64 3), .lit (.int .i64 3), .lit (.int .i64 3), .lit (.int .i64 3), .lit (.int .i64 3)]

/-- 'laws.FnWorst': WHATEVER THE INPUT: true; the input reads as it did. -/
def fnWorstSpec : ChangeSpec := { name := "fnWorst", vars := ["loop.example/g00076/impl.opExtras"], fn := fun _ => fun
  | [d, g1] => { results := [.lit (.bool true)], args := [d], vars := [g1] }
  | _ => none }
def fnWorstRow : OpenClaim := { program := "ytikaekmnclgflaadoor", sum := "6e882dfb6d5fc7b552814e361ae253926145e2812b8bca1ae9fa533d75cf0d01", func := "loop.example/g00076/laws.FnWorst", spec := "fnWorst", unfollowed := true, recurses := true, named := ["loop.example/g00076/impl.opExtras"], apart := false, laid := [("loop.example/g00076/impl.opExtras", laid_loop_example_g00076_impl_opExtras)] }
def FnWorstSaid : Prop := fnWorstRow.holds Tryd.pinned (OpenSpec.ofChange fnWorstSpec)

/-- ITS FALSE NEIGHBOUR: 'it returns false'. Refute it at one input. -/
def fnWorstWrong : ChangeSpec := { name := "fnWorst", vars := ["loop.example/g00076/impl.opExtras"], fn := fun _ => fun
  | [d, g1] => { results := [.lit (.bool false)], args := [d], vars := [g1] }
  | _ => none }
def FnWorstWrongFalsely : Prop := fnWorstRow.holds Tryd.pinned (OpenSpec.ofChange fnWorstWrong)

/-- 'laws.FnExactOpCost': WHATEVER THE INPUT: true; the input reads as it did. -/
def fnExactOpCostSpec : ChangeSpec := { name := "fnExactOpCost", vars := ["loop.example/g00076/impl.opExtras"], fn := fun _ => fun
  | [d1, d2, g1] => { results := [.lit (.bool true)], args := [d1, d2], vars := [g1] }
  | _ => none }
def fnExactOpCostRow : OpenClaim := { program := "ytikaekmnclgflaadoor", sum := "6e882dfb6d5fc7b552814e361ae253926145e2812b8bca1ae9fa533d75cf0d01", func := "loop.example/g00076/laws.FnExactOpCost", spec := "fnExactOpCost", unfollowed := true, recurses := true, named := ["loop.example/g00076/impl.opExtras"], apart := false, laid := [("loop.example/g00076/impl.opExtras", laid_loop_example_g00076_impl_opExtras)] }
def FnExactOpCostSaid : Prop := fnExactOpCostRow.holds Tryd.pinned (OpenSpec.ofChange fnExactOpCostSpec)

/-- ITS FALSE NEIGHBOUR: 'it returns false'. Refute it at one input. -/
def fnExactOpCostWrong : ChangeSpec := { name := "fnExactOpCost", vars := ["loop.example/g00076/impl.opExtras"], fn := fun _ => fun
  | [d1, d2, g1] => { results := [.lit (.bool false)], args := [d1, d2], vars := [g1] }
  | _ => none }
def FnExactOpCostWrongFalsely : Prop := fnExactOpCostRow.holds Tryd.pinned (OpenSpec.ofChange fnExactOpCostWrong)

/-- 'laws.FnExactWorstStep': WHATEVER THE INPUT: true; the input reads as it did. -/
def fnExactWorstStepSpec : ChangeSpec := { name := "fnExactWorstStep", vars := ["loop.example/g00076/impl.opExtras"], fn := fun _ => fun
  | [d, g1] => { results := [.lit (.bool true)], args := [d], vars := [g1] }
  | _ => none }
def fnExactWorstStepRow : OpenClaim := { program := "ytikaekmnclgflaadoor", sum := "6e882dfb6d5fc7b552814e361ae253926145e2812b8bca1ae9fa533d75cf0d01", func := "loop.example/g00076/laws.FnExactWorstStep", spec := "fnExactWorstStep", unfollowed := true, recurses := true, named := ["loop.example/g00076/impl.opExtras"], apart := false, laid := [("loop.example/g00076/impl.opExtras", laid_loop_example_g00076_impl_opExtras)] }
def FnExactWorstStepSaid : Prop := fnExactWorstStepRow.holds Tryd.pinned (OpenSpec.ofChange fnExactWorstStepSpec)

/-- ITS FALSE NEIGHBOUR: 'it returns false'. Refute it at one input. -/
def fnExactWorstStepWrong : ChangeSpec := { name := "fnExactWorstStep", vars := ["loop.example/g00076/impl.opExtras"], fn := fun _ => fun
  | [d, g1] => { results := [.lit (.bool false)], args := [d], vars := [g1] }
  | _ => none }
def FnExactWorstStepWrongFalsely : Prop := fnExactWorstStepRow.holds Tryd.pinned (OpenSpec.ofChange fnExactWorstStepWrong)

/- THE SECOND FORM. 'bulk': how many values and letters a reading holds, each counted each time it is reached (what is shared counts as often as it is met; a slice's spare places count too). A statement '..UptoSaid' is the law's where the arguments, and the package variables that the reading takes, are together of bulk at most 1048576: NARROWER than '..Said'. Prove '..Said' where nothing that the law and all that it calls make is longer than what came in: it says more and counts as full. Else prove '..UptoSaid'. A law counts once. -/
mutual
def uptoBulk {H : Type} : DataW H → Nat
  | .lit (.string bytes) => bytes.length + 1
  | .lit _ => 1
  | .nil => 1
  | .ptr d => uptoBulk d + 1
  | .slice elems spare => uptoBulkAll elems + uptoBulkAll spare + 1
  | .agg parts => uptoBulkAll parts + 1
  | .iface _ d => uptoBulk d + 1
  | .map entries => uptoBulkEntries entries + 1
  | .held _ => 1
def uptoBulkAll {H : Type} : List (DataW H) → Nat
  | [] => 0
  | d :: r => uptoBulk d + uptoBulkAll r
def uptoBulkEntries {H : Type} : List (Lit × DataW H) → Nat
  | [] => 0
  | x :: r => uptoBulkEntry x + uptoBulkEntries r
def uptoBulkEntry {H : Type} : Lit × DataW H → Nat
  | (.string bytes, d) => bytes.length + uptoBulk d + 1
  | (_, d) => uptoBulk d + 1
 end
def uptoSmall : (H : Type) → List (DataW H) → Bool := fun _ ds => decide (uptoBulkAll ds ≤ 1048576)
def OpenSpec.upto (s : _root_.Go.ChangeSpec) : _root_.Go.OpenSpec := { _root_.Go.OpenSpec.ofChange s with cond := some uptoSmall }

/-- 'laws.FnWorst', WHERE WHAT IT READS IS OF BULK AT MOST 1048576: true; the input reads as it did. -/
def fnWorstUptoRow : OpenClaim := { program := "ytikaekmnclgflaadoor", sum := "6e882dfb6d5fc7b552814e361ae253926145e2812b8bca1ae9fa533d75cf0d01", func := "loop.example/g00076/laws.FnWorst", spec := "fnWorst", unfollowed := true, recurses := true, named := ["loop.example/g00076/impl.opExtras"], apart := false, laid := [("loop.example/g00076/impl.opExtras", laid_loop_example_g00076_impl_opExtras)], narrowed := true }
def FnWorstUptoSaid : Prop := fnWorstUptoRow.holds Tryd.pinned (OpenSpec.upto fnWorstSpec)

/-- 'laws.FnExactOpCost', WHERE WHAT IT READS IS OF BULK AT MOST 1048576: true; the input reads as it did. -/
def fnExactOpCostUptoRow : OpenClaim := { program := "ytikaekmnclgflaadoor", sum := "6e882dfb6d5fc7b552814e361ae253926145e2812b8bca1ae9fa533d75cf0d01", func := "loop.example/g00076/laws.FnExactOpCost", spec := "fnExactOpCost", unfollowed := true, recurses := true, named := ["loop.example/g00076/impl.opExtras"], apart := false, laid := [("loop.example/g00076/impl.opExtras", laid_loop_example_g00076_impl_opExtras)], narrowed := true }
def FnExactOpCostUptoSaid : Prop := fnExactOpCostUptoRow.holds Tryd.pinned (OpenSpec.upto fnExactOpCostSpec)

/-- 'laws.FnExactWorstStep', WHERE WHAT IT READS IS OF BULK AT MOST 1048576: true; the input reads as it did. -/
def fnExactWorstStepUptoRow : OpenClaim := { program := "ytikaekmnclgflaadoor", sum := "6e882dfb6d5fc7b552814e361ae253926145e2812b8bca1ae9fa533d75cf0d01", func := "loop.example/g00076/laws.FnExactWorstStep", spec := "fnExactWorstStep", unfollowed := true, recurses := true, named := ["loop.example/g00076/impl.opExtras"], apart := false, laid := [("loop.example/g00076/impl.opExtras", laid_loop_example_g00076_impl_opExtras)], narrowed := true }
def FnExactWorstStepUptoSaid : Prop := fnExactWorstStepUptoRow.holds Tryd.pinned (OpenSpec.upto fnExactWorstStepSpec)

end Rows
end Go.Proofs.YtikaekmnclgflaaDoor
