/-
  NARROWER THAN 'FOR EVERY INPUT', by the rows' own cells (each row's printed sentence says how): FnExactPlan: laid · FnExactSplit: laid · FnExactMerge: laid · FnExactLatency: laid · FnExactEven: laid.
  DERIVED. THE GIVEN ROWS OF THIS SEAT. 5 by the template 'for every input the law returns true; each argument reads behind the call as it read before'; 0 by the template 'total and deterministic' (their statements: YthieilkabcehgaaGreatDoorTotals.lean).
  GIVEN WITH THE SEED: the statements are not yours to turn. If you find one false, say at which input.
  Laid BY PROGRAM, IN A SANDBOX (cutbox-rows.mjs): the forced cells as the released guide's own fill.sh prints them over the translation dbb5db80d565a4a4… (all of the seat's roots in one cut). By AI agents, Wed Nov 11 2026. No macro, syntax, notation, axiom, sorry.
-/
import Derived.Test.YthieilkabcehgaaGreatDoorChecked
import GoSem.Claim
import GoSem.ClaimJoined
import GoSem.ClaimMapViews
import Derived.JoinedTies
import Derived.KernelRfl
namespace Go.Proofs.YthieilkabcehgaaGreatDoor
/- THE CELL 'sum', in the pinned program and in every row, IS THE sha256 OF THE DUMP (.gsa) THAT YthieilkabcehgaaGreatDoorProg.lean LOADS. Nothing in Lean hashes anything: it is a label: what it is worth is what the hold of that sum in a sandbox is worth. -/
noncomputable def Tryz.pinned : Pinned := { name := "ythieilkabcehgaagreatdoor", sum := "dbb5db80d565a4a4b85c1503e2de6b29b0f9b921e4ac00cfc21c76da75f26158", checked := Tryz.checked }
namespace Rows
def none {H : Type} : Left H := { results := [], args := [] }

/- WHAT THE LISTED PACKAGE-LEVEL VARIABLES READ AS WHEN THE CALL BEGINS. Each datum BY PROGRAM (the guide's laid-datum.mjs) off the statement by which the dump's own 'gosem.cut.vars' lays the variable. In a bare row this is a premise. The card (YthieilkabcehgaaGreatDoorCards.lean) ties it to the program's text. -/
def laid_loop_example_g00076_impl_opExtras {H : Type} : DataW H := .agg [.lit (.int .i64 0), .lit (.int .i64 0), .lit (.int .i64 0), .lit (.int .i64 0), .lit (.int .i64 0), .lit (.int .i64 0), .lit (.int .i64 0), .lit (.int .i64 0), .lit (.int .i64 0), .lit (.int .i64 1), .lit (.int .i64 1), .lit (.int .i64 0), .lit (.int .i64 0), .lit (.int .i64 0), .lit (.int .i64 0), .lit (.int .i64 2), .lit (.int .i64 2), .lit (.int .i64 2), .lit (.int .i64 2), .lit (.int .i64 0), .lit (.int .i64 0), .lit (.int .i64 0), .lit (.int .i64 0), .lit (.int .i64 0), .lit (.int .i64 0), .lit (.int .i64 3), .lit (.int .i64 3), .lit (.int .i64 3), .lit (.int .i64 3), .lit (.int .i64 3), .lit (.int .i64 3), .lit (.int .i64 3), .lit (.int .i64 3)]

/-- 'laws.FnExactPlan': WHATEVER THE INPUT: true; the input reads as it did. -/
def fnExactPlanSpec : ChangeSpec := { name := "fnExactPlan", vars := ["loop.example/g00076/impl.opExtras"], fn := fun _ => fun
  | [d1, d2, g1] => { results := [.lit (.bool true)], args := [d1, d2], vars := [g1] }
  | _ => none }
def fnExactPlanRow : OpenClaim := { program := "ythieilkabcehgaagreatdoor", sum := "dbb5db80d565a4a4b85c1503e2de6b29b0f9b921e4ac00cfc21c76da75f26158", func := "loop.example/g00076/laws.FnExactPlan", spec := "fnExactPlan", unfollowed := true, recurses := true, named := ["loop.example/g00076/impl.opExtras"], apart := false, laid := [("loop.example/g00076/impl.opExtras", laid_loop_example_g00076_impl_opExtras)] }
def FnExactPlanSaid : Prop := fnExactPlanRow.holds Tryz.pinned (OpenSpec.ofChange fnExactPlanSpec)

/-- ITS FALSE NEIGHBOUR: 'it returns false'. Refute it at one input. -/
def fnExactPlanWrong : ChangeSpec := { name := "fnExactPlan", vars := ["loop.example/g00076/impl.opExtras"], fn := fun _ => fun
  | [d1, d2, g1] => { results := [.lit (.bool false)], args := [d1, d2], vars := [g1] }
  | _ => none }
def FnExactPlanWrongFalsely : Prop := fnExactPlanRow.holds Tryz.pinned (OpenSpec.ofChange fnExactPlanWrong)

/-- 'laws.FnExactSplit': WHATEVER THE INPUT: true; the input reads as it did. -/
def fnExactSplitSpec : ChangeSpec := { name := "fnExactSplit", vars := ["loop.example/g00076/impl.opExtras"], fn := fun _ => fun
  | [d1, d2, d3, g1] => { results := [.lit (.bool true)], args := [d1, d2, d3], vars := [g1] }
  | _ => none }
def fnExactSplitRow : OpenClaim := { program := "ythieilkabcehgaagreatdoor", sum := "dbb5db80d565a4a4b85c1503e2de6b29b0f9b921e4ac00cfc21c76da75f26158", func := "loop.example/g00076/laws.FnExactSplit", spec := "fnExactSplit", unfollowed := true, recurses := true, named := ["loop.example/g00076/impl.opExtras"], apart := false, laid := [("loop.example/g00076/impl.opExtras", laid_loop_example_g00076_impl_opExtras)] }
def FnExactSplitSaid : Prop := fnExactSplitRow.holds Tryz.pinned (OpenSpec.ofChange fnExactSplitSpec)

/-- ITS FALSE NEIGHBOUR: 'it returns false'. Refute it at one input. -/
def fnExactSplitWrong : ChangeSpec := { name := "fnExactSplit", vars := ["loop.example/g00076/impl.opExtras"], fn := fun _ => fun
  | [d1, d2, d3, g1] => { results := [.lit (.bool false)], args := [d1, d2, d3], vars := [g1] }
  | _ => none }
def FnExactSplitWrongFalsely : Prop := fnExactSplitRow.holds Tryz.pinned (OpenSpec.ofChange fnExactSplitWrong)

/-- 'laws.FnExactMerge': WHATEVER THE INPUT: true; the input reads as it did. -/
def fnExactMergeSpec : ChangeSpec := { name := "fnExactMerge", vars := ["loop.example/g00076/impl.opExtras"], fn := fun _ => fun
  | [d1, d2, g1] => { results := [.lit (.bool true)], args := [d1, d2], vars := [g1] }
  | _ => none }
def fnExactMergeRow : OpenClaim := { program := "ythieilkabcehgaagreatdoor", sum := "dbb5db80d565a4a4b85c1503e2de6b29b0f9b921e4ac00cfc21c76da75f26158", func := "loop.example/g00076/laws.FnExactMerge", spec := "fnExactMerge", unfollowed := true, recurses := true, named := ["loop.example/g00076/impl.opExtras"], apart := false, laid := [("loop.example/g00076/impl.opExtras", laid_loop_example_g00076_impl_opExtras)] }
def FnExactMergeSaid : Prop := fnExactMergeRow.holds Tryz.pinned (OpenSpec.ofChange fnExactMergeSpec)

/-- ITS FALSE NEIGHBOUR: 'it returns false'. Refute it at one input. -/
def fnExactMergeWrong : ChangeSpec := { name := "fnExactMerge", vars := ["loop.example/g00076/impl.opExtras"], fn := fun _ => fun
  | [d1, d2, g1] => { results := [.lit (.bool false)], args := [d1, d2], vars := [g1] }
  | _ => none }
def FnExactMergeWrongFalsely : Prop := fnExactMergeRow.holds Tryz.pinned (OpenSpec.ofChange fnExactMergeWrong)

/-- 'laws.FnExactLatency': WHATEVER THE INPUT: true; the input reads as it did. -/
def fnExactLatencySpec : ChangeSpec := { name := "fnExactLatency", vars := ["loop.example/g00076/impl.opExtras"], fn := fun _ => fun
  | [d1, d2, g1] => { results := [.lit (.bool true)], args := [d1, d2], vars := [g1] }
  | _ => none }
def fnExactLatencyRow : OpenClaim := { program := "ythieilkabcehgaagreatdoor", sum := "dbb5db80d565a4a4b85c1503e2de6b29b0f9b921e4ac00cfc21c76da75f26158", func := "loop.example/g00076/laws.FnExactLatency", spec := "fnExactLatency", unfollowed := true, recurses := true, named := ["loop.example/g00076/impl.opExtras"], apart := false, laid := [("loop.example/g00076/impl.opExtras", laid_loop_example_g00076_impl_opExtras)] }
def FnExactLatencySaid : Prop := fnExactLatencyRow.holds Tryz.pinned (OpenSpec.ofChange fnExactLatencySpec)

/-- ITS FALSE NEIGHBOUR: 'it returns false'. Refute it at one input. -/
def fnExactLatencyWrong : ChangeSpec := { name := "fnExactLatency", vars := ["loop.example/g00076/impl.opExtras"], fn := fun _ => fun
  | [d1, d2, g1] => { results := [.lit (.bool false)], args := [d1, d2], vars := [g1] }
  | _ => none }
def FnExactLatencyWrongFalsely : Prop := fnExactLatencyRow.holds Tryz.pinned (OpenSpec.ofChange fnExactLatencyWrong)

/-- 'laws.FnExactEven': WHATEVER THE INPUT: true; the input reads as it did. -/
def fnExactEvenSpec : ChangeSpec := { name := "fnExactEven", vars := ["loop.example/g00076/impl.opExtras"], fn := fun _ => fun
  | [d1, d2, d3, g1] => { results := [.lit (.bool true)], args := [d1, d2, d3], vars := [g1] }
  | _ => none }
def fnExactEvenRow : OpenClaim := { program := "ythieilkabcehgaagreatdoor", sum := "dbb5db80d565a4a4b85c1503e2de6b29b0f9b921e4ac00cfc21c76da75f26158", func := "loop.example/g00076/laws.FnExactEven", spec := "fnExactEven", unfollowed := true, recurses := true, named := ["loop.example/g00076/impl.opExtras"], apart := false, laid := [("loop.example/g00076/impl.opExtras", laid_loop_example_g00076_impl_opExtras)] }
def FnExactEvenSaid : Prop := fnExactEvenRow.holds Tryz.pinned (OpenSpec.ofChange fnExactEvenSpec)

/-- ITS FALSE NEIGHBOUR: 'it returns false'. Refute it at one input. -/
def fnExactEvenWrong : ChangeSpec := { name := "fnExactEven", vars := ["loop.example/g00076/impl.opExtras"], fn := fun _ => fun
  | [d1, d2, d3, g1] => { results := [.lit (.bool false)], args := [d1, d2, d3], vars := [g1] }
  | _ => none }
def FnExactEvenWrongFalsely : Prop := fnExactEvenRow.holds Tryz.pinned (OpenSpec.ofChange fnExactEvenWrong)

/- THE SECOND FORM. 'bulk': how many values and letters a reading holds, each counted each time it is reached (what is shared counts as often as it is met; a slice's spare places count too). A statement '..UptoSaid' is the law's where the arguments, and the package variables that the reading takes, are together of bulk at most 1048576: NARROWER than '..Said'. Prove '..Said' where nothing that the law and all that it calls make is longer than what came in: it says more and counts as full. Else prove '..UptoSaid'. A law counts once. -/
mutual
def uptoBulk {H : Type} : DataW H → Nat
  | .lit (.string bytes) => bytes.length + 1
  | .lit _ => 1
  | .nil => 1
  | .ptr d => uptoBulk d + 1
  | .slice elems spare => uptoBulkAll elems + uptoBulkAll spare + 1
  | .agg parts => uptoBulkAll parts + 1
  | .iface _ d => uptoBulk d + 1
  | .map entries => uptoBulkEntries entries + 1
  | .held _ => 1
def uptoBulkAll {H : Type} : List (DataW H) → Nat
  | [] => 0
  | d :: r => uptoBulk d + uptoBulkAll r
def uptoBulkEntries {H : Type} : List (Lit × DataW H) → Nat
  | [] => 0
  | x :: r => uptoBulkEntry x + uptoBulkEntries r
def uptoBulkEntry {H : Type} : Lit × DataW H → Nat
  | (.string bytes, d) => bytes.length + uptoBulk d + 1
  | (_, d) => uptoBulk d + 1
 end
def uptoSmall : (H : Type) → List (DataW H) → Bool := fun _ ds => decide (uptoBulkAll ds ≤ 1048576)
def OpenSpec.upto (s : _root_.Go.ChangeSpec) : _root_.Go.OpenSpec := { _root_.Go.OpenSpec.ofChange s with cond := some uptoSmall }

/-- 'laws.FnExactPlan', WHERE WHAT IT READS IS OF BULK AT MOST 1048576: true; the input reads as it did. -/
def fnExactPlanUptoRow : OpenClaim := { program := "ythieilkabcehgaagreatdoor", sum := "dbb5db80d565a4a4b85c1503e2de6b29b0f9b921e4ac00cfc21c76da75f26158", func := "loop.example/g00076/laws.FnExactPlan", spec := "fnExactPlan", unfollowed := true, recurses := true, named := ["loop.example/g00076/impl.opExtras"], apart := false, laid := [("loop.example/g00076/impl.opExtras", laid_loop_example_g00076_impl_opExtras)], narrowed := true }
def FnExactPlanUptoSaid : Prop := fnExactPlanUptoRow.holds Tryz.pinned (OpenSpec.upto fnExactPlanSpec)

/-- 'laws.FnExactSplit', WHERE WHAT IT READS IS OF BULK AT MOST 1048576: true; the input reads as it did. -/
def fnExactSplitUptoRow : OpenClaim := { program := "ythieilkabcehgaagreatdoor", sum := "dbb5db80d565a4a4b85c1503e2de6b29b0f9b921e4ac00cfc21c76da75f26158", func := "loop.example/g00076/laws.FnExactSplit", spec := "fnExactSplit", unfollowed := true, recurses := true, named := ["loop.example/g00076/impl.opExtras"], apart := false, laid := [("loop.example/g00076/impl.opExtras", laid_loop_example_g00076_impl_opExtras)], narrowed := true }
def FnExactSplitUptoSaid : Prop := fnExactSplitUptoRow.holds Tryz.pinned (OpenSpec.upto fnExactSplitSpec)

/-- 'laws.FnExactMerge', WHERE WHAT IT READS IS OF BULK AT MOST 1048576: true; the input reads as it did. -/
def fnExactMergeUptoRow : OpenClaim := { program := "ythieilkabcehgaagreatdoor", sum := "dbb5db80d565a4a4b85c1503e2de6b29b0f9b921e4ac00cfc21c76da75f26158", func := "loop.example/g00076/laws.FnExactMerge", spec := "fnExactMerge", unfollowed := true, recurses := true, named := ["loop.example/g00076/impl.opExtras"], apart := false, laid := [("loop.example/g00076/impl.opExtras", laid_loop_example_g00076_impl_opExtras)], narrowed := true }
def FnExactMergeUptoSaid : Prop := fnExactMergeUptoRow.holds Tryz.pinned (OpenSpec.upto fnExactMergeSpec)

/-- 'laws.FnExactLatency', WHERE WHAT IT READS IS OF BULK AT MOST 1048576: true; the input reads as it did. -/
def fnExactLatencyUptoRow : OpenClaim := { program := "ythieilkabcehgaagreatdoor", sum := "dbb5db80d565a4a4b85c1503e2de6b29b0f9b921e4ac00cfc21c76da75f26158", func := "loop.example/g00076/laws.FnExactLatency", spec := "fnExactLatency", unfollowed := true, recurses := true, named := ["loop.example/g00076/impl.opExtras"], apart := false, laid := [("loop.example/g00076/impl.opExtras", laid_loop_example_g00076_impl_opExtras)], narrowed := true }
def FnExactLatencyUptoSaid : Prop := fnExactLatencyUptoRow.holds Tryz.pinned (OpenSpec.upto fnExactLatencySpec)

/-- 'laws.FnExactEven', WHERE WHAT IT READS IS OF BULK AT MOST 1048576: true; the input reads as it did. -/
def fnExactEvenUptoRow : OpenClaim := { program := "ythieilkabcehgaagreatdoor", sum := "dbb5db80d565a4a4b85c1503e2de6b29b0f9b921e4ac00cfc21c76da75f26158", func := "loop.example/g00076/laws.FnExactEven", spec := "fnExactEven", unfollowed := true, recurses := true, named := ["loop.example/g00076/impl.opExtras"], apart := false, laid := [("loop.example/g00076/impl.opExtras", laid_loop_example_g00076_impl_opExtras)], narrowed := true }
def FnExactEvenUptoSaid : Prop := fnExactEvenUptoRow.holds Tryz.pinned (OpenSpec.upto fnExactEvenSpec)

end Rows
end Go.Proofs.YthieilkabcehgaaGreatDoor
