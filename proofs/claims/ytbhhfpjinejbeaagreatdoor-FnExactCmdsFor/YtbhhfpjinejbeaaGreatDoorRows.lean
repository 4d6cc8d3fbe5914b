/-
  NARROWER THAN 'FOR EVERY INPUT', by the rows' own cells (each row's printed sentence says how): FnExactJoined: laid · FnExactInfluence: laid · FnExactCmdsFor: laid.
  DERIVED. THE GIVEN ROWS OF THIS SEAT. 3 by the template 'for every input the law returns true; each argument reads behind the call as it read before'; 0 by the template 'total and deterministic' (their statements: YtbhhfpjinejbeaaGreatDoorTotals.lean).
  GIVEN WITH THE SEED: the statements are not yours to turn. If you find one false, say at which input.
  Laid BY PROGRAM, IN A SANDBOX (cutbox-rows.mjs): the forced cells as the released guide's own fill.sh prints them over the translation 3f9f8d5b0e2fd6b1… (all of the seat's roots in one cut). By AI agents, Wed Nov 11 2026. No macro, syntax, notation, axiom, sorry.
-/
import Derived.Test.YtbhhfpjinejbeaaGreatDoorChecked
import GoSem.Claim
import GoSem.ClaimJoined
import GoSem.ClaimMapViews
import Derived.JoinedTies
import Derived.KernelRfl
namespace Go.Proofs.YtbhhfpjinejbeaaGreatDoor
/- THE CELL 'sum', in the pinned program and in every row, IS THE sha256 OF THE DUMP (.gsa) THAT YtbhhfpjinejbeaaGreatDoorProg.lean LOADS. Nothing in Lean hashes anything: it is a label: what it is worth is what the hold of that sum in a sandbox is worth. -/
noncomputable def Tryz.pinned : Pinned := { name := "ytbhhfpjinejbeaagreatdoor", sum := "3f9f8d5b0e2fd6b19c0321d029526cc579dff32e358a4d206217802494200558", checked := Tryz.checked }
namespace Rows
def none {H : Type} : Left H := { results := [], args := [] }

/- WHAT THE LISTED PACKAGE-LEVEL VARIABLES READ AS WHEN THE CALL BEGINS. Each datum BY PROGRAM (the guide's laid-datum.mjs) off the statement by which the dump's own 'gosem.cut.vars' lays the variable. In a bare row this is a premise. The card (YtbhhfpjinejbeaaGreatDoorCards.lean) ties it to the program's text. -/
def laid_loop_example_g00076_impl_opExtras {H : Type} : DataW H := .agg [.lit (.int .i64 0), .lit (.int .i64 0), .lit (.int .i64 0), .lit (.int .i64 0), .lit (.int .i64 0), .lit (.int .i64 0), .lit (.int .i64 0), .lit (.int .i64 0), .lit (.int .i64 0), .lit (.int .i64 1), .lit (.int .i64 1), .lit (.int .i64 0), .lit (.int .i64 0), .lit (.int .i64 0), .lit (.int .i64 0), .lit (.int .i64 2), .lit (.int .i64 2), .lit (.int .i64 2), .lit (.int .i64 2), .lit (.int .i64 0), .lit (.int .i64 0), .lit (.int .i64 0), .lit (.int .i64 0), .lit (.int .i64 0), .lit (.int .i64 0), .lit (.int .i64 3), .lit (.int .i64 3), .lit (.int .i64 3), .lit (.int .i64 3), .lit (.int .i64 3), .lit (.int .i64 3), .lit (.int .i64 3), .lit (.int .i64 3)]

/-- 'laws.FnExactJoined': WHATEVER THE INPUT: true; the input reads as it did. -/
def fnExactJoinedSpec : ChangeSpec := { name := "fnExactJoined", vars := ["loop.example/g00076/impl.opExtras"], fn := fun _ => fun
  | [d1, d2, g1] => { results := [.lit (.bool true)], args := [d1, d2], vars := [g1] }
  | _ => none }
def fnExactJoinedRow : OpenClaim := { program := "ytbhhfpjinejbeaagreatdoor", sum := "3f9f8d5b0e2fd6b19c0321d029526cc579dff32e358a4d206217802494200558", func := "loop.example/g00076/laws.FnExactJoined", spec := "fnExactJoined", unfollowed := true, recurses := true, named := ["loop.example/g00076/impl.opExtras"], plainKeys := false, apart := false, laid := [("loop.example/g00076/impl.opExtras", laid_loop_example_g00076_impl_opExtras)] }
def FnExactJoinedSaid : Prop := fnExactJoinedRow.holds Tryz.pinned (OpenSpec.ofChange fnExactJoinedSpec)

/-- ITS FALSE NEIGHBOUR: 'it returns false'. Refute it at one input. -/
def fnExactJoinedWrong : ChangeSpec := { name := "fnExactJoined", vars := ["loop.example/g00076/impl.opExtras"], fn := fun _ => fun
  | [d1, d2, g1] => { results := [.lit (.bool false)], args := [d1, d2], vars := [g1] }
  | _ => none }
def FnExactJoinedWrongFalsely : Prop := fnExactJoinedRow.holds Tryz.pinned (OpenSpec.ofChange fnExactJoinedWrong)

/-- 'laws.FnExactInfluence': WHATEVER THE INPUT: true; the input reads as it did. -/
def fnExactInfluenceSpec : ChangeSpec := { name := "fnExactInfluence", vars := ["loop.example/g00076/impl.opExtras"], fn := fun _ => fun
  | [d1, d2, d3, g1] => { results := [.lit (.bool true)], args := [d1, d2, d3], vars := [g1] }
  | _ => none }
def fnExactInfluenceRow : OpenClaim := { program := "ytbhhfpjinejbeaagreatdoor", sum := "3f9f8d5b0e2fd6b19c0321d029526cc579dff32e358a4d206217802494200558", func := "loop.example/g00076/laws.FnExactInfluence", spec := "fnExactInfluence", unfollowed := true, recurses := true, named := ["loop.example/g00076/impl.opExtras"], plainKeys := false, apart := false, laid := [("loop.example/g00076/impl.opExtras", laid_loop_example_g00076_impl_opExtras)] }
def FnExactInfluenceSaid : Prop := fnExactInfluenceRow.holds Tryz.pinned (OpenSpec.ofChange fnExactInfluenceSpec)

/-- ITS FALSE NEIGHBOUR: 'it returns false'. Refute it at one input. -/
def fnExactInfluenceWrong : ChangeSpec := { name := "fnExactInfluence", vars := ["loop.example/g00076/impl.opExtras"], fn := fun _ => fun
  | [d1, d2, d3, g1] => { results := [.lit (.bool false)], args := [d1, d2, d3], vars := [g1] }
  | _ => none }
def FnExactInfluenceWrongFalsely : Prop := fnExactInfluenceRow.holds Tryz.pinned (OpenSpec.ofChange fnExactInfluenceWrong)

/-- 'laws.FnExactCmdsFor': WHATEVER THE INPUT: true; the input reads as it did. -/
def fnExactCmdsForSpec : ChangeSpec := { name := "fnExactCmdsFor", vars := ["loop.example/g00076/impl.opExtras"], fn := fun _ => fun
  | [d1, d2, d3, g1] => { results := [.lit (.bool true)], args := [d1, d2, d3], vars := [g1] }
  | _ => none }
def fnExactCmdsForRow : OpenClaim := { program := "ytbhhfpjinejbeaagreatdoor", sum := "3f9f8d5b0e2fd6b19c0321d029526cc579dff32e358a4d206217802494200558", func := "loop.example/g00076/laws.FnExactCmdsFor", spec := "fnExactCmdsFor", unfollowed := true, recurses := true, named := ["loop.example/g00076/impl.opExtras"], plainKeys := false, apart := false, laid := [("loop.example/g00076/impl.opExtras", laid_loop_example_g00076_impl_opExtras)] }
def FnExactCmdsForSaid : Prop := fnExactCmdsForRow.holds Tryz.pinned (OpenSpec.ofChange fnExactCmdsForSpec)

/-- ITS FALSE NEIGHBOUR: 'it returns false'. Refute it at one input. -/
def fnExactCmdsForWrong : ChangeSpec := { name := "fnExactCmdsFor", vars := ["loop.example/g00076/impl.opExtras"], fn := fun _ => fun
  | [d1, d2, d3, g1] => { results := [.lit (.bool false)], args := [d1, d2, d3], vars := [g1] }
  | _ => none }
def FnExactCmdsForWrongFalsely : Prop := fnExactCmdsForRow.holds Tryz.pinned (OpenSpec.ofChange fnExactCmdsForWrong)

/- THE SECOND FORM. 'bulk': how many values and letters a reading holds, each counted each time it is reached (what is shared counts as often as it is met; a slice's spare places count too). A statement '..UptoSaid' is the law's where the arguments, and the package variables that the reading takes, are together of bulk at most 1048576: NARROWER than '..Said'. Prove '..Said' where nothing that the law and all that it calls make is longer than what came in: it says more and counts as full. Else prove '..UptoSaid'. A law counts once. -/
mutual
def uptoBulk {H : Type} : DataW H → Nat
  | .lit (.string bytes) => bytes.length + 1
  | .lit _ => 1
  | .nil => 1
  | .ptr d => uptoBulk d + 1
  | .slice elems spare => uptoBulkAll elems + uptoBulkAll spare + 1
  | .agg parts => uptoBulkAll parts + 1
  | .iface _ d => uptoBulk d + 1
  | .map entries => uptoBulkEntries entries + 1
  | .held _ => 1
def uptoBulkAll {H : Type} : List (DataW H) → Nat
  | [] => 0
  | d :: r => uptoBulk d + uptoBulkAll r
def uptoBulkEntries {H : Type} : List (Lit × DataW H) → Nat
  | [] => 0
  | x :: r => uptoBulkEntry x + uptoBulkEntries r
def uptoBulkEntry {H : Type} : Lit × DataW H → Nat
  | (.string bytes, d) => bytes.length + uptoBulk d + 1
  | (_, d) => uptoBulk d + 1
 end
def uptoSmall : (H : Type) → List (DataW H) → Bool := fun _ ds => decide (uptoBulkAll ds ≤ 1048576)
def OpenSpec.upto (s : _root_.Go.ChangeSpec) : _root_.Go.OpenSpec := { _root_.Go.OpenSpec.ofChange s with cond := some uptoSmall }

/-- 'laws.FnExactJoined', WHERE WHAT IT READS IS OF BULK AT MOST 1048576: true; the input reads as it did. -/
def fnExactJoinedUptoRow : OpenClaim := { program := "ytbhhfpjinejbeaagreatdoor", sum := "3f9f8d5b0e2fd6b19c0321d029526cc579dff32e358a4d206217802494200558", func := "loop.example/g00076/laws.FnExactJoined", spec := "fnExactJoined", unfollowed := true, recurses := true, named := ["loop.example/g00076/impl.opExtras"], plainKeys := false, apart := false, laid := [("loop.example/g00076/impl.opExtras", laid_loop_example_g00076_impl_opExtras)], narrowed := true }
def FnExactJoinedUptoSaid : Prop := fnExactJoinedUptoRow.holds Tryz.pinned (OpenSpec.upto fnExactJoinedSpec)

/-- 'laws.FnExactInfluence', WHERE WHAT IT READS IS OF BULK AT MOST 1048576: true; the input reads as it did. -/
def fnExactInfluenceUptoRow : OpenClaim := { program := "ytbhhfpjinejbeaagreatdoor", sum := "3f9f8d5b0e2fd6b19c0321d029526cc579dff32e358a4d206217802494200558", func := "loop.example/g00076/laws.FnExactInfluence", spec := "fnExactInfluence", unfollowed := true, recurses := true, named := ["loop.example/g00076/impl.opExtras"], plainKeys := false, apart := false, laid := [("loop.example/g00076/impl.opExtras", laid_loop_example_g00076_impl_opExtras)], narrowed := true }
def FnExactInfluenceUptoSaid : Prop := fnExactInfluenceUptoRow.holds Tryz.pinned (OpenSpec.upto fnExactInfluenceSpec)

/-- 'laws.FnExactCmdsFor', WHERE WHAT IT READS IS OF BULK AT MOST 1048576: true; the input reads as it did. -/
def fnExactCmdsForUptoRow : OpenClaim := { program := "ytbhhfpjinejbeaagreatdoor", sum := "3f9f8d5b0e2fd6b19c0321d029526cc579dff32e358a4d206217802494200558", func := "loop.example/g00076/laws.FnExactCmdsFor", spec := "fnExactCmdsFor", unfollowed := true, recurses := true, named := ["loop.example/g00076/impl.opExtras"], plainKeys := false, apart := false, laid := [("loop.example/g00076/impl.opExtras", laid_loop_example_g00076_impl_opExtras)], narrowed := true }
def FnExactCmdsForUptoSaid : Prop := fnExactCmdsForUptoRow.holds Tryz.pinned (OpenSpec.upto fnExactCmdsForSpec)

end Rows
end Go.Proofs.YtbhhfpjinejbeaaGreatDoor
