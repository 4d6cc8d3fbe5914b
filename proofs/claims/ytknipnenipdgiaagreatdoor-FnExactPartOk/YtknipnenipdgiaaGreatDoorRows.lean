/-
  NARROWER THAN 'FOR EVERY INPUT', by the rows' own cells (each row's printed sentence says how): FnExactPartOk: laid · FnExactPartBoot: laid · FnExactPartInput: laid · FnExactPartRestart: laid · FnExactPartSlot: laid.
  DERIVED. THE GIVEN ROWS OF THIS SEAT. 5 by the template 'for every input the law returns true; each argument reads behind the call as it read before'; 0 by the template 'total and deterministic' (their statements: YtknipnenipdgiaaGreatDoorTotals.lean).
  GIVEN WITH THE SEED: the statements are not yours to turn. If you find one false, say at which input.
  Laid BY PROGRAM, IN A SANDBOX (cutbox-rows.mjs): the forced cells as the released guide's own fill.sh prints them over the translation 20466bc3ebd2aa25… (all of the seat's roots in one cut). By AI agents, Wed Nov 11 2026. No macro, syntax, notation, axiom, sorry.
-/
import Derived.Test.YtknipnenipdgiaaGreatDoorChecked
import GoSem.Claim
import GoSem.ClaimJoined
import GoSem.ClaimMapViews
import Derived.JoinedTies
import Derived.KernelRfl
namespace Go.Proofs.YtknipnenipdgiaaGreatDoor
/- THE CELL 'sum', in the pinned program and in every row, IS THE sha256 OF THE DUMP (.gsa) THAT YtknipnenipdgiaaGreatDoorProg.lean LOADS. Nothing in Lean hashes anything: it is a label: what it is worth is what the hold of that sum in a sandbox is worth. -/
noncomputable def Tryz.pinned : Pinned := { name := "ytknipnenipdgiaagreatdoor", sum := "20466bc3ebd2aa259e576f3693b91207d64a0b94541ceb72b1c766b86408701a", checked := Tryz.checked }
namespace Rows
def none {H : Type} : Left H := { results := [], args := [] }

/- WHAT THE LISTED PACKAGE-LEVEL VARIABLES READ AS WHEN THE CALL BEGINS. Each datum BY PROGRAM (the guide's laid-datum.mjs) off the statement by which the dump's own 'gosem.cut.vars' lays the variable. In a bare row this is a premise. The card (YtknipnenipdgiaaGreatDoorCards.lean) ties it to the program's text. -/
def laid_loop_example_g00076_impl_opExtras {H : Type} : DataW H := .agg [.lit (.int .i64 0), .lit (.int .i64 0), .lit (.int .i64 0), .lit (.int .i64 0), .lit (.int .i64 0), .lit (.int .i64 0), .lit (.int .i64 0), .lit (.int .i64 0), .lit (.int .i64 0), .lit (.int .i64 1), .lit (.int .i64 1), .lit (.int .i64 0), .lit (.int .i64 0), .lit (.int .i64 0), .lit (.int .i64 0), .lit (.int .i64 2), .lit (.int .i64 2), .lit (.int .i64 2), .lit (.int .i64 2), .lit (.int .i64 0), .lit (.int .i64 0), .lit (.int .i64 0), .lit (.int .i64 0), .lit (.int .i64 0), .lit (.int .i64 0), .lit (.int .i64 3), .lit (.int .i64 3), .lit (.int .i64 3), .lit (.int .i64 3), .lit (.int .i64 3), .lit (.int .i64 3), .lit (.int .i64 3), .lit (.int .i64 3)]

/-- 'laws.FnExactPartOk': WHATEVER THE INPUT: true; the input reads as it did. -/
def fnExactPartOkSpec : ChangeSpec := { name := "fnExactPartOk", vars := ["loop.example/g00076/impl.opExtras"], fn := fun _ => fun
  | [d1, d2, d3, g1] => { results := [.lit (.bool true)], args := [d1, d2, d3], vars := [g1] }
  | _ => none }
def fnExactPartOkRow : OpenClaim := { program := "ytknipnenipdgiaagreatdoor", sum := "20466bc3ebd2aa259e576f3693b91207d64a0b94541ceb72b1c766b86408701a", func := "loop.example/g00076/laws.FnExactPartOk", spec := "fnExactPartOk", unfollowed := true, recurses := true, named := ["loop.example/g00076/impl.opExtras"], apart := false, laid := [("loop.example/g00076/impl.opExtras", laid_loop_example_g00076_impl_opExtras)] }
def FnExactPartOkSaid : Prop := fnExactPartOkRow.holds Tryz.pinned (OpenSpec.ofChange fnExactPartOkSpec)

/-- ITS FALSE NEIGHBOUR: 'it returns false'. Refute it at one input. -/
def fnExactPartOkWrong : ChangeSpec := { name := "fnExactPartOk", vars := ["loop.example/g00076/impl.opExtras"], fn := fun _ => fun
  | [d1, d2, d3, g1] => { results := [.lit (.bool false)], args := [d1, d2, d3], vars := [g1] }
  | _ => none }
def FnExactPartOkWrongFalsely : Prop := fnExactPartOkRow.holds Tryz.pinned (OpenSpec.ofChange fnExactPartOkWrong)

/-- 'laws.FnExactPartBoot': WHATEVER THE INPUT: true; the input reads as it did. -/
def fnExactPartBootSpec : ChangeSpec := { name := "fnExactPartBoot", vars := ["loop.example/g00076/impl.opExtras"], fn := fun _ => fun
  | [d1, d2, d3, g1] => { results := [.lit (.bool true)], args := [d1, d2, d3], vars := [g1] }
  | _ => none }
def fnExactPartBootRow : OpenClaim := { program := "ytknipnenipdgiaagreatdoor", sum := "20466bc3ebd2aa259e576f3693b91207d64a0b94541ceb72b1c766b86408701a", func := "loop.example/g00076/laws.FnExactPartBoot", spec := "fnExactPartBoot", unfollowed := true, recurses := true, named := ["loop.example/g00076/impl.opExtras"], apart := false, laid := [("loop.example/g00076/impl.opExtras", laid_loop_example_g00076_impl_opExtras)] }
def FnExactPartBootSaid : Prop := fnExactPartBootRow.holds Tryz.pinned (OpenSpec.ofChange fnExactPartBootSpec)

/-- ITS FALSE NEIGHBOUR: 'it returns false'. Refute it at one input. -/
def fnExactPartBootWrong : ChangeSpec := { name := "fnExactPartBoot", vars := ["loop.example/g00076/impl.opExtras"], fn := fun _ => fun
  | [d1, d2, d3, g1] => { results := [.lit (.bool false)], args := [d1, d2, d3], vars := [g1] }
  | _ => none }
def FnExactPartBootWrongFalsely : Prop := fnExactPartBootRow.holds Tryz.pinned (OpenSpec.ofChange fnExactPartBootWrong)

/-- 'laws.FnExactPartInput': WHATEVER THE INPUT: true; the input reads as it did. -/
def fnExactPartInputSpec : ChangeSpec := { name := "fnExactPartInput", vars := ["loop.example/g00076/impl.opExtras"], fn := fun _ => fun
  | [d1, d2, d3, d4, d5, g1] => { results := [.lit (.bool true)], args := [d1, d2, d3, d4, d5], vars := [g1] }
  | _ => none }
def fnExactPartInputRow : OpenClaim := { program := "ytknipnenipdgiaagreatdoor", sum := "20466bc3ebd2aa259e576f3693b91207d64a0b94541ceb72b1c766b86408701a", func := "loop.example/g00076/laws.FnExactPartInput", spec := "fnExactPartInput", unfollowed := true, recurses := true, named := ["loop.example/g00076/impl.opExtras"], apart := false, laid := [("loop.example/g00076/impl.opExtras", laid_loop_example_g00076_impl_opExtras)] }
def FnExactPartInputSaid : Prop := fnExactPartInputRow.holds Tryz.pinned (OpenSpec.ofChange fnExactPartInputSpec)

/-- ITS FALSE NEIGHBOUR: 'it returns false'. Refute it at one input. -/
def fnExactPartInputWrong : ChangeSpec := { name := "fnExactPartInput", vars := ["loop.example/g00076/impl.opExtras"], fn := fun _ => fun
  | [d1, d2, d3, d4, d5, g1] => { results := [.lit (.bool false)], args := [d1, d2, d3, d4, d5], vars := [g1] }
  | _ => none }
def FnExactPartInputWrongFalsely : Prop := fnExactPartInputRow.holds Tryz.pinned (OpenSpec.ofChange fnExactPartInputWrong)

/-- 'laws.FnExactPartRestart': WHATEVER THE INPUT: true; the input reads as it did. -/
def fnExactPartRestartSpec : ChangeSpec := { name := "fnExactPartRestart", vars := ["loop.example/g00076/impl.opExtras"], fn := fun _ => fun
  | [d1, d2, d3, g1] => { results := [.lit (.bool true)], args := [d1, d2, d3], vars := [g1] }
  | _ => none }
def fnExactPartRestartRow : OpenClaim := { program := "ytknipnenipdgiaagreatdoor", sum := "20466bc3ebd2aa259e576f3693b91207d64a0b94541ceb72b1c766b86408701a", func := "loop.example/g00076/laws.FnExactPartRestart", spec := "fnExactPartRestart", unfollowed := true, recurses := true, named := ["loop.example/g00076/impl.opExtras"], apart := false, laid := [("loop.example/g00076/impl.opExtras", laid_loop_example_g00076_impl_opExtras)] }
def FnExactPartRestartSaid : Prop := fnExactPartRestartRow.holds Tryz.pinned (OpenSpec.ofChange fnExactPartRestartSpec)

/-- ITS FALSE NEIGHBOUR: 'it returns false'. Refute it at one input. -/
def fnExactPartRestartWrong : ChangeSpec := { name := "fnExactPartRestart", vars := ["loop.example/g00076/impl.opExtras"], fn := fun _ => fun
  | [d1, d2, d3, g1] => { results := [.lit (.bool false)], args := [d1, d2, d3], vars := [g1] }
  | _ => none }
def FnExactPartRestartWrongFalsely : Prop := fnExactPartRestartRow.holds Tryz.pinned (OpenSpec.ofChange fnExactPartRestartWrong)

/-- 'laws.FnExactPartSlot': WHATEVER THE INPUT: true; the input reads as it did. -/
def fnExactPartSlotSpec : ChangeSpec := { name := "fnExactPartSlot", vars := ["loop.example/g00076/impl.opExtras"], fn := fun _ => fun
  | [d1, d2, d3, d4, g1] => { results := [.lit (.bool true)], args := [d1, d2, d3, d4], vars := [g1] }
  | _ => none }
def fnExactPartSlotRow : OpenClaim := { program := "ytknipnenipdgiaagreatdoor", sum := "20466bc3ebd2aa259e576f3693b91207d64a0b94541ceb72b1c766b86408701a", func := "loop.example/g00076/laws.FnExactPartSlot", spec := "fnExactPartSlot", unfollowed := true, recurses := true, named := ["loop.example/g00076/impl.opExtras"], apart := false, laid := [("loop.example/g00076/impl.opExtras", laid_loop_example_g00076_impl_opExtras)] }
def FnExactPartSlotSaid : Prop := fnExactPartSlotRow.holds Tryz.pinned (OpenSpec.ofChange fnExactPartSlotSpec)

/-- ITS FALSE NEIGHBOUR: 'it returns false'. Refute it at one input. -/
def fnExactPartSlotWrong : ChangeSpec := { name := "fnExactPartSlot", vars := ["loop.example/g00076/impl.opExtras"], fn := fun _ => fun
  | [d1, d2, d3, d4, g1] => { results := [.lit (.bool false)], args := [d1, d2, d3, d4], vars := [g1] }
  | _ => none }
def FnExactPartSlotWrongFalsely : Prop := fnExactPartSlotRow.holds Tryz.pinned (OpenSpec.ofChange fnExactPartSlotWrong)

/- THE SECOND FORM. 'bulk': how many values and letters a reading holds, each counted each time it is reached (what is shared counts as often as it is met; a slice's spare places count too). A statement '..UptoSaid' is the law's where the arguments, and the package variables that the reading takes, are together of bulk at most 1048576: NARROWER than '..Said'. Prove '..Said' where nothing that the law and all that it calls make is longer than what came in: it says more and counts as full. Else prove '..UptoSaid'. A law counts once. -/
mutual
def uptoBulk {H : Type} : DataW H → Nat
  | .lit (.string bytes) => bytes.length + 1
  | .lit _ => 1
  | .nil => 1
  | .ptr d => uptoBulk d + 1
  | .slice elems spare => uptoBulkAll elems + uptoBulkAll spare + 1
  | .agg parts => uptoBulkAll parts + 1
  | .iface _ d => uptoBulk d + 1
  | .map entries => uptoBulkEntries entries + 1
  | .held _ => 1
def uptoBulkAll {H : Type} : List (DataW H) → Nat
  | [] => 0
  | d :: r => uptoBulk d + uptoBulkAll r
def uptoBulkEntries {H : Type} : List (Lit × DataW H) → Nat
  | [] => 0
  | x :: r => uptoBulkEntry x + uptoBulkEntries r
def uptoBulkEntry {H : Type} : Lit × DataW H → Nat
  | (.string bytes, d) => bytes.length + uptoBulk d + 1
  | (_, d) => uptoBulk d + 1
 end
def uptoSmall : (H : Type) → List (DataW H) → Bool := fun _ ds => decide (uptoBulkAll ds ≤ 1048576)
def OpenSpec.upto (s : _root_.Go.ChangeSpec) : _root_.Go.OpenSpec := { _root_.Go.OpenSpec.ofChange s with cond := some uptoSmall }

/-- 'laws.FnExactPartOk', WHERE WHAT IT READS IS OF BULK AT MOST 1048576: true; the input reads as it did. -/
def fnExactPartOkUptoRow : OpenClaim := { program := "ytknipnenipdgiaagreatdoor", sum := "20466bc3ebd2aa259e576f3693b91207d64a0b94541ceb72b1c766b86408701a", func := "loop.example/g00076/laws.FnExactPartOk", spec := "fnExactPartOk", unfollowed := true, recurses := true, named := ["loop.example/g00076/impl.opExtras"], apart := false, laid := [("loop.example/g00076/impl.opExtras", laid_loop_example_g00076_impl_opExtras)], narrowed := true }
def FnExactPartOkUptoSaid : Prop := fnExactPartOkUptoRow.holds Tryz.pinned (OpenSpec.upto fnExactPartOkSpec)

/-- 'laws.FnExactPartBoot', WHERE WHAT IT READS IS OF BULK AT MOST 1048576: true; the input reads as it did. -/
def fnExactPartBootUptoRow : OpenClaim := { program := "ytknipnenipdgiaagreatdoor", sum := "20466bc3ebd2aa259e576f3693b91207d64a0b94541ceb72b1c766b86408701a", func := "loop.example/g00076/laws.FnExactPartBoot", spec := "fnExactPartBoot", unfollowed := true, recurses := true, named := ["loop.example/g00076/impl.opExtras"], apart := false, laid := [("loop.example/g00076/impl.opExtras", laid_loop_example_g00076_impl_opExtras)], narrowed := true }
def FnExactPartBootUptoSaid : Prop := fnExactPartBootUptoRow.holds Tryz.pinned (OpenSpec.upto fnExactPartBootSpec)

/-- 'laws.FnExactPartInput', WHERE WHAT IT READS IS OF BULK AT MOST 1048576: true; the input reads as it did. -/
def fnExactPartInputUptoRow : OpenClaim := { program := "ytknipnenipdgiaagreatdoor", sum := "20466bc3ebd2aa259e576f3693b91207d64a0b94541ceb72b1c766b86408701a", func := "loop.example/g00076/laws.FnExactPartInput", spec := "fnExactPartInput", unfollowed := true, recurses := true, named := ["loop.example/g00076/impl.opExtras"], apart := false, laid := [("loop.example/g00076/impl.opExtras", laid_loop_example_g00076_impl_opExtras)], narrowed := true }
def FnExactPartInputUptoSaid : Prop := fnExactPartInputUptoRow.holds Tryz.pinned (OpenSpec.upto fnExactPartInputSpec)

/-- 'laws.FnExactPartRestart', WHERE WHAT IT READS IS OF BULK AT MOST 1048576: true; the input reads as it did. -/
def fnExactPartRestartUptoRow : OpenClaim := { program := "ytknipnenipdgiaagreatdoor", sum := "20466bc3ebd2aa259e576f3693b91207d64a0b94541ceb72b1c766b86408701a", func := "loop.example/g00076/laws.FnExactPartRestart", spec := "fnExactPartRestart", unfollowed := true, recurses := true, named := ["loop.example/g00076/impl.opExtras"], apart := false, laid := [("loop.example/g00076/impl.opExtras", laid_loop_example_g00076_impl_opExtras)], narrowed := true }
def FnExactPartRestartUptoSaid : Prop := fnExactPartRestartUptoRow.holds Tryz.pinned (OpenSpec.upto fnExactPartRestartSpec)

/-- 'laws.FnExactPartSlot', WHERE WHAT IT READS IS OF BULK AT MOST 1048576: true; the input reads as it did. -/
def fnExactPartSlotUptoRow : OpenClaim := { program := "ytknipnenipdgiaagreatdoor", sum := "20466bc3ebd2aa259e576f3693b91207d64a0b94541ceb72b1c766b86408701a", func := "loop.example/g00076/laws.FnExactPartSlot", spec := "fnExactPartSlot", unfollowed := true, recurses := true, named := ["loop.example/g00076/impl.opExtras"], apart := false, laid := [("loop.example/g00076/impl.opExtras", laid_loop_example_g00076_impl_opExtras)], narrowed := true }
def FnExactPartSlotUptoSaid : Prop := fnExactPartSlotUptoRow.holds Tryz.pinned (OpenSpec.upto fnExactPartSlotSpec)

end Rows
end Go.Proofs.YtknipnenipdgiaaGreatDoor
