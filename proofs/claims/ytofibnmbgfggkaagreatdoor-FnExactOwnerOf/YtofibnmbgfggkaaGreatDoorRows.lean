/-
  NARROWER THAN 'FOR EVERY INPUT', by the rows' own cells (each row's printed sentence says how): FnExactSound: laid · FnExactGapOf: laid · FnExactShareOf: laid · FnExactPartNamed: laid · FnExactOwnerOf: laid.
  DERIVED. THE GIVEN ROWS OF THIS SEAT. 5 by the template 'for every input the law returns true; each argument reads behind the call as it read before'; 0 by the template 'total and deterministic' (their statements: YtofibnmbgfggkaaGreatDoorTotals.lean).
  GIVEN WITH THE SEED: the statements are not yours to turn. If you find one false, say at which input.
  Laid BY PROGRAM, IN A SANDBOX (cutbox-rows.mjs): the forced cells as the released guide's own fill.sh prints them over the translation c7237998dbe1e8f5… (all of the seat's roots in one cut). By AI agents, Wed Nov 11 2026. No macro, syntax, notation, axiom, sorry.
-/
import Derived.Test.YtofibnmbgfggkaaGreatDoorChecked
import GoSem.Claim
import GoSem.ClaimJoined
import GoSem.ClaimMapViews
import Derived.JoinedTies
import Derived.KernelRfl
namespace Go.Proofs.YtofibnmbgfggkaaGreatDoor
/- THE CELL 'sum', in the pinned program and in every row, IS THE sha256 OF THE DUMP (.gsa) THAT YtofibnmbgfggkaaGreatDoorProg.lean LOADS. Nothing in Lean hashes anything: it is a label: what it is worth is what the hold of that sum in a sandbox is worth. -/
noncomputable def Tryz.pinned : Pinned := { name := "ytofibnmbgfggkaagreatdoor", sum := "c7237998dbe1e8f5aa9f7f7b5c8d8f47917e5998c87075a02bbb3b30ef7fe84e", checked := Tryz.checked }
namespace Rows
def none {H : Type} : Left H := { results := [], args := [] }

/- WHAT THE LISTED PACKAGE-LEVEL VARIABLES READ AS WHEN THE CALL BEGINS. Each datum BY PROGRAM (the guide's laid-datum.mjs) off the statement by which the dump's own 'gosem.cut.vars' lays the variable. In a bare row this is a premise. The card (YtofibnmbgfggkaaGreatDoorCards.lean) ties it to the program's text. -/
def laid_loop_example_g00076_impl_opExtras {H : Type} : DataW H := .agg [.lit (.int .i64 0), .lit (.int .i64 0), .lit (.int .i64 0), .lit (.int .i64 0), .lit (.int .i64 0), .lit (.int .i64 0), .lit (.int .i64 0), .lit (.int .i64 0), .lit (.int .i64 0), .lit (.int .i64 1), .lit (.int .i64 1), .lit (.int .i64 0), .lit (.int .i64 0), .lit (.int .i64 0), .lit (.int .i64 0), .lit (.int .i64 2), .lit (.int .i64 2), .lit (.int .i64 2), .lit (.int .i64 2), .lit (.int .i64 0), .lit (.int .i64 0), .lit (.int .i64 0), .lit (.int .i64 0), .lit (.int .i64 0), .lit (.int .i64 0), .lit (.int .i64 3), .lit (.int .i64 3), .lit (.int .i64 3), .lit (.int .i64 3), .lit (.int .i64 3), .lit (.int .i64 3), .lit (.int .i64 3), .lit (.int .i64 3)]

/-- 'laws.FnExactSound': WHATEVER THE INPUT: true; the input reads as it did. -/
def fnExactSoundSpec : ChangeSpec := { name := "fnExactSound", vars := ["loop.example/g00076/impl.opExtras"], fn := fun _ => fun
  | [d, g1] => { results := [.lit (.bool true)], args := [d], vars := [g1] }
  | _ => none }
def fnExactSoundRow : OpenClaim := { program := "ytofibnmbgfggkaagreatdoor", sum := "c7237998dbe1e8f5aa9f7f7b5c8d8f47917e5998c87075a02bbb3b30ef7fe84e", func := "loop.example/g00076/laws.FnExactSound", spec := "fnExactSound", unfollowed := true, recurses := true, named := ["loop.example/g00076/impl.opExtras"], apart := false, laid := [("loop.example/g00076/impl.opExtras", laid_loop_example_g00076_impl_opExtras)] }
def FnExactSoundSaid : Prop := fnExactSoundRow.holds Tryz.pinned (OpenSpec.ofChange fnExactSoundSpec)

/-- ITS FALSE NEIGHBOUR: 'it returns false'. Refute it at one input. -/
def fnExactSoundWrong : ChangeSpec := { name := "fnExactSound", vars := ["loop.example/g00076/impl.opExtras"], fn := fun _ => fun
  | [d, g1] => { results := [.lit (.bool false)], args := [d], vars := [g1] }
  | _ => none }
def FnExactSoundWrongFalsely : Prop := fnExactSoundRow.holds Tryz.pinned (OpenSpec.ofChange fnExactSoundWrong)

/-- 'laws.FnExactGapOf': WHATEVER THE INPUT: true; the input reads as it did. -/
def fnExactGapOfSpec : ChangeSpec := { name := "fnExactGapOf", vars := ["loop.example/g00076/impl.opExtras"], fn := fun _ => fun
  | [d, g1] => { results := [.lit (.bool true)], args := [d], vars := [g1] }
  | _ => none }
def fnExactGapOfRow : OpenClaim := { program := "ytofibnmbgfggkaagreatdoor", sum := "c7237998dbe1e8f5aa9f7f7b5c8d8f47917e5998c87075a02bbb3b30ef7fe84e", func := "loop.example/g00076/laws.FnExactGapOf", spec := "fnExactGapOf", unfollowed := true, recurses := true, named := ["loop.example/g00076/impl.opExtras"], apart := false, laid := [("loop.example/g00076/impl.opExtras", laid_loop_example_g00076_impl_opExtras)] }
def FnExactGapOfSaid : Prop := fnExactGapOfRow.holds Tryz.pinned (OpenSpec.ofChange fnExactGapOfSpec)

/-- ITS FALSE NEIGHBOUR: 'it returns false'. Refute it at one input. -/
def fnExactGapOfWrong : ChangeSpec := { name := "fnExactGapOf", vars := ["loop.example/g00076/impl.opExtras"], fn := fun _ => fun
  | [d, g1] => { results := [.lit (.bool false)], args := [d], vars := [g1] }
  | _ => none }
def FnExactGapOfWrongFalsely : Prop := fnExactGapOfRow.holds Tryz.pinned (OpenSpec.ofChange fnExactGapOfWrong)

/-- 'laws.FnExactShareOf': WHATEVER THE INPUT: true; the input reads as it did. -/
def fnExactShareOfSpec : ChangeSpec := { name := "fnExactShareOf", vars := ["loop.example/g00076/impl.opExtras"], fn := fun _ => fun
  | [d1, d2, g1] => { results := [.lit (.bool true)], args := [d1, d2], vars := [g1] }
  | _ => none }
def fnExactShareOfRow : OpenClaim := { program := "ytofibnmbgfggkaagreatdoor", sum := "c7237998dbe1e8f5aa9f7f7b5c8d8f47917e5998c87075a02bbb3b30ef7fe84e", func := "loop.example/g00076/laws.FnExactShareOf", spec := "fnExactShareOf", unfollowed := true, recurses := true, named := ["loop.example/g00076/impl.opExtras"], apart := false, laid := [("loop.example/g00076/impl.opExtras", laid_loop_example_g00076_impl_opExtras)] }
def FnExactShareOfSaid : Prop := fnExactShareOfRow.holds Tryz.pinned (OpenSpec.ofChange fnExactShareOfSpec)

/-- ITS FALSE NEIGHBOUR: 'it returns false'. Refute it at one input. -/
def fnExactShareOfWrong : ChangeSpec := { name := "fnExactShareOf", vars := ["loop.example/g00076/impl.opExtras"], fn := fun _ => fun
  | [d1, d2, g1] => { results := [.lit (.bool false)], args := [d1, d2], vars := [g1] }
  | _ => none }
def FnExactShareOfWrongFalsely : Prop := fnExactShareOfRow.holds Tryz.pinned (OpenSpec.ofChange fnExactShareOfWrong)

/-- 'laws.FnExactPartNamed': WHATEVER THE INPUT: true; the input reads as it did. -/
def fnExactPartNamedSpec : ChangeSpec := { name := "fnExactPartNamed", vars := ["loop.example/g00076/impl.opExtras"], fn := fun _ => fun
  | [d1, d2, g1] => { results := [.lit (.bool true)], args := [d1, d2], vars := [g1] }
  | _ => none }
def fnExactPartNamedRow : OpenClaim := { program := "ytofibnmbgfggkaagreatdoor", sum := "c7237998dbe1e8f5aa9f7f7b5c8d8f47917e5998c87075a02bbb3b30ef7fe84e", func := "loop.example/g00076/laws.FnExactPartNamed", spec := "fnExactPartNamed", unfollowed := true, recurses := true, named := ["loop.example/g00076/impl.opExtras"], apart := false, laid := [("loop.example/g00076/impl.opExtras", laid_loop_example_g00076_impl_opExtras)] }
def FnExactPartNamedSaid : Prop := fnExactPartNamedRow.holds Tryz.pinned (OpenSpec.ofChange fnExactPartNamedSpec)

/-- ITS FALSE NEIGHBOUR: 'it returns false'. Refute it at one input. -/
def fnExactPartNamedWrong : ChangeSpec := { name := "fnExactPartNamed", vars := ["loop.example/g00076/impl.opExtras"], fn := fun _ => fun
  | [d1, d2, g1] => { results := [.lit (.bool false)], args := [d1, d2], vars := [g1] }
  | _ => none }
def FnExactPartNamedWrongFalsely : Prop := fnExactPartNamedRow.holds Tryz.pinned (OpenSpec.ofChange fnExactPartNamedWrong)

/-- 'laws.FnExactOwnerOf': WHATEVER THE INPUT: true; the input reads as it did. -/
def fnExactOwnerOfSpec : ChangeSpec := { name := "fnExactOwnerOf", vars := ["loop.example/g00076/impl.opExtras"], fn := fun _ => fun
  | [d1, d2, g1] => { results := [.lit (.bool true)], args := [d1, d2], vars := [g1] }
  | _ => none }
def fnExactOwnerOfRow : OpenClaim := { program := "ytofibnmbgfggkaagreatdoor", sum := "c7237998dbe1e8f5aa9f7f7b5c8d8f47917e5998c87075a02bbb3b30ef7fe84e", func := "loop.example/g00076/laws.FnExactOwnerOf", spec := "fnExactOwnerOf", unfollowed := true, recurses := true, named := ["loop.example/g00076/impl.opExtras"], apart := false, laid := [("loop.example/g00076/impl.opExtras", laid_loop_example_g00076_impl_opExtras)] }
def FnExactOwnerOfSaid : Prop := fnExactOwnerOfRow.holds Tryz.pinned (OpenSpec.ofChange fnExactOwnerOfSpec)

/-- ITS FALSE NEIGHBOUR: 'it returns false'. Refute it at one input. -/
def fnExactOwnerOfWrong : ChangeSpec := { name := "fnExactOwnerOf", vars := ["loop.example/g00076/impl.opExtras"], fn := fun _ => fun
  | [d1, d2, g1] => { results := [.lit (.bool false)], args := [d1, d2], vars := [g1] }
  | _ => none }
def FnExactOwnerOfWrongFalsely : Prop := fnExactOwnerOfRow.holds Tryz.pinned (OpenSpec.ofChange fnExactOwnerOfWrong)

/- THE SECOND FORM. 'bulk': how many values and letters a reading holds, each counted each time it is reached (what is shared counts as often as it is met; a slice's spare places count too). A statement '..UptoSaid' is the law's where the arguments, and the package variables that the reading takes, are together of bulk at most 1048576: NARROWER than '..Said'. Prove '..Said' where nothing that the law and all that it calls make is longer than what came in: it says more and counts as full. Else prove '..UptoSaid'. A law counts once. -/
mutual
def uptoBulk {H : Type} : DataW H → Nat
  | .lit (.string bytes) => bytes.length + 1
  | .lit _ => 1
  | .nil => 1
  | .ptr d => uptoBulk d + 1
  | .slice elems spare => uptoBulkAll elems + uptoBulkAll spare + 1
  | .agg parts => uptoBulkAll parts + 1
  | .iface _ d => uptoBulk d + 1
  | .map entries => uptoBulkEntries entries + 1
  | .held _ => 1
def uptoBulkAll {H : Type} : List (DataW H) → Nat
  | [] => 0
  | d :: r => uptoBulk d + uptoBulkAll r
def uptoBulkEntries {H : Type} : List (Lit × DataW H) → Nat
  | [] => 0
  | x :: r => uptoBulkEntry x + uptoBulkEntries r
def uptoBulkEntry {H : Type} : Lit × DataW H → Nat
  | (.string bytes, d) => bytes.length + uptoBulk d + 1
  | (_, d) => uptoBulk d + 1
 end
def uptoSmall : (H : Type) → List (DataW H) → Bool := fun _ ds => decide (uptoBulkAll ds ≤ 1048576)
def OpenSpec.upto (s : _root_.Go.ChangeSpec) : _root_.Go.OpenSpec := { _root_.Go.OpenSpec.ofChange s with cond := some uptoSmall }

/-- 'laws.FnExactSound', WHERE WHAT IT READS IS OF BULK AT MOST 1048576: true; the input reads as it did. -/
def fnExactSoundUptoRow : OpenClaim := { program := "ytofibnmbgfggkaagreatdoor", sum := "c7237998dbe1e8f5aa9f7f7b5c8d8f47917e5998c87075a02bbb3b30ef7fe84e", func := "loop.example/g00076/laws.FnExactSound", spec := "fnExactSound", unfollowed := true, recurses := true, named := ["loop.example/g00076/impl.opExtras"], apart := false, laid := [("loop.example/g00076/impl.opExtras", laid_loop_example_g00076_impl_opExtras)], narrowed := true }
def FnExactSoundUptoSaid : Prop := fnExactSoundUptoRow.holds Tryz.pinned (OpenSpec.upto fnExactSoundSpec)

/-- 'laws.FnExactGapOf', WHERE WHAT IT READS IS OF BULK AT MOST 1048576: true; the input reads as it did. -/
def fnExactGapOfUptoRow : OpenClaim := { program := "ytofibnmbgfggkaagreatdoor", sum := "c7237998dbe1e8f5aa9f7f7b5c8d8f47917e5998c87075a02bbb3b30ef7fe84e", func := "loop.example/g00076/laws.FnExactGapOf", spec := "fnExactGapOf", unfollowed := true, recurses := true, named := ["loop.example/g00076/impl.opExtras"], apart := false, laid := [("loop.example/g00076/impl.opExtras", laid_loop_example_g00076_impl_opExtras)], narrowed := true }
def FnExactGapOfUptoSaid : Prop := fnExactGapOfUptoRow.holds Tryz.pinned (OpenSpec.upto fnExactGapOfSpec)

/-- 'laws.FnExactShareOf', WHERE WHAT IT READS IS OF BULK AT MOST 1048576: true; the input reads as it did. -/
def fnExactShareOfUptoRow : OpenClaim := { program := "ytofibnmbgfggkaagreatdoor", sum := "c7237998dbe1e8f5aa9f7f7b5c8d8f47917e5998c87075a02bbb3b30ef7fe84e", func := "loop.example/g00076/laws.FnExactShareOf", spec := "fnExactShareOf", unfollowed := true, recurses := true, named := ["loop.example/g00076/impl.opExtras"], apart := false, laid := [("loop.example/g00076/impl.opExtras", laid_loop_example_g00076_impl_opExtras)], narrowed := true }
def FnExactShareOfUptoSaid : Prop := fnExactShareOfUptoRow.holds Tryz.pinned (OpenSpec.upto fnExactShareOfSpec)

/-- 'laws.FnExactPartNamed', WHERE WHAT IT READS IS OF BULK AT MOST 1048576: true; the input reads as it did. -/
def fnExactPartNamedUptoRow : OpenClaim := { program := "ytofibnmbgfggkaagreatdoor", sum := "c7237998dbe1e8f5aa9f7f7b5c8d8f47917e5998c87075a02bbb3b30ef7fe84e", func := "loop.example/g00076/laws.FnExactPartNamed", spec := "fnExactPartNamed", unfollowed := true, recurses := true, named := ["loop.example/g00076/impl.opExtras"], apart := false, laid := [("loop.example/g00076/impl.opExtras", laid_loop_example_g00076_impl_opExtras)], narrowed := true }
def FnExactPartNamedUptoSaid : Prop := fnExactPartNamedUptoRow.holds Tryz.pinned (OpenSpec.upto fnExactPartNamedSpec)

/-- 'laws.FnExactOwnerOf', WHERE WHAT IT READS IS OF BULK AT MOST 1048576: true; the input reads as it did. -/
def fnExactOwnerOfUptoRow : OpenClaim := { program := "ytofibnmbgfggkaagreatdoor", sum := "c7237998dbe1e8f5aa9f7f7b5c8d8f47917e5998c87075a02bbb3b30ef7fe84e", func := "loop.example/g00076/laws.FnExactOwnerOf", spec := "fnExactOwnerOf", unfollowed := true, recurses := true, named := ["loop.example/g00076/impl.opExtras"], apart := false, laid := [("loop.example/g00076/impl.opExtras", laid_loop_example_g00076_impl_opExtras)], narrowed := true }
def FnExactOwnerOfUptoSaid : Prop := fnExactOwnerOfUptoRow.holds Tryz.pinned (OpenSpec.upto fnExactOwnerOfSpec)

end Rows
end Go.Proofs.YtofibnmbgfggkaaGreatDoor
