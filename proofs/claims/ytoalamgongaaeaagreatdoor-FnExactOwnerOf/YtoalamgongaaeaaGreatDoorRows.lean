/-
  NARROWER THAN 'FOR EVERY INPUT', by the rows' own cells (each row's printed sentence says how): FnExactCarries: laid · FnExactSpare: laid · FnExactFrameOf: laid · FnExactSlotAt: laid · FnExactPhaseAt: laid · FnExactMayBegin: laid · FnExactHolderAt: laid · FnExactNextSwitch: laid · FnExactCyclesOf: laid · FnExactSlotStarts: laid · FnExactSound: laid · FnExactGapOf: laid · FnExactShareOf: laid · FnExactPartNamed: laid · FnExactOwnerOf: laid.
  DERIVED. THE GIVEN ROWS OF THIS SEAT. 15 by the template 'for every input the law returns true; each argument reads behind the call as it read before'; 0 by the template 'total and deterministic' (their statements: YtoalamgongaaeaaGreatDoorTotals.lean).
  GIVEN WITH THE SEED: the statements are not yours to turn. If you find one false, say at which input.
  Laid BY PROGRAM, IN A SANDBOX (cutbox-rows.mjs): the forced cells as the released guide's own fill.sh prints them over the translation 73e921369b1ed356… (all of the seat's roots in one cut). By AI agents, Wed Nov 11 2026. No macro, syntax, notation, axiom, sorry.
-/
import Derived.Test.YtoalamgongaaeaaGreatDoorChecked
import GoSem.Claim
import GoSem.ClaimJoined
import GoSem.ClaimMapViews
import Derived.JoinedTies
import Derived.KernelRfl
namespace Go.Proofs.YtoalamgongaaeaaGreatDoor
/- THE CELL 'sum', in the pinned program and in every row, IS THE sha256 OF THE DUMP (.gsa) THAT YtoalamgongaaeaaGreatDoorProg.lean LOADS. Nothing in Lean hashes anything: it is a label: what it is worth is what the hold of that sum in a sandbox is worth. -/
noncomputable def Tryz.pinned : Pinned := { name := "ytoalamgongaaeaagreatdoor", sum := "73e921369b1ed356bdfff3d1771ca9fa3109620a01c3d7bb35a3accbbe9e8978", checked := Tryz.checked }
namespace Rows
def none {H : Type} : Left H := { results := [], args := [] }

/- WHAT THE LISTED PACKAGE-LEVEL VARIABLES READ AS WHEN THE CALL BEGINS. Each datum BY PROGRAM (the guide's laid-datum.mjs) off the statement by which the dump's own 'gosem.cut.vars' lays the variable. In a bare row this is a premise. The card (YtoalamgongaaeaaGreatDoorCards.lean) ties it to the program's text. -/
def laid_loop_example_g00076_impl_opExtras {H : Type} : DataW H := .agg [.lit (.int .i64 0), .lit (.int .i64 0), .lit (.int .i64 0), .lit (.int .i64 0), .lit (.int .i64 0), .lit (.int .i64 0), .lit (.int .i64 0), .lit (.int .i64 0), .lit (.int .i64 0), .lit (.int .i64 1), .lit (.int .i64 1), .lit (.int .i64 0), .lit (.int .i64 0), .lit (.int .i64 0), .lit (.int .i64 0), .lit (.int .i64 2), .lit (.int .i64 2), .lit (.int .i64 2), .lit (.int .i64 2), .lit (.int .i64 0), .lit (.int .i64 0), .lit (.int .i64 0), .lit (.int .i64 0), .lit (.int .i64 0), .lit (.int .i64 0), .lit (.int .i64 3), .lit (.int .i64 3), .lit (.int .i64 3), .lit (.int .i64 3), .lit (.int .i64 3), .lit (.int .i64 3), .lit (.int .i64 3), .lit (.int .i64 3)]

/-- 'laws.FnExactCarries': WHATEVER THE INPUT: true; the input reads as it did. -/
def fnExactCarriesSpec : ChangeSpec := { name := "fnExactCarries", vars := ["loop.example/g00076/impl.opExtras"], fn := fun _ => fun
  | [d, g1] => { results := [.lit (.bool true)], args := [d], vars := [g1] }
  | _ => none }
def fnExactCarriesRow : OpenClaim := { program := "ytoalamgongaaeaagreatdoor", sum := "73e921369b1ed356bdfff3d1771ca9fa3109620a01c3d7bb35a3accbbe9e8978", func := "loop.example/g00076/laws.FnExactCarries", spec := "fnExactCarries", unfollowed := true, recurses := true, named := ["loop.example/g00076/impl.opExtras"], apart := false, laid := [("loop.example/g00076/impl.opExtras", laid_loop_example_g00076_impl_opExtras)] }
def FnExactCarriesSaid : Prop := fnExactCarriesRow.holds Tryz.pinned (OpenSpec.ofChange fnExactCarriesSpec)

/-- ITS FALSE NEIGHBOUR: 'it returns false'. Refute it at one input. -/
def fnExactCarriesWrong : ChangeSpec := { name := "fnExactCarries", vars := ["loop.example/g00076/impl.opExtras"], fn := fun _ => fun
  | [d, g1] => { results := [.lit (.bool false)], args := [d], vars := [g1] }
  | _ => none }
def FnExactCarriesWrongFalsely : Prop := fnExactCarriesRow.holds Tryz.pinned (OpenSpec.ofChange fnExactCarriesWrong)

/-- 'laws.FnExactSpare': WHATEVER THE INPUT: true; the input reads as it did. -/
def fnExactSpareSpec : ChangeSpec := { name := "fnExactSpare", vars := ["loop.example/g00076/impl.opExtras"], fn := fun _ => fun
  | [d, g1] => { results := [.lit (.bool true)], args := [d], vars := [g1] }
  | _ => none }
def fnExactSpareRow : OpenClaim := { program := "ytoalamgongaaeaagreatdoor", sum := "73e921369b1ed356bdfff3d1771ca9fa3109620a01c3d7bb35a3accbbe9e8978", func := "loop.example/g00076/laws.FnExactSpare", spec := "fnExactSpare", unfollowed := true, recurses := true, named := ["loop.example/g00076/impl.opExtras"], apart := false, laid := [("loop.example/g00076/impl.opExtras", laid_loop_example_g00076_impl_opExtras)] }
def FnExactSpareSaid : Prop := fnExactSpareRow.holds Tryz.pinned (OpenSpec.ofChange fnExactSpareSpec)

/-- ITS FALSE NEIGHBOUR: 'it returns false'. Refute it at one input. -/
def fnExactSpareWrong : ChangeSpec := { name := "fnExactSpare", vars := ["loop.example/g00076/impl.opExtras"], fn := fun _ => fun
  | [d, g1] => { results := [.lit (.bool false)], args := [d], vars := [g1] }
  | _ => none }
def FnExactSpareWrongFalsely : Prop := fnExactSpareRow.holds Tryz.pinned (OpenSpec.ofChange fnExactSpareWrong)

/-- 'laws.FnExactFrameOf': WHATEVER THE INPUT: true; the input reads as it did. -/
def fnExactFrameOfSpec : ChangeSpec := { name := "fnExactFrameOf", vars := ["loop.example/g00076/impl.opExtras"], fn := fun _ => fun
  | [d1, d2, g1] => { results := [.lit (.bool true)], args := [d1, d2], vars := [g1] }
  | _ => none }
def fnExactFrameOfRow : OpenClaim := { program := "ytoalamgongaaeaagreatdoor", sum := "73e921369b1ed356bdfff3d1771ca9fa3109620a01c3d7bb35a3accbbe9e8978", func := "loop.example/g00076/laws.FnExactFrameOf", spec := "fnExactFrameOf", unfollowed := true, recurses := true, named := ["loop.example/g00076/impl.opExtras"], apart := false, laid := [("loop.example/g00076/impl.opExtras", laid_loop_example_g00076_impl_opExtras)] }
def FnExactFrameOfSaid : Prop := fnExactFrameOfRow.holds Tryz.pinned (OpenSpec.ofChange fnExactFrameOfSpec)

/-- ITS FALSE NEIGHBOUR: 'it returns false'. Refute it at one input. -/
def fnExactFrameOfWrong : ChangeSpec := { name := "fnExactFrameOf", vars := ["loop.example/g00076/impl.opExtras"], fn := fun _ => fun
  | [d1, d2, g1] => { results := [.lit (.bool false)], args := [d1, d2], vars := [g1] }
  | _ => none }
def FnExactFrameOfWrongFalsely : Prop := fnExactFrameOfRow.holds Tryz.pinned (OpenSpec.ofChange fnExactFrameOfWrong)

/-- 'laws.FnExactSlotAt': WHATEVER THE INPUT: true; the input reads as it did. -/
def fnExactSlotAtSpec : ChangeSpec := { name := "fnExactSlotAt", vars := ["loop.example/g00076/impl.opExtras"], fn := fun _ => fun
  | [d1, d2, g1] => { results := [.lit (.bool true)], args := [d1, d2], vars := [g1] }
  | _ => none }
def fnExactSlotAtRow : OpenClaim := { program := "ytoalamgongaaeaagreatdoor", sum := "73e921369b1ed356bdfff3d1771ca9fa3109620a01c3d7bb35a3accbbe9e8978", func := "loop.example/g00076/laws.FnExactSlotAt", spec := "fnExactSlotAt", unfollowed := true, recurses := true, named := ["loop.example/g00076/impl.opExtras"], apart := false, laid := [("loop.example/g00076/impl.opExtras", laid_loop_example_g00076_impl_opExtras)] }
def FnExactSlotAtSaid : Prop := fnExactSlotAtRow.holds Tryz.pinned (OpenSpec.ofChange fnExactSlotAtSpec)

/-- ITS FALSE NEIGHBOUR: 'it returns false'. Refute it at one input. -/
def fnExactSlotAtWrong : ChangeSpec := { name := "fnExactSlotAt", vars := ["loop.example/g00076/impl.opExtras"], fn := fun _ => fun
  | [d1, d2, g1] => { results := [.lit (.bool false)], args := [d1, d2], vars := [g1] }
  | _ => none }
def FnExactSlotAtWrongFalsely : Prop := fnExactSlotAtRow.holds Tryz.pinned (OpenSpec.ofChange fnExactSlotAtWrong)

/-- 'laws.FnExactPhaseAt': WHATEVER THE INPUT: true; the input reads as it did. -/
def fnExactPhaseAtSpec : ChangeSpec := { name := "fnExactPhaseAt", vars := ["loop.example/g00076/impl.opExtras"], fn := fun _ => fun
  | [d1, d2, g1] => { results := [.lit (.bool true)], args := [d1, d2], vars := [g1] }
  | _ => none }
def fnExactPhaseAtRow : OpenClaim := { program := "ytoalamgongaaeaagreatdoor", sum := "73e921369b1ed356bdfff3d1771ca9fa3109620a01c3d7bb35a3accbbe9e8978", func := "loop.example/g00076/laws.FnExactPhaseAt", spec := "fnExactPhaseAt", unfollowed := true, recurses := true, named := ["loop.example/g00076/impl.opExtras"], apart := false, laid := [("loop.example/g00076/impl.opExtras", laid_loop_example_g00076_impl_opExtras)] }
def FnExactPhaseAtSaid : Prop := fnExactPhaseAtRow.holds Tryz.pinned (OpenSpec.ofChange fnExactPhaseAtSpec)

/-- ITS FALSE NEIGHBOUR: 'it returns false'. Refute it at one input. -/
def fnExactPhaseAtWrong : ChangeSpec := { name := "fnExactPhaseAt", vars := ["loop.example/g00076/impl.opExtras"], fn := fun _ => fun
  | [d1, d2, g1] => { results := [.lit (.bool false)], args := [d1, d2], vars := [g1] }
  | _ => none }
def FnExactPhaseAtWrongFalsely : Prop := fnExactPhaseAtRow.holds Tryz.pinned (OpenSpec.ofChange fnExactPhaseAtWrong)

/-- 'laws.FnExactMayBegin': WHATEVER THE INPUT: true; the input reads as it did. -/
def fnExactMayBeginSpec : ChangeSpec := { name := "fnExactMayBegin", vars := ["loop.example/g00076/impl.opExtras"], fn := fun _ => fun
  | [d1, d2, g1] => { results := [.lit (.bool true)], args := [d1, d2], vars := [g1] }
  | _ => none }
def fnExactMayBeginRow : OpenClaim := { program := "ytoalamgongaaeaagreatdoor", sum := "73e921369b1ed356bdfff3d1771ca9fa3109620a01c3d7bb35a3accbbe9e8978", func := "loop.example/g00076/laws.FnExactMayBegin", spec := "fnExactMayBegin", unfollowed := true, recurses := true, named := ["loop.example/g00076/impl.opExtras"], apart := false, laid := [("loop.example/g00076/impl.opExtras", laid_loop_example_g00076_impl_opExtras)] }
def FnExactMayBeginSaid : Prop := fnExactMayBeginRow.holds Tryz.pinned (OpenSpec.ofChange fnExactMayBeginSpec)

/-- ITS FALSE NEIGHBOUR: 'it returns false'. Refute it at one input. -/
def fnExactMayBeginWrong : ChangeSpec := { name := "fnExactMayBegin", vars := ["loop.example/g00076/impl.opExtras"], fn := fun _ => fun
  | [d1, d2, g1] => { results := [.lit (.bool false)], args := [d1, d2], vars := [g1] }
  | _ => none }
def FnExactMayBeginWrongFalsely : Prop := fnExactMayBeginRow.holds Tryz.pinned (OpenSpec.ofChange fnExactMayBeginWrong)

/-- 'laws.FnExactHolderAt': WHATEVER THE INPUT: true; the input reads as it did. -/
def fnExactHolderAtSpec : ChangeSpec := { name := "fnExactHolderAt", vars := ["loop.example/g00076/impl.opExtras"], fn := fun _ => fun
  | [d1, d2, g1] => { results := [.lit (.bool true)], args := [d1, d2], vars := [g1] }
  | _ => none }
def fnExactHolderAtRow : OpenClaim := { program := "ytoalamgongaaeaagreatdoor", sum := "73e921369b1ed356bdfff3d1771ca9fa3109620a01c3d7bb35a3accbbe9e8978", func := "loop.example/g00076/laws.FnExactHolderAt", spec := "fnExactHolderAt", unfollowed := true, recurses := true, named := ["loop.example/g00076/impl.opExtras"], apart := false, laid := [("loop.example/g00076/impl.opExtras", laid_loop_example_g00076_impl_opExtras)] }
def FnExactHolderAtSaid : Prop := fnExactHolderAtRow.holds Tryz.pinned (OpenSpec.ofChange fnExactHolderAtSpec)

/-- ITS FALSE NEIGHBOUR: 'it returns false'. Refute it at one input. -/
def fnExactHolderAtWrong : ChangeSpec := { name := "fnExactHolderAt", vars := ["loop.example/g00076/impl.opExtras"], fn := fun _ => fun
  | [d1, d2, g1] => { results := [.lit (.bool false)], args := [d1, d2], vars := [g1] }
  | _ => none }
def FnExactHolderAtWrongFalsely : Prop := fnExactHolderAtRow.holds Tryz.pinned (OpenSpec.ofChange fnExactHolderAtWrong)

/-- 'laws.FnExactNextSwitch': WHATEVER THE INPUT: true; the input reads as it did. -/
def fnExactNextSwitchSpec : ChangeSpec := { name := "fnExactNextSwitch", vars := ["loop.example/g00076/impl.opExtras"], fn := fun _ => fun
  | [d1, d2, g1] => { results := [.lit (.bool true)], args := [d1, d2], vars := [g1] }
  | _ => none }
def fnExactNextSwitchRow : OpenClaim := { program := "ytoalamgongaaeaagreatdoor", sum := "73e921369b1ed356bdfff3d1771ca9fa3109620a01c3d7bb35a3accbbe9e8978", func := "loop.example/g00076/laws.FnExactNextSwitch", spec := "fnExactNextSwitch", unfollowed := true, recurses := true, named := ["loop.example/g00076/impl.opExtras"], apart := false, laid := [("loop.example/g00076/impl.opExtras", laid_loop_example_g00076_impl_opExtras)] }
def FnExactNextSwitchSaid : Prop := fnExactNextSwitchRow.holds Tryz.pinned (OpenSpec.ofChange fnExactNextSwitchSpec)

/-- ITS FALSE NEIGHBOUR: 'it returns false'. Refute it at one input. -/
def fnExactNextSwitchWrong : ChangeSpec := { name := "fnExactNextSwitch", vars := ["loop.example/g00076/impl.opExtras"], fn := fun _ => fun
  | [d1, d2, g1] => { results := [.lit (.bool false)], args := [d1, d2], vars := [g1] }
  | _ => none }
def FnExactNextSwitchWrongFalsely : Prop := fnExactNextSwitchRow.holds Tryz.pinned (OpenSpec.ofChange fnExactNextSwitchWrong)

/-- 'laws.FnExactCyclesOf': WHATEVER THE INPUT: true; the input reads as it did. -/
def fnExactCyclesOfSpec : ChangeSpec := { name := "fnExactCyclesOf", vars := ["loop.example/g00076/impl.opExtras"], fn := fun _ => fun
  | [d1, d2, d3, d4, g1] => { results := [.lit (.bool true)], args := [d1, d2, d3, d4], vars := [g1] }
  | _ => none }
def fnExactCyclesOfRow : OpenClaim := { program := "ytoalamgongaaeaagreatdoor", sum := "73e921369b1ed356bdfff3d1771ca9fa3109620a01c3d7bb35a3accbbe9e8978", func := "loop.example/g00076/laws.FnExactCyclesOf", spec := "fnExactCyclesOf", unfollowed := true, recurses := true, named := ["loop.example/g00076/impl.opExtras"], apart := false, laid := [("loop.example/g00076/impl.opExtras", laid_loop_example_g00076_impl_opExtras)] }
def FnExactCyclesOfSaid : Prop := fnExactCyclesOfRow.holds Tryz.pinned (OpenSpec.ofChange fnExactCyclesOfSpec)

/-- ITS FALSE NEIGHBOUR: 'it returns false'. Refute it at one input. -/
def fnExactCyclesOfWrong : ChangeSpec := { name := "fnExactCyclesOf", vars := ["loop.example/g00076/impl.opExtras"], fn := fun _ => fun
  | [d1, d2, d3, d4, g1] => { results := [.lit (.bool false)], args := [d1, d2, d3, d4], vars := [g1] }
  | _ => none }
def FnExactCyclesOfWrongFalsely : Prop := fnExactCyclesOfRow.holds Tryz.pinned (OpenSpec.ofChange fnExactCyclesOfWrong)

/-- 'laws.FnExactSlotStarts': WHATEVER THE INPUT: true; the input reads as it did. -/
def fnExactSlotStartsSpec : ChangeSpec := { name := "fnExactSlotStarts", vars := ["loop.example/g00076/impl.opExtras"], fn := fun _ => fun
  | [d1, d2, d3, d4, g1] => { results := [.lit (.bool true)], args := [d1, d2, d3, d4], vars := [g1] }
  | _ => none }
def fnExactSlotStartsRow : OpenClaim := { program := "ytoalamgongaaeaagreatdoor", sum := "73e921369b1ed356bdfff3d1771ca9fa3109620a01c3d7bb35a3accbbe9e8978", func := "loop.example/g00076/laws.FnExactSlotStarts", spec := "fnExactSlotStarts", unfollowed := true, recurses := true, named := ["loop.example/g00076/impl.opExtras"], apart := false, laid := [("loop.example/g00076/impl.opExtras", laid_loop_example_g00076_impl_opExtras)] }
def FnExactSlotStartsSaid : Prop := fnExactSlotStartsRow.holds Tryz.pinned (OpenSpec.ofChange fnExactSlotStartsSpec)

/-- ITS FALSE NEIGHBOUR: 'it returns false'. Refute it at one input. -/
def fnExactSlotStartsWrong : ChangeSpec := { name := "fnExactSlotStarts", vars := ["loop.example/g00076/impl.opExtras"], fn := fun _ => fun
  | [d1, d2, d3, d4, g1] => { results := [.lit (.bool false)], args := [d1, d2, d3, d4], vars := [g1] }
  | _ => none }
def FnExactSlotStartsWrongFalsely : Prop := fnExactSlotStartsRow.holds Tryz.pinned (OpenSpec.ofChange fnExactSlotStartsWrong)

/-- 'laws.FnExactSound': WHATEVER THE INPUT: true; the input reads as it did. -/
def fnExactSoundSpec : ChangeSpec := { name := "fnExactSound", vars := ["loop.example/g00076/impl.opExtras"], fn := fun _ => fun
  | [d, g1] => { results := [.lit (.bool true)], args := [d], vars := [g1] }
  | _ => none }
def fnExactSoundRow : OpenClaim := { program := "ytoalamgongaaeaagreatdoor", sum := "73e921369b1ed356bdfff3d1771ca9fa3109620a01c3d7bb35a3accbbe9e8978", func := "loop.example/g00076/laws.FnExactSound", spec := "fnExactSound", unfollowed := true, recurses := true, named := ["loop.example/g00076/impl.opExtras"], apart := false, laid := [("loop.example/g00076/impl.opExtras", laid_loop_example_g00076_impl_opExtras)] }
def FnExactSoundSaid : Prop := fnExactSoundRow.holds Tryz.pinned (OpenSpec.ofChange fnExactSoundSpec)

/-- ITS FALSE NEIGHBOUR: 'it returns false'. Refute it at one input. -/
def fnExactSoundWrong : ChangeSpec := { name := "fnExactSound", vars := ["loop.example/g00076/impl.opExtras"], fn := fun _ => fun
  | [d, g1] => { results := [.lit (.bool false)], args := [d], vars := [g1] }
  | _ => none }
def FnExactSoundWrongFalsely : Prop := fnExactSoundRow.holds Tryz.pinned (OpenSpec.ofChange fnExactSoundWrong)

/-- 'laws.FnExactGapOf': WHATEVER THE INPUT: true; the input reads as it did. -/
def fnExactGapOfSpec : ChangeSpec := { name := "fnExactGapOf", vars := ["loop.example/g00076/impl.opExtras"], fn := fun _ => fun
  | [d, g1] => { results := [.lit (.bool true)], args := [d], vars := [g1] }
  | _ => none }
def fnExactGapOfRow : OpenClaim := { program := "ytoalamgongaaeaagreatdoor", sum := "73e921369b1ed356bdfff3d1771ca9fa3109620a01c3d7bb35a3accbbe9e8978", func := "loop.example/g00076/laws.FnExactGapOf", spec := "fnExactGapOf", unfollowed := true, recurses := true, named := ["loop.example/g00076/impl.opExtras"], apart := false, laid := [("loop.example/g00076/impl.opExtras", laid_loop_example_g00076_impl_opExtras)] }
def FnExactGapOfSaid : Prop := fnExactGapOfRow.holds Tryz.pinned (OpenSpec.ofChange fnExactGapOfSpec)

/-- ITS FALSE NEIGHBOUR: 'it returns false'. Refute it at one input. -/
def fnExactGapOfWrong : ChangeSpec := { name := "fnExactGapOf", vars := ["loop.example/g00076/impl.opExtras"], fn := fun _ => fun
  | [d, g1] => { results := [.lit (.bool false)], args := [d], vars := [g1] }
  | _ => none }
def FnExactGapOfWrongFalsely : Prop := fnExactGapOfRow.holds Tryz.pinned (OpenSpec.ofChange fnExactGapOfWrong)

/-- 'laws.FnExactShareOf': WHATEVER THE INPUT: true; the input reads as it did. -/
def fnExactShareOfSpec : ChangeSpec := { name := "fnExactShareOf", vars := ["loop.example/g00076/impl.opExtras"], fn := fun _ => fun
  | [d1, d2, g1] => { results := [.lit (.bool true)], args := [d1, d2], vars := [g1] }
  | _ => none }
def fnExactShareOfRow : OpenClaim := { program := "ytoalamgongaaeaagreatdoor", sum := "73e921369b1ed356bdfff3d1771ca9fa3109620a01c3d7bb35a3accbbe9e8978", func := "loop.example/g00076/laws.FnExactShareOf", spec := "fnExactShareOf", unfollowed := true, recurses := true, named := ["loop.example/g00076/impl.opExtras"], apart := false, laid := [("loop.example/g00076/impl.opExtras", laid_loop_example_g00076_impl_opExtras)] }
def FnExactShareOfSaid : Prop := fnExactShareOfRow.holds Tryz.pinned (OpenSpec.ofChange fnExactShareOfSpec)

/-- ITS FALSE NEIGHBOUR: 'it returns false'. Refute it at one input. -/
def fnExactShareOfWrong : ChangeSpec := { name := "fnExactShareOf", vars := ["loop.example/g00076/impl.opExtras"], fn := fun _ => fun
  | [d1, d2, g1] => { results := [.lit (.bool false)], args := [d1, d2], vars := [g1] }
  | _ => none }
def FnExactShareOfWrongFalsely : Prop := fnExactShareOfRow.holds Tryz.pinned (OpenSpec.ofChange fnExactShareOfWrong)

/-- 'laws.FnExactPartNamed': WHATEVER THE INPUT: true; the input reads as it did. -/
def fnExactPartNamedSpec : ChangeSpec := { name := "fnExactPartNamed", vars := ["loop.example/g00076/impl.opExtras"], fn := fun _ => fun
  | [d1, d2, g1] => { results := [.lit (.bool true)], args := [d1, d2], vars := [g1] }
  | _ => none }
def fnExactPartNamedRow : OpenClaim := { program := "ytoalamgongaaeaagreatdoor", sum := "73e921369b1ed356bdfff3d1771ca9fa3109620a01c3d7bb35a3accbbe9e8978", func := "loop.example/g00076/laws.FnExactPartNamed", spec := "fnExactPartNamed", unfollowed := true, recurses := true, named := ["loop.example/g00076/impl.opExtras"], apart := false, laid := [("loop.example/g00076/impl.opExtras", laid_loop_example_g00076_impl_opExtras)] }
def FnExactPartNamedSaid : Prop := fnExactPartNamedRow.holds Tryz.pinned (OpenSpec.ofChange fnExactPartNamedSpec)

/-- ITS FALSE NEIGHBOUR: 'it returns false'. Refute it at one input. -/
def fnExactPartNamedWrong : ChangeSpec := { name := "fnExactPartNamed", vars := ["loop.example/g00076/impl.opExtras"], fn := fun _ => fun
  | [d1, d2, g1] => { results := [.lit (.bool false)], args := [d1, d2], vars := [g1] }
  | _ => none }
def FnExactPartNamedWrongFalsely : Prop := fnExactPartNamedRow.holds Tryz.pinned (OpenSpec.ofChange fnExactPartNamedWrong)

/-- 'laws.FnExactOwnerOf': WHATEVER THE INPUT: true; the input reads as it did. -/
def fnExactOwnerOfSpec : ChangeSpec := { name := "fnExactOwnerOf", vars := ["loop.example/g00076/impl.opExtras"], fn := fun _ => fun
  | [d1, d2, g1] => { results := [.lit (.bool true)], args := [d1, d2], vars := [g1] }
  | _ => none }
def fnExactOwnerOfRow : OpenClaim := { program := "ytoalamgongaaeaagreatdoor", sum := "73e921369b1ed356bdfff3d1771ca9fa3109620a01c3d7bb35a3accbbe9e8978", func := "loop.example/g00076/laws.FnExactOwnerOf", spec := "fnExactOwnerOf", unfollowed := true, recurses := true, named := ["loop.example/g00076/impl.opExtras"], apart := false, laid := [("loop.example/g00076/impl.opExtras", laid_loop_example_g00076_impl_opExtras)] }
def FnExactOwnerOfSaid : Prop := fnExactOwnerOfRow.holds Tryz.pinned (OpenSpec.ofChange fnExactOwnerOfSpec)

/-- ITS FALSE NEIGHBOUR: 'it returns false'. Refute it at one input. -/
def fnExactOwnerOfWrong : ChangeSpec := { name := "fnExactOwnerOf", vars := ["loop.example/g00076/impl.opExtras"], fn := fun _ => fun
  | [d1, d2, g1] => { results := [.lit (.bool false)], args := [d1, d2], vars := [g1] }
  | _ => none }
def FnExactOwnerOfWrongFalsely : Prop := fnExactOwnerOfRow.holds Tryz.pinned (OpenSpec.ofChange fnExactOwnerOfWrong)

/- THE SECOND FORM. 'bulk': how many values and letters a reading holds, each counted each time it is reached (what is shared counts as often as it is met; a slice's spare places count too). A statement '..UptoSaid' is the law's where the arguments, and the package variables that the reading takes, are together of bulk at most 1048576: NARROWER than '..Said'. Prove '..Said' where nothing that the law and all that it calls make is longer than what came in: it says more and counts as full. Else prove '..UptoSaid'. A law counts once. -/
mutual
def uptoBulk {H : Type} : DataW H → Nat
  | .lit (.string bytes) => bytes.length + 1
  | .lit _ => 1
  | .nil => 1
  | .ptr d => uptoBulk d + 1
  | .slice elems spare => uptoBulkAll elems + uptoBulkAll spare + 1
  | .agg parts => uptoBulkAll parts + 1
  | .iface _ d => uptoBulk d + 1
  | .map entries => uptoBulkEntries entries + 1
  | .held _ => 1
def uptoBulkAll {H : Type} : List (DataW H) → Nat
  | [] => 0
  | d :: r => uptoBulk d + uptoBulkAll r
def uptoBulkEntries {H : Type} : List (Lit × DataW H) → Nat
  | [] => 0
  | x :: r => uptoBulkEntry x + uptoBulkEntries r
def uptoBulkEntry {H : Type} : Lit × DataW H → Nat
  | (.string bytes, d) => bytes.length + uptoBulk d + 1
  | (_, d) => uptoBulk d + 1
 end
def uptoSmall : (H : Type) → List (DataW H) → Bool := fun _ ds => decide (uptoBulkAll ds ≤ 1048576)
def OpenSpec.upto (s : _root_.Go.ChangeSpec) : _root_.Go.OpenSpec := { _root_.Go.OpenSpec.ofChange s with cond := some uptoSmall }

/-- 'laws.FnExactCarries', WHERE WHAT IT READS IS OF BULK AT MOST 1048576: true; the input reads as it did. -/
def fnExactCarriesUptoRow : OpenClaim := { program := "ytoalamgongaaeaagreatdoor", sum := "73e921369b1ed356bdfff3d1771ca9fa3109620a01c3d7bb35a3accbbe9e8978", func := "loop.example/g00076/laws.FnExactCarries", spec := "fnExactCarries", unfollowed := true, recurses := true, named := ["loop.example/g00076/impl.opExtras"], apart := false, laid := [("loop.example/g00076/impl.opExtras", laid_loop_example_g00076_impl_opExtras)], narrowed := true }
def FnExactCarriesUptoSaid : Prop := fnExactCarriesUptoRow.holds Tryz.pinned (OpenSpec.upto fnExactCarriesSpec)

/-- 'laws.FnExactSpare', WHERE WHAT IT READS IS OF BULK AT MOST 1048576: true; the input reads as it did. -/
def fnExactSpareUptoRow : OpenClaim := { program := "ytoalamgongaaeaagreatdoor", sum := "73e921369b1ed356bdfff3d1771ca9fa3109620a01c3d7bb35a3accbbe9e8978", func := "loop.example/g00076/laws.FnExactSpare", spec := "fnExactSpare", unfollowed := true, recurses := true, named := ["loop.example/g00076/impl.opExtras"], apart := false, laid := [("loop.example/g00076/impl.opExtras", laid_loop_example_g00076_impl_opExtras)], narrowed := true }
def FnExactSpareUptoSaid : Prop := fnExactSpareUptoRow.holds Tryz.pinned (OpenSpec.upto fnExactSpareSpec)

/-- 'laws.FnExactFrameOf', WHERE WHAT IT READS IS OF BULK AT MOST 1048576: true; the input reads as it did. -/
def fnExactFrameOfUptoRow : OpenClaim := { program := "ytoalamgongaaeaagreatdoor", sum := "73e921369b1ed356bdfff3d1771ca9fa3109620a01c3d7bb35a3accbbe9e8978", func := "loop.example/g00076/laws.FnExactFrameOf", spec := "fnExactFrameOf", unfollowed := true, recurses := true, named := ["loop.example/g00076/impl.opExtras"], apart := false, laid := [("loop.example/g00076/impl.opExtras", laid_loop_example_g00076_impl_opExtras)], narrowed := true }
def FnExactFrameOfUptoSaid : Prop := fnExactFrameOfUptoRow.holds Tryz.pinned (OpenSpec.upto fnExactFrameOfSpec)

/-- 'laws.FnExactSlotAt', WHERE WHAT IT READS IS OF BULK AT MOST 1048576: true; the input reads as it did. -/
def fnExactSlotAtUptoRow : OpenClaim := { program := "ytoalamgongaaeaagreatdoor", sum := "73e921369b1ed356bdfff3d1771ca9fa3109620a01c3d7bb35a3accbbe9e8978", func := "loop.example/g00076/laws.FnExactSlotAt", spec := "fnExactSlotAt", unfollowed := true, recurses := true, named := ["loop.example/g00076/impl.opExtras"], apart := false, laid := [("loop.example/g00076/impl.opExtras", laid_loop_example_g00076_impl_opExtras)], narrowed := true }
def FnExactSlotAtUptoSaid : Prop := fnExactSlotAtUptoRow.holds Tryz.pinned (OpenSpec.upto fnExactSlotAtSpec)

/-- 'laws.FnExactPhaseAt', WHERE WHAT IT READS IS OF BULK AT MOST 1048576: true; the input reads as it did. -/
def fnExactPhaseAtUptoRow : OpenClaim := { program := "ytoalamgongaaeaagreatdoor", sum := "73e921369b1ed356bdfff3d1771ca9fa3109620a01c3d7bb35a3accbbe9e8978", func := "loop.example/g00076/laws.FnExactPhaseAt", spec := "fnExactPhaseAt", unfollowed := true, recurses := true, named := ["loop.example/g00076/impl.opExtras"], apart := false, laid := [("loop.example/g00076/impl.opExtras", laid_loop_example_g00076_impl_opExtras)], narrowed := true }
def FnExactPhaseAtUptoSaid : Prop := fnExactPhaseAtUptoRow.holds Tryz.pinned (OpenSpec.upto fnExactPhaseAtSpec)

/-- 'laws.FnExactMayBegin', WHERE WHAT IT READS IS OF BULK AT MOST 1048576: true; the input reads as it did. -/
def fnExactMayBeginUptoRow : OpenClaim := { program := "ytoalamgongaaeaagreatdoor", sum := "73e921369b1ed356bdfff3d1771ca9fa3109620a01c3d7bb35a3accbbe9e8978", func := "loop.example/g00076/laws.FnExactMayBegin", spec := "fnExactMayBegin", unfollowed := true, recurses := true, named := ["loop.example/g00076/impl.opExtras"], apart := false, laid := [("loop.example/g00076/impl.opExtras", laid_loop_example_g00076_impl_opExtras)], narrowed := true }
def FnExactMayBeginUptoSaid : Prop := fnExactMayBeginUptoRow.holds Tryz.pinned (OpenSpec.upto fnExactMayBeginSpec)

/-- 'laws.FnExactHolderAt', WHERE WHAT IT READS IS OF BULK AT MOST 1048576: true; the input reads as it did. -/
def fnExactHolderAtUptoRow : OpenClaim := { program := "ytoalamgongaaeaagreatdoor", sum := "73e921369b1ed356bdfff3d1771ca9fa3109620a01c3d7bb35a3accbbe9e8978", func := "loop.example/g00076/laws.FnExactHolderAt", spec := "fnExactHolderAt", unfollowed := true, recurses := true, named := ["loop.example/g00076/impl.opExtras"], apart := false, laid := [("loop.example/g00076/impl.opExtras", laid_loop_example_g00076_impl_opExtras)], narrowed := true }
def FnExactHolderAtUptoSaid : Prop := fnExactHolderAtUptoRow.holds Tryz.pinned (OpenSpec.upto fnExactHolderAtSpec)

/-- 'laws.FnExactNextSwitch', WHERE WHAT IT READS IS OF BULK AT MOST 1048576: true; the input reads as it did. -/
def fnExactNextSwitchUptoRow : OpenClaim := { program := "ytoalamgongaaeaagreatdoor", sum := "73e921369b1ed356bdfff3d1771ca9fa3109620a01c3d7bb35a3accbbe9e8978", func := "loop.example/g00076/laws.FnExactNextSwitch", spec := "fnExactNextSwitch", unfollowed := true, recurses := true, named := ["loop.example/g00076/impl.opExtras"], apart := false, laid := [("loop.example/g00076/impl.opExtras", laid_loop_example_g00076_impl_opExtras)], narrowed := true }
def FnExactNextSwitchUptoSaid : Prop := fnExactNextSwitchUptoRow.holds Tryz.pinned (OpenSpec.upto fnExactNextSwitchSpec)

/-- 'laws.FnExactCyclesOf', WHERE WHAT IT READS IS OF BULK AT MOST 1048576: true; the input reads as it did. -/
def fnExactCyclesOfUptoRow : OpenClaim := { program := "ytoalamgongaaeaagreatdoor", sum := "73e921369b1ed356bdfff3d1771ca9fa3109620a01c3d7bb35a3accbbe9e8978", func := "loop.example/g00076/laws.FnExactCyclesOf", spec := "fnExactCyclesOf", unfollowed := true, recurses := true, named := ["loop.example/g00076/impl.opExtras"], apart := false, laid := [("loop.example/g00076/impl.opExtras", laid_loop_example_g00076_impl_opExtras)], narrowed := true }
def FnExactCyclesOfUptoSaid : Prop := fnExactCyclesOfUptoRow.holds Tryz.pinned (OpenSpec.upto fnExactCyclesOfSpec)

/-- 'laws.FnExactSlotStarts', WHERE WHAT IT READS IS OF BULK AT MOST 1048576: true; the input reads as it did. -/
def fnExactSlotStartsUptoRow : OpenClaim := { program := "ytoalamgongaaeaagreatdoor", sum := "73e921369b1ed356bdfff3d1771ca9fa3109620a01c3d7bb35a3accbbe9e8978", func := "loop.example/g00076/laws.FnExactSlotStarts", spec := "fnExactSlotStarts", unfollowed := true, recurses := true, named := ["loop.example/g00076/impl.opExtras"], apart := false, laid := [("loop.example/g00076/impl.opExtras", laid_loop_example_g00076_impl_opExtras)], narrowed := true }
def FnExactSlotStartsUptoSaid : Prop := fnExactSlotStartsUptoRow.holds Tryz.pinned (OpenSpec.upto fnExactSlotStartsSpec)

/-- 'laws.FnExactSound', WHERE WHAT IT READS IS OF BULK AT MOST 1048576: true; the input reads as it did. -/
def fnExactSoundUptoRow : OpenClaim := { program := "ytoalamgongaaeaagreatdoor", sum := "73e921369b1ed356bdfff3d1771ca9fa3109620a01c3d7bb35a3accbbe9e8978", func := "loop.example/g00076/laws.FnExactSound", spec := "fnExactSound", unfollowed := true, recurses := true, named := ["loop.example/g00076/impl.opExtras"], apart := false, laid := [("loop.example/g00076/impl.opExtras", laid_loop_example_g00076_impl_opExtras)], narrowed := true }
def FnExactSoundUptoSaid : Prop := fnExactSoundUptoRow.holds Tryz.pinned (OpenSpec.upto fnExactSoundSpec)

/-- 'laws.FnExactGapOf', WHERE WHAT IT READS IS OF BULK AT MOST 1048576: true; the input reads as it did. -/
def fnExactGapOfUptoRow : OpenClaim := { program := "ytoalamgongaaeaagreatdoor", sum := "73e921369b1ed356bdfff3d1771ca9fa3109620a01c3d7bb35a3accbbe9e8978", func := "loop.example/g00076/laws.FnExactGapOf", spec := "fnExactGapOf", unfollowed := true, recurses := true, named := ["loop.example/g00076/impl.opExtras"], apart := false, laid := [("loop.example/g00076/impl.opExtras", laid_loop_example_g00076_impl_opExtras)], narrowed := true }
def FnExactGapOfUptoSaid : Prop := fnExactGapOfUptoRow.holds Tryz.pinned (OpenSpec.upto fnExactGapOfSpec)

/-- 'laws.FnExactShareOf', WHERE WHAT IT READS IS OF BULK AT MOST 1048576: true; the input reads as it did. -/
def fnExactShareOfUptoRow : OpenClaim := { program := "ytoalamgongaaeaagreatdoor", sum := "73e921369b1ed356bdfff3d1771ca9fa3109620a01c3d7bb35a3accbbe9e8978", func := "loop.example/g00076/laws.FnExactShareOf", spec := "fnExactShareOf", unfollowed := true, recurses := true, named := ["loop.example/g00076/impl.opExtras"], apart := false, laid := [("loop.example/g00076/impl.opExtras", laid_loop_example_g00076_impl_opExtras)], narrowed := true }
def FnExactShareOfUptoSaid : Prop := fnExactShareOfUptoRow.holds Tryz.pinned (OpenSpec.upto fnExactShareOfSpec)

/-- 'laws.FnExactPartNamed', WHERE WHAT IT READS IS OF BULK AT MOST 1048576: true; the input reads as it did. -/
def fnExactPartNamedUptoRow : OpenClaim := { program := "ytoalamgongaaeaagreatdoor", sum := "73e921369b1ed356bdfff3d1771ca9fa3109620a01c3d7bb35a3accbbe9e8978", func := "loop.example/g00076/laws.FnExactPartNamed", spec := "fnExactPartNamed", unfollowed := true, recurses := true, named := ["loop.example/g00076/impl.opExtras"], apart := false, laid := [("loop.example/g00076/impl.opExtras", laid_loop_example_g00076_impl_opExtras)], narrowed := true }
def FnExactPartNamedUptoSaid : Prop := fnExactPartNamedUptoRow.holds Tryz.pinned (OpenSpec.upto fnExactPartNamedSpec)

/-- 'laws.FnExactOwnerOf', WHERE WHAT IT READS IS OF BULK AT MOST 1048576: true; the input reads as it did. -/
def fnExactOwnerOfUptoRow : OpenClaim := { program := "ytoalamgongaaeaagreatdoor", sum := "73e921369b1ed356bdfff3d1771ca9fa3109620a01c3d7bb35a3accbbe9e8978", func := "loop.example/g00076/laws.FnExactOwnerOf", spec := "fnExactOwnerOf", unfollowed := true, recurses := true, named := ["loop.example/g00076/impl.opExtras"], apart := false, laid := [("loop.example/g00076/impl.opExtras", laid_loop_example_g00076_impl_opExtras)], narrowed := true }
def FnExactOwnerOfUptoSaid : Prop := fnExactOwnerOfUptoRow.holds Tryz.pinned (OpenSpec.upto fnExactOwnerOfSpec)

end Rows
end Go.Proofs.YtoalamgongaaeaaGreatDoor
