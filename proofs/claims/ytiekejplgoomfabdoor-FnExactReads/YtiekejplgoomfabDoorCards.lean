/-
  DERIVED. GIVEN WITH THE SEED: THE CARDS: each row of YtiekejplgoomfabDoorRows.lean that lists a variable, with what it lists TIED to the program's text (the seventh form; the later family's looks); each row that meets fmt, with fmt's text TOLD by the authors' own Lean function (tested against real Go, not proved from fmt's source: count such statements apart). THE CARD IS WHAT COUNTS. Prove the row's statement (the work); the ties are given (YtiekejplgoomfabDoorTie.lean); close each card by the builder's one call (the guide's Derived/Test/ToyasCard.lean, 'card_holds'). Laid BY PROGRAM, IN A SANDBOX (cutbox-door.mjs). By AI agents, Wed Nov 11 2026. No macro, syntax, notation, axiom, sorry.
-/
import Derived.Test.YtiekejplgoomfabDoorRows
import GoSem.ClaimSeven
namespace Go.Proofs.YtiekejplgoomfabDoor
namespace Rows

/-- THE TIED CARD OF 'laws.FnExactWrites'. -/
def fnExactWritesCard : Claim7 := { stood := { row := fnExactWritesRow, standIns := [], harness := (true, "aa8e065479d0b2aa15f549d4da637c5d8d806949d9cc4874e67ad1121952dcb8"), looks := false }, kinds := [], alts := [], laidByText := true, laidKinds := [.data, .data], laidTests := true, laidLooks := .later }
def FnExactWritesCardSaid : Prop := Claim7.holds Tryd.pinned (.plain (OpenSpec.ofChange fnExactWritesSpec)) fnExactWritesCard

/-- THE TIED CARD OF 'laws.FnExactReads'. -/
def fnExactReadsCard : Claim7 := { stood := { row := fnExactReadsRow, standIns := [], harness := (true, "aa8e065479d0b2aa15f549d4da637c5d8d806949d9cc4874e67ad1121952dcb8"), looks := false }, kinds := [], alts := [], laidByText := true, laidKinds := [.data, .data], laidTests := true, laidLooks := .later }
def FnExactReadsCardSaid : Prop := Claim7.holds Tryd.pinned (.plain (OpenSpec.ofChange fnExactReadsSpec)) fnExactReadsCard

/-- THE SECOND FORM's CARD OF 'laws.FnExactWrites'. -/
def fnExactWritesUptoCard : Claim7 := { stood := { row := fnExactWritesUptoRow, standIns := [], harness := (true, "aa8e065479d0b2aa15f549d4da637c5d8d806949d9cc4874e67ad1121952dcb8"), looks := false }, kinds := [], alts := [], laidByText := true, laidKinds := [.data, .data], laidTests := true, laidLooks := .later }
def FnExactWritesUptoCardSaid : Prop := Claim7.holds Tryd.pinned (.plain (OpenSpec.upto fnExactWritesSpec)) fnExactWritesUptoCard

/-- THE SECOND FORM's CARD OF 'laws.FnExactReads'. -/
def fnExactReadsUptoCard : Claim7 := { stood := { row := fnExactReadsUptoRow, standIns := [], harness := (true, "aa8e065479d0b2aa15f549d4da637c5d8d806949d9cc4874e67ad1121952dcb8"), looks := false }, kinds := [], alts := [], laidByText := true, laidKinds := [.data, .data], laidTests := true, laidLooks := .later }
def FnExactReadsUptoCardSaid : Prop := Claim7.holds Tryd.pinned (.plain (OpenSpec.upto fnExactReadsSpec)) fnExactReadsUptoCard
end Rows
end Go.Proofs.YtiekejplgoomfabDoor
