/-
  DERIVED. GIVEN WITH THE SEED: THE CARDS: each row of YtbhhfpjinejbeaaGreatDoorRows.lean that lists a variable, with what it lists TIED to the program's text (the seventh form; the later family's looks); each row that meets fmt, with fmt's text TOLD by the authors' own Lean function (tested against real Go, not proved from fmt's source: count such statements apart). THE CARD IS WHAT COUNTS. Prove the row's statement (the work); the ties are given (YtbhhfpjinejbeaaGreatDoorTie.lean); close each card by the builder's one call (the guide's Derived/Test/ToyasCard.lean, 'card_holds'). Laid BY PROGRAM, IN A SANDBOX (cutbox-door.mjs). By AI agents, Wed Nov 11 2026. No macro, syntax, notation, axiom, sorry.
-/
import Derived.Test.YtbhhfpjinejbeaaGreatDoorRows
import GoSem.ClaimSeven
namespace Go.Proofs.YtbhhfpjinejbeaaGreatDoor
namespace Rows

/-- THE TIED CARD OF 'laws.FnExactJoined'. -/
def fnExactJoinedCard : Claim7 := { stood := { row := fnExactJoinedRow, standIns := [], harness := (true, "81fde9706b7552e414f370c2c25c9f36139e8ea00246cc7514fc0d20faa56f80"), looks := false }, kinds := [], alts := [], laidByText := true, laidKinds := [.data], laidTests := true, laidLooks := .later }
def FnExactJoinedCardSaid : Prop := Claim7.holds Tryz.pinned (.plain (OpenSpec.ofChange fnExactJoinedSpec)) fnExactJoinedCard

/-- THE TIED CARD OF 'laws.FnExactInfluence'. -/
def fnExactInfluenceCard : Claim7 := { stood := { row := fnExactInfluenceRow, standIns := [], harness := (true, "81fde9706b7552e414f370c2c25c9f36139e8ea00246cc7514fc0d20faa56f80"), looks := false }, kinds := [], alts := [], laidByText := true, laidKinds := [.data], laidTests := true, laidLooks := .later }
def FnExactInfluenceCardSaid : Prop := Claim7.holds Tryz.pinned (.plain (OpenSpec.ofChange fnExactInfluenceSpec)) fnExactInfluenceCard

/-- THE TIED CARD OF 'laws.FnExactCmdsFor'. -/
def fnExactCmdsForCard : Claim7 := { stood := { row := fnExactCmdsForRow, standIns := [], harness := (true, "81fde9706b7552e414f370c2c25c9f36139e8ea00246cc7514fc0d20faa56f80"), looks := false }, kinds := [], alts := [], laidByText := true, laidKinds := [.data], laidTests := true, laidLooks := .later }
def FnExactCmdsForCardSaid : Prop := Claim7.holds Tryz.pinned (.plain (OpenSpec.ofChange fnExactCmdsForSpec)) fnExactCmdsForCard

/-- THE SECOND FORM's CARD OF 'laws.FnExactJoined'. -/
def fnExactJoinedUptoCard : Claim7 := { stood := { row := fnExactJoinedUptoRow, standIns := [], harness := (true, "81fde9706b7552e414f370c2c25c9f36139e8ea00246cc7514fc0d20faa56f80"), looks := false }, kinds := [], alts := [], laidByText := true, laidKinds := [.data], laidTests := true, laidLooks := .later }
def FnExactJoinedUptoCardSaid : Prop := Claim7.holds Tryz.pinned (.plain (OpenSpec.upto fnExactJoinedSpec)) fnExactJoinedUptoCard

/-- THE SECOND FORM's CARD OF 'laws.FnExactInfluence'. -/
def fnExactInfluenceUptoCard : Claim7 := { stood := { row := fnExactInfluenceUptoRow, standIns := [], harness := (true, "81fde9706b7552e414f370c2c25c9f36139e8ea00246cc7514fc0d20faa56f80"), looks := false }, kinds := [], alts := [], laidByText := true, laidKinds := [.data], laidTests := true, laidLooks := .later }
def FnExactInfluenceUptoCardSaid : Prop := Claim7.holds Tryz.pinned (.plain (OpenSpec.upto fnExactInfluenceSpec)) fnExactInfluenceUptoCard

/-- THE SECOND FORM's CARD OF 'laws.FnExactCmdsFor'. -/
def fnExactCmdsForUptoCard : Claim7 := { stood := { row := fnExactCmdsForUptoRow, standIns := [], harness := (true, "81fde9706b7552e414f370c2c25c9f36139e8ea00246cc7514fc0d20faa56f80"), looks := false }, kinds := [], alts := [], laidByText := true, laidKinds := [.data], laidTests := true, laidLooks := .later }
def FnExactCmdsForUptoCardSaid : Prop := Claim7.holds Tryz.pinned (.plain (OpenSpec.upto fnExactCmdsForSpec)) fnExactCmdsForUptoCard
end Rows
end Go.Proofs.YtbhhfpjinejbeaaGreatDoor
