/-
  DERIVED. GIVEN WITH THE SEED: THE CARDS: each row of YtoalamgongaaeaaGreatDoorRows.lean that lists a variable, with what it lists TIED to the program's text (the seventh form; the later family's looks); each row that meets fmt, with fmt's text TOLD by the authors' own Lean function (tested against real Go, not proved from fmt's source: count such statements apart). THE CARD IS WHAT COUNTS. Prove the row's statement (the work); the ties are given (YtoalamgongaaeaaGreatDoorTie.lean); close each card by the builder's one call (the guide's Derived/Test/ToyasCard.lean, 'card_holds'). Laid BY PROGRAM, IN A SANDBOX (cutbox-door.mjs). By AI agents, Wed Nov 11 2026. No macro, syntax, notation, axiom, sorry.
-/
import Derived.Test.YtoalamgongaaeaaGreatDoorRows
import GoSem.ClaimSeven
namespace Go.Proofs.YtoalamgongaaeaaGreatDoor
namespace Rows

/-- THE TIED CARD OF 'laws.FnExactCarries'. -/
def fnExactCarriesCard : Claim7 := { stood := { row := fnExactCarriesRow, standIns := [], harness := (true, "ed83d2f566dda8a4f81f1bf54628ebdd34b5aa86c7d6dd0891ffb2cd3ab57819"), looks := false }, kinds := [], alts := [], laidByText := true, laidKinds := [.data], laidTests := true, laidLooks := .later }
def FnExactCarriesCardSaid : Prop := Claim7.holds Tryz.pinned (.plain (OpenSpec.ofChange fnExactCarriesSpec)) fnExactCarriesCard

/-- THE TIED CARD OF 'laws.FnExactSpare'. -/
def fnExactSpareCard : Claim7 := { stood := { row := fnExactSpareRow, standIns := [], harness := (true, "ed83d2f566dda8a4f81f1bf54628ebdd34b5aa86c7d6dd0891ffb2cd3ab57819"), looks := false }, kinds := [], alts := [], laidByText := true, laidKinds := [.data], laidTests := true, laidLooks := .later }
def FnExactSpareCardSaid : Prop := Claim7.holds Tryz.pinned (.plain (OpenSpec.ofChange fnExactSpareSpec)) fnExactSpareCard

/-- THE TIED CARD OF 'laws.FnExactFrameOf'. -/
def fnExactFrameOfCard : Claim7 := { stood := { row := fnExactFrameOfRow, standIns := [], harness := (true, "ed83d2f566dda8a4f81f1bf54628ebdd34b5aa86c7d6dd0891ffb2cd3ab57819"), looks := false }, kinds := [], alts := [], laidByText := true, laidKinds := [.data], laidTests := true, laidLooks := .later }
def FnExactFrameOfCardSaid : Prop := Claim7.holds Tryz.pinned (.plain (OpenSpec.ofChange fnExactFrameOfSpec)) fnExactFrameOfCard

/-- THE TIED CARD OF 'laws.FnExactSlotAt'. -/
def fnExactSlotAtCard : Claim7 := { stood := { row := fnExactSlotAtRow, standIns := [], harness := (true, "ed83d2f566dda8a4f81f1bf54628ebdd34b5aa86c7d6dd0891ffb2cd3ab57819"), looks := false }, kinds := [], alts := [], laidByText := true, laidKinds := [.data], laidTests := true, laidLooks := .later }
def FnExactSlotAtCardSaid : Prop := Claim7.holds Tryz.pinned (.plain (OpenSpec.ofChange fnExactSlotAtSpec)) fnExactSlotAtCard

/-- THE TIED CARD OF 'laws.FnExactPhaseAt'. -/
def fnExactPhaseAtCard : Claim7 := { stood := { row := fnExactPhaseAtRow, standIns := [], harness := (true, "ed83d2f566dda8a4f81f1bf54628ebdd34b5aa86c7d6dd0891ffb2cd3ab57819"), looks := false }, kinds := [], alts := [], laidByText := true, laidKinds := [.data], laidTests := true, laidLooks := .later }
def FnExactPhaseAtCardSaid : Prop := Claim7.holds Tryz.pinned (.plain (OpenSpec.ofChange fnExactPhaseAtSpec)) fnExactPhaseAtCard

/-- THE TIED CARD OF 'laws.FnExactMayBegin'. -/
def fnExactMayBeginCard : Claim7 := { stood := { row := fnExactMayBeginRow, standIns := [], harness := (true, "ed83d2f566dda8a4f81f1bf54628ebdd34b5aa86c7d6dd0891ffb2cd3ab57819"), looks := false }, kinds := [], alts := [], laidByText := true, laidKinds := [.data], laidTests := true, laidLooks := .later }
def FnExactMayBeginCardSaid : Prop := Claim7.holds Tryz.pinned (.plain (OpenSpec.ofChange fnExactMayBeginSpec)) fnExactMayBeginCard

/-- THE TIED CARD OF 'laws.FnExactHolderAt'. -/
def fnExactHolderAtCard : Claim7 := { stood := { row := fnExactHolderAtRow, standIns := [], harness := (true, "ed83d2f566dda8a4f81f1bf54628ebdd34b5aa86c7d6dd0891ffb2cd3ab57819"), looks := false }, kinds := [], alts := [], laidByText := true, laidKinds := [.data], laidTests := true, laidLooks := .later }
def FnExactHolderAtCardSaid : Prop := Claim7.holds Tryz.pinned (.plain (OpenSpec.ofChange fnExactHolderAtSpec)) fnExactHolderAtCard

/-- THE TIED CARD OF 'laws.FnExactNextSwitch'. -/
def fnExactNextSwitchCard : Claim7 := { stood := { row := fnExactNextSwitchRow, standIns := [], harness := (true, "ed83d2f566dda8a4f81f1bf54628ebdd34b5aa86c7d6dd0891ffb2cd3ab57819"), looks := false }, kinds := [], alts := [], laidByText := true, laidKinds := [.data], laidTests := true, laidLooks := .later }
def FnExactNextSwitchCardSaid : Prop := Claim7.holds Tryz.pinned (.plain (OpenSpec.ofChange fnExactNextSwitchSpec)) fnExactNextSwitchCard

/-- THE TIED CARD OF 'laws.FnExactCyclesOf'. -/
def fnExactCyclesOfCard : Claim7 := { stood := { row := fnExactCyclesOfRow, standIns := [], harness := (true, "ed83d2f566dda8a4f81f1bf54628ebdd34b5aa86c7d6dd0891ffb2cd3ab57819"), looks := false }, kinds := [], alts := [], laidByText := true, laidKinds := [.data], laidTests := true, laidLooks := .later }
def FnExactCyclesOfCardSaid : Prop := Claim7.holds Tryz.pinned (.plain (OpenSpec.ofChange fnExactCyclesOfSpec)) fnExactCyclesOfCard

/-- THE TIED CARD OF 'laws.FnExactSlotStarts'. -/
def fnExactSlotStartsCard : Claim7 := { stood := { row := fnExactSlotStartsRow, standIns := [], harness := (true, "ed83d2f566dda8a4f81f1bf54628ebdd34b5aa86c7d6dd0891ffb2cd3ab57819"), looks := false }, kinds := [], alts := [], laidByText := true, laidKinds := [.data], laidTests := true, laidLooks := .later }
def FnExactSlotStartsCardSaid : Prop := Claim7.holds Tryz.pinned (.plain (OpenSpec.ofChange fnExactSlotStartsSpec)) fnExactSlotStartsCard

/-- THE TIED CARD OF 'laws.FnExactSound'. -/
def fnExactSoundCard : Claim7 := { stood := { row := fnExactSoundRow, standIns := [], harness := (true, "ed83d2f566dda8a4f81f1bf54628ebdd34b5aa86c7d6dd0891ffb2cd3ab57819"), looks := false }, kinds := [], alts := [], laidByText := true, laidKinds := [.data], laidTests := true, laidLooks := .later }
def FnExactSoundCardSaid : Prop := Claim7.holds Tryz.pinned (.plain (OpenSpec.ofChange fnExactSoundSpec)) fnExactSoundCard

/-- THE TIED CARD OF 'laws.FnExactGapOf'. -/
def fnExactGapOfCard : Claim7 := { stood := { row := fnExactGapOfRow, standIns := [], harness := (true, "ed83d2f566dda8a4f81f1bf54628ebdd34b5aa86c7d6dd0891ffb2cd3ab57819"), looks := false }, kinds := [], alts := [], laidByText := true, laidKinds := [.data], laidTests := true, laidLooks := .later }
def FnExactGapOfCardSaid : Prop := Claim7.holds Tryz.pinned (.plain (OpenSpec.ofChange fnExactGapOfSpec)) fnExactGapOfCard

/-- THE TIED CARD OF 'laws.FnExactShareOf'. -/
def fnExactShareOfCard : Claim7 := { stood := { row := fnExactShareOfRow, standIns := [], harness := (true, "ed83d2f566dda8a4f81f1bf54628ebdd34b5aa86c7d6dd0891ffb2cd3ab57819"), looks := false }, kinds := [], alts := [], laidByText := true, laidKinds := [.data], laidTests := true, laidLooks := .later }
def FnExactShareOfCardSaid : Prop := Claim7.holds Tryz.pinned (.plain (OpenSpec.ofChange fnExactShareOfSpec)) fnExactShareOfCard

/-- THE TIED CARD OF 'laws.FnExactPartNamed'. -/
def fnExactPartNamedCard : Claim7 := { stood := { row := fnExactPartNamedRow, standIns := [], harness := (true, "ed83d2f566dda8a4f81f1bf54628ebdd34b5aa86c7d6dd0891ffb2cd3ab57819"), looks := false }, kinds := [], alts := [], laidByText := true, laidKinds := [.data], laidTests := true, laidLooks := .later }
def FnExactPartNamedCardSaid : Prop := Claim7.holds Tryz.pinned (.plain (OpenSpec.ofChange fnExactPartNamedSpec)) fnExactPartNamedCard

/-- THE TIED CARD OF 'laws.FnExactOwnerOf'. -/
def fnExactOwnerOfCard : Claim7 := { stood := { row := fnExactOwnerOfRow, standIns := [], harness := (true, "ed83d2f566dda8a4f81f1bf54628ebdd34b5aa86c7d6dd0891ffb2cd3ab57819"), looks := false }, kinds := [], alts := [], laidByText := true, laidKinds := [.data], laidTests := true, laidLooks := .later }
def FnExactOwnerOfCardSaid : Prop := Claim7.holds Tryz.pinned (.plain (OpenSpec.ofChange fnExactOwnerOfSpec)) fnExactOwnerOfCard

/-- THE SECOND FORM's CARD OF 'laws.FnExactCarries'. -/
def fnExactCarriesUptoCard : Claim7 := { stood := { row := fnExactCarriesUptoRow, standIns := [], harness := (true, "ed83d2f566dda8a4f81f1bf54628ebdd34b5aa86c7d6dd0891ffb2cd3ab57819"), looks := false }, kinds := [], alts := [], laidByText := true, laidKinds := [.data], laidTests := true, laidLooks := .later }
def FnExactCarriesUptoCardSaid : Prop := Claim7.holds Tryz.pinned (.plain (OpenSpec.upto fnExactCarriesSpec)) fnExactCarriesUptoCard

/-- THE SECOND FORM's CARD OF 'laws.FnExactSpare'. -/
def fnExactSpareUptoCard : Claim7 := { stood := { row := fnExactSpareUptoRow, standIns := [], harness := (true, "ed83d2f566dda8a4f81f1bf54628ebdd34b5aa86c7d6dd0891ffb2cd3ab57819"), looks := false }, kinds := [], alts := [], laidByText := true, laidKinds := [.data], laidTests := true, laidLooks := .later }
def FnExactSpareUptoCardSaid : Prop := Claim7.holds Tryz.pinned (.plain (OpenSpec.upto fnExactSpareSpec)) fnExactSpareUptoCard

/-- THE SECOND FORM's CARD OF 'laws.FnExactFrameOf'. -/
def fnExactFrameOfUptoCard : Claim7 := { stood := { row := fnExactFrameOfUptoRow, standIns := [], harness := (true, "ed83d2f566dda8a4f81f1bf54628ebdd34b5aa86c7d6dd0891ffb2cd3ab57819"), looks := false }, kinds := [], alts := [], laidByText := true, laidKinds := [.data], laidTests := true, laidLooks := .later }
def FnExactFrameOfUptoCardSaid : Prop := Claim7.holds Tryz.pinned (.plain (OpenSpec.upto fnExactFrameOfSpec)) fnExactFrameOfUptoCard

/-- THE SECOND FORM's CARD OF 'laws.FnExactSlotAt'. -/
def fnExactSlotAtUptoCard : Claim7 := { stood := { row := fnExactSlotAtUptoRow, standIns := [], harness := (true, "ed83d2f566dda8a4f81f1bf54628ebdd34b5aa86c7d6dd0891ffb2cd3ab57819"), looks := false }, kinds := [], alts := [], laidByText := true, laidKinds := [.data], laidTests := true, laidLooks := .later }
def FnExactSlotAtUptoCardSaid : Prop := Claim7.holds Tryz.pinned (.plain (OpenSpec.upto fnExactSlotAtSpec)) fnExactSlotAtUptoCard

/-- THE SECOND FORM's CARD OF 'laws.FnExactPhaseAt'. -/
def fnExactPhaseAtUptoCard : Claim7 := { stood := { row := fnExactPhaseAtUptoRow, standIns := [], harness := (true, "ed83d2f566dda8a4f81f1bf54628ebdd34b5aa86c7d6dd0891ffb2cd3ab57819"), looks := false }, kinds := [], alts := [], laidByText := true, laidKinds := [.data], laidTests := true, laidLooks := .later }
def FnExactPhaseAtUptoCardSaid : Prop := Claim7.holds Tryz.pinned (.plain (OpenSpec.upto fnExactPhaseAtSpec)) fnExactPhaseAtUptoCard

/-- THE SECOND FORM's CARD OF 'laws.FnExactMayBegin'. -/
def fnExactMayBeginUptoCard : Claim7 := { stood := { row := fnExactMayBeginUptoRow, standIns := [], harness := (true, "ed83d2f566dda8a4f81f1bf54628ebdd34b5aa86c7d6dd0891ffb2cd3ab57819"), looks := false }, kinds := [], alts := [], laidByText := true, laidKinds := [.data], laidTests := true, laidLooks := .later }
def FnExactMayBeginUptoCardSaid : Prop := Claim7.holds Tryz.pinned (.plain (OpenSpec.upto fnExactMayBeginSpec)) fnExactMayBeginUptoCard

/-- THE SECOND FORM's CARD OF 'laws.FnExactHolderAt'. -/
def fnExactHolderAtUptoCard : Claim7 := { stood := { row := fnExactHolderAtUptoRow, standIns := [], harness := (true, "ed83d2f566dda8a4f81f1bf54628ebdd34b5aa86c7d6dd0891ffb2cd3ab57819"), looks := false }, kinds := [], alts := [], laidByText := true, laidKinds := [.data], laidTests := true, laidLooks := .later }
def FnExactHolderAtUptoCardSaid : Prop := Claim7.holds Tryz.pinned (.plain (OpenSpec.upto fnExactHolderAtSpec)) fnExactHolderAtUptoCard

/-- THE SECOND FORM's CARD OF 'laws.FnExactNextSwitch'. -/
def fnExactNextSwitchUptoCard : Claim7 := { stood := { row := fnExactNextSwitchUptoRow, standIns := [], harness := (true, "ed83d2f566dda8a4f81f1bf54628ebdd34b5aa86c7d6dd0891ffb2cd3ab57819"), looks := false }, kinds := [], alts := [], laidByText := true, laidKinds := [.data], laidTests := true, laidLooks := .later }
def FnExactNextSwitchUptoCardSaid : Prop := Claim7.holds Tryz.pinned (.plain (OpenSpec.upto fnExactNextSwitchSpec)) fnExactNextSwitchUptoCard

/-- THE SECOND FORM's CARD OF 'laws.FnExactCyclesOf'. -/
def fnExactCyclesOfUptoCard : Claim7 := { stood := { row := fnExactCyclesOfUptoRow, standIns := [], harness := (true, "ed83d2f566dda8a4f81f1bf54628ebdd34b5aa86c7d6dd0891ffb2cd3ab57819"), looks := false }, kinds := [], alts := [], laidByText := true, laidKinds := [.data], laidTests := true, laidLooks := .later }
def FnExactCyclesOfUptoCardSaid : Prop := Claim7.holds Tryz.pinned (.plain (OpenSpec.upto fnExactCyclesOfSpec)) fnExactCyclesOfUptoCard

/-- THE SECOND FORM's CARD OF 'laws.FnExactSlotStarts'. -/
def fnExactSlotStartsUptoCard : Claim7 := { stood := { row := fnExactSlotStartsUptoRow, standIns := [], harness := (true, "ed83d2f566dda8a4f81f1bf54628ebdd34b5aa86c7d6dd0891ffb2cd3ab57819"), looks := false }, kinds := [], alts := [], laidByText := true, laidKinds := [.data], laidTests := true, laidLooks := .later }
def FnExactSlotStartsUptoCardSaid : Prop := Claim7.holds Tryz.pinned (.plain (OpenSpec.upto fnExactSlotStartsSpec)) fnExactSlotStartsUptoCard

/-- THE SECOND FORM's CARD OF 'laws.FnExactSound'. -/
def fnExactSoundUptoCard : Claim7 := { stood := { row := fnExactSoundUptoRow, standIns := [], harness := (true, "ed83d2f566dda8a4f81f1bf54628ebdd34b5aa86c7d6dd0891ffb2cd3ab57819"), looks := false }, kinds := [], alts := [], laidByText := true, laidKinds := [.data], laidTests := true, laidLooks := .later }
def FnExactSoundUptoCardSaid : Prop := Claim7.holds Tryz.pinned (.plain (OpenSpec.upto fnExactSoundSpec)) fnExactSoundUptoCard

/-- THE SECOND FORM's CARD OF 'laws.FnExactGapOf'. -/
def fnExactGapOfUptoCard : Claim7 := { stood := { row := fnExactGapOfUptoRow, standIns := [], harness := (true, "ed83d2f566dda8a4f81f1bf54628ebdd34b5aa86c7d6dd0891ffb2cd3ab57819"), looks := false }, kinds := [], alts := [], laidByText := true, laidKinds := [.data], laidTests := true, laidLooks := .later }
def FnExactGapOfUptoCardSaid : Prop := Claim7.holds Tryz.pinned (.plain (OpenSpec.upto fnExactGapOfSpec)) fnExactGapOfUptoCard

/-- THE SECOND FORM's CARD OF 'laws.FnExactShareOf'. -/
def fnExactShareOfUptoCard : Claim7 := { stood := { row := fnExactShareOfUptoRow, standIns := [], harness := (true, "ed83d2f566dda8a4f81f1bf54628ebdd34b5aa86c7d6dd0891ffb2cd3ab57819"), looks := false }, kinds := [], alts := [], laidByText := true, laidKinds := [.data], laidTests := true, laidLooks := .later }
def FnExactShareOfUptoCardSaid : Prop := Claim7.holds Tryz.pinned (.plain (OpenSpec.upto fnExactShareOfSpec)) fnExactShareOfUptoCard

/-- THE SECOND FORM's CARD OF 'laws.FnExactPartNamed'. -/
def fnExactPartNamedUptoCard : Claim7 := { stood := { row := fnExactPartNamedUptoRow, standIns := [], harness := (true, "ed83d2f566dda8a4f81f1bf54628ebdd34b5aa86c7d6dd0891ffb2cd3ab57819"), looks := false }, kinds := [], alts := [], laidByText := true, laidKinds := [.data], laidTests := true, laidLooks := .later }
def FnExactPartNamedUptoCardSaid : Prop := Claim7.holds Tryz.pinned (.plain (OpenSpec.upto fnExactPartNamedSpec)) fnExactPartNamedUptoCard

/-- THE SECOND FORM's CARD OF 'laws.FnExactOwnerOf'. -/
def fnExactOwnerOfUptoCard : Claim7 := { stood := { row := fnExactOwnerOfUptoRow, standIns := [], harness := (true, "ed83d2f566dda8a4f81f1bf54628ebdd34b5aa86c7d6dd0891ffb2cd3ab57819"), looks := false }, kinds := [], alts := [], laidByText := true, laidKinds := [.data], laidTests := true, laidLooks := .later }
def FnExactOwnerOfUptoCardSaid : Prop := Claim7.holds Tryz.pinned (.plain (OpenSpec.upto fnExactOwnerOfSpec)) fnExactOwnerOfUptoCard
end Rows
end Go.Proofs.YtoalamgongaaeaaGreatDoor
