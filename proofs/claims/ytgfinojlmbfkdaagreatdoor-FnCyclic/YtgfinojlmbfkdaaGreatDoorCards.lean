/-
  DERIVED. GIVEN WITH THE SEED: THE CARDS: each row of YtgfinojlmbfkdaaGreatDoorRows.lean that lists a variable, with what it lists TIED to the program's text (the seventh form; the later family's looks); each row that meets fmt, with fmt's text TOLD by the authors' own Lean function (tested against real Go, not proved from fmt's source: count such statements apart). THE CARD IS WHAT COUNTS. Prove the row's statement (the work); the ties are given (YtgfinojlmbfkdaaGreatDoorTie.lean); close each card by the builder's one call (the guide's Derived/Test/ToyasCard.lean, 'card_holds'). Laid BY PROGRAM, IN A SANDBOX (cutbox-door.mjs). By AI agents, Wed Nov 11 2026. No macro, syntax, notation, axiom, sorry.
-/
import Derived.Test.YtgfinojlmbfkdaaGreatDoorRows
import GoSem.ClaimSeven
namespace Go.Proofs.YtgfinojlmbfkdaaGreatDoor
namespace Rows

/-- THE TIED CARD OF 'laws.FnExactSwitchWork'. -/
def fnExactSwitchWorkCard : Claim7 := { stood := { row := fnExactSwitchWorkRow, standIns := [], harness := (true, "4ae8299ce4cf0b5749c45a2aade096cfd08ff0ec798dc43875aae8a818dd40ca"), looks := false }, kinds := [], alts := [], laidByText := true, laidKinds := [.data], laidTests := true, laidLooks := .later }
def FnExactSwitchWorkCardSaid : Prop := Claim7.holds Tryz.pinned (.plain (OpenSpec.ofChange fnExactSwitchWorkSpec)) fnExactSwitchWorkCard

/-- THE TIED CARD OF 'laws.FnPadded'. -/
def fnPaddedCard : Claim7 := { stood := { row := fnPaddedRow, standIns := [], harness := (true, "4ae8299ce4cf0b5749c45a2aade096cfd08ff0ec798dc43875aae8a818dd40ca"), looks := false }, kinds := [], alts := [], laidByText := true, laidKinds := [.data], laidTests := true, laidLooks := .later }
def FnPaddedCardSaid : Prop := Claim7.holds Tryz.pinned (.plain (OpenSpec.ofChange fnPaddedSpec)) fnPaddedCard

/-- THE TIED CARD OF 'laws.FnShares'. -/
def fnSharesCard : Claim7 := { stood := { row := fnSharesRow, standIns := [], harness := (true, "4ae8299ce4cf0b5749c45a2aade096cfd08ff0ec798dc43875aae8a818dd40ca"), looks := false }, kinds := [], alts := [], laidByText := true, laidKinds := [.data], laidTests := true, laidLooks := .later }
def FnSharesCardSaid : Prop := Claim7.holds Tryz.pinned (.plain (OpenSpec.ofChange fnSharesSpec)) fnSharesCard

/-- THE TIED CARD OF 'laws.FnCyclic'. -/
def fnCyclicCard : Claim7 := { stood := { row := fnCyclicRow, standIns := [], harness := (true, "4ae8299ce4cf0b5749c45a2aade096cfd08ff0ec798dc43875aae8a818dd40ca"), looks := false }, kinds := [], alts := [], laidByText := true, laidKinds := [.data], laidTests := true, laidLooks := .later }
def FnCyclicCardSaid : Prop := Claim7.holds Tryz.pinned (.plain (OpenSpec.ofChange fnCyclicSpec)) fnCyclicCard

/-- THE SECOND FORM's CARD OF 'laws.FnExactSwitchWork'. -/
def fnExactSwitchWorkUptoCard : Claim7 := { stood := { row := fnExactSwitchWorkUptoRow, standIns := [], harness := (true, "4ae8299ce4cf0b5749c45a2aade096cfd08ff0ec798dc43875aae8a818dd40ca"), looks := false }, kinds := [], alts := [], laidByText := true, laidKinds := [.data], laidTests := true, laidLooks := .later }
def FnExactSwitchWorkUptoCardSaid : Prop := Claim7.holds Tryz.pinned (.plain (OpenSpec.upto fnExactSwitchWorkSpec)) fnExactSwitchWorkUptoCard

/-- THE SECOND FORM's CARD OF 'laws.FnPadded'. -/
def fnPaddedUptoCard : Claim7 := { stood := { row := fnPaddedUptoRow, standIns := [], harness := (true, "4ae8299ce4cf0b5749c45a2aade096cfd08ff0ec798dc43875aae8a818dd40ca"), looks := false }, kinds := [], alts := [], laidByText := true, laidKinds := [.data], laidTests := true, laidLooks := .later }
def FnPaddedUptoCardSaid : Prop := Claim7.holds Tryz.pinned (.plain (OpenSpec.upto fnPaddedSpec)) fnPaddedUptoCard

/-- THE SECOND FORM's CARD OF 'laws.FnShares'. -/
def fnSharesUptoCard : Claim7 := { stood := { row := fnSharesUptoRow, standIns := [], harness := (true, "4ae8299ce4cf0b5749c45a2aade096cfd08ff0ec798dc43875aae8a818dd40ca"), looks := false }, kinds := [], alts := [], laidByText := true, laidKinds := [.data], laidTests := true, laidLooks := .later }
def FnSharesUptoCardSaid : Prop := Claim7.holds Tryz.pinned (.plain (OpenSpec.upto fnSharesSpec)) fnSharesUptoCard

/-- THE SECOND FORM's CARD OF 'laws.FnCyclic'. -/
def fnCyclicUptoCard : Claim7 := { stood := { row := fnCyclicUptoRow, standIns := [], harness := (true, "4ae8299ce4cf0b5749c45a2aade096cfd08ff0ec798dc43875aae8a818dd40ca"), looks := false }, kinds := [], alts := [], laidByText := true, laidKinds := [.data], laidTests := true, laidLooks := .later }
def FnCyclicUptoCardSaid : Prop := Claim7.holds Tryz.pinned (.plain (OpenSpec.upto fnCyclicSpec)) fnCyclicUptoCard
end Rows
end Go.Proofs.YtgfinojlmbfkdaaGreatDoor
