/-
  DERIVED. GIVEN WITH THE SEED: THE CARDS: each row of YtiheojmknhgjfaaGreatDoorRows.lean that lists a variable, with what it lists TIED to the program's text (the seventh form; the later family's looks); each row that meets fmt, with fmt's text TOLD by the authors' own Lean function (tested against real Go, not proved from fmt's source: count such statements apart). THE CARD IS WHAT COUNTS. Prove the row's statement (the work); the ties are given (YtiheojmknhgjfaaGreatDoorTie.lean); close each card by the builder's one call (the guide's Derived/Test/ToyasCard.lean, 'card_holds'). Laid BY PROGRAM, IN A SANDBOX (cutbox-door.mjs). By AI agents, Wed Nov 11 2026. No macro, syntax, notation, axiom, sorry.
-/
import Derived.Test.YtiheojmknhgjfaaGreatDoorRows
import GoSem.ClaimSeven
namespace Go.Proofs.YtiheojmknhgjfaaGreatDoor
namespace Rows

/-- THE TIED CARD OF 'laws.FnExactFeedOk'. -/
def fnExactFeedOkCard : Claim7 := { stood := { row := fnExactFeedOkRow, standIns := [], harness := (true, "7a8fe494d943dcb5a36515bf1804e7e994b31b265fbd04d4963ff32c807810ee"), looks := false }, kinds := [], alts := [], laidByText := true, laidKinds := [.data], laidTests := true, laidLooks := .later }
def FnExactFeedOkCardSaid : Prop := Claim7.holds Tryz.pinned (.plain (OpenSpec.ofChange fnExactFeedOkSpec)) fnExactFeedOkCard

/-- THE TIED CARD OF 'laws.FnExactInSlots'. -/
def fnExactInSlotsCard : Claim7 := { stood := { row := fnExactInSlotsRow, standIns := [], harness := (true, "7a8fe494d943dcb5a36515bf1804e7e994b31b265fbd04d4963ff32c807810ee"), looks := false }, kinds := [], alts := [], laidByText := true, laidKinds := [.data], laidTests := true, laidLooks := .later }
def FnExactInSlotsCardSaid : Prop := Claim7.holds Tryz.pinned (.plain (OpenSpec.ofChange fnExactInSlotsSpec)) fnExactInSlotsCard

/-- THE SECOND FORM's CARD OF 'laws.FnExactFeedOk'. -/
def fnExactFeedOkUptoCard : Claim7 := { stood := { row := fnExactFeedOkUptoRow, standIns := [], harness := (true, "7a8fe494d943dcb5a36515bf1804e7e994b31b265fbd04d4963ff32c807810ee"), looks := false }, kinds := [], alts := [], laidByText := true, laidKinds := [.data], laidTests := true, laidLooks := .later }
def FnExactFeedOkUptoCardSaid : Prop := Claim7.holds Tryz.pinned (.plain (OpenSpec.upto fnExactFeedOkSpec)) fnExactFeedOkUptoCard

/-- THE SECOND FORM's CARD OF 'laws.FnExactInSlots'. -/
def fnExactInSlotsUptoCard : Claim7 := { stood := { row := fnExactInSlotsUptoRow, standIns := [], harness := (true, "7a8fe494d943dcb5a36515bf1804e7e994b31b265fbd04d4963ff32c807810ee"), looks := false }, kinds := [], alts := [], laidByText := true, laidKinds := [.data], laidTests := true, laidLooks := .later }
def FnExactInSlotsUptoCardSaid : Prop := Claim7.holds Tryz.pinned (.plain (OpenSpec.upto fnExactInSlotsSpec)) fnExactInSlotsUptoCard
end Rows
end Go.Proofs.YtiheojmknhgjfaaGreatDoor
