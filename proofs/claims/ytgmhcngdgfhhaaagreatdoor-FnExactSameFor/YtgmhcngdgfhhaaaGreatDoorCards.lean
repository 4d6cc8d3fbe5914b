/-
  DERIVED. GIVEN WITH THE SEED: THE CARDS: each row of YtgmhcngdgfhhaaaGreatDoorRows.lean that lists a variable, with what it lists TIED to the program's text (the seventh form; the later family's looks); each row that meets fmt, with fmt's text TOLD by the authors' own Lean function (tested against real Go, not proved from fmt's source: count such statements apart). THE CARD IS WHAT COUNTS. Prove the row's statement (the work); the ties are given (YtgmhcngdgfhhaaaGreatDoorTie.lean); close each card by the builder's one call (the guide's Derived/Test/ToyasCard.lean, 'card_holds'). Laid BY PROGRAM, IN A SANDBOX (cutbox-door.mjs). By AI agents, Wed Nov 11 2026. No macro, syntax, notation, axiom, sorry.
-/
import Derived.Test.YtgmhcngdgfhhaaaGreatDoorRows
import GoSem.ClaimSeven
namespace Go.Proofs.YtgmhcngdgfhhaaaGreatDoor
namespace Rows

/-- THE TIED CARD OF 'laws.FnExactSameFor'. -/
def fnExactSameForCard : Claim7 := { stood := { row := fnExactSameForRow, standIns := [], harness := (true, "d435f4c80d340f8e695308f7b61dfbb963c0ca69a50a1fde18200bfe1f174657"), looks := false }, kinds := [], alts := [], laidByText := true, laidKinds := [.data], laidTests := true, laidLooks := .later }
def FnExactSameForCardSaid : Prop := Claim7.holds Tryz.pinned (.plain (OpenSpec.ofChange fnExactSameForSpec)) fnExactSameForCard

/-- THE SECOND FORM's CARD OF 'laws.FnExactSameFor'. -/
def fnExactSameForUptoCard : Claim7 := { stood := { row := fnExactSameForUptoRow, standIns := [], harness := (true, "d435f4c80d340f8e695308f7b61dfbb963c0ca69a50a1fde18200bfe1f174657"), looks := false }, kinds := [], alts := [], laidByText := true, laidKinds := [.data], laidTests := true, laidLooks := .later }
def FnExactSameForUptoCardSaid : Prop := Claim7.holds Tryz.pinned (.plain (OpenSpec.upto fnExactSameForSpec)) fnExactSameForUptoCard
end Rows
end Go.Proofs.YtgmhcngdgfhhaaaGreatDoor
