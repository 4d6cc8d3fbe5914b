/-
  DERIVED. GIVEN WITH THE SEED: THE CARDS: each row of YtnhaobckhldblaaGreatDoorRows.lean that lists a variable, with what it lists TIED to the program's text (the seventh form; the later family's looks); each row that meets fmt, with fmt's text TOLD by the authors' own Lean function (tested against real Go, not proved from fmt's source: count such statements apart). THE CARD IS WHAT COUNTS. Prove the row's statement (the work); the ties are given (YtnhaobckhldblaaGreatDoorTie.lean); close each card by the builder's one call (the guide's Derived/Test/ToyasCard.lean, 'card_holds'). Laid BY PROGRAM, IN A SANDBOX (cutbox-door.mjs). By AI agents, Wed Nov 11 2026. No macro, syntax, notation, axiom, sorry.
-/
import Derived.Test.YtnhaobckhldblaaGreatDoorRows
import GoSem.ClaimSeven
namespace Go.Proofs.YtnhaobckhldblaaGreatDoor
namespace Rows

/-- THE TIED CARD OF 'laws.FnExactImagesOk'. -/
def fnExactImagesOkCard : Claim7 := { stood := { row := fnExactImagesOkRow, standIns := [], harness := (true, "6f2d33415a546a3df03ecf909d7ab5d2770315f816e83e41df4f5e5e70cd438a"), looks := false }, kinds := [], alts := [], laidByText := true, laidKinds := [.data], laidTests := true, laidLooks := .later }
def FnExactImagesOkCardSaid : Prop := Claim7.holds Tryz.pinned (.plain (OpenSpec.ofChange fnExactImagesOkSpec)) fnExactImagesOkCard

/-- THE SECOND FORM's CARD OF 'laws.FnExactImagesOk'. -/
def fnExactImagesOkUptoCard : Claim7 := { stood := { row := fnExactImagesOkUptoRow, standIns := [], harness := (true, "6f2d33415a546a3df03ecf909d7ab5d2770315f816e83e41df4f5e5e70cd438a"), looks := false }, kinds := [], alts := [], laidByText := true, laidKinds := [.data], laidTests := true, laidLooks := .later }
def FnExactImagesOkUptoCardSaid : Prop := Claim7.holds Tryz.pinned (.plain (OpenSpec.upto fnExactImagesOkSpec)) fnExactImagesOkUptoCard
end Rows
end Go.Proofs.YtnhaobckhldblaaGreatDoor
