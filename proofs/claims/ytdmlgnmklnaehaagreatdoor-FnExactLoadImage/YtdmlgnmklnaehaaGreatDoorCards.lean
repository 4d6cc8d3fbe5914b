/-
  DERIVED. GIVEN WITH THE SEED: THE CARDS: each row of YtdmlgnmklnaehaaGreatDoorRows.lean that lists a variable, with what it lists TIED to the program's text (the seventh form; the later family's looks); each row that meets fmt, with fmt's text TOLD by the authors' own Lean function (tested against real Go, not proved from fmt's source: count such statements apart). THE CARD IS WHAT COUNTS. Prove the row's statement (the work); the ties are given (YtdmlgnmklnaehaaGreatDoorTie.lean); close each card by the builder's one call (the guide's Derived/Test/ToyasCard.lean, 'card_holds'). Laid BY PROGRAM, IN A SANDBOX (cutbox-door.mjs). By AI agents, Wed Nov 11 2026. No macro, syntax, notation, axiom, sorry.
-/
import Derived.Test.YtdmlgnmklnaehaaGreatDoorRows
import GoSem.ClaimSeven
namespace Go.Proofs.YtdmlgnmklnaehaaGreatDoor
namespace Rows

/-- THE TIED CARD OF 'laws.FnExactLoadImage'. -/
def fnExactLoadImageCard : Claim7 := { stood := { row := fnExactLoadImageRow, standIns := [], harness := (true, "b6cb6dfb7abd1c4f853f37ca8a52268b51e6e7c2bf1f599a6aa148ab052dfe04"), looks := false }, kinds := [], alts := [], laidByText := true, laidKinds := [.data], laidTests := true, laidLooks := .later }
def FnExactLoadImageCardSaid : Prop := Claim7.holds Tryz.pinned (.plain (OpenSpec.ofChange fnExactLoadImageSpec)) fnExactLoadImageCard

/-- THE TIED CARD OF 'laws.FnExactReport'. -/
def fnExactReportCard : Claim7 := { stood := { row := fnExactReportRow, standIns := [], harness := (true, "b6cb6dfb7abd1c4f853f37ca8a52268b51e6e7c2bf1f599a6aa148ab052dfe04"), looks := false }, kinds := [], alts := [], laidByText := true, laidKinds := [.data, .data, .data, .data, .data], laidTests := true, laidLooks := .later }
def FnExactReportCardSaid : Prop := Claim7.holds Tryz.pinned (.plain (OpenSpec.ofChange fnExactReportSpec)) fnExactReportCard

/-- THE SECOND FORM's CARD OF 'laws.FnExactLoadImage'. -/
def fnExactLoadImageUptoCard : Claim7 := { stood := { row := fnExactLoadImageUptoRow, standIns := [], harness := (true, "b6cb6dfb7abd1c4f853f37ca8a52268b51e6e7c2bf1f599a6aa148ab052dfe04"), looks := false }, kinds := [], alts := [], laidByText := true, laidKinds := [.data], laidTests := true, laidLooks := .later }
def FnExactLoadImageUptoCardSaid : Prop := Claim7.holds Tryz.pinned (.plain (OpenSpec.upto fnExactLoadImageSpec)) fnExactLoadImageUptoCard

/-- THE SECOND FORM's CARD OF 'laws.FnExactReport'. -/
def fnExactReportUptoCard : Claim7 := { stood := { row := fnExactReportUptoRow, standIns := [], harness := (true, "b6cb6dfb7abd1c4f853f37ca8a52268b51e6e7c2bf1f599a6aa148ab052dfe04"), looks := false }, kinds := [], alts := [], laidByText := true, laidKinds := [.data, .data, .data, .data, .data], laidTests := true, laidLooks := .later }
def FnExactReportUptoCardSaid : Prop := Claim7.holds Tryz.pinned (.plain (OpenSpec.upto fnExactReportSpec)) fnExactReportUptoCard
end Rows
end Go.Proofs.YtdmlgnmklnaehaaGreatDoor
