/-
  DERIVED. GIVEN WITH THE SEED: THE CARDS: each row of YtjlhkjiccibgdaaGreatDoorRows.lean that lists a variable, with what it lists TIED to the program's text (the seventh form; the later family's looks); each row that meets fmt, with fmt's text TOLD by the authors' own Lean function (tested against real Go, not proved from fmt's source: count such statements apart). THE CARD IS WHAT COUNTS. Prove the row's statement (the work); the ties are given (YtjlhkjiccibgdaaGreatDoorTie.lean); close each card by the builder's one call (the guide's Derived/Test/ToyasCard.lean, 'card_holds'). Laid BY PROGRAM, IN A SANDBOX (cutbox-door.mjs). By AI agents, Wed Nov 11 2026. No macro, syntax, notation, axiom, sorry.
-/
import Derived.Test.YtjlhkjiccibgdaaGreatDoorRows
import GoSem.ClaimSeven
namespace Go.Proofs.YtjlhkjiccibgdaaGreatDoor
namespace Rows

/-- THE TIED CARD OF 'laws.FnExactCoreStep'. -/
def fnExactCoreStepCard : Claim7 := { stood := { row := fnExactCoreStepRow, standIns := [], harness := (true, "d0dbb3fd7c800ea6a3750b9d05cd97da7b0f3e079901c59e1272567748d5fe23"), looks := true }, kinds := [], alts := [], laidByText := true, laidKinds := [.data], laidTests := true, laidLooks := .later }
def FnExactCoreStepCardSaid : Prop := Claim7.holds Tryz.pinned (.plain (OpenSpec.ofChange fnExactCoreStepSpec)) fnExactCoreStepCard

/-- THE SECOND FORM's CARD OF 'laws.FnExactCoreStep'. -/
def fnExactCoreStepUptoCard : Claim7 := { stood := { row := fnExactCoreStepUptoRow, standIns := [], harness := (true, "d0dbb3fd7c800ea6a3750b9d05cd97da7b0f3e079901c59e1272567748d5fe23"), looks := true }, kinds := [], alts := [], laidByText := true, laidKinds := [.data], laidTests := true, laidLooks := .later }
def FnExactCoreStepUptoCardSaid : Prop := Claim7.holds Tryz.pinned (.plain (OpenSpec.upto fnExactCoreStepSpec)) fnExactCoreStepUptoCard
end Rows
end Go.Proofs.YtjlhkjiccibgdaaGreatDoor
