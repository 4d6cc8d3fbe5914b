/-
  DERIVED. GIVEN WITH THE SEED: THE CARDS: each row of YtikaekmnclgflaaDoorRows.lean that lists a variable, with what it lists TIED to the program's text (the seventh form; the later family's looks); each row that meets fmt, with fmt's text TOLD by the authors' own Lean function (tested against real Go, not proved from fmt's source: count such statements apart). THE CARD IS WHAT COUNTS. Prove the row's statement (the work); the ties are given (YtikaekmnclgflaaDoorTie.lean); close each card by the builder's one call (the guide's Derived/Test/ToyasCard.lean, 'card_holds'). Laid BY PROGRAM, IN A SANDBOX (cutbox-door.mjs). By AI agents, Wed Nov 11 2026. No macro, syntax, notation, axiom, sorry.
-/
import Derived.Test.YtikaekmnclgflaaDoorRows
import GoSem.ClaimSeven
namespace Go.Proofs.YtikaekmnclgflaaDoor
namespace Rows

/-- THE TIED CARD OF 'laws.FnWorst'. -/
def fnWorstCard : Claim7 := { stood := { row := fnWorstRow, standIns := [], harness := (true, "c57d8eb2b20057bad587b1be2e0142e5089ad9809218a346eb4f5d4d0774c6fc"), looks := false }, kinds := [], alts := [], laidByText := true, laidKinds := [.data], laidTests := true, laidLooks := .later }
def FnWorstCardSaid : Prop := Claim7.holds Tryd.pinned (.plain (OpenSpec.ofChange fnWorstSpec)) fnWorstCard

/-- THE TIED CARD OF 'laws.FnExactOpCost'. -/
def fnExactOpCostCard : Claim7 := { stood := { row := fnExactOpCostRow, standIns := [], harness := (true, "c57d8eb2b20057bad587b1be2e0142e5089ad9809218a346eb4f5d4d0774c6fc"), looks := false }, kinds := [], alts := [], laidByText := true, laidKinds := [.data], laidTests := true, laidLooks := .later }
def FnExactOpCostCardSaid : Prop := Claim7.holds Tryd.pinned (.plain (OpenSpec.ofChange fnExactOpCostSpec)) fnExactOpCostCard

/-- THE TIED CARD OF 'laws.FnExactWorstStep'. -/
def fnExactWorstStepCard : Claim7 := { stood := { row := fnExactWorstStepRow, standIns := [], harness := (true, "c57d8eb2b20057bad587b1be2e0142e5089ad9809218a346eb4f5d4d0774c6fc"), looks := false }, kinds := [], alts := [], laidByText := true, laidKinds := [.data], laidTests := true, laidLooks := .later }
def FnExactWorstStepCardSaid : Prop := Claim7.holds Tryd.pinned (.plain (OpenSpec.ofChange fnExactWorstStepSpec)) fnExactWorstStepCard

/-- THE SECOND FORM's CARD OF 'laws.FnWorst'. -/
def fnWorstUptoCard : Claim7 := { stood := { row := fnWorstUptoRow, standIns := [], harness := (true, "c57d8eb2b20057bad587b1be2e0142e5089ad9809218a346eb4f5d4d0774c6fc"), looks := false }, kinds := [], alts := [], laidByText := true, laidKinds := [.data], laidTests := true, laidLooks := .later }
def FnWorstUptoCardSaid : Prop := Claim7.holds Tryd.pinned (.plain (OpenSpec.upto fnWorstSpec)) fnWorstUptoCard

/-- THE SECOND FORM's CARD OF 'laws.FnExactOpCost'. -/
def fnExactOpCostUptoCard : Claim7 := { stood := { row := fnExactOpCostUptoRow, standIns := [], harness := (true, "c57d8eb2b20057bad587b1be2e0142e5089ad9809218a346eb4f5d4d0774c6fc"), looks := false }, kinds := [], alts := [], laidByText := true, laidKinds := [.data], laidTests := true, laidLooks := .later }
def FnExactOpCostUptoCardSaid : Prop := Claim7.holds Tryd.pinned (.plain (OpenSpec.upto fnExactOpCostSpec)) fnExactOpCostUptoCard

/-- THE SECOND FORM's CARD OF 'laws.FnExactWorstStep'. -/
def fnExactWorstStepUptoCard : Claim7 := { stood := { row := fnExactWorstStepUptoRow, standIns := [], harness := (true, "c57d8eb2b20057bad587b1be2e0142e5089ad9809218a346eb4f5d4d0774c6fc"), looks := false }, kinds := [], alts := [], laidByText := true, laidKinds := [.data], laidTests := true, laidLooks := .later }
def FnExactWorstStepUptoCardSaid : Prop := Claim7.holds Tryd.pinned (.plain (OpenSpec.upto fnExactWorstStepSpec)) fnExactWorstStepUptoCard
end Rows
end Go.Proofs.YtikaekmnclgflaaDoor
