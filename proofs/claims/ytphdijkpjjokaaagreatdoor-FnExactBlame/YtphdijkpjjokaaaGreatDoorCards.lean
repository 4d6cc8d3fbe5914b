/-
  DERIVED. GIVEN WITH THE SEED: THE CARDS: each row of YtphdijkpjjokaaaGreatDoorRows.lean that lists a variable, with what it lists TIED to the program's text (the seventh form; the later family's looks); each row that meets fmt, with fmt's text TOLD by the authors' own Lean function (tested against real Go, not proved from fmt's source: count such statements apart). THE CARD IS WHAT COUNTS. Prove the row's statement (the work); the ties are given (YtphdijkpjjokaaaGreatDoorTie.lean); close each card by the builder's one call (the guide's Derived/Test/ToyasCard.lean, 'card_holds'). Laid BY PROGRAM, IN A SANDBOX (cutbox-door.mjs). By AI agents, Wed Nov 11 2026. No macro, syntax, notation, axiom, sorry.
-/
import Derived.Test.YtphdijkpjjokaaaGreatDoorRows
import GoSem.ClaimSeven
namespace Go.Proofs.YtphdijkpjjokaaaGreatDoor
namespace Rows

/-- THE TIED CARD OF 'laws.FnExactSpans'. -/
def fnExactSpansCard : Claim7 := { stood := { row := fnExactSpansRow, standIns := [], harness := (true, "e364c2035c137736e11e30181fc6e24a3dd41f3e78ca07edfd4124003bde9723"), looks := false }, kinds := [], alts := [], laidByText := true, laidKinds := [.data], laidTests := true, laidLooks := .later }
def FnExactSpansCardSaid : Prop := Claim7.holds Tryz.pinned (.plain (OpenSpec.ofChange fnExactSpansSpec)) fnExactSpansCard

/-- THE TIED CARD OF 'laws.FnExactSpansOk'. -/
def fnExactSpansOkCard : Claim7 := { stood := { row := fnExactSpansOkRow, standIns := [], harness := (true, "e364c2035c137736e11e30181fc6e24a3dd41f3e78ca07edfd4124003bde9723"), looks := false }, kinds := [], alts := [], laidByText := true, laidKinds := [.data], laidTests := true, laidLooks := .later }
def FnExactSpansOkCardSaid : Prop := Claim7.holds Tryz.pinned (.plain (OpenSpec.ofChange fnExactSpansOkSpec)) fnExactSpansOkCard

/-- THE TIED CARD OF 'laws.FnExactBlame'. -/
def fnExactBlameCard : Claim7 := { stood := { row := fnExactBlameRow, standIns := [], harness := (true, "e364c2035c137736e11e30181fc6e24a3dd41f3e78ca07edfd4124003bde9723"), looks := false }, kinds := [], alts := [], laidByText := true, laidKinds := [.data], laidTests := true, laidLooks := .later }
def FnExactBlameCardSaid : Prop := Claim7.holds Tryz.pinned (.plain (OpenSpec.ofChange fnExactBlameSpec)) fnExactBlameCard

/-- THE SECOND FORM's CARD OF 'laws.FnExactSpans'. -/
def fnExactSpansUptoCard : Claim7 := { stood := { row := fnExactSpansUptoRow, standIns := [], harness := (true, "e364c2035c137736e11e30181fc6e24a3dd41f3e78ca07edfd4124003bde9723"), looks := false }, kinds := [], alts := [], laidByText := true, laidKinds := [.data], laidTests := true, laidLooks := .later }
def FnExactSpansUptoCardSaid : Prop := Claim7.holds Tryz.pinned (.plain (OpenSpec.upto fnExactSpansSpec)) fnExactSpansUptoCard

/-- THE SECOND FORM's CARD OF 'laws.FnExactSpansOk'. -/
def fnExactSpansOkUptoCard : Claim7 := { stood := { row := fnExactSpansOkUptoRow, standIns := [], harness := (true, "e364c2035c137736e11e30181fc6e24a3dd41f3e78ca07edfd4124003bde9723"), looks := false }, kinds := [], alts := [], laidByText := true, laidKinds := [.data], laidTests := true, laidLooks := .later }
def FnExactSpansOkUptoCardSaid : Prop := Claim7.holds Tryz.pinned (.plain (OpenSpec.upto fnExactSpansOkSpec)) fnExactSpansOkUptoCard

/-- THE SECOND FORM's CARD OF 'laws.FnExactBlame'. -/
def fnExactBlameUptoCard : Claim7 := { stood := { row := fnExactBlameUptoRow, standIns := [], harness := (true, "e364c2035c137736e11e30181fc6e24a3dd41f3e78ca07edfd4124003bde9723"), looks := false }, kinds := [], alts := [], laidByText := true, laidKinds := [.data], laidTests := true, laidLooks := .later }
def FnExactBlameUptoCardSaid : Prop := Claim7.holds Tryz.pinned (.plain (OpenSpec.upto fnExactBlameSpec)) fnExactBlameUptoCard
end Rows
end Go.Proofs.YtphdijkpjjokaaaGreatDoor
