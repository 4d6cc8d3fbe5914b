/-
  DERIVED. GIVEN WITH THE SEED: THE CARDS: each row of YtmnoghhdkdjnmaaGreatDoorRows.lean that lists a variable, with what it lists TIED to the program's text (the seventh form; the later family's looks); each row that meets fmt, with fmt's text TOLD by the authors' own Lean function (tested against real Go, not proved from fmt's source: count such statements apart). THE CARD IS WHAT COUNTS. Prove the row's statement (the work); the ties are given (YtmnoghhdkdjnmaaGreatDoorTie.lean); close each card by the builder's one call (the guide's Derived/Test/ToyasCard.lean, 'card_holds'). Laid BY PROGRAM, IN A SANDBOX (cutbox-door.mjs). By AI agents, Wed Nov 11 2026. No macro, syntax, notation, axiom, sorry.
-/
import Derived.Test.YtmnoghhdkdjnmaaGreatDoorRows
import GoSem.ClaimSeven
namespace Go.Proofs.YtmnoghhdkdjnmaaGreatDoor
namespace Rows

/-- THE TIED CARD OF 'laws.FnExactPrintScript'. -/
def fnExactPrintScriptCard : Claim7 := { stood := { row := fnExactPrintScriptRow, standIns := [], harness := (true, "a4aec5212940d0f4f960ee215ae23fd23e2de4ab6a836d8da70e3c384ce7cc63"), looks := false }, kinds := [], alts := [], laidByText := true, laidKinds := [.data, .data, .data, .data], laidTests := true, laidLooks := .later }
def FnExactPrintScriptCardSaid : Prop := Claim7.holds Tryz.pinned (.plain (OpenSpec.ofChange fnExactPrintScriptSpec)) fnExactPrintScriptCard

/-- THE TIED CARD OF 'laws.FnExactParseScript'. -/
def fnExactParseScriptCard : Claim7 := { stood := { row := fnExactParseScriptRow, standIns := [], harness := (true, "a4aec5212940d0f4f960ee215ae23fd23e2de4ab6a836d8da70e3c384ce7cc63"), looks := false }, kinds := [], alts := [], laidByText := true, laidKinds := [.data, .data, .pinned], laidTests := true, laidLooks := .later }
def FnExactParseScriptCardSaid : Prop := Claim7.holds Tryz.pinned (.plain (OpenSpec.ofChange fnExactParseScriptSpec)) fnExactParseScriptCard

/-- THE SECOND FORM's CARD OF 'laws.FnExactPrintScript'. -/
def fnExactPrintScriptUptoCard : Claim7 := { stood := { row := fnExactPrintScriptUptoRow, standIns := [], harness := (true, "a4aec5212940d0f4f960ee215ae23fd23e2de4ab6a836d8da70e3c384ce7cc63"), looks := false }, kinds := [], alts := [], laidByText := true, laidKinds := [.data, .data, .data, .data], laidTests := true, laidLooks := .later }
def FnExactPrintScriptUptoCardSaid : Prop := Claim7.holds Tryz.pinned (.plain (OpenSpec.upto fnExactPrintScriptSpec)) fnExactPrintScriptUptoCard

/-- THE SECOND FORM's CARD OF 'laws.FnExactParseScript'. -/
def fnExactParseScriptUptoCard : Claim7 := { stood := { row := fnExactParseScriptUptoRow, standIns := [], harness := (true, "a4aec5212940d0f4f960ee215ae23fd23e2de4ab6a836d8da70e3c384ce7cc63"), looks := false }, kinds := [], alts := [], laidByText := true, laidKinds := [.data, .data, .pinned], laidTests := true, laidLooks := .later }
def FnExactParseScriptUptoCardSaid : Prop := Claim7.holds Tryz.pinned (.plain (OpenSpec.upto fnExactParseScriptSpec)) fnExactParseScriptUptoCard
end Rows
end Go.Proofs.YtmnoghhdkdjnmaaGreatDoor
