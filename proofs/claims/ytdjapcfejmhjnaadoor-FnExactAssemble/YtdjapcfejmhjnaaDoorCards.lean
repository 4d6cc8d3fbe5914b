/-
  DERIVED. GIVEN WITH THE SEED: THE CARDS: each row of YtdjapcfejmhjnaaDoorRows.lean that lists a variable, with what it lists TIED to the program's text (the seventh form; the later family's looks); each row that meets fmt, with fmt's text TOLD by the authors' own Lean function (tested against real Go, not proved from fmt's source: count such statements apart). THE CARD IS WHAT COUNTS. Prove the row's statement (the work); the ties are given (YtdjapcfejmhjnaaDoorTie.lean); close each card by the builder's one call (the guide's Derived/Test/ToyasCard.lean, 'card_holds'). Laid BY PROGRAM, IN A SANDBOX (cutbox-door.mjs). By AI agents, Wed Nov 11 2026. No macro, syntax, notation, axiom, sorry.
-/
import Derived.Test.YtdjapcfejmhjnaaDoorRows
import GoSem.ClaimSeven
namespace Go.Proofs.YtdjapcfejmhjnaaDoor
namespace Rows

/-- THE TIED CARD OF 'laws.FnCodec'. -/
def fnCodecCard : Claim7 := { stood := { row := fnCodecRow, standIns := [], harness := (true, "0e9a5867fcfba9d3e7e5da597f9d221a76d5b1c8bce492a4ebc560dd9f53807d"), looks := true }, kinds := [], alts := [], laidByText := true, laidKinds := [.data, .data, .data, .data, .data, .data, .pinned], laidTests := true, laidLooks := .later }
def FnCodecCardSaid : Prop := Claim7.holds Tryd.pinned (.plain (OpenSpec.ofChange fnCodecSpec)) fnCodecCard

/-- THE TIED CARD OF 'laws.FnExactReadLine'. -/
def fnExactReadLineCard : Claim7 := { stood := { row := fnExactReadLineRow, standIns := [], harness := (true, "0e9a5867fcfba9d3e7e5da597f9d221a76d5b1c8bce492a4ebc560dd9f53807d"), looks := true }, kinds := [], alts := [], laidByText := true, laidKinds := [.data, .data, .data, .pinned], laidTests := true, laidLooks := .later }
def FnExactReadLineCardSaid : Prop := Claim7.holds Tryd.pinned (.plain (OpenSpec.ofChange fnExactReadLineSpec)) fnExactReadLineCard

/-- THE TIED CARD OF 'laws.FnExactAssemble'. -/
def fnExactAssembleCard : Claim7 := { stood := { row := fnExactAssembleRow, standIns := [], harness := (true, "0e9a5867fcfba9d3e7e5da597f9d221a76d5b1c8bce492a4ebc560dd9f53807d"), looks := true }, kinds := [], alts := [], laidByText := true, laidKinds := [.data, .handle, .data, .data, .pinned], laidTests := true, laidLooks := .later }
def FnExactAssembleCardSaid : Prop := Claim7.holds Tryd.pinned (.plain (OpenSpec.ofChange fnExactAssembleSpec)) fnExactAssembleCard

/-- THE TIED CARD OF 'laws.FnExactShowInstr'. -/
def fnExactShowInstrCard : Claim7 := { stood := { row := fnExactShowInstrRow, standIns := [], harness := (true, "0e9a5867fcfba9d3e7e5da597f9d221a76d5b1c8bce492a4ebc560dd9f53807d"), looks := true }, kinds := [], alts := [], laidByText := true, laidKinds := [.data, .data, .data, .data, .data], laidTests := true, laidLooks := .later }
def FnExactShowInstrCardSaid : Prop := Claim7.holds Tryd.pinned (.plain (OpenSpec.ofChange fnExactShowInstrSpec)) fnExactShowInstrCard

/-- THE TIED CARD OF 'laws.FnExactShowWord'. -/
def fnExactShowWordCard : Claim7 := { stood := { row := fnExactShowWordRow, standIns := [], harness := (true, "0e9a5867fcfba9d3e7e5da597f9d221a76d5b1c8bce492a4ebc560dd9f53807d"), looks := true }, kinds := [], alts := [], laidByText := true, laidKinds := [.data, .data, .data, .data, .data], laidTests := true, laidLooks := .later }
def FnExactShowWordCardSaid : Prop := Claim7.holds Tryd.pinned (.plain (OpenSpec.ofChange fnExactShowWordSpec)) fnExactShowWordCard

/-- THE TIED CARD OF 'laws.FnExactDisassemble'. -/
def fnExactDisassembleCard : Claim7 := { stood := { row := fnExactDisassembleRow, standIns := [], harness := (true, "0e9a5867fcfba9d3e7e5da597f9d221a76d5b1c8bce492a4ebc560dd9f53807d"), looks := true }, kinds := [], alts := [], laidByText := true, laidKinds := [.data, .data, .data, .data, .data], laidTests := true, laidLooks := .later }
def FnExactDisassembleCardSaid : Prop := Claim7.holds Tryd.pinned (.plain (OpenSpec.ofChange fnExactDisassembleSpec)) fnExactDisassembleCard

/-- THE SECOND FORM's CARD OF 'laws.FnCodec'. -/
def fnCodecUptoCard : Claim7 := { stood := { row := fnCodecUptoRow, standIns := [], harness := (true, "0e9a5867fcfba9d3e7e5da597f9d221a76d5b1c8bce492a4ebc560dd9f53807d"), looks := true }, kinds := [], alts := [], laidByText := true, laidKinds := [.data, .data, .data, .data, .data, .data, .pinned], laidTests := true, laidLooks := .later }
def FnCodecUptoCardSaid : Prop := Claim7.holds Tryd.pinned (.plain (OpenSpec.upto fnCodecSpec)) fnCodecUptoCard

/-- THE SECOND FORM's CARD OF 'laws.FnExactReadLine'. -/
def fnExactReadLineUptoCard : Claim7 := { stood := { row := fnExactReadLineUptoRow, standIns := [], harness := (true, "0e9a5867fcfba9d3e7e5da597f9d221a76d5b1c8bce492a4ebc560dd9f53807d"), looks := true }, kinds := [], alts := [], laidByText := true, laidKinds := [.data, .data, .data, .pinned], laidTests := true, laidLooks := .later }
def FnExactReadLineUptoCardSaid : Prop := Claim7.holds Tryd.pinned (.plain (OpenSpec.upto fnExactReadLineSpec)) fnExactReadLineUptoCard

/-- THE SECOND FORM's CARD OF 'laws.FnExactAssemble'. -/
def fnExactAssembleUptoCard : Claim7 := { stood := { row := fnExactAssembleUptoRow, standIns := [], harness := (true, "0e9a5867fcfba9d3e7e5da597f9d221a76d5b1c8bce492a4ebc560dd9f53807d"), looks := true }, kinds := [], alts := [], laidByText := true, laidKinds := [.data, .handle, .data, .data, .pinned], laidTests := true, laidLooks := .later }
def FnExactAssembleUptoCardSaid : Prop := Claim7.holds Tryd.pinned (.plain (OpenSpec.upto fnExactAssembleSpec)) fnExactAssembleUptoCard

/-- THE SECOND FORM's CARD OF 'laws.FnExactShowInstr'. -/
def fnExactShowInstrUptoCard : Claim7 := { stood := { row := fnExactShowInstrUptoRow, standIns := [], harness := (true, "0e9a5867fcfba9d3e7e5da597f9d221a76d5b1c8bce492a4ebc560dd9f53807d"), looks := true }, kinds := [], alts := [], laidByText := true, laidKinds := [.data, .data, .data, .data, .data], laidTests := true, laidLooks := .later }
def FnExactShowInstrUptoCardSaid : Prop := Claim7.holds Tryd.pinned (.plain (OpenSpec.upto fnExactShowInstrSpec)) fnExactShowInstrUptoCard

/-- THE SECOND FORM's CARD OF 'laws.FnExactShowWord'. -/
def fnExactShowWordUptoCard : Claim7 := { stood := { row := fnExactShowWordUptoRow, standIns := [], harness := (true, "0e9a5867fcfba9d3e7e5da597f9d221a76d5b1c8bce492a4ebc560dd9f53807d"), looks := true }, kinds := [], alts := [], laidByText := true, laidKinds := [.data, .data, .data, .data, .data], laidTests := true, laidLooks := .later }
def FnExactShowWordUptoCardSaid : Prop := Claim7.holds Tryd.pinned (.plain (OpenSpec.upto fnExactShowWordSpec)) fnExactShowWordUptoCard

/-- THE SECOND FORM's CARD OF 'laws.FnExactDisassemble'. -/
def fnExactDisassembleUptoCard : Claim7 := { stood := { row := fnExactDisassembleUptoRow, standIns := [], harness := (true, "0e9a5867fcfba9d3e7e5da597f9d221a76d5b1c8bce492a4ebc560dd9f53807d"), looks := true }, kinds := [], alts := [], laidByText := true, laidKinds := [.data, .data, .data, .data, .data], laidTests := true, laidLooks := .later }
def FnExactDisassembleUptoCardSaid : Prop := Claim7.holds Tryd.pinned (.plain (OpenSpec.upto fnExactDisassembleSpec)) fnExactDisassembleUptoCard
end Rows
end Go.Proofs.YtdjapcfejmhjnaaDoor
