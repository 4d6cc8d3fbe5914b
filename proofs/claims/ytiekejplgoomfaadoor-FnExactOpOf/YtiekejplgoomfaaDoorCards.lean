/-
  DERIVED. GIVEN WITH THE SEED: THE CARDS: each row of YtiekejplgoomfaaDoorRows.lean that lists a variable, with what it lists TIED to the program's text (the seventh form; the later family's looks); each row that meets fmt, with fmt's text TOLD by the authors' own Lean function (tested against real Go, not proved from fmt's source: count such statements apart). THE CARD IS WHAT COUNTS. Prove the row's statement (the work); the ties are given (YtiekejplgoomfaaDoorTie.lean); close each card by the builder's one call (the guide's Derived/Test/ToyasCard.lean, 'card_holds'). Laid BY PROGRAM, IN A SANDBOX (cutbox-door.mjs). By AI agents, Wed Nov 11 2026. No macro, syntax, notation, axiom, sorry.
-/
import Derived.Test.YtiekejplgoomfaaDoorRows
import GoSem.ClaimSeven
namespace Go.Proofs.YtiekejplgoomfaaDoor
namespace Rows

/-- THE TIED CARD OF 'laws.FnExactFormOf'. -/
def fnExactFormOfCard : Claim7 := { stood := { row := fnExactFormOfRow, standIns := [], harness := (true, "94c7ed5bde66df8b3f6272aea37d0f0177b8ed2dd29bebc01012d24a2e41d2d3"), looks := false }, kinds := [], alts := [], laidByText := true, laidKinds := [.data], laidTests := true, laidLooks := .later }
def FnExactFormOfCardSaid : Prop := Claim7.holds Tryd.pinned (.plain (OpenSpec.ofChange fnExactFormOfSpec)) fnExactFormOfCard

/-- THE TIED CARD OF 'laws.FnExactInstrOk'. -/
def fnExactInstrOkCard : Claim7 := { stood := { row := fnExactInstrOkRow, standIns := [], harness := (true, "94c7ed5bde66df8b3f6272aea37d0f0177b8ed2dd29bebc01012d24a2e41d2d3"), looks := false }, kinds := [], alts := [], laidByText := true, laidKinds := [.data], laidTests := true, laidLooks := .later }
def FnExactInstrOkCardSaid : Prop := Claim7.holds Tryd.pinned (.plain (OpenSpec.ofChange fnExactInstrOkSpec)) fnExactInstrOkCard

/-- THE TIED CARD OF 'laws.FnExactEncode'. -/
def fnExactEncodeCard : Claim7 := { stood := { row := fnExactEncodeRow, standIns := [], harness := (true, "94c7ed5bde66df8b3f6272aea37d0f0177b8ed2dd29bebc01012d24a2e41d2d3"), looks := false }, kinds := [], alts := [], laidByText := true, laidKinds := [.data], laidTests := true, laidLooks := .later }
def FnExactEncodeCardSaid : Prop := Claim7.holds Tryd.pinned (.plain (OpenSpec.ofChange fnExactEncodeSpec)) fnExactEncodeCard

/-- THE TIED CARD OF 'laws.FnExactDecode'. -/
def fnExactDecodeCard : Claim7 := { stood := { row := fnExactDecodeRow, standIns := [], harness := (true, "94c7ed5bde66df8b3f6272aea37d0f0177b8ed2dd29bebc01012d24a2e41d2d3"), looks := false }, kinds := [], alts := [], laidByText := true, laidKinds := [.data], laidTests := true, laidLooks := .later }
def FnExactDecodeCardSaid : Prop := Claim7.holds Tryd.pinned (.plain (OpenSpec.ofChange fnExactDecodeSpec)) fnExactDecodeCard

/-- THE TIED CARD OF 'laws.FnExactOpName'. -/
def fnExactOpNameCard : Claim7 := { stood := { row := fnExactOpNameRow, standIns := [], harness := (true, "94c7ed5bde66df8b3f6272aea37d0f0177b8ed2dd29bebc01012d24a2e41d2d3"), looks := false }, kinds := [], alts := [], laidByText := true, laidKinds := [.data], laidTests := true, laidLooks := .later }
def FnExactOpNameCardSaid : Prop := Claim7.holds Tryd.pinned (.plain (OpenSpec.ofChange fnExactOpNameSpec)) fnExactOpNameCard

/-- THE TIED CARD OF 'laws.FnExactOpOf'. -/
def fnExactOpOfCard : Claim7 := { stood := { row := fnExactOpOfRow, standIns := [], harness := (true, "94c7ed5bde66df8b3f6272aea37d0f0177b8ed2dd29bebc01012d24a2e41d2d3"), looks := false }, kinds := [], alts := [], laidByText := true, laidKinds := [.data], laidTests := true, laidLooks := .later }
def FnExactOpOfCardSaid : Prop := Claim7.holds Tryd.pinned (.plain (OpenSpec.ofChange fnExactOpOfSpec)) fnExactOpOfCard

/-- THE SECOND FORM's CARD OF 'laws.FnExactFormOf'. -/
def fnExactFormOfUptoCard : Claim7 := { stood := { row := fnExactFormOfUptoRow, standIns := [], harness := (true, "94c7ed5bde66df8b3f6272aea37d0f0177b8ed2dd29bebc01012d24a2e41d2d3"), looks := false }, kinds := [], alts := [], laidByText := true, laidKinds := [.data], laidTests := true, laidLooks := .later }
def FnExactFormOfUptoCardSaid : Prop := Claim7.holds Tryd.pinned (.plain (OpenSpec.upto fnExactFormOfSpec)) fnExactFormOfUptoCard

/-- THE SECOND FORM's CARD OF 'laws.FnExactInstrOk'. -/
def fnExactInstrOkUptoCard : Claim7 := { stood := { row := fnExactInstrOkUptoRow, standIns := [], harness := (true, "94c7ed5bde66df8b3f6272aea37d0f0177b8ed2dd29bebc01012d24a2e41d2d3"), looks := false }, kinds := [], alts := [], laidByText := true, laidKinds := [.data], laidTests := true, laidLooks := .later }
def FnExactInstrOkUptoCardSaid : Prop := Claim7.holds Tryd.pinned (.plain (OpenSpec.upto fnExactInstrOkSpec)) fnExactInstrOkUptoCard

/-- THE SECOND FORM's CARD OF 'laws.FnExactEncode'. -/
def fnExactEncodeUptoCard : Claim7 := { stood := { row := fnExactEncodeUptoRow, standIns := [], harness := (true, "94c7ed5bde66df8b3f6272aea37d0f0177b8ed2dd29bebc01012d24a2e41d2d3"), looks := false }, kinds := [], alts := [], laidByText := true, laidKinds := [.data], laidTests := true, laidLooks := .later }
def FnExactEncodeUptoCardSaid : Prop := Claim7.holds Tryd.pinned (.plain (OpenSpec.upto fnExactEncodeSpec)) fnExactEncodeUptoCard

/-- THE SECOND FORM's CARD OF 'laws.FnExactDecode'. -/
def fnExactDecodeUptoCard : Claim7 := { stood := { row := fnExactDecodeUptoRow, standIns := [], harness := (true, "94c7ed5bde66df8b3f6272aea37d0f0177b8ed2dd29bebc01012d24a2e41d2d3"), looks := false }, kinds := [], alts := [], laidByText := true, laidKinds := [.data], laidTests := true, laidLooks := .later }
def FnExactDecodeUptoCardSaid : Prop := Claim7.holds Tryd.pinned (.plain (OpenSpec.upto fnExactDecodeSpec)) fnExactDecodeUptoCard

/-- THE SECOND FORM's CARD OF 'laws.FnExactOpName'. -/
def fnExactOpNameUptoCard : Claim7 := { stood := { row := fnExactOpNameUptoRow, standIns := [], harness := (true, "94c7ed5bde66df8b3f6272aea37d0f0177b8ed2dd29bebc01012d24a2e41d2d3"), looks := false }, kinds := [], alts := [], laidByText := true, laidKinds := [.data], laidTests := true, laidLooks := .later }
def FnExactOpNameUptoCardSaid : Prop := Claim7.holds Tryd.pinned (.plain (OpenSpec.upto fnExactOpNameSpec)) fnExactOpNameUptoCard

/-- THE SECOND FORM's CARD OF 'laws.FnExactOpOf'. -/
def fnExactOpOfUptoCard : Claim7 := { stood := { row := fnExactOpOfUptoRow, standIns := [], harness := (true, "94c7ed5bde66df8b3f6272aea37d0f0177b8ed2dd29bebc01012d24a2e41d2d3"), looks := false }, kinds := [], alts := [], laidByText := true, laidKinds := [.data], laidTests := true, laidLooks := .later }
def FnExactOpOfUptoCardSaid : Prop := Claim7.holds Tryd.pinned (.plain (OpenSpec.upto fnExactOpOfSpec)) fnExactOpOfUptoCard
end Rows
end Go.Proofs.YtiekejplgoomfaaDoor
