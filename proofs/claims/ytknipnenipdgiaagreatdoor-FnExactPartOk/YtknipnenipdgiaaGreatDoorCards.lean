/-
  DERIVED. GIVEN WITH THE SEED: THE CARDS: each row of YtknipnenipdgiaaGreatDoorRows.lean that lists a variable, with what it lists TIED to the program's text (the seventh form; the later family's looks); each row that meets fmt, with fmt's text TOLD by the authors' own Lean function (tested against real Go, not proved from fmt's source: count such statements apart). THE CARD IS WHAT COUNTS. Prove the row's statement (the work); the ties are given (YtknipnenipdgiaaGreatDoorTie.lean); close each card by the builder's one call (the guide's Derived/Test/ToyasCard.lean, 'card_holds'). Laid BY PROGRAM, IN A SANDBOX (cutbox-door.mjs). By AI agents, Wed Nov 11 2026. No macro, syntax, notation, axiom, sorry.
-/
import Derived.Test.YtknipnenipdgiaaGreatDoorRows
import GoSem.ClaimSeven
namespace Go.Proofs.YtknipnenipdgiaaGreatDoor
namespace Rows

/-- THE TIED CARD OF 'laws.FnExactPartOk'. -/
def fnExactPartOkCard : Claim7 := { stood := { row := fnExactPartOkRow, standIns := [], harness := (true, "0c2229b160f7c5b747789dae6081dbb84a68df7f1fd70aec2ee0abb22fed8eaa"), looks := false }, kinds := [], alts := [], laidByText := true, laidKinds := [.data], laidTests := true, laidLooks := .later }
def FnExactPartOkCardSaid : Prop := Claim7.holds Tryz.pinned (.plain (OpenSpec.ofChange fnExactPartOkSpec)) fnExactPartOkCard

/-- THE TIED CARD OF 'laws.FnExactPartBoot'. -/
def fnExactPartBootCard : Claim7 := { stood := { row := fnExactPartBootRow, standIns := [], harness := (true, "0c2229b160f7c5b747789dae6081dbb84a68df7f1fd70aec2ee0abb22fed8eaa"), looks := false }, kinds := [], alts := [], laidByText := true, laidKinds := [.data], laidTests := true, laidLooks := .later }
def FnExactPartBootCardSaid : Prop := Claim7.holds Tryz.pinned (.plain (OpenSpec.ofChange fnExactPartBootSpec)) fnExactPartBootCard

/-- THE TIED CARD OF 'laws.FnExactPartInput'. -/
def fnExactPartInputCard : Claim7 := { stood := { row := fnExactPartInputRow, standIns := [], harness := (true, "0c2229b160f7c5b747789dae6081dbb84a68df7f1fd70aec2ee0abb22fed8eaa"), looks := false }, kinds := [], alts := [], laidByText := true, laidKinds := [.data], laidTests := true, laidLooks := .later }
def FnExactPartInputCardSaid : Prop := Claim7.holds Tryz.pinned (.plain (OpenSpec.ofChange fnExactPartInputSpec)) fnExactPartInputCard

/-- THE TIED CARD OF 'laws.FnExactPartRestart'. -/
def fnExactPartRestartCard : Claim7 := { stood := { row := fnExactPartRestartRow, standIns := [], harness := (true, "0c2229b160f7c5b747789dae6081dbb84a68df7f1fd70aec2ee0abb22fed8eaa"), looks := false }, kinds := [], alts := [], laidByText := true, laidKinds := [.data], laidTests := true, laidLooks := .later }
def FnExactPartRestartCardSaid : Prop := Claim7.holds Tryz.pinned (.plain (OpenSpec.ofChange fnExactPartRestartSpec)) fnExactPartRestartCard

/-- THE TIED CARD OF 'laws.FnExactPartSlot'. -/
def fnExactPartSlotCard : Claim7 := { stood := { row := fnExactPartSlotRow, standIns := [], harness := (true, "0c2229b160f7c5b747789dae6081dbb84a68df7f1fd70aec2ee0abb22fed8eaa"), looks := false }, kinds := [], alts := [], laidByText := true, laidKinds := [.data], laidTests := true, laidLooks := .later }
def FnExactPartSlotCardSaid : Prop := Claim7.holds Tryz.pinned (.plain (OpenSpec.ofChange fnExactPartSlotSpec)) fnExactPartSlotCard

/-- THE SECOND FORM's CARD OF 'laws.FnExactPartOk'. -/
def fnExactPartOkUptoCard : Claim7 := { stood := { row := fnExactPartOkUptoRow, standIns := [], harness := (true, "0c2229b160f7c5b747789dae6081dbb84a68df7f1fd70aec2ee0abb22fed8eaa"), looks := false }, kinds := [], alts := [], laidByText := true, laidKinds := [.data], laidTests := true, laidLooks := .later }
def FnExactPartOkUptoCardSaid : Prop := Claim7.holds Tryz.pinned (.plain (OpenSpec.upto fnExactPartOkSpec)) fnExactPartOkUptoCard

/-- THE SECOND FORM's CARD OF 'laws.FnExactPartBoot'. -/
def fnExactPartBootUptoCard : Claim7 := { stood := { row := fnExactPartBootUptoRow, standIns := [], harness := (true, "0c2229b160f7c5b747789dae6081dbb84a68df7f1fd70aec2ee0abb22fed8eaa"), looks := false }, kinds := [], alts := [], laidByText := true, laidKinds := [.data], laidTests := true, laidLooks := .later }
def FnExactPartBootUptoCardSaid : Prop := Claim7.holds Tryz.pinned (.plain (OpenSpec.upto fnExactPartBootSpec)) fnExactPartBootUptoCard

/-- THE SECOND FORM's CARD OF 'laws.FnExactPartInput'. -/
def fnExactPartInputUptoCard : Claim7 := { stood := { row := fnExactPartInputUptoRow, standIns := [], harness := (true, "0c2229b160f7c5b747789dae6081dbb84a68df7f1fd70aec2ee0abb22fed8eaa"), looks := false }, kinds := [], alts := [], laidByText := true, laidKinds := [.data], laidTests := true, laidLooks := .later }
def FnExactPartInputUptoCardSaid : Prop := Claim7.holds Tryz.pinned (.plain (OpenSpec.upto fnExactPartInputSpec)) fnExactPartInputUptoCard

/-- THE SECOND FORM's CARD OF 'laws.FnExactPartRestart'. -/
def fnExactPartRestartUptoCard : Claim7 := { stood := { row := fnExactPartRestartUptoRow, standIns := [], harness := (true, "0c2229b160f7c5b747789dae6081dbb84a68df7f1fd70aec2ee0abb22fed8eaa"), looks := false }, kinds := [], alts := [], laidByText := true, laidKinds := [.data], laidTests := true, laidLooks := .later }
def FnExactPartRestartUptoCardSaid : Prop := Claim7.holds Tryz.pinned (.plain (OpenSpec.upto fnExactPartRestartSpec)) fnExactPartRestartUptoCard

/-- THE SECOND FORM's CARD OF 'laws.FnExactPartSlot'. -/
def fnExactPartSlotUptoCard : Claim7 := { stood := { row := fnExactPartSlotUptoRow, standIns := [], harness := (true, "0c2229b160f7c5b747789dae6081dbb84a68df7f1fd70aec2ee0abb22fed8eaa"), looks := false }, kinds := [], alts := [], laidByText := true, laidKinds := [.data], laidTests := true, laidLooks := .later }
def FnExactPartSlotUptoCardSaid : Prop := Claim7.holds Tryz.pinned (.plain (OpenSpec.upto fnExactPartSlotSpec)) fnExactPartSlotUptoCard
end Rows
end Go.Proofs.YtknipnenipdgiaaGreatDoor
