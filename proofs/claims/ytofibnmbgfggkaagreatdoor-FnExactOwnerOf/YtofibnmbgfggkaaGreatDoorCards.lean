/-
  DERIVED. GIVEN WITH THE SEED: THE CARDS: each row of YtofibnmbgfggkaaGreatDoorRows.lean that lists a variable, with what it lists TIED to the program's text (the seventh form; the later family's looks); each row that meets fmt, with fmt's text TOLD by the authors' own Lean function (tested against real Go, not proved from fmt's source: count such statements apart). THE CARD IS WHAT COUNTS. Prove the row's statement (the work); the ties are given (YtofibnmbgfggkaaGreatDoorTie.lean); close each card by the builder's one call (the guide's Derived/Test/ToyasCard.lean, 'card_holds'). Laid BY PROGRAM, IN A SANDBOX (cutbox-door.mjs). By AI agents, Wed Nov 11 2026. No macro, syntax, notation, axiom, sorry.
-/
import Derived.Test.YtofibnmbgfggkaaGreatDoorRows
import GoSem.ClaimSeven
namespace Go.Proofs.YtofibnmbgfggkaaGreatDoor
namespace Rows

/-- THE TIED CARD OF 'laws.FnExactSound'. -/
def fnExactSoundCard : Claim7 := { stood := { row := fnExactSoundRow, standIns := [], harness := (true, "6bddd0d79147fe6536874d7dd9904be9c834d9158135f7a18280973cc038e7ad"), looks := false }, kinds := [], alts := [], laidByText := true, laidKinds := [.data], laidTests := true, laidLooks := .later }
def FnExactSoundCardSaid : Prop := Claim7.holds Tryz.pinned (.plain (OpenSpec.ofChange fnExactSoundSpec)) fnExactSoundCard

/-- THE TIED CARD OF 'laws.FnExactGapOf'. -/
def fnExactGapOfCard : Claim7 := { stood := { row := fnExactGapOfRow, standIns := [], harness := (true, "6bddd0d79147fe6536874d7dd9904be9c834d9158135f7a18280973cc038e7ad"), looks := false }, kinds := [], alts := [], laidByText := true, laidKinds := [.data], laidTests := true, laidLooks := .later }
def FnExactGapOfCardSaid : Prop := Claim7.holds Tryz.pinned (.plain (OpenSpec.ofChange fnExactGapOfSpec)) fnExactGapOfCard

/-- THE TIED CARD OF 'laws.FnExactShareOf'. -/
def fnExactShareOfCard : Claim7 := { stood := { row := fnExactShareOfRow, standIns := [], harness := (true, "6bddd0d79147fe6536874d7dd9904be9c834d9158135f7a18280973cc038e7ad"), looks := false }, kinds := [], alts := [], laidByText := true, laidKinds := [.data], laidTests := true, laidLooks := .later }
def FnExactShareOfCardSaid : Prop := Claim7.holds Tryz.pinned (.plain (OpenSpec.ofChange fnExactShareOfSpec)) fnExactShareOfCard

/-- THE TIED CARD OF 'laws.FnExactPartNamed'. -/
def fnExactPartNamedCard : Claim7 := { stood := { row := fnExactPartNamedRow, standIns := [], harness := (true, "6bddd0d79147fe6536874d7dd9904be9c834d9158135f7a18280973cc038e7ad"), looks := false }, kinds := [], alts := [], laidByText := true, laidKinds := [.data], laidTests := true, laidLooks := .later }
def FnExactPartNamedCardSaid : Prop := Claim7.holds Tryz.pinned (.plain (OpenSpec.ofChange fnExactPartNamedSpec)) fnExactPartNamedCard

/-- THE TIED CARD OF 'laws.FnExactOwnerOf'. -/
def fnExactOwnerOfCard : Claim7 := { stood := { row := fnExactOwnerOfRow, standIns := [], harness := (true, "6bddd0d79147fe6536874d7dd9904be9c834d9158135f7a18280973cc038e7ad"), looks := false }, kinds := [], alts := [], laidByText := true, laidKinds := [.data], laidTests := true, laidLooks := .later }
def FnExactOwnerOfCardSaid : Prop := Claim7.holds Tryz.pinned (.plain (OpenSpec.ofChange fnExactOwnerOfSpec)) fnExactOwnerOfCard

/-- THE SECOND FORM's CARD OF 'laws.FnExactSound'. -/
def fnExactSoundUptoCard : Claim7 := { stood := { row := fnExactSoundUptoRow, standIns := [], harness := (true, "6bddd0d79147fe6536874d7dd9904be9c834d9158135f7a18280973cc038e7ad"), looks := false }, kinds := [], alts := [], laidByText := true, laidKinds := [.data], laidTests := true, laidLooks := .later }
def FnExactSoundUptoCardSaid : Prop := Claim7.holds Tryz.pinned (.plain (OpenSpec.upto fnExactSoundSpec)) fnExactSoundUptoCard

/-- THE SECOND FORM's CARD OF 'laws.FnExactGapOf'. -/
def fnExactGapOfUptoCard : Claim7 := { stood := { row := fnExactGapOfUptoRow, standIns := [], harness := (true, "6bddd0d79147fe6536874d7dd9904be9c834d9158135f7a18280973cc038e7ad"), looks := false }, kinds := [], alts := [], laidByText := true, laidKinds := [.data], laidTests := true, laidLooks := .later }
def FnExactGapOfUptoCardSaid : Prop := Claim7.holds Tryz.pinned (.plain (OpenSpec.upto fnExactGapOfSpec)) fnExactGapOfUptoCard

/-- THE SECOND FORM's CARD OF 'laws.FnExactShareOf'. -/
def fnExactShareOfUptoCard : Claim7 := { stood := { row := fnExactShareOfUptoRow, standIns := [], harness := (true, "6bddd0d79147fe6536874d7dd9904be9c834d9158135f7a18280973cc038e7ad"), looks := false }, kinds := [], alts := [], laidByText := true, laidKinds := [.data], laidTests := true, laidLooks := .later }
def FnExactShareOfUptoCardSaid : Prop := Claim7.holds Tryz.pinned (.plain (OpenSpec.upto fnExactShareOfSpec)) fnExactShareOfUptoCard

/-- THE SECOND FORM's CARD OF 'laws.FnExactPartNamed'. -/
def fnExactPartNamedUptoCard : Claim7 := { stood := { row := fnExactPartNamedUptoRow, standIns := [], harness := (true, "6bddd0d79147fe6536874d7dd9904be9c834d9158135f7a18280973cc038e7ad"), looks := false }, kinds := [], alts := [], laidByText := true, laidKinds := [.data], laidTests := true, laidLooks := .later }
def FnExactPartNamedUptoCardSaid : Prop := Claim7.holds Tryz.pinned (.plain (OpenSpec.upto fnExactPartNamedSpec)) fnExactPartNamedUptoCard

/-- THE SECOND FORM's CARD OF 'laws.FnExactOwnerOf'. -/
def fnExactOwnerOfUptoCard : Claim7 := { stood := { row := fnExactOwnerOfUptoRow, standIns := [], harness := (true, "6bddd0d79147fe6536874d7dd9904be9c834d9158135f7a18280973cc038e7ad"), looks := false }, kinds := [], alts := [], laidByText := true, laidKinds := [.data], laidTests := true, laidLooks := .later }
def FnExactOwnerOfUptoCardSaid : Prop := Claim7.holds Tryz.pinned (.plain (OpenSpec.upto fnExactOwnerOfSpec)) fnExactOwnerOfUptoCard
end Rows
end Go.Proofs.YtofibnmbgfggkaaGreatDoor
