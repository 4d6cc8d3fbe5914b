/-
  DERIVED. GIVEN WITH THE SEED: THE CARDS: each row of YthieilkabcehgaaGreatDoorRows.lean that lists a variable, with what it lists TIED to the program's text (the seventh form; the later family's looks); each row that meets fmt, with fmt's text TOLD by the authors' own Lean function (tested against real Go, not proved from fmt's source: count such statements apart). THE CARD IS WHAT COUNTS. Prove the row's statement (the work); the ties are given (YthieilkabcehgaaGreatDoorTie.lean); close each card by the builder's one call (the guide's Derived/Test/ToyasCard.lean, 'card_holds'). Laid BY PROGRAM, IN A SANDBOX (cutbox-door.mjs). By AI agents, Wed Nov 11 2026. No macro, syntax, notation, axiom, sorry.
-/
import Derived.Test.YthieilkabcehgaaGreatDoorRows
import GoSem.ClaimSeven
namespace Go.Proofs.YthieilkabcehgaaGreatDoor
namespace Rows

/-- THE TIED CARD OF 'laws.FnExactPlan'. -/
def fnExactPlanCard : Claim7 := { stood := { row := fnExactPlanRow, standIns := [], harness := (true, "5f6492a8fcdad569a80c32203e84d4ffe27037316f1e9e9720923f40b34d21e1"), looks := false }, kinds := [], alts := [], laidByText := true, laidKinds := [.data], laidTests := true, laidLooks := .later }
def FnExactPlanCardSaid : Prop := Claim7.holds Tryz.pinned (.plain (OpenSpec.ofChange fnExactPlanSpec)) fnExactPlanCard

/-- THE TIED CARD OF 'laws.FnExactSplit'. -/
def fnExactSplitCard : Claim7 := { stood := { row := fnExactSplitRow, standIns := [], harness := (true, "5f6492a8fcdad569a80c32203e84d4ffe27037316f1e9e9720923f40b34d21e1"), looks := false }, kinds := [], alts := [], laidByText := true, laidKinds := [.data], laidTests := true, laidLooks := .later }
def FnExactSplitCardSaid : Prop := Claim7.holds Tryz.pinned (.plain (OpenSpec.ofChange fnExactSplitSpec)) fnExactSplitCard

/-- THE TIED CARD OF 'laws.FnExactMerge'. -/
def fnExactMergeCard : Claim7 := { stood := { row := fnExactMergeRow, standIns := [], harness := (true, "5f6492a8fcdad569a80c32203e84d4ffe27037316f1e9e9720923f40b34d21e1"), looks := false }, kinds := [], alts := [], laidByText := true, laidKinds := [.data], laidTests := true, laidLooks := .later }
def FnExactMergeCardSaid : Prop := Claim7.holds Tryz.pinned (.plain (OpenSpec.ofChange fnExactMergeSpec)) fnExactMergeCard

/-- THE TIED CARD OF 'laws.FnExactLatency'. -/
def fnExactLatencyCard : Claim7 := { stood := { row := fnExactLatencyRow, standIns := [], harness := (true, "5f6492a8fcdad569a80c32203e84d4ffe27037316f1e9e9720923f40b34d21e1"), looks := false }, kinds := [], alts := [], laidByText := true, laidKinds := [.data], laidTests := true, laidLooks := .later }
def FnExactLatencyCardSaid : Prop := Claim7.holds Tryz.pinned (.plain (OpenSpec.ofChange fnExactLatencySpec)) fnExactLatencyCard

/-- THE TIED CARD OF 'laws.FnExactEven'. -/
def fnExactEvenCard : Claim7 := { stood := { row := fnExactEvenRow, standIns := [], harness := (true, "5f6492a8fcdad569a80c32203e84d4ffe27037316f1e9e9720923f40b34d21e1"), looks := false }, kinds := [], alts := [], laidByText := true, laidKinds := [.data], laidTests := true, laidLooks := .later }
def FnExactEvenCardSaid : Prop := Claim7.holds Tryz.pinned (.plain (OpenSpec.ofChange fnExactEvenSpec)) fnExactEvenCard

/-- THE SECOND FORM's CARD OF 'laws.FnExactPlan'. -/
def fnExactPlanUptoCard : Claim7 := { stood := { row := fnExactPlanUptoRow, standIns := [], harness := (true, "5f6492a8fcdad569a80c32203e84d4ffe27037316f1e9e9720923f40b34d21e1"), looks := false }, kinds := [], alts := [], laidByText := true, laidKinds := [.data], laidTests := true, laidLooks := .later }
def FnExactPlanUptoCardSaid : Prop := Claim7.holds Tryz.pinned (.plain (OpenSpec.upto fnExactPlanSpec)) fnExactPlanUptoCard

/-- THE SECOND FORM's CARD OF 'laws.FnExactSplit'. -/
def fnExactSplitUptoCard : Claim7 := { stood := { row := fnExactSplitUptoRow, standIns := [], harness := (true, "5f6492a8fcdad569a80c32203e84d4ffe27037316f1e9e9720923f40b34d21e1"), looks := false }, kinds := [], alts := [], laidByText := true, laidKinds := [.data], laidTests := true, laidLooks := .later }
def FnExactSplitUptoCardSaid : Prop := Claim7.holds Tryz.pinned (.plain (OpenSpec.upto fnExactSplitSpec)) fnExactSplitUptoCard

/-- THE SECOND FORM's CARD OF 'laws.FnExactMerge'. -/
def fnExactMergeUptoCard : Claim7 := { stood := { row := fnExactMergeUptoRow, standIns := [], harness := (true, "5f6492a8fcdad569a80c32203e84d4ffe27037316f1e9e9720923f40b34d21e1"), looks := false }, kinds := [], alts := [], laidByText := true, laidKinds := [.data], laidTests := true, laidLooks := .later }
def FnExactMergeUptoCardSaid : Prop := Claim7.holds Tryz.pinned (.plain (OpenSpec.upto fnExactMergeSpec)) fnExactMergeUptoCard

/-- THE SECOND FORM's CARD OF 'laws.FnExactLatency'. -/
def fnExactLatencyUptoCard : Claim7 := { stood := { row := fnExactLatencyUptoRow, standIns := [], harness := (true, "5f6492a8fcdad569a80c32203e84d4ffe27037316f1e9e9720923f40b34d21e1"), looks := false }, kinds := [], alts := [], laidByText := true, laidKinds := [.data], laidTests := true, laidLooks := .later }
def FnExactLatencyUptoCardSaid : Prop := Claim7.holds Tryz.pinned (.plain (OpenSpec.upto fnExactLatencySpec)) fnExactLatencyUptoCard

/-- THE SECOND FORM's CARD OF 'laws.FnExactEven'. -/
def fnExactEvenUptoCard : Claim7 := { stood := { row := fnExactEvenUptoRow, standIns := [], harness := (true, "5f6492a8fcdad569a80c32203e84d4ffe27037316f1e9e9720923f40b34d21e1"), looks := false }, kinds := [], alts := [], laidByText := true, laidKinds := [.data], laidTests := true, laidLooks := .later }
def FnExactEvenUptoCardSaid : Prop := Claim7.holds Tryz.pinned (.plain (OpenSpec.upto fnExactEvenSpec)) fnExactEvenUptoCard
end Rows
end Go.Proofs.YthieilkabcehgaaGreatDoor
