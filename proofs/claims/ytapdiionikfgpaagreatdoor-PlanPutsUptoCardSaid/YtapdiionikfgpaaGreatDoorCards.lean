/-
  DERIVED. GIVEN WITH THE SEED: THE CARDS: each row of YtapdiionikfgpaaGreatDoorRows.lean that lists a variable, with what it lists TIED to the program's text (the seventh form; the later family's looks); each row that meets fmt, with fmt's text TOLD by the authors' own Lean function (tested against real Go, not proved from fmt's source: count such statements apart). THE CARD IS WHAT COUNTS. Prove the row's statement (the work); the ties are given (YtapdiionikfgpaaGreatDoorTie.lean); close each card by the builder's one call (the guide's Derived/Test/ToyasCard.lean, 'card_holds'). Laid BY PROGRAM, IN A SANDBOX (cutbox-door.mjs). By AI agents, Wed Nov 11 2026. No macro, syntax, notation, axiom, sorry.
-/
import Derived.Test.YtapdiionikfgpaaGreatDoorRows
import GoSem.ClaimSeven
namespace Go.Proofs.YtapdiionikfgpaaGreatDoor
namespace Rows

/-- THE TIED CARD OF 'bulwarklaw12.PlanReads'. -/
def planReadsCard : Claim7 := { stood := { row := planReadsRow, standIns := [], harness := (true, "c0972629b6bd2db41de3ab5d3b75b9ac74dd0a082c295833e1c4b11a5e9a6521"), looks := true }, kinds := [], alts := [], laidByText := true, laidKinds := [.data, .data, .data, .data, .sentinel, .sentinel, .pinned], laidTests := true, laidLooks := .later }
def PlanReadsCardSaid : Prop := Claim7.holds Tryz.pinned (.plain (OpenSpec.ofChange planReadsSpec)) planReadsCard

/-- THE TIED CARD OF 'bulwarklaw12.PlanPuts'. -/
def planPutsCard : Claim7 := { stood := { row := planPutsRow, standIns := [], harness := (true, "c0972629b6bd2db41de3ab5d3b75b9ac74dd0a082c295833e1c4b11a5e9a6521"), looks := true }, kinds := [], alts := [], laidByText := true, laidKinds := [.data, .data, .data, .data, .sentinel, .sentinel, .pinned], laidTests := true, laidLooks := .later }
def PlanPutsCardSaid : Prop := Claim7.holds Tryz.pinned (.plain (OpenSpec.ofChange planPutsSpec)) planPutsCard

/-- THE TIED CARD OF 'bulwarklaw12.PlanBack'. -/
def planBackCard : Claim7 := { stood := { row := planBackRow, standIns := [], harness := (true, "c0972629b6bd2db41de3ab5d3b75b9ac74dd0a082c295833e1c4b11a5e9a6521"), looks := true }, kinds := [], alts := [], laidByText := true, laidKinds := [.data, .data, .data, .data, .sentinel, .sentinel, .pinned], laidTests := true, laidLooks := .later }
def PlanBackCardSaid : Prop := Claim7.holds Tryz.pinned (.plain (OpenSpec.ofChange planBackSpec)) planBackCard

/-- THE TIED CARD OF 'bulwarklaw12.PlanLess'. -/
def planLessCard : Claim7 := { stood := { row := planLessRow, standIns := [], harness := (true, "c0972629b6bd2db41de3ab5d3b75b9ac74dd0a082c295833e1c4b11a5e9a6521"), looks := true }, kinds := [], alts := [], laidByText := true, laidKinds := [.data, .data, .data, .data, .sentinel, .sentinel, .pinned], laidTests := true, laidLooks := .later }
def PlanLessCardSaid : Prop := Claim7.holds Tryz.pinned (.plain (OpenSpec.ofChange planLessSpec)) planLessCard

/-- THE TIED CARD OF 'bulwarklaw12.PlanFresh'. -/
def planFreshCard : Claim7 := { stood := { row := planFreshRow, standIns := [], harness := (true, "c0972629b6bd2db41de3ab5d3b75b9ac74dd0a082c295833e1c4b11a5e9a6521"), looks := true }, kinds := [], alts := [], laidByText := true, laidKinds := [.data, .data, .data, .data, .sentinel, .sentinel, .pinned], laidTests := true, laidLooks := .later }
def PlanFreshCardSaid : Prop := Claim7.holds Tryz.pinned (.plain (OpenSpec.ofChange planFreshSpec)) planFreshCard

/-- THE SECOND FORM's CARD OF 'bulwarklaw12.PlanReads'. -/
def planReadsUptoCard : Claim7 := { stood := { row := planReadsUptoRow, standIns := [], harness := (true, "c0972629b6bd2db41de3ab5d3b75b9ac74dd0a082c295833e1c4b11a5e9a6521"), looks := true }, kinds := [], alts := [], laidByText := true, laidKinds := [.data, .data, .data, .data, .sentinel, .sentinel, .pinned], laidTests := true, laidLooks := .later }
def PlanReadsUptoCardSaid : Prop := Claim7.holds Tryz.pinned (.plain (OpenSpec.upto planReadsSpec)) planReadsUptoCard

/-- THE SECOND FORM's CARD OF 'bulwarklaw12.PlanPuts'. -/
def planPutsUptoCard : Claim7 := { stood := { row := planPutsUptoRow, standIns := [], harness := (true, "c0972629b6bd2db41de3ab5d3b75b9ac74dd0a082c295833e1c4b11a5e9a6521"), looks := true }, kinds := [], alts := [], laidByText := true, laidKinds := [.data, .data, .data, .data, .sentinel, .sentinel, .pinned], laidTests := true, laidLooks := .later }
def PlanPutsUptoCardSaid : Prop := Claim7.holds Tryz.pinned (.plain (OpenSpec.upto planPutsSpec)) planPutsUptoCard

/-- THE SECOND FORM's CARD OF 'bulwarklaw12.PlanBack'. -/
def planBackUptoCard : Claim7 := { stood := { row := planBackUptoRow, standIns := [], harness := (true, "c0972629b6bd2db41de3ab5d3b75b9ac74dd0a082c295833e1c4b11a5e9a6521"), looks := true }, kinds := [], alts := [], laidByText := true, laidKinds := [.data, .data, .data, .data, .sentinel, .sentinel, .pinned], laidTests := true, laidLooks := .later }
def PlanBackUptoCardSaid : Prop := Claim7.holds Tryz.pinned (.plain (OpenSpec.upto planBackSpec)) planBackUptoCard

/-- THE SECOND FORM's CARD OF 'bulwarklaw12.PlanLess'. -/
def planLessUptoCard : Claim7 := { stood := { row := planLessUptoRow, standIns := [], harness := (true, "c0972629b6bd2db41de3ab5d3b75b9ac74dd0a082c295833e1c4b11a5e9a6521"), looks := true }, kinds := [], alts := [], laidByText := true, laidKinds := [.data, .data, .data, .data, .sentinel, .sentinel, .pinned], laidTests := true, laidLooks := .later }
def PlanLessUptoCardSaid : Prop := Claim7.holds Tryz.pinned (.plain (OpenSpec.upto planLessSpec)) planLessUptoCard

/-- THE SECOND FORM's CARD OF 'bulwarklaw12.PlanFresh'. -/
def planFreshUptoCard : Claim7 := { stood := { row := planFreshUptoRow, standIns := [], harness := (true, "c0972629b6bd2db41de3ab5d3b75b9ac74dd0a082c295833e1c4b11a5e9a6521"), looks := true }, kinds := [], alts := [], laidByText := true, laidKinds := [.data, .data, .data, .data, .sentinel, .sentinel, .pinned], laidTests := true, laidLooks := .later }
def PlanFreshUptoCardSaid : Prop := Claim7.holds Tryz.pinned (.plain (OpenSpec.upto planFreshSpec)) planFreshUptoCard
end Rows
end Go.Proofs.YtapdiionikfgpaaGreatDoor
