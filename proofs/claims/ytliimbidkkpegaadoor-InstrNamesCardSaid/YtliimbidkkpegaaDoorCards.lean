/-
  DERIVED. GIVEN WITH THE SEED: THE CARDS: each row of YtliimbidkkpegaaDoorRows.lean that lists a variable, with what it lists TIED to the program's text (the seventh form; the later family's looks); each row that meets fmt, with fmt's text TOLD by the authors' own Lean function (tested against real Go, not proved from fmt's source: count such statements apart). THE CARD IS WHAT COUNTS. Prove the row's statement (the work); the ties are given (YtliimbidkkpegaaDoorTie.lean); close each card by the builder's one call (the guide's Derived/Test/ToyasCard.lean, 'card_holds'). Laid BY PROGRAM, IN A SANDBOX (cutbox-door.mjs). By AI agents, Wed Nov 11 2026. No macro, syntax, notation, axiom, sorry.
-/
import Derived.Test.YtliimbidkkpegaaDoorRows
import GoSem.ClaimSeven
namespace Go.Proofs.YtliimbidkkpegaaDoor
namespace Rows

/-- THE TIED CARD OF 'bulwarklaw05.InstrPuts'. -/
def instrPutsCard : Claim7 := { stood := { row := instrPutsRow, standIns := [], harness := (true, "7dc9b343af007c53e77658584843a5fc55fa9310a7febed2bb6a6010e66d74d3"), looks := false }, kinds := [], alts := [], laidByText := true, laidKinds := [.data, .data, .data], laidTests := true, laidLooks := .later }
def InstrPutsCardSaid : Prop := Claim7.holds Tryd.pinned (.plain (OpenSpec.ofChange instrPutsSpec)) instrPutsCard

/-- THE TIED CARD OF 'bulwarklaw05.InstrNames'. -/
def instrNamesCard : Claim7 := { stood := { row := instrNamesRow, standIns := [], harness := (true, "7dc9b343af007c53e77658584843a5fc55fa9310a7febed2bb6a6010e66d74d3"), looks := false }, kinds := [], alts := [], laidByText := true, laidKinds := [.listed, .data, .data, .data, .data], laidTests := true, laidLooks := .later }
def InstrNamesCardSaid : Prop := Claim7.holds Tryd.pinned (.plain (OpenSpec.ofChange instrNamesSpec)) instrNamesCard

/-- THE TIED CARD OF 'bulwarklaw05.InstrBack'. -/
def instrBackCard : Claim7 := { stood := { row := instrBackRow, standIns := [], harness := (true, "7dc9b343af007c53e77658584843a5fc55fa9310a7febed2bb6a6010e66d74d3"), looks := false }, kinds := [], alts := [], laidByText := true, laidKinds := [.data, .data, .data], laidTests := true, laidLooks := .later }
def InstrBackCardSaid : Prop := Claim7.holds Tryd.pinned (.plain (OpenSpec.ofChange instrBackSpec)) instrBackCard

/-- THE TIED CARD OF 'bulwarklaw05.InstrOne'. -/
def instrOneCard : Claim7 := { stood := { row := instrOneRow, standIns := [], harness := (true, "7dc9b343af007c53e77658584843a5fc55fa9310a7febed2bb6a6010e66d74d3"), looks := false }, kinds := [], alts := [], laidByText := true, laidKinds := [.data, .data, .data], laidTests := true, laidLooks := .later }
def InstrOneCardSaid : Prop := Claim7.holds Tryd.pinned (.plain (OpenSpec.ofChange instrOneSpec)) instrOneCard

/-- THE SECOND FORM's CARD OF 'bulwarklaw05.InstrPuts'. -/
def instrPutsUptoCard : Claim7 := { stood := { row := instrPutsUptoRow, standIns := [], harness := (true, "7dc9b343af007c53e77658584843a5fc55fa9310a7febed2bb6a6010e66d74d3"), looks := false }, kinds := [], alts := [], laidByText := true, laidKinds := [.data, .data, .data], laidTests := true, laidLooks := .later }
def InstrPutsUptoCardSaid : Prop := Claim7.holds Tryd.pinned (.plain (OpenSpec.upto instrPutsSpec)) instrPutsUptoCard

/-- THE SECOND FORM's CARD OF 'bulwarklaw05.InstrNames'. -/
def instrNamesUptoCard : Claim7 := { stood := { row := instrNamesUptoRow, standIns := [], harness := (true, "7dc9b343af007c53e77658584843a5fc55fa9310a7febed2bb6a6010e66d74d3"), looks := false }, kinds := [], alts := [], laidByText := true, laidKinds := [.listed, .data, .data, .data, .data], laidTests := true, laidLooks := .later }
def InstrNamesUptoCardSaid : Prop := Claim7.holds Tryd.pinned (.plain (OpenSpec.upto instrNamesSpec)) instrNamesUptoCard

/-- THE SECOND FORM's CARD OF 'bulwarklaw05.InstrBack'. -/
def instrBackUptoCard : Claim7 := { stood := { row := instrBackUptoRow, standIns := [], harness := (true, "7dc9b343af007c53e77658584843a5fc55fa9310a7febed2bb6a6010e66d74d3"), looks := false }, kinds := [], alts := [], laidByText := true, laidKinds := [.data, .data, .data], laidTests := true, laidLooks := .later }
def InstrBackUptoCardSaid : Prop := Claim7.holds Tryd.pinned (.plain (OpenSpec.upto instrBackSpec)) instrBackUptoCard

/-- THE SECOND FORM's CARD OF 'bulwarklaw05.InstrOne'. -/
def instrOneUptoCard : Claim7 := { stood := { row := instrOneUptoRow, standIns := [], harness := (true, "7dc9b343af007c53e77658584843a5fc55fa9310a7febed2bb6a6010e66d74d3"), looks := false }, kinds := [], alts := [], laidByText := true, laidKinds := [.data, .data, .data], laidTests := true, laidLooks := .later }
def InstrOneUptoCardSaid : Prop := Claim7.holds Tryd.pinned (.plain (OpenSpec.upto instrOneSpec)) instrOneUptoCard
end Rows
end Go.Proofs.YtliimbidkkpegaaDoor
