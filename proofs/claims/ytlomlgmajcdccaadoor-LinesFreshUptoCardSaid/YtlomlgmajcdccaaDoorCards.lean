/-
  DERIVED. GIVEN WITH THE SEED: THE CARDS: each row of YtlomlgmajcdccaaDoorRows.lean that lists a variable, with what it lists TIED to the program's text (the seventh form; the later family's looks); each row that meets fmt, with fmt's text TOLD by the authors' own Lean function (tested against real Go, not proved from fmt's source: count such statements apart). THE CARD IS WHAT COUNTS. Prove the row's statement (the work); the ties are given (YtlomlgmajcdccaaDoorTie.lean); close each card by the builder's one call (the guide's Derived/Test/ToyasCard.lean, 'card_holds'). Laid BY PROGRAM, IN A SANDBOX (cutbox-door.mjs). By AI agents, Wed Nov 11 2026. No macro, syntax, notation, axiom, sorry.
-/
import Derived.Test.YtlomlgmajcdccaaDoorRows
import GoSem.ClaimSeven
namespace Go.Proofs.YtlomlgmajcdccaaDoor
namespace Rows

/-- THE TIED CARD OF 'bulwarklaw11.LinesRead'. -/
def linesReadCard : Claim7 := { stood := { row := linesReadRow, standIns := [], harness := (true, "6ff7ec973b74f3ff8c67f47ba3106f05c273cde9fdbf8c15f49e2090e3a95c27"), looks := true }, kinds := [], alts := [], laidByText := true, laidKinds := [.data, .data, .data, .data, .sentinel, .sentinel, .pinned], laidTests := true, laidLooks := .later }
def LinesReadCardSaid : Prop := Claim7.holds Tryd.pinned (.plain (OpenSpec.ofChange linesReadSpec)) linesReadCard

/-- THE TIED CARD OF 'bulwarklaw11.LinesPut'. -/
def linesPutCard : Claim7 := { stood := { row := linesPutRow, standIns := [], harness := (true, "6ff7ec973b74f3ff8c67f47ba3106f05c273cde9fdbf8c15f49e2090e3a95c27"), looks := true }, kinds := [], alts := [], laidByText := true, laidKinds := [.data, .data, .data, .data, .sentinel, .sentinel, .pinned], laidTests := true, laidLooks := .later }
def LinesPutCardSaid : Prop := Claim7.holds Tryd.pinned (.plain (OpenSpec.ofChange linesPutSpec)) linesPutCard

/-- THE TIED CARD OF 'bulwarklaw11.LinesBack'. -/
def linesBackCard : Claim7 := { stood := { row := linesBackRow, standIns := [], harness := (true, "6ff7ec973b74f3ff8c67f47ba3106f05c273cde9fdbf8c15f49e2090e3a95c27"), looks := true }, kinds := [], alts := [], laidByText := true, laidKinds := [.data, .data, .data, .data, .sentinel, .sentinel, .pinned], laidTests := true, laidLooks := .later }
def LinesBackCardSaid : Prop := Claim7.holds Tryd.pinned (.plain (OpenSpec.ofChange linesBackSpec)) linesBackCard

/-- THE TIED CARD OF 'bulwarklaw11.LinesSays'. -/
def linesSaysCard : Claim7 := { stood := { row := linesSaysRow, standIns := [], harness := (true, "6ff7ec973b74f3ff8c67f47ba3106f05c273cde9fdbf8c15f49e2090e3a95c27"), looks := true }, kinds := [], alts := [], laidByText := true, laidKinds := [.data, .data, .data, .data, .sentinel, .sentinel, .pinned], laidTests := true, laidLooks := .later }
def LinesSaysCardSaid : Prop := Claim7.holds Tryd.pinned (.plain (OpenSpec.ofChange linesSaysSpec)) linesSaysCard

/-- THE TIED CARD OF 'bulwarklaw11.LinesFresh'. -/
def linesFreshCard : Claim7 := { stood := { row := linesFreshRow, standIns := [], harness := (true, "6ff7ec973b74f3ff8c67f47ba3106f05c273cde9fdbf8c15f49e2090e3a95c27"), looks := true }, kinds := [], alts := [], laidByText := true, laidKinds := [.data, .data, .data, .data, .sentinel, .sentinel, .pinned], laidTests := true, laidLooks := .later }
def LinesFreshCardSaid : Prop := Claim7.holds Tryd.pinned (.plain (OpenSpec.ofChange linesFreshSpec)) linesFreshCard

/-- THE SECOND FORM's CARD OF 'bulwarklaw11.LinesRead'. -/
def linesReadUptoCard : Claim7 := { stood := { row := linesReadUptoRow, standIns := [], harness := (true, "6ff7ec973b74f3ff8c67f47ba3106f05c273cde9fdbf8c15f49e2090e3a95c27"), looks := true }, kinds := [], alts := [], laidByText := true, laidKinds := [.data, .data, .data, .data, .sentinel, .sentinel, .pinned], laidTests := true, laidLooks := .later }
def LinesReadUptoCardSaid : Prop := Claim7.holds Tryd.pinned (.plain (OpenSpec.upto linesReadSpec)) linesReadUptoCard

/-- THE SECOND FORM's CARD OF 'bulwarklaw11.LinesPut'. -/
def linesPutUptoCard : Claim7 := { stood := { row := linesPutUptoRow, standIns := [], harness := (true, "6ff7ec973b74f3ff8c67f47ba3106f05c273cde9fdbf8c15f49e2090e3a95c27"), looks := true }, kinds := [], alts := [], laidByText := true, laidKinds := [.data, .data, .data, .data, .sentinel, .sentinel, .pinned], laidTests := true, laidLooks := .later }
def LinesPutUptoCardSaid : Prop := Claim7.holds Tryd.pinned (.plain (OpenSpec.upto linesPutSpec)) linesPutUptoCard

/-- THE SECOND FORM's CARD OF 'bulwarklaw11.LinesBack'. -/
def linesBackUptoCard : Claim7 := { stood := { row := linesBackUptoRow, standIns := [], harness := (true, "6ff7ec973b74f3ff8c67f47ba3106f05c273cde9fdbf8c15f49e2090e3a95c27"), looks := true }, kinds := [], alts := [], laidByText := true, laidKinds := [.data, .data, .data, .data, .sentinel, .sentinel, .pinned], laidTests := true, laidLooks := .later }
def LinesBackUptoCardSaid : Prop := Claim7.holds Tryd.pinned (.plain (OpenSpec.upto linesBackSpec)) linesBackUptoCard

/-- THE SECOND FORM's CARD OF 'bulwarklaw11.LinesSays'. -/
def linesSaysUptoCard : Claim7 := { stood := { row := linesSaysUptoRow, standIns := [], harness := (true, "6ff7ec973b74f3ff8c67f47ba3106f05c273cde9fdbf8c15f49e2090e3a95c27"), looks := true }, kinds := [], alts := [], laidByText := true, laidKinds := [.data, .data, .data, .data, .sentinel, .sentinel, .pinned], laidTests := true, laidLooks := .later }
def LinesSaysUptoCardSaid : Prop := Claim7.holds Tryd.pinned (.plain (OpenSpec.upto linesSaysSpec)) linesSaysUptoCard

/-- THE SECOND FORM's CARD OF 'bulwarklaw11.LinesFresh'. -/
def linesFreshUptoCard : Claim7 := { stood := { row := linesFreshUptoRow, standIns := [], harness := (true, "6ff7ec973b74f3ff8c67f47ba3106f05c273cde9fdbf8c15f49e2090e3a95c27"), looks := true }, kinds := [], alts := [], laidByText := true, laidKinds := [.data, .data, .data, .data, .sentinel, .sentinel, .pinned], laidTests := true, laidLooks := .later }
def LinesFreshUptoCardSaid : Prop := Claim7.holds Tryd.pinned (.plain (OpenSpec.upto linesFreshSpec)) linesFreshUptoCard
end Rows
end Go.Proofs.YtlomlgmajcdccaaDoor
