/-
  DERIVED. GIVEN WITH THE SEED: THE CARDS: each row of YtkiojljopigldaaDoorRows.lean that lists a variable, with what it lists TIED to the program's text (the seventh form; the later family's looks); each row that meets fmt, with fmt's text TOLD by the authors' own Lean function (tested against real Go, not proved from fmt's source: count such statements apart). THE CARD IS WHAT COUNTS. Prove the row's statement (the work); the ties are given (YtkiojljopigldaaDoorTie.lean); close each card by the builder's one call (the guide's Derived/Test/ToyasCard.lean, 'card_holds'). Laid BY PROGRAM, IN A SANDBOX (cutbox-door.mjs). By AI agents, Wed Nov 11 2026. No macro, syntax, notation, axiom, sorry.
-/
import Derived.Test.YtkiojljopigldaaDoorRows
import GoSem.ClaimSeven
namespace Go.Proofs.YtkiojljopigldaaDoor
namespace Rows

/-- THE TIED CARD OF 'bulwarklaw16.RelocFields'. -/
def relocFieldsCard : Claim7 := { stood := { row := relocFieldsRow, standIns := [], harness := (true, "73eab28875ff82f71348087aa61f4bec1fabf2d8e633f76bd75ac961922debac"), looks := false }, kinds := [], alts := [], laidByText := true, laidKinds := [.data, .data, .data], laidTests := true, laidLooks := .later }
def RelocFieldsCardSaid : Prop := Claim7.holds Tryd.pinned (.plain (OpenSpec.ofChange relocFieldsSpec)) relocFieldsCard

/-- THE TIED CARD OF 'bulwarklaw16.RelocField'. -/
def relocFieldCard : Claim7 := { stood := { row := relocFieldRow, standIns := [], harness := (true, "73eab28875ff82f71348087aa61f4bec1fabf2d8e633f76bd75ac961922debac"), looks := false }, kinds := [], alts := [], laidByText := true, laidKinds := [.data, .data, .data], laidTests := true, laidLooks := .later }
def RelocFieldCardSaid : Prop := Claim7.holds Tryd.pinned (.plain (OpenSpec.ofChange relocFieldSpec)) relocFieldCard

/-- THE SECOND FORM's CARD OF 'bulwarklaw16.RelocFields'. -/
def relocFieldsUptoCard : Claim7 := { stood := { row := relocFieldsUptoRow, standIns := [], harness := (true, "73eab28875ff82f71348087aa61f4bec1fabf2d8e633f76bd75ac961922debac"), looks := false }, kinds := [], alts := [], laidByText := true, laidKinds := [.data, .data, .data], laidTests := true, laidLooks := .later }
def RelocFieldsUptoCardSaid : Prop := Claim7.holds Tryd.pinned (.plain (OpenSpec.upto relocFieldsSpec)) relocFieldsUptoCard

/-- THE SECOND FORM's CARD OF 'bulwarklaw16.RelocField'. -/
def relocFieldUptoCard : Claim7 := { stood := { row := relocFieldUptoRow, standIns := [], harness := (true, "73eab28875ff82f71348087aa61f4bec1fabf2d8e633f76bd75ac961922debac"), looks := false }, kinds := [], alts := [], laidByText := true, laidKinds := [.data, .data, .data], laidTests := true, laidLooks := .later }
def RelocFieldUptoCardSaid : Prop := Claim7.holds Tryd.pinned (.plain (OpenSpec.upto relocFieldSpec)) relocFieldUptoCard
end Rows
end Go.Proofs.YtkiojljopigldaaDoor
