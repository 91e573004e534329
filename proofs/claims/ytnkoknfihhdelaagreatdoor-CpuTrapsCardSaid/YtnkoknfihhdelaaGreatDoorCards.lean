/-
  DERIVED. GIVEN WITH THE SEED: THE CARDS: each row of YtnkoknfihhdelaaGreatDoorRows.lean that lists a variable, with what it lists TIED to the program's text (the seventh form; the later family's looks); each row that meets fmt, with fmt's text TOLD by the authors' own Lean function (tested against real Go, not proved from fmt's source: count such statements apart). THE CARD IS WHAT COUNTS. Prove the row's statement (the work); the ties are given (YtnkoknfihhdelaaGreatDoorTie.lean); close each card by the builder's one call (the guide's Derived/Test/ToyasCard.lean, 'card_holds'). Laid BY PROGRAM, IN A SANDBOX (cutbox-door.mjs). By AI agents, Wed Nov 11 2026. No macro, syntax, notation, axiom, sorry.
-/
import Derived.Test.YtnkoknfihhdelaaGreatDoorRows
import GoSem.ClaimSeven
namespace Go.Proofs.YtnkoknfihhdelaaGreatDoor
namespace Rows

/-- THE TIED CARD OF 'bulwarklaw07.CpuSteps'. -/
def cpuStepsCard : Claim7 := { stood := { row := cpuStepsRow, standIns := [], harness := (true, "ecb21e3adb1fd0f5020e654408ca46c8dd153755f123dd69ad79d1490b755867"), looks := true }, kinds := [], alts := [], laidByText := true, laidKinds := [.data, .data, .data], laidTests := true, laidLooks := .later }
def CpuStepsCardSaid : Prop := Claim7.holds Tryz.pinned (.plain (OpenSpec.ofChange cpuStepsSpec)) cpuStepsCard

/-- THE TIED CARD OF 'bulwarklaw07.CpuOne'. -/
def cpuOneCard : Claim7 := { stood := { row := cpuOneRow, standIns := [], harness := (true, "ecb21e3adb1fd0f5020e654408ca46c8dd153755f123dd69ad79d1490b755867"), looks := true }, kinds := [], alts := [], laidByText := true, laidKinds := [.data, .data, .data], laidTests := true, laidLooks := .later }
def CpuOneCardSaid : Prop := Claim7.holds Tryz.pinned (.plain (OpenSpec.ofChange cpuOneSpec)) cpuOneCard

/-- THE TIED CARD OF 'bulwarklaw07.CpuNever'. -/
def cpuNeverCard : Claim7 := { stood := { row := cpuNeverRow, standIns := [], harness := (true, "ecb21e3adb1fd0f5020e654408ca46c8dd153755f123dd69ad79d1490b755867"), looks := true }, kinds := [], alts := [], laidByText := true, laidKinds := [.data, .data, .data], laidTests := true, laidLooks := .later }
def CpuNeverCardSaid : Prop := Claim7.holds Tryz.pinned (.plain (OpenSpec.ofChange cpuNeverSpec)) cpuNeverCard

/-- THE TIED CARD OF 'bulwarklaw07.CpuTraps'. -/
def cpuTrapsCard : Claim7 := { stood := { row := cpuTrapsRow, standIns := [], harness := (true, "ecb21e3adb1fd0f5020e654408ca46c8dd153755f123dd69ad79d1490b755867"), looks := true }, kinds := [], alts := [], laidByText := true, laidKinds := [.data, .data, .data], laidTests := true, laidLooks := .later }
def CpuTrapsCardSaid : Prop := Claim7.holds Tryz.pinned (.plain (OpenSpec.ofChange cpuTrapsSpec)) cpuTrapsCard

/-- THE TIED CARD OF 'bulwarklaw07.CpuNil'. -/
def cpuNilCard : Claim7 := { stood := { row := cpuNilRow, standIns := [], harness := (true, "ecb21e3adb1fd0f5020e654408ca46c8dd153755f123dd69ad79d1490b755867"), looks := true }, kinds := [], alts := [], laidByText := true, laidKinds := [.data, .data, .data], laidTests := true, laidLooks := .later }
def CpuNilCardSaid : Prop := Claim7.holds Tryz.pinned (.plain (OpenSpec.ofChange cpuNilSpec)) cpuNilCard

/-- THE SECOND FORM's CARD OF 'bulwarklaw07.CpuSteps'. -/
def cpuStepsUptoCard : Claim7 := { stood := { row := cpuStepsUptoRow, standIns := [], harness := (true, "ecb21e3adb1fd0f5020e654408ca46c8dd153755f123dd69ad79d1490b755867"), looks := true }, kinds := [], alts := [], laidByText := true, laidKinds := [.data, .data, .data], laidTests := true, laidLooks := .later }
def CpuStepsUptoCardSaid : Prop := Claim7.holds Tryz.pinned (.plain (OpenSpec.upto cpuStepsSpec)) cpuStepsUptoCard

/-- THE SECOND FORM's CARD OF 'bulwarklaw07.CpuOne'. -/
def cpuOneUptoCard : Claim7 := { stood := { row := cpuOneUptoRow, standIns := [], harness := (true, "ecb21e3adb1fd0f5020e654408ca46c8dd153755f123dd69ad79d1490b755867"), looks := true }, kinds := [], alts := [], laidByText := true, laidKinds := [.data, .data, .data], laidTests := true, laidLooks := .later }
def CpuOneUptoCardSaid : Prop := Claim7.holds Tryz.pinned (.plain (OpenSpec.upto cpuOneSpec)) cpuOneUptoCard

/-- THE SECOND FORM's CARD OF 'bulwarklaw07.CpuNever'. -/
def cpuNeverUptoCard : Claim7 := { stood := { row := cpuNeverUptoRow, standIns := [], harness := (true, "ecb21e3adb1fd0f5020e654408ca46c8dd153755f123dd69ad79d1490b755867"), looks := true }, kinds := [], alts := [], laidByText := true, laidKinds := [.data, .data, .data], laidTests := true, laidLooks := .later }
def CpuNeverUptoCardSaid : Prop := Claim7.holds Tryz.pinned (.plain (OpenSpec.upto cpuNeverSpec)) cpuNeverUptoCard

/-- THE SECOND FORM's CARD OF 'bulwarklaw07.CpuTraps'. -/
def cpuTrapsUptoCard : Claim7 := { stood := { row := cpuTrapsUptoRow, standIns := [], harness := (true, "ecb21e3adb1fd0f5020e654408ca46c8dd153755f123dd69ad79d1490b755867"), looks := true }, kinds := [], alts := [], laidByText := true, laidKinds := [.data, .data, .data], laidTests := true, laidLooks := .later }
def CpuTrapsUptoCardSaid : Prop := Claim7.holds Tryz.pinned (.plain (OpenSpec.upto cpuTrapsSpec)) cpuTrapsUptoCard

/-- THE SECOND FORM's CARD OF 'bulwarklaw07.CpuNil'. -/
def cpuNilUptoCard : Claim7 := { stood := { row := cpuNilUptoRow, standIns := [], harness := (true, "ecb21e3adb1fd0f5020e654408ca46c8dd153755f123dd69ad79d1490b755867"), looks := true }, kinds := [], alts := [], laidByText := true, laidKinds := [.data, .data, .data], laidTests := true, laidLooks := .later }
def CpuNilUptoCardSaid : Prop := Claim7.holds Tryz.pinned (.plain (OpenSpec.upto cpuNilSpec)) cpuNilUptoCard
end Rows
end Go.Proofs.YtnkoknfihhdelaaGreatDoor
