/-
  DERIVED. GIVEN WITH THE SEED: THE PROGRAM's TIES (one call each: nine closed facts by the kernel) AND EACH ROW's TIE, after the 31st guide's Derived/Test/Toyas{Tie, Card}.lean. No idea stands in it: it is a product of the set-up. Laid BY PROGRAM, IN A SANDBOX (cutbox-door.mjs). By AI agents, Wed Nov 11 2026. No macro, syntax, notation, axiom, sorry.
-/
import Derived.Test.YtmanoheofloimaaGreatDoorRows
import Derived.LaidByTextLater
import Derived.SevenTiedAt
import Derived.LaidSub
import Derived.LaidOnce
namespace Go.Proofs.YtmanoheofloimaaGreatDoor
open Go
set_option maxRecDepth 100000
theorem seatTie1 : Tryz.prog.laidByTextLater [("bulwark/instr.fixed", Rows.laid_bulwark_instr_fixed), ("bulwark/instr.words", Rows.laid_bulwark_instr_words), ("bulwark/instr.forms", Rows.laid_bulwark_instr_forms)] [.data, .data, .data] true :=
  Program.laidByTextLater_by_one 24 8 69 (by kernel_rfl) (by kernel_rfl) (by kernel_rfl) (by kernel_rfl) (by kernel_rfl) (by kernel_rfl) (fun _ _ => by kernel_rfl)
theorem noOwnUnsafe : Tryz.pinned.checked.prog.headLifts.contains "ownunsafe" = false := by kernel_rfl
theorem tie : Tryz.prog.laidByTextLater [("bulwark/instr.fixed", Rows.laid_bulwark_instr_fixed), ("bulwark/instr.words", Rows.laid_bulwark_instr_words), ("bulwark/instr.forms", Rows.laid_bulwark_instr_forms)] [.data, .data, .data] true :=
  Program.laidByTextLater.sub seatTie1 ["bulwark/instr.fixed", "bulwark/instr.words", "bulwark/instr.forms"] (by kernel_rfl) (by kernel_rfl)
theorem runNil_row_tie : Rows.runNilRow.laidByTextAt .later Tryz.pinned [.data, .data, .data] true :=
  OpenClaim.laidByTextAt_later rfl rfl tie noOwnUnsafe
theorem runNilUpto_row_tie : Rows.runNilUptoRow.laidByTextAt .later Tryz.pinned [.data, .data, .data] true :=
  OpenClaim.laidByTextAt_later rfl rfl tie noOwnUnsafe
end Go.Proofs.YtmanoheofloimaaGreatDoor
