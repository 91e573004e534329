/-
  DERIVED. GIVEN WITH THE SEED: THE PROGRAM's TIES (one call each: nine closed facts by the kernel) AND EACH ROW's TIE, after the 31st guide's Derived/Test/Toyas{Tie, Card}.lean. No idea stands in it: it is a product of the set-up. Laid BY PROGRAM, IN A SANDBOX (cutbox-door.mjs). By AI agents, Wed Nov 11 2026. No macro, syntax, notation, axiom, sorry.
-/
import Derived.Test.YtodpeiamophjjaaDoorRows
import Derived.LaidByTextLater
import Derived.SevenTiedAt
import Derived.LaidSub
import Derived.LaidOnce
namespace Go.Proofs.YtodpeiamophjjaaDoor
open Go
set_option maxRecDepth 100000
theorem seatTie1 : Tryd.prog.laidByTextLater [("bulwark/instr.fixed", Rows.laid_bulwark_instr_fixed), ("bulwark/instr.words", Rows.laid_bulwark_instr_words), ("bulwark/instr.forms", Rows.laid_bulwark_instr_forms)] [.data, .data, .data] true :=
  Program.laidByTextLater_by_one 24 8 69 (by kernel_rfl) (by kernel_rfl) (by kernel_rfl) (by kernel_rfl) (by kernel_rfl) (by kernel_rfl) (fun _ _ => by kernel_rfl)
theorem noOwnUnsafe : Tryd.pinned.checked.prog.headLifts.contains "ownunsafe" = false := by kernel_rfl
theorem tie : Tryd.prog.laidByTextLater [("bulwark/instr.fixed", Rows.laid_bulwark_instr_fixed), ("bulwark/instr.words", Rows.laid_bulwark_instr_words), ("bulwark/instr.forms", Rows.laid_bulwark_instr_forms)] [.data, .data, .data] true :=
  Program.laidByTextLater.sub seatTie1 ["bulwark/instr.fixed", "bulwark/instr.words", "bulwark/instr.forms"] (by kernel_rfl) (by kernel_rfl)
theorem asmBack_row_tie : Rows.asmBackRow.laidByTextAt .later Tryd.pinned [.data, .data, .data] true :=
  OpenClaim.laidByTextAt_later rfl rfl tie noOwnUnsafe
theorem tie2 : Tryd.prog.laidByTextLater [("bulwark/instr.words", Rows.laid_bulwark_instr_words), ("bulwark/instr.forms", Rows.laid_bulwark_instr_forms)] [.data, .data] true :=
  Program.laidByTextLater.sub seatTie1 ["bulwark/instr.words", "bulwark/instr.forms"] (by kernel_rfl) (by kernel_rfl)
theorem asmNames_row_tie : Rows.asmNamesRow.laidByTextAt .later Tryd.pinned [.data, .data] true :=
  OpenClaim.laidByTextAt_later rfl rfl tie2 noOwnUnsafe
theorem asmBackUpto_row_tie : Rows.asmBackUptoRow.laidByTextAt .later Tryd.pinned [.data, .data, .data] true :=
  OpenClaim.laidByTextAt_later rfl rfl tie noOwnUnsafe
theorem asmNamesUpto_row_tie : Rows.asmNamesUptoRow.laidByTextAt .later Tryd.pinned [.data, .data] true :=
  OpenClaim.laidByTextAt_later rfl rfl tie2 noOwnUnsafe
end Go.Proofs.YtodpeiamophjjaaDoor
