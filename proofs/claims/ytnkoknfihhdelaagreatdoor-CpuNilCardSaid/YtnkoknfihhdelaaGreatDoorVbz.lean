import Derived.Test.YtnkoknfihhdelaaGreatDoorVaz
namespace Go.Proofs.YtnkoknfihhdelaaGreatDoor
open Go.ChangeShapes Go.WideShapes Go.ChangeAt Go.RowKit
set_option linter.unusedVariables false
set_option maxRecDepth 100000
set_option maxHeartbeats 2000000
def pw : Cq := ⟨true, 4096, 9, 0, 4, 256, 0⟩
def mw : Nat → Nat := stB (fun _ => 0) 4096 4 5243027
def iw : In.Ins := ⟨21, 1, 0, 0, 5⟩
def sw : St := st0.put 16 pw
theorem mw_num : numL mw 4096 4 = 5243027 := by decide +kernel
theorem get_w : In.get 5243027 = (iw, 0) := by kernel_rfl
theorem do5 (w : World) : Calls Tryz.prog 139 #[.int .u8 21, .int .u32 0, .int .u32 5] w fun en w' => en = .returned (.tuple #[.int .u32 5, .int .i64 0]) ∧ w = w' := by
  go_enter Tryz.func139, Tryz.ntmps139
  go_wp2_with fail
  go_ret2
  exact ⟨rfl, rfl⟩
def r1w : St := (((((sw.put 0 nul).put 16 (pw.sa 4100)).put 1 (numQ 5)).put 0 nul))
def r2w : St := trp ((st0.put 16 nul).put 0 nul) 1
theorem r1_a : r1w.L.toArray[8]? = some (.int .u32 5) := by kernel_rfl
theorem r1_b : r1w.L.toArray[113]? = some (.int .u32 4100) := by kernel_rfl
theorem r2_a : r2w.L.toArray[150]? = some (.bool true) := by kernel_rfl
theorem may_w : Ca.may pw.g pw.a pw.p pw.y pw.e pw.b pw.t 8 pw.a 4 = true := by decide +kernel
theorem may_z : Ca.may nul.g nul.a nul.p nul.y nul.e nul.b nul.t 8 nul.a 4 = false := by decide +kernel
theorem fit_pw : pw.fit := ⟨by decide, by decide, by decide, by decide, by decide, by decide⟩
theorem fit_nul : nul.fit := ⟨by decide, by decide, by decide, by decide, by decide, by decide⟩
theorem lives (w : World) (hg : In.Glob w) : Calls Tryz.prog 14 #[] w fun en w' => en = .returned (.bool true) ∧ Below w.heap.size w w' := by
  have hsz := hg.size
  refine walk14 (fun _ => 0) mw (fun _ => false) (stT (fun _ => false) 4096 false) sw.L.toArray (st0.put 16 nul).L.toArray r1w.L.toArray r2w.L.toArray w (by rw [List.size_toArray]; exact St.len _) (by rw [List.size_toArray]; exact St.len _) (by rw [List.size_toArray]; exact St.len _) (by rw [List.size_toArray]; exact St.len _) (St.one _) (St.one _) r1_a r1_b r2_a z32 z41 (mNew w) (fun W hm => mStore w.heap.size 4096 5243027 4 _ _ W hm (by decide) (by decide)) root9 (fun W => c45 pw W) (fun W => c45 nul W) ?_ ?_
  · intro tm W hb hm
    refine (step_imm w.heap.size sw pw nul tm 0 mw _ iw 5 5 0 W hm rfl (by cases tm <;> rfl) rfl fit_pw may_w (by decide +kernel) (by decide) (hg.below hb hsz) (by rw [show pw.a = 4096 from rfl, mw_num]; decide) (by rw [show pw.a = 4096 from rfl, mw_num]; exact get_w) (by decide) (by decide) (by decide) (by decide) rfl (by decide) (by decide) do5).mono ?_
    rintro e w' ⟨A, c, rfl, h⟩
    exact ⟨A, c, rfl, h⟩
  · intro W hb hm
    refine (step_may w.heap.size (st0.put 16 nul) nul false 0 mw _ W hm rfl rfl rfl fit_nul may_z).mono ?_
    rintro e w' ⟨rfl, h⟩
    exact ⟨rfl, h⟩
end Go.Proofs.YtnkoknfihhdelaaGreatDoor
