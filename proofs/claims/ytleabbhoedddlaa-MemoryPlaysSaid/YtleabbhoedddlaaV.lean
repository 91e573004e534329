import Derived.Test.YtleabbhoedddlaaU
import Derived.Test.YtleabbhoedddlaaXF
namespace Go.Proofs.Ytleabbhoedddlaa
open Go.ChangeShapes Go.WideShapes Go.ChangeAt Go.RowKit
set_option linter.unusedVariables false
theorem sliceAll (b : Nat) (w : World) :
    (Instr.sliceAt 61 (.pointer (some ⟨b, 1, none⟩)) none none none).run Try.prog w = .ok (.slice (some ⟨b, 1, none⟩) 65536 65536) w := by
  have e : Try.prog.arrayLen 61 = 65536 := by kernel_rfl
  rw [run_sliceAt_array_all w 61 ⟨b, 1, none⟩ (by kernel_rfl)]
  rw [show (sizeOf (Try.prog.elem 61)).run Try.prog w = .ok 1 w by kernel_rfl, e]
  rfl
theorem Rds.rd {w : World} {b : Nat} {C : Array Value} {B : Nat → Nat} {T : Nat → Bool} (hb : Blk w b 64 C) (r : Rds C B T) : Pt.Rd w (some ⟨b, 1, none⟩) 65536 B := fun _ =>
  ⟨b, 1, rfl, hb.lt, fun j hj => by rw [hb.cell]; exact r.bytes j hj⟩
theorem mBytes (b a n : Nat) (B : Nat → Nat) (T : Nat → Bool) (w : World) (hm : Mem w b B T) (h : a + n ≤ 65536) :
    Calls Try.prog 14 #[.pointer (some ⟨b, 0, none⟩), .int .i64 (a : Int), .int .i64 (n : Int)] w (Pt.PartOut w n (fun j => B (a + j))) := by
  obtain ⟨C, hb, r⟩ := hm
  have KT := Lib.hid (Mem.me hb r).there
  have hsl := sliceAll b
  have KP := Lib.hid (Pt.c16 (some ⟨b, 1, none⟩) 65536 65536 a n B w (by omega) (by omega) (r.rd hb) (fun h => by cases h) h)
  clear hb r h
  go_enter Try.func14, Try.ntmps14
  go_wp2_with fail
  refine KT.out.mono ?_
  rintro _ _ ⟨rfl, rfl⟩
  go_wp2_with fail
  refine KP.out.mono ?_
  rintro _ w1 ⟨v, rfl, q1, o1⟩
  go_wp2_with fail
  go_ret2
  exact ⟨v, rfl, q1, o1⟩
theorem mBytesNo (b : Nat) (a n : Int) (B : Nat → Nat) (T : Nat → Bool) (w : World) (hm : Mem w b B T) (h : spanB a n = false) :
    Calls Try.prog 14 #[.pointer (some ⟨b, 0, none⟩), .int .i64 a, .int .i64 n] w fun e w' => e = .returned (.tuple #[.slice none 0 0, .int .i64 2]) ∧ w = w' := by
  obtain ⟨C, hb, r⟩ := hm
  have KT := Lib.hid (Mem.me hb r).there
  have hsl := sliceAll b
  unfold spanB at h
  rw [decide_eq_false_iff_not] at h
  have KP := Pt.c16x (some ⟨b, 1, none⟩) 65536 65536 a n w (by omega) (by omega) (by intro h2; apply h; exact ⟨h2.1, h2.2.1, by omega, by omega⟩)
  have he : ((Pt.cutE 65536 a n) != 0) = true := by unfold Pt.cutE; split <;> rfl
  have KP := Lib.hid KP
  generalize Pt.cutE 65536 a n = E at *
  clear hb r h
  go_enter Try.func14, Try.ntmps14
  go_wp2_with fail
  refine KT.out.mono ?_
  rintro _ _ ⟨rfl, rfl⟩
  go_wp2_with fail
  refine KP.out.mono ?_
  rintro _ _ ⟨rfl, rfl⟩
  go_wp2_with fail
  go_ret2
  exact ⟨rfl, rfl⟩
end Go.Proofs.Ytleabbhoedddlaa
