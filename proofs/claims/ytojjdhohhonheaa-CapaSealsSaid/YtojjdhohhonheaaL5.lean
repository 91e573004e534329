import Derived.Test.YtojjdhohhonheaaG
import Derived.Test.YtojjdhohhonheaaM
namespace Go.Proofs.Ytojjdhohhonheaa
open Go.ChangeShapes Go.WideShapes Go.ChangeAt Go.RowKit
set_option linter.unusedVariables false
set_option maxHeartbeats 8000000 in
theorem law5 (g : Bool) (a p y e b t s : Nat) (ha : a < 4294967296) (hp : p < 256) (hy : y < 256) (he : e < 256) (hb : b < 65536) (ht : t < 65536) (hs : s < 4294967296) (w : World) :
    Calls Try.prog 5 #[cp g a p y e b t, .int .u32 (s : Int)] w fun en w' => en = .returned (.bool true) ∧ Below w.heap.size w w' := by
  have k1 := c26 g a p y e b t hp hy
  have k2 := c27 g a p y e b t hp hy
  have k3 := c28 g a p y e b t s hy hs
  have k4 := c29 g a p y e b t s hy hs
  have k5 := c30 g a p y e b t hy
  have k6 := c31 g a p y e b t hy
  generalize (g && (decide (y = 0) && decide (p / 8 % 2 = 1))) = g1 at *
  generalize (g && (decide (y = 0) && !decide (s % 8 = 0))) = g2 at *
  generalize (g && !decide (y = 0)) = g3 at *
  generalize s % 8 = s8 at *
  have K1 := Lib.hid k1
  have K2 := Lib.hid k2
  have K3 := Lib.hid k3
  have K4 := Lib.hid k4
  have K5 := Lib.hid k5
  have K6 := Lib.hid k6
  clear k1 k2 k3 k4 k5 k6
  have hS := start7 w (.bool g) (.int .u32 (a : Int)) (.int .u8 (p : Int)) (.int .u8 (y : Int)) (.int .u8 (e : Int)) (.int .u16 (b : Int)) (.int .u16 (t : Int)) 27
  have HS := Lib.hid hS
  clear hS
  go_enter Try.func5, Try.ntmps5
  go_wp2_with fail
  have hS := HS.out
  go_region_held3 (fun w' => Below w.heap.size w w' ∧ w.heap.size < w'.heap.size ∧ w'.cell? ⟨w.heap.size, 0, none⟩ = some (.bool g) ∧ w'.cell? ⟨w.heap.size, 1, none⟩ = some (.int .u32 (a : Int)) ∧ w'.cell? ⟨w.heap.size, 2, none⟩ = some (.int .u8 (p : Int)) ∧ w'.cell? ⟨w.heap.size, 3, none⟩ = some (.int .u8 (y : Int)) ∧ w'.cell? ⟨w.heap.size, 4, none⟩ = some (.int .u8 (e : Int)) ∧ w'.cell? ⟨w.heap.size, 5, none⟩ = some (.int .u16 (b : Int)) ∧ w'.cell? ⟨w.heap.size, 6, none⟩ = some (.int .u16 (t : Int)))
    (first | exact keep7 (by assumption) ((Below.refl _ _).drew) | exact keep7 (by assumption) hbx)
    (first | (go_at_call 26; (with_reducible refine (K1.out _).mono ?_); rintro _ wx ⟨rfl, hbx⟩) | (go_at_call 27; (with_reducible refine (K2.out _).mono ?_); rintro _ wx ⟨rfl, hbx⟩) | (go_at_call 28; (with_reducible refine (K3.out _).mono ?_); rintro _ wx ⟨rfl, hbx⟩) | (go_at_call 29; (with_reducible refine (K4.out _).mono ?_); rintro _ wx ⟨rfl, hbx⟩) | (go_at_call 30; (with_reducible refine (K5.out _).mono ?_); rintro _ wx ⟨rfl, hbx⟩) | (go_at_call 31; (with_reducible refine (K6.out _).mono ?_); rintro _ wx ⟨rfl, hbx⟩) | (go_at_call 17; (with_reducible refine (lives _).mono ?_); rintro _ wx ⟨rfl, hbx⟩))
  all_goals
    have hE : Below w.heap.size w wx := And.left (by assumption)
    go_wp2
    go_ret
    exact ⟨rfl, hE⟩
end Go.Proofs.Ytojjdhohhonheaa
