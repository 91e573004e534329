import Derived.Test.YtojjdhohhonheaaG
import Derived.Test.YtojjdhohhonheaaM
import Derived.Test.YtojjdhohhonheaaY
import Derived.Test.YtojjdhohhonheaaZ
namespace Go.Proofs.Ytojjdhohhonheaa
open Go.ChangeShapes Go.WideShapes Go.ChangeAt Go.RowKit
set_option linter.unusedVariables false
theorem sbForm (g : Bool) (a p y e b t n : Nat) : ∃ (g' : Bool) (e' b' t' : Nat), sbV g a p y e b t n = cp g' a p y e' b' t' := by
  unfold sbV
  split
  · exact ⟨_, _, _, _, rfl⟩
  · exact ⟨_, _, _, _, rfl⟩
set_option maxHeartbeats 8000000 in
theorem law4 (g : Bool) (a p y e b t n l s : Nat) (ha : a < 4294967296) (hp : p < 256) (hy : y < 256) (he : e < 256) (hb : b < 65536) (ht : t < 65536) (hn : n < 4294967296) (hl : l < 4294967296) (hs : s < 4294967296) (w : World) :
    Calls Try.prog 4 #[cp g a p y e b t, .int .u32 (n : Int), .int .u32 (l : Int), .int .u32 (s : Int)] w fun en w' => en = .returned (.bool true) ∧ Below w.heap.size w w' := by
  have k1 := c18b g a p y e b t n ha hy he hb ht hn
  have k2 := c19r g a p y e b t n ha hy he hb ht hn
  have k3 := c20s g a p y e b t l ha hy he hb ht hl
  have k4 := c21r g a p y e b t l ha hy he hb ht hl
  have k5 := c22 g a p y e b t s hp hy hs
  have k6 := c23 g a p y e b t s hp hy hs
  have k7 := c24 g a p y e b t
  have k8 := c25r g a p y e b t
  obtain ⟨gb, eb, bb, tb, hsb⟩ := sbForm g a p y e b t l
  rw [hsb] at k3 k4
  clear hsb
  generalize (g && (decide (y = 0) && decide (bs (e % 16) (b % 512) a = bs (e % 16) (b % 512) n))) = g1 at *
  generalize (g && decide (y = 0)) = g2 at *
  generalize p &&& (s % 256) = ps at *
  have K1 := Lib.hid k1
  have K2 := Lib.hid k2
  have K3 := Lib.hid k3
  have K4 := Lib.hid k4
  have K5 := Lib.hid k5
  have K6 := Lib.hid k6
  have K7 := Lib.hid k7
  have K8 := Lib.hid k8
  clear k1 k2 k3 k4 k5 k6 k7 k8
  have hS := start7 w (.bool g) (.int .u32 (a : Int)) (.int .u8 (p : Int)) (.int .u8 (y : Int)) (.int .u8 (e : Int)) (.int .u16 (b : Int)) (.int .u16 (t : Int)) 27
  have HS := Lib.hid hS
  clear hS
  go_enter Try.func4, Try.ntmps4
  go_wp2_with fail
  have hS := HS.out
  go_region_held3 (fun w' => Below w.heap.size w w' ∧ w.heap.size < w'.heap.size ∧ w'.cell? ⟨w.heap.size, 0, none⟩ = some (.bool g) ∧ w'.cell? ⟨w.heap.size, 1, none⟩ = some (.int .u32 (a : Int)) ∧ w'.cell? ⟨w.heap.size, 2, none⟩ = some (.int .u8 (p : Int)) ∧ w'.cell? ⟨w.heap.size, 3, none⟩ = some (.int .u8 (y : Int)) ∧ w'.cell? ⟨w.heap.size, 4, none⟩ = some (.int .u8 (e : Int)) ∧ w'.cell? ⟨w.heap.size, 5, none⟩ = some (.int .u16 (b : Int)) ∧ w'.cell? ⟨w.heap.size, 6, none⟩ = some (.int .u16 (t : Int)))
    (first | exact keep7 (by assumption) ((Below.refl _ _).drew) | exact keep7 (by assumption) hbx)
    (first | (go_at_call 18; (with_reducible refine (K1.out _).mono ?_); rintro _ wx ⟨rfl, hbx⟩) | (go_at_call 19; (with_reducible refine (K2.out _).mono ?_); rintro _ wx ⟨rfl, hbx⟩) | (go_at_call 20; (with_reducible refine (K3.out _).mono ?_); rintro _ wx ⟨rfl, hbx⟩) | (go_at_call 21; (with_reducible refine (K4.out _).mono ?_); rintro _ wx ⟨rfl, hbx⟩) | (go_at_call 22; (with_reducible refine (K5.out _).mono ?_); rintro _ wx ⟨rfl, hbx⟩) | (go_at_call 23; (with_reducible refine (K6.out _).mono ?_); rintro _ wx ⟨rfl, hbx⟩) | (go_at_call 24; (with_reducible refine (K7.out _).mono ?_); rintro _ wx ⟨rfl, hbx⟩) | (go_at_call 25; (with_reducible refine (K8.out _).mono ?_); rintro _ wx ⟨rfl, hbx⟩) | (go_at_call 17; (with_reducible refine (lives _).mono ?_); rintro _ wx ⟨rfl, hbx⟩))
  all_goals
    have hE : Below w.heap.size w wx := And.left (by assumption)
    go_wp2
    go_ret
    exact ⟨rfl, hE⟩
end Go.Proofs.Ytojjdhohhonheaa
