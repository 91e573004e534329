import Derived.Test.YtblfnjdbihhglaaGreatDoorLE
namespace Go.Proofs.YtblfnjdbihhglaaGreatDoor.Li
open Go.ChangeShapes Go.WideShapes Go.ChangeAt Go.RowKit
set_option linter.unusedVariables false
/-- the builder of Put, so many lines written -/
def Bu (w wr : World) (s : ByteArray) : Prop := (Lib.IsBuilder 71 5 w.heap.size w.heap.size (Lib.strCells s) wr) ∧ Below w.heap.size w wr
def R5 (w : World) (g : Nat → Wl) (n : Nat) (i : Value) (wr : World) : Prop := ∃ k : Nat, k ≤ n ∧ i = .int .i64 (k : Int) ∧ Bu w wr (outN g k) ∧ ∀ j, j < k → ¬ longP (g j)
theorem bu0 (w : World) : Bu w (w.alloc (.cells #[.pointer none, .slice none 0 0] 71)) ⟨#[]⟩ := ⟨Lib.fresh_isBuilder 71 5 w, (Below.refl _ w).alloc (Nat.le_refl _) _⟩
theorem at_below {p : Value} {bs : List Value} {B b : Nat} {w w' : World} (h : Lib.BuilderAt 71 5 B b p bs w) (hb : Below w.heap.size w w') : Lib.BuilderAt 71 5 B b p bs w' := by
  have hlt := h.lt
  obtain ⟨h1, v, h2, h3, h4⟩ := h
  exact ⟨h1, v, (hb.block b hlt).trans h2, h3.kept (row := none) ⟨hb.os, hb.tape, hb.output, hb.size, fun j hj _ => hb.block j hj⟩ (by cases v.ownBlock <;> simp), h4⟩
theorem bu_below {w wr w' : World} {s : ByteArray} (h : Bu w wr s) (hb : Below wr.heap.size wr w') : Bu w w' s :=
  ⟨h.1.imp (fun k => at_below k hb) (fun k => at_below k hb), h.2.trans (hb.mono h.2.size)⟩
theorem bu_alloc {w wr : World} {s : ByteArray} (h : Bu w wr s) (o : Obj) : Bu w (wr.alloc o) s := bu_below h ((Below.refl _ wr).alloc (Nat.le_refl _) o)
theorem cells_add (s t : ByteArray) : Lib.strCells (s ++ t) = Lib.strCells s ++ Lib.strCells t := by simp [Lib.strCells, ByteArray.data_append]
theorem bw27 {w wr : World} {s : ByteArray} (h : Bu w wr s) (t : ByteArray) (hs : s.size ≤ 16777216) (ht : t.size ≤ 16777216) :
    Calls Tryz.prog 34 #[.pointer (some ⟨w.heap.size, 0, none⟩), .string t] wr fun e w' => e = .returned (.tuple #[.int .i64 t.size, .nilIface]) ∧ Bu w w' (s ++ t) := by
  refine (Tryz.Builder_WriteString w.heap.size w.heap.size (Lib.strCells s) t wr h.1 (by rw [Lib.strCells_length]; omega) h.2.size).mono ?_
  rintro _ w' ⟨rfl, h2, h3⟩
  exact ⟨rfl, Or.inr (by rw [cells_add]; exact h2), h.2.trans h3⟩
theorem bw28 {w wr : World} {s : ByteArray} (h : Bu w wr s) (hs : s.size ≤ 33554432) :
    Calls Tryz.prog 35 #[.pointer (some ⟨w.heap.size, 0, none⟩), .int .u8 10] wr fun e w' => e = .returned .nilIface ∧ Bu w w' (s ++ ⟨#[10]⟩) := by
  refine (Tryz.Builder_WriteByte w.heap.size w.heap.size (Lib.strCells s) 10 wr h.1 (by rw [Lib.strCells_length]; omega) h.2.size).mono ?_
  rintro _ w' ⟨rfl, h2, h3⟩
  exact ⟨rfl, Or.inr (by rw [cells_add]; exact h2), h.2.trans h3⟩
theorem bw29 {w wr : World} {s : ByteArray} (h : Bu w wr s) :
    Calls Tryz.prog 36 #[.pointer (some ⟨w.heap.size, 0, none⟩)] wr fun e w' => e = .returned (.string s) ∧ Below w.heap.size w w' := by
  refine (Tryz.Builder_String_any w.heap.size w.heap.size s.data.toList wr h.1 h.2.size).mono ?_
  rintro _ w' ⟨rfl, h3⟩
  exact ⟨rfl, h.2.trans h3⟩
set_option maxHeartbeats 16000000 in
theorem c14 (A : Option Addr) (n c : Nat) (g : Nat → Wl) (w : World) (hA : Ws w A n g) (hn : n ≤ 9223372036854775807)
    (hb : ∀ k, k ≤ n → (outN g k).size ≤ 16777216) (hb2 : ∀ k, k < n → ∀ m, m ≤ (g k).n → (jn (g k) m).size ≤ 16777216) (hb3 : ∀ k, k < n → (g k).n ≤ 16777216) :
    Calls Tryz.prog 16 #[.slice A n c] w fun e w' => e = .returned (putV g n) ∧ Below w.heap.size w w' := by
  have HA := Lib.hid hA
  have K25 := Lib.hid (c25 A n c g w hA hn)
  have HB := Lib.hid hb
  have HB2 := Lib.hid hb2
  have HB3 := Lib.hid hb3
  clear hA hb hb2 hb3
  have HY0 : Hid (mayB g n = false → putV g n = .tuple #[.string ⟨#[]⟩, .int .i64 5]) := Lib.hid (putV_may g n)
  obtain ⟨q, hq⟩ : ∃ q, mayB g n = q := ⟨_, rfl⟩
  rw [hq] at K25 HY0
  have HY := Lib.hid hq
  clear hq
  go_enter Tryz.func16, Tryz.ntmps16
  go_wp2_with fail
  refine (K25.out).mono ?_
  rintro _ w1 ⟨rfl, b1⟩
  have HW1 := Lib.hid b1
  clear b1
  cases q
  · have HW := Lib.hid (HY0.out rfl)
    go_wp2_with fail
    go_ret2
    exact ⟨by rw [HW.out]; rfl, HW1.out⟩
  · by_cases h4 : 400 < n
    · have HW := Lib.hid (putV_many g n HY.out h4)
      go_wp2_with fail
      go_ret2
      exact ⟨by rw [HW.out]; rfl, HW1.out⟩
    · go_wp2_with fail
      go_loopw [16] (fun i wr => R5 w1 g n i wr) (fun i _ => n - (intOf i).toNat)
      case atStart => exact ⟨0, by omega, rfl, bu0 w1, fun j hj => absurd hj (by omega)⟩
      case round =>
        obtain ⟨k, hk, rfl, hbu, hin⟩ := hrel
        have HBU := Lib.hid hbu
        have HIN := Lib.hid hin
        clear hbu hin
        by_cases hlt : k < n
        · obtain ⟨b, o, rfl, hbl, hc⟩ := HA.out (by omega)
          obtain ⟨q0, q1, hs, hn2, hnc⟩ := hc k hlt
          have hbw : Below w.heap.size w wr := HW1.out.trans (HBU.out.2.mono HW1.out.size)
          have z : ∀ j, wr.cell? ⟨b, j, none⟩ = w.cell? ⟨b, j, none⟩ := fun j => hbw.cell (p := ⟨b, j, none⟩) hbl
          rw [← z] at q0 q1
          have HBW := Lib.hid hbw
          have HL : Hid (lineP (g k)) := Lib.hid (by
            have := HY.out
            by_cases hp : lineP (g k)
            · exact hp
            · have h2 := mayB_no g n k hlt hp
              rw [h2] at this; cases this)
          have z0 := HB.out k (Nat.le_of_lt hlt)
          have z1 := HB2.out k hlt (g k).n (Nat.le_refl _)
          have HO : Hid (outN g (k + 1) = (outN g k ++ jn (g k) (g k).n) ++ ⟨#[10]⟩) := Lib.hid rfl
          have K26 : Hid (∀ wz, Below w.heap.size w wz → Calls Tryz.prog 33 #[.slice (g k).A (g k).n (g k).c, .string ⟨#[32]⟩] wz fun e w' => e = .returned (.string (jn (g k) (g k).n)) ∧ Below wz.heap.size wz w') :=
            Lib.hid fun wz hz => c26 (g k) wz (hs.below hz) HL.out.1 hnc (HB3.out k hlt) z1
          have HLO : Hid (longP (g k) → putV g n = .tuple #[.string ⟨#[]⟩, .int .i64 3]) := Lib.hid fun h => putV_long g n k HY.out hlt h
          have HST : Hid (¬ longP (g k) → ∀ j, j < k + 1 → ¬ longP (g j)) := Lib.hid fun hl j hj => by
            by_cases e : j = k
            · rw [e]; exact hl
            · exact HIN.out j (by omega)
          have HK : Hid (k + 1 ≤ n) := Lib.hid hlt
          have HLG : Hid (longP (g k) ↔ 100 < (jn (g k) (g k).n).size) := Lib.hid Iff.rfl
          have HC := Lib.hid hc
          clear z hc hs hk hbw
          obtain ⟨out', ho'⟩ : ∃ out', outN g (k + 1) = out' := ⟨_, rfl⟩
          rw [ho'] at HO
          have HO2 := Lib.hid ho'
          clear ho'
          generalize jn (g k) (g k).n = said at *
          generalize outN g k = out at *
          go_wp2_with fail
          refine (K26.out _ (by first | exact HBW.out | exact HBW.out.alloc HBW.out.size _ | skip)).mono ?_
          rintro _ w2 ⟨rfl, b2⟩
          have HU2 := Lib.hid (bu_below (by first | exact HBU.out | exact bu_alloc HBU.out _) b2)
          clear b2
          by_cases hl : 100 < said.size
          · have HW := Lib.hid (HLO.out (HLG.out.mpr hl))
            go_wp2_with fail
            go_ret2
            exact ⟨by rw [HW.out]; rfl, HW1.out.trans (HU2.out.2.mono HW1.out.size)⟩
          · have HS3 := Lib.hid (HST.out (fun h => hl (HLG.out.mp h)))
            have K27 := Lib.hid (bw27 HU2.out said z0 z1)
            go_wp2_with fail
            refine K27.out.mono ?_
            rintro _ w3 ⟨rfl, hu3⟩
            have K28 := Lib.hid (bw28 hu3 (by rw [ByteArray.size_append]; omega))
            clear hu3
            go_wp2_with fail
            refine K28.out.mono ?_
            rintro _ w4 ⟨rfl, hu4⟩
            have HU4 := Lib.hid hu4
            clear hu4
            go_wp2_with fail
            go_roundw
            case rel => exact ⟨k + 1, HK.out, by go_num, by rw [HO2.out, HO.out]; exact HU4.out, HS3.out⟩
            case measure => simp [intOf]; have := HK.out; omega
        · have hkn : k = n := by omega
          subst hkn
          have HW := Lib.hid (putV_ok g k HY.out HIN.out (by omega))
          have K29 := Lib.hid (bw29 HBU.out)
          generalize outN g k = s at *
          go_wp2_with fail
          refine K29.out.mono ?_
          rintro _ w5 ⟨rfl, b5⟩
          have HB5 := Lib.hid b5
          clear b5
          go_wp2_with fail
          go_ret2
          exact ⟨by rw [HW.out]; rfl, HW1.out.trans (HB5.out.mono HW1.out.size)⟩
end Go.Proofs.YtblfnjdbihhglaaGreatDoor.Li
