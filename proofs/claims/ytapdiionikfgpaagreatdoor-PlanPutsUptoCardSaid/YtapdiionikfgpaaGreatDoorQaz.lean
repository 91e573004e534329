import Derived.Test.YtapdiionikfgpaaGreatDoorGc
import Derived.Laws.EntriesVeiled
import Derived.WalkSmall
namespace Go.Proofs.YtapdiionikfgpaaGreatDoor
open Go.ChangeShapes Go.WideShapes Go.ChangeAt Go.RowKit
set_option linter.unusedVariables false
set_option linter.unusedSimpArgs false
/-- a slice -/
def IsS (v : Value) : Prop := ∃ A n c, v = .slice A n c
set_option maxRecDepth 100000 in
set_option maxHeartbeats 4000000 in
theorem find_Co (q : Sv × Co → Bool) (f b : Nat) (A : Option Addr) (c : Nat) (L : List (Sv × Co)) (w : World) (B : Nat) (hro : w.ownsRow B 48 6 (.slice A L.length c) L.length (L.flatMap cCo)) (hl : L.length ≤ 400)
    (hS : ∀ x ∈ L, IsS x.1.f ∧ IsS x.1.e ∧ IsS x.1.i ∧ IsS x.1.d ∧ IsS x.1.g)
    (hf : ∀ args W, (callFunc f args).run Tryz.prog W = .ok (.enter f args) W)
    (hc : ∀ x ∈ L, ∀ W, Below w.heap.size w W → Calls Tryz.prog f #[.agg #[.string x.2.nm, x.1.f, x.1.e, x.1.i, x.1.d, x.1.g], .pointer (some ⟨b, 0, none⟩)] W fun e W' => e = .returned (.bool (q x)) ∧ Below W.heap.size W W') :
    Calls Tryz.prog 117 #[.slice A L.length c, .func (.func f) #[] #[.pointer (some ⟨b, 0, none⟩)]] w fun e w' => e = .returned (.int .i64 (atI (fnd q L))) ∧ Below w.heap.size w w' := by
  have HROW : Hid (∀ W, Below w.heap.size w W → W.ownsRow B 48 6 (.slice A L.length c) L.length (L.flatMap cCo)) := Lib.hid (fun W hW => hro.kept (grown_of_below hW none) (none_or _))
  have HLEN := Lib.hid hl
  have HC := Lib.hid hc
  have HS := Lib.hid hS
  have HHIT : Hid (∀ k x, L[k]? = some x → q x = true → (∀ j, j < k → (L[j]?).any q = false) → fnd q L = some k) := Lib.hid (fun k x hx hp hm => by have := hitD (g := fun y : Sv × Co => y) (p := q) hx hp hm; simpa using this)
  have HMISS : Hid ((∀ j, j < L.length → (L[j]?).any q = false) → fnd q L = none) := Lib.hid (fun hm => by have := missD (g := fun y : Sv × Co => y) (p := q) hm; simpa using this)
  clear hro hl hc hS
  go_enter Tryz.func117, Tryz.ntmps117
  go_wp2_with fail
  go_loopw [5, 6, 9] (fun _ _ i wr => FB w L.length (fun j => (L[j]?).any q) i wr) (fun _ _ i _ => L.length - (intOf i).toNat)
  case atStart => exact ⟨0, Nat.zero_le _, rfl, Below.refl _ _, fun j hj => absurd hj (by omega)⟩
  case round =>
    obtain ⟨k, hk, rfl, hb, hm⟩ := hrel
    have HM := Lib.hid hm
    have HB := Lib.hid hb
    clear hm hb
    by_cases hlt : k < L.length
    · obtain ⟨x, hx⟩ : ∃ x, L[k]? = some x := ⟨_, List.getElem?_eq_getElem hlt⟩
      obtain ⟨⟨F1, n1, c1, h1⟩, ⟨F2, n2, c2, h2⟩, ⟨F3, n3, c3, h3⟩, ⟨F4, n4, c4, h4⟩, ⟨F5, n5, c5, h5⟩⟩ := HS.out x (List.mem_of_getElem? hx)
      obtain ⟨⟨xf, xe, xi, xd, xg⟩, xc⟩ := x
      simp only at h1 h2 h3 h4 h5
      subst h1 h2 h3 h4 h5
      obtain ⟨g, c', hce, hg, hB, hat⟩ := own_at len_cCo (HROW.out wr HB.out) (by omega)
      have i0 := hat k ((⟨.slice F1 n1 c1, .slice F2 n2 c2, .slice F3 n3 c3, .slice F4 n4 c4, .slice F5 n5 c5⟩, xc) : Sv × Co) hx 0 (by omega)
      have i1 := hat k ((⟨.slice F1 n1 c1, .slice F2 n2 c2, .slice F3 n3 c3, .slice F4 n4 c4, .slice F5 n5 c5⟩, xc) : Sv × Co) hx 1 (by omega)
      have i2 := hat k ((⟨.slice F1 n1 c1, .slice F2 n2 c2, .slice F3 n3 c3, .slice F4 n4 c4, .slice F5 n5 c5⟩, xc) : Sv × Co) hx 2 (by omega)
      have i3 := hat k ((⟨.slice F1 n1 c1, .slice F2 n2 c2, .slice F3 n3 c3, .slice F4 n4 c4, .slice F5 n5 c5⟩, xc) : Sv × Co) hx 3 (by omega)
      have i4 := hat k ((⟨.slice F1 n1 c1, .slice F2 n2 c2, .slice F3 n3 c3, .slice F4 n4 c4, .slice F5 n5 c5⟩, xc) : Sv × Co) hx 4 (by omega)
      have i5 := hat k ((⟨.slice F1 n1 c1, .slice F2 n2 c2, .slice F3 n3 c3, .slice F4 n4 c4, .slice F5 n5 c5⟩, xc) : Sv × Co) hx 5 (by omega)
      simp only [Nat.add_zero] at i0
      change wr.cell? ⟨g, k * 6, none⟩ = some (.string xc.nm) at i0
      change wr.cell? ⟨g, k * 6 + 1, none⟩ = some (.slice F1 n1 c1) at i1
      change wr.cell? ⟨g, k * 6 + 2, none⟩ = some (.slice F2 n2 c2) at i2
      change wr.cell? ⟨g, k * 6 + 3, none⟩ = some (.slice F3 n3 c3) at i3
      change wr.cell? ⟨g, k * 6 + 4, none⟩ = some (.slice F4 n4 c4) at i4
      change wr.cell? ⟨g, k * 6 + 5, none⟩ = some (.slice F5 n5 c5) at i5
      have HCE := Lib.hid hce
      cases hce
      have hkn : (k : Int) < (L.length : Int) := by omega
      have hlen := HLEN.out
      have hkw : IntKind.i64.wrap (k : Int) = (k : Int) := by rw [IntKind.wrap_i64]; have := HLEN.out; omega
      have HLT := Lib.hid hlt
      have HX := Lib.hid hx
      have HBA : Hid (Below w.heap.size w (wr.alloc (.cells #[.string xc.nm, .slice F1 n1 c1, .slice F2 n2 c2, .slice F3 n3 c3, .slice F4 n4 c4, .slice F5 n5 c5] 48))) := Lib.hid (HB.out.alloc HB.out.size _)
      have HCA := Lib.hid (HC.out ((⟨.slice F1 n1 c1, .slice F2 n2 c2, .slice F3 n3 c3, .slice F4 n4 c4, .slice F5 n5 c5⟩, xc) : Sv × Co) (List.mem_of_getElem? hx) _ HBA.out)
      clear hat hlt hx
      cases hq : q ((⟨.slice F1 n1 c1, .slice F2 n2 c2, .slice F3 n3 c3, .slice F4 n4 c4, .slice F5 n5 c5⟩, xc) : Sv × Co)
      · rw [hq] at HCA
        have HQ := Lib.hid hq
        clear hq
        go_wp2_with fail
        with_reducible refine HCA.out.mono ?_
        rintro _ w5 ⟨rfl, hb5⟩
        have HB5 : Hid (Below w.heap.size w w5) := Lib.hid (HBA.out.trans (hb5.mono HBA.out.size))
        clear hb5
        go_wp2_with fail
        go_roundw
        case rel => exact ⟨k + 1, HLT.out, by go_num, HB5.out, fun j hj => by
          by_cases hjk : j = k
          · subst hjk
            show (L[j]?).any _ = false
            rw [HX.out]
            exact HQ.out
          · exact HM.out j (by omega)⟩
        case measure => simp [intOf]; have := HLT.out; omega
      · rw [hq] at HCA
        have HR := Lib.hid (HHIT.out k ((⟨.slice F1 n1 c1, .slice F2 n2 c2, .slice F3 n3 c3, .slice F4 n4 c4, .slice F5 n5 c5⟩, xc) : Sv × Co) HX.out hq HM.out)
        clear hq
        go_wp2_with fail
        with_reducible refine HCA.out.mono ?_
        rintro _ w5 ⟨rfl, hb5⟩
        have HB5 : Hid (Below w.heap.size w w5) := Lib.hid (HBA.out.trans (hb5.mono HBA.out.size))
        clear hb5
        go_wp2_with fail
        go_ret
        exact ⟨by rw [HR.out]; rfl, HB5.out⟩
    · have HR := Lib.hid (HMISS.out (fun j hj => HM.out j (by omega)))
      obtain rfl : k = L.length := by omega
      clear hlt
      go_wp2_with fail
      go_ret
      exact ⟨by rw [HR.out]; rfl, HB.out⟩
set_option maxRecDepth 100000 in
set_option maxHeartbeats 4000000 in
theorem find_Fs (q : ByteArray × Bool → Bool) (f b : Nat) (A : Option Addr) (c : Nat) (L : List (ByteArray × Bool)) (w : World) (B : Nat) (hro : w.ownsRow B 88 2 (.slice A L.length c) L.length (L.flatMap cFs)) (hl : L.length ≤ 400)
    (hf : ∀ args W, (callFunc f args).run Tryz.prog W = .ok (.enter f args) W)
    (hc : ∀ x ∈ L, ∀ W, Below w.heap.size w W → Calls Tryz.prog f #[.agg #[.string x.1, .bool x.2], .pointer (some ⟨b, 0, none⟩)] W fun e W' => e = .returned (.bool (q x)) ∧ Below W.heap.size W W') :
    Calls Tryz.prog 119 #[.slice A L.length c, .func (.func f) #[] #[.pointer (some ⟨b, 0, none⟩)]] w fun e w' => e = .returned (.int .i64 (atI (fnd q L))) ∧ Below w.heap.size w w' := by
  have HROW : Hid (∀ W, Below w.heap.size w W → W.ownsRow B 88 2 (.slice A L.length c) L.length (L.flatMap cFs)) := Lib.hid (fun W hW => hro.kept (grown_of_below hW none) (none_or _))
  have HLEN := Lib.hid hl
  have HC := Lib.hid hc
  have HHIT : Hid (∀ k x, L[k]? = some x → q x = true → (∀ j, j < k → (L[j]?).any q = false) → fnd q L = some k) := Lib.hid (fun k x hx hp hm => by have := hitD (g := fun y : ByteArray × Bool => y) (p := q) hx hp hm; simpa using this)
  have HMISS : Hid ((∀ j, j < L.length → (L[j]?).any q = false) → fnd q L = none) := Lib.hid (fun hm => by have := missD (g := fun y : ByteArray × Bool => y) (p := q) hm; simpa using this)
  clear hro hl hc
  go_enter Tryz.func119, Tryz.ntmps119
  go_wp2_with fail
  go_loopw [5, 6, 9] (fun _ _ i wr => FB w L.length (fun j => (L[j]?).any q) i wr) (fun _ _ i _ => L.length - (intOf i).toNat)
  case atStart => exact ⟨0, Nat.zero_le _, rfl, Below.refl _ _, fun j hj => absurd hj (by omega)⟩
  case round =>
    obtain ⟨k, hk, rfl, hb, hm⟩ := hrel
    have HM := Lib.hid hm
    have HB := Lib.hid hb
    clear hm hb
    by_cases hlt : k < L.length
    · obtain ⟨x, hx⟩ : ∃ x, L[k]? = some x := ⟨_, List.getElem?_eq_getElem hlt⟩
      obtain ⟨g, c', hce, hg, hB, hat⟩ := own_at len_cFs (HROW.out wr HB.out) (by omega)
      have i0 := hat k x hx 0 (by omega)
      have i1 := hat k x hx 1 (by omega)
      simp only [Nat.add_zero] at i0
      change wr.cell? ⟨g, k * 2, none⟩ = some (.string x.1) at i0
      change wr.cell? ⟨g, k * 2 + 1, none⟩ = some (.bool x.2) at i1
      have HCE := Lib.hid hce
      cases hce
      have hkn : (k : Int) < (L.length : Int) := by omega
      have hlen := HLEN.out
      have hkw : IntKind.i64.wrap (k : Int) = (k : Int) := by rw [IntKind.wrap_i64]; have := HLEN.out; omega
      have HLT := Lib.hid hlt
      have HX := Lib.hid hx
      have HBA : Hid (Below w.heap.size w (wr.alloc (.cells #[.string x.1, .bool x.2] 88))) := Lib.hid (HB.out.alloc HB.out.size _)
      have HCA := Lib.hid (HC.out x (List.mem_of_getElem? hx) _ HBA.out)
      clear hat hlt hx
      cases hq : q x
      · rw [hq] at HCA
        have HQ := Lib.hid hq
        clear hq
        go_wp2_with fail
        with_reducible refine HCA.out.mono ?_
        rintro _ w5 ⟨rfl, hb5⟩
        have HB5 : Hid (Below w.heap.size w w5) := Lib.hid (HBA.out.trans (hb5.mono HBA.out.size))
        clear hb5
        go_wp2_with fail
        go_roundw
        case rel => exact ⟨k + 1, HLT.out, by go_num, HB5.out, fun j hj => by
          by_cases hjk : j = k
          · subst hjk
            show (L[j]?).any _ = false
            rw [HX.out]
            exact HQ.out
          · exact HM.out j (by omega)⟩
        case measure => simp [intOf]; have := HLT.out; omega
      · rw [hq] at HCA
        have HR := Lib.hid (HHIT.out k x HX.out hq HM.out)
        clear hq
        go_wp2_with fail
        with_reducible refine HCA.out.mono ?_
        rintro _ w5 ⟨rfl, hb5⟩
        have HB5 : Hid (Below w.heap.size w w5) := Lib.hid (HBA.out.trans (hb5.mono HBA.out.size))
        clear hb5
        go_wp2_with fail
        go_ret
        exact ⟨by rw [HR.out]; rfl, HB5.out⟩
    · have HR := Lib.hid (HMISS.out (fun j hj => HM.out j (by omega)))
      obtain rfl : k = L.length := by omega
      clear hlt
      go_wp2_with fail
      go_ret
      exact ⟨by rw [HR.out]; rfl, HB.out⟩
set_option maxRecDepth 100000 in
set_option maxHeartbeats 4000000 in
theorem find_Es (q : ByteArray × Nat × Nat → Bool) (f b : Nat) (A : Option Addr) (c : Nat) (L : List (ByteArray × Nat × Nat)) (w : World) (B : Nat) (hro : w.ownsRow B 50 3 (.slice A L.length c) L.length (L.flatMap cEs)) (hl : L.length ≤ 400)
    (hf : ∀ args W, (callFunc f args).run Tryz.prog W = .ok (.enter f args) W)
    (hc : ∀ x ∈ L, ∀ W, Below w.heap.size w W → Calls Tryz.prog f #[.agg #[.string x.1, .int .i64 (x.2.1 : Int), .int .i64 (x.2.2 : Int)], .pointer (some ⟨b, 0, none⟩)] W fun e W' => e = .returned (.bool (q x)) ∧ Below W.heap.size W W') :
    Calls Tryz.prog 95 #[.slice A L.length c, .func (.func f) #[] #[.pointer (some ⟨b, 0, none⟩)]] w fun e w' => e = .returned (.int .i64 (atI (fnd q L))) ∧ Below w.heap.size w w' := by
  have HROW : Hid (∀ W, Below w.heap.size w W → W.ownsRow B 50 3 (.slice A L.length c) L.length (L.flatMap cEs)) := Lib.hid (fun W hW => hro.kept (grown_of_below hW none) (none_or _))
  have HLEN := Lib.hid hl
  have HC := Lib.hid hc
  have HHIT : Hid (∀ k x, L[k]? = some x → q x = true → (∀ j, j < k → (L[j]?).any q = false) → fnd q L = some k) := Lib.hid (fun k x hx hp hm => by have := hitD (g := fun y : ByteArray × Nat × Nat => y) (p := q) hx hp hm; simpa using this)
  have HMISS : Hid ((∀ j, j < L.length → (L[j]?).any q = false) → fnd q L = none) := Lib.hid (fun hm => by have := missD (g := fun y : ByteArray × Nat × Nat => y) (p := q) hm; simpa using this)
  clear hro hl hc
  go_enter Tryz.func95, Tryz.ntmps95
  go_wp2_with fail
  go_loopw [5, 6, 9] (fun _ _ i wr => FB w L.length (fun j => (L[j]?).any q) i wr) (fun _ _ i _ => L.length - (intOf i).toNat)
  case atStart => exact ⟨0, Nat.zero_le _, rfl, Below.refl _ _, fun j hj => absurd hj (by omega)⟩
  case round =>
    obtain ⟨k, hk, rfl, hb, hm⟩ := hrel
    have HM := Lib.hid hm
    have HB := Lib.hid hb
    clear hm hb
    by_cases hlt : k < L.length
    · obtain ⟨x, hx⟩ : ∃ x, L[k]? = some x := ⟨_, List.getElem?_eq_getElem hlt⟩
      obtain ⟨g, c', hce, hg, hB, hat⟩ := own_at len_cEs (HROW.out wr HB.out) (by omega)
      have i0 := hat k x hx 0 (by omega)
      have i1 := hat k x hx 1 (by omega)
      have i2 := hat k x hx 2 (by omega)
      simp only [Nat.add_zero] at i0
      change wr.cell? ⟨g, k * 3, none⟩ = some (.string x.1) at i0
      change wr.cell? ⟨g, k * 3 + 1, none⟩ = some (.int .i64 (x.2.1 : Int)) at i1
      change wr.cell? ⟨g, k * 3 + 2, none⟩ = some (.int .i64 (x.2.2 : Int)) at i2
      have HCE := Lib.hid hce
      cases hce
      have hkn : (k : Int) < (L.length : Int) := by omega
      have hlen := HLEN.out
      have hkw : IntKind.i64.wrap (k : Int) = (k : Int) := by rw [IntKind.wrap_i64]; have := HLEN.out; omega
      have HLT := Lib.hid hlt
      have HX := Lib.hid hx
      have HBA : Hid (Below w.heap.size w (wr.alloc (.cells #[.string x.1, .int .i64 (x.2.1 : Int), .int .i64 (x.2.2 : Int)] 50))) := Lib.hid (HB.out.alloc HB.out.size _)
      have HCA := Lib.hid (HC.out x (List.mem_of_getElem? hx) _ HBA.out)
      clear hat hlt hx
      cases hq : q x
      · rw [hq] at HCA
        have HQ := Lib.hid hq
        clear hq
        go_wp2_with fail
        with_reducible refine HCA.out.mono ?_
        rintro _ w5 ⟨rfl, hb5⟩
        have HB5 : Hid (Below w.heap.size w w5) := Lib.hid (HBA.out.trans (hb5.mono HBA.out.size))
        clear hb5
        go_wp2_with fail
        go_roundw
        case rel => exact ⟨k + 1, HLT.out, by go_num, HB5.out, fun j hj => by
          by_cases hjk : j = k
          · subst hjk
            show (L[j]?).any _ = false
            rw [HX.out]
            exact HQ.out
          · exact HM.out j (by omega)⟩
        case measure => simp [intOf]; have := HLT.out; omega
      · rw [hq] at HCA
        have HR := Lib.hid (HHIT.out k x HX.out hq HM.out)
        clear hq
        go_wp2_with fail
        with_reducible refine HCA.out.mono ?_
        rintro _ w5 ⟨rfl, hb5⟩
        have HB5 : Hid (Below w.heap.size w w5) := Lib.hid (HBA.out.trans (hb5.mono HBA.out.size))
        clear hb5
        go_wp2_with fail
        go_ret
        exact ⟨by rw [HR.out]; rfl, HB5.out⟩
    · have HR := Lib.hid (HMISS.out (fun j hj => HM.out j (by omega)))
      obtain rfl : k = L.length := by omega
      clear hlt
      go_wp2_with fail
      go_ret
      exact ⟨by rw [HR.out]; rfl, HB.out⟩
set_option maxRecDepth 100000 in
set_option maxHeartbeats 4000000 in
theorem find_Is (q : Nat × ByteArray → Bool) (f b : Nat) (A : Option Addr) (c : Nat) (L : List (Nat × ByteArray)) (w : World) (B : Nat) (hro : w.ownsRow B 79 2 (.slice A L.length c) L.length (L.flatMap cIs)) (hl : L.length ≤ 400)
    (hf : ∀ args W, (callFunc f args).run Tryz.prog W = .ok (.enter f args) W)
    (hc : ∀ x ∈ L, ∀ W, Below w.heap.size w W → Calls Tryz.prog f #[.agg #[.int .i64 (x.1 : Int), .string x.2], .pointer (some ⟨b, 0, none⟩)] W fun e W' => e = .returned (.bool (q x)) ∧ Below W.heap.size W W') :
    Calls Tryz.prog 121 #[.slice A L.length c, .func (.func f) #[] #[.pointer (some ⟨b, 0, none⟩)]] w fun e w' => e = .returned (.int .i64 (atI (fnd q L))) ∧ Below w.heap.size w w' := by
  have HROW : Hid (∀ W, Below w.heap.size w W → W.ownsRow B 79 2 (.slice A L.length c) L.length (L.flatMap cIs)) := Lib.hid (fun W hW => hro.kept (grown_of_below hW none) (none_or _))
  have HLEN := Lib.hid hl
  have HC := Lib.hid hc
  have HHIT : Hid (∀ k x, L[k]? = some x → q x = true → (∀ j, j < k → (L[j]?).any q = false) → fnd q L = some k) := Lib.hid (fun k x hx hp hm => by have := hitD (g := fun y : Nat × ByteArray => y) (p := q) hx hp hm; simpa using this)
  have HMISS : Hid ((∀ j, j < L.length → (L[j]?).any q = false) → fnd q L = none) := Lib.hid (fun hm => by have := missD (g := fun y : Nat × ByteArray => y) (p := q) hm; simpa using this)
  clear hro hl hc
  go_enter Tryz.func121, Tryz.ntmps121
  go_wp2_with fail
  go_loopw [5, 6, 9] (fun _ _ i wr => FB w L.length (fun j => (L[j]?).any q) i wr) (fun _ _ i _ => L.length - (intOf i).toNat)
  case atStart => exact ⟨0, Nat.zero_le _, rfl, Below.refl _ _, fun j hj => absurd hj (by omega)⟩
  case round =>
    obtain ⟨k, hk, rfl, hb, hm⟩ := hrel
    have HM := Lib.hid hm
    have HB := Lib.hid hb
    clear hm hb
    by_cases hlt : k < L.length
    · obtain ⟨x, hx⟩ : ∃ x, L[k]? = some x := ⟨_, List.getElem?_eq_getElem hlt⟩
      obtain ⟨g, c', hce, hg, hB, hat⟩ := own_at len_cIs (HROW.out wr HB.out) (by omega)
      have i0 := hat k x hx 0 (by omega)
      have i1 := hat k x hx 1 (by omega)
      simp only [Nat.add_zero] at i0
      change wr.cell? ⟨g, k * 2, none⟩ = some (.int .i64 (x.1 : Int)) at i0
      change wr.cell? ⟨g, k * 2 + 1, none⟩ = some (.string x.2) at i1
      have HCE := Lib.hid hce
      cases hce
      have hkn : (k : Int) < (L.length : Int) := by omega
      have hlen := HLEN.out
      have hkw : IntKind.i64.wrap (k : Int) = (k : Int) := by rw [IntKind.wrap_i64]; have := HLEN.out; omega
      have HLT := Lib.hid hlt
      have HX := Lib.hid hx
      have HBA : Hid (Below w.heap.size w (wr.alloc (.cells #[.int .i64 (x.1 : Int), .string x.2] 79))) := Lib.hid (HB.out.alloc HB.out.size _)
      have HCA := Lib.hid (HC.out x (List.mem_of_getElem? hx) _ HBA.out)
      clear hat hlt hx
      cases hq : q x
      · rw [hq] at HCA
        have HQ := Lib.hid hq
        clear hq
        go_wp2_with fail
        with_reducible refine HCA.out.mono ?_
        rintro _ w5 ⟨rfl, hb5⟩
        have HB5 : Hid (Below w.heap.size w w5) := Lib.hid (HBA.out.trans (hb5.mono HBA.out.size))
        clear hb5
        go_wp2_with fail
        go_roundw
        case rel => exact ⟨k + 1, HLT.out, by go_num, HB5.out, fun j hj => by
          by_cases hjk : j = k
          · subst hjk
            show (L[j]?).any _ = false
            rw [HX.out]
            exact HQ.out
          · exact HM.out j (by omega)⟩
        case measure => simp [intOf]; have := HLT.out; omega
      · rw [hq] at HCA
        have HR := Lib.hid (HHIT.out k x HX.out hq HM.out)
        clear hq
        go_wp2_with fail
        with_reducible refine HCA.out.mono ?_
        rintro _ w5 ⟨rfl, hb5⟩
        have HB5 : Hid (Below w.heap.size w w5) := Lib.hid (HBA.out.trans (hb5.mono HBA.out.size))
        clear hb5
        go_wp2_with fail
        go_ret
        exact ⟨by rw [HR.out]; rfl, HB5.out⟩
    · have HR := Lib.hid (HMISS.out (fun j hj => HM.out j (by omega)))
      obtain rfl : k = L.length := by omega
      clear hlt
      go_wp2_with fail
      go_ret
      exact ⟨by rw [HR.out]; rfl, HB.out⟩
set_option maxRecDepth 100000 in
set_option maxHeartbeats 4000000 in
theorem find_Ds (q : ByteArray × Nat × Nat → Bool) (f b : Nat) (A : Option Addr) (c : Nat) (L : List (ByteArray × Nat × Nat)) (w : World) (B : Nat) (hro : w.ownsRow B 90 3 (.slice A L.length c) L.length (L.flatMap cDs)) (hl : L.length ≤ 400)
    (hf : ∀ args W, (callFunc f args).run Tryz.prog W = .ok (.enter f args) W)
    (hc : ∀ x ∈ L, ∀ W, Below w.heap.size w W → Calls Tryz.prog f #[.agg #[.string x.1, .int .u32 (x.2.1 : Int), .int .u32 (x.2.2 : Int)], .pointer (some ⟨b, 0, none⟩)] W fun e W' => e = .returned (.bool (q x)) ∧ Below W.heap.size W W') :
    Calls Tryz.prog 122 #[.slice A L.length c, .func (.func f) #[] #[.pointer (some ⟨b, 0, none⟩)]] w fun e w' => e = .returned (.int .i64 (atI (fnd q L))) ∧ Below w.heap.size w w' := by
  have HROW : Hid (∀ W, Below w.heap.size w W → W.ownsRow B 90 3 (.slice A L.length c) L.length (L.flatMap cDs)) := Lib.hid (fun W hW => hro.kept (grown_of_below hW none) (none_or _))
  have HLEN := Lib.hid hl
  have HC := Lib.hid hc
  have HHIT : Hid (∀ k x, L[k]? = some x → q x = true → (∀ j, j < k → (L[j]?).any q = false) → fnd q L = some k) := Lib.hid (fun k x hx hp hm => by have := hitD (g := fun y : ByteArray × Nat × Nat => y) (p := q) hx hp hm; simpa using this)
  have HMISS : Hid ((∀ j, j < L.length → (L[j]?).any q = false) → fnd q L = none) := Lib.hid (fun hm => by have := missD (g := fun y : ByteArray × Nat × Nat => y) (p := q) hm; simpa using this)
  clear hro hl hc
  go_enter Tryz.func122, Tryz.ntmps122
  go_wp2_with fail
  go_loopw [5, 6, 9] (fun _ _ i wr => FB w L.length (fun j => (L[j]?).any q) i wr) (fun _ _ i _ => L.length - (intOf i).toNat)
  case atStart => exact ⟨0, Nat.zero_le _, rfl, Below.refl _ _, fun j hj => absurd hj (by omega)⟩
  case round =>
    obtain ⟨k, hk, rfl, hb, hm⟩ := hrel
    have HM := Lib.hid hm
    have HB := Lib.hid hb
    clear hm hb
    by_cases hlt : k < L.length
    · obtain ⟨x, hx⟩ : ∃ x, L[k]? = some x := ⟨_, List.getElem?_eq_getElem hlt⟩
      obtain ⟨g, c', hce, hg, hB, hat⟩ := own_at len_cDs (HROW.out wr HB.out) (by omega)
      have i0 := hat k x hx 0 (by omega)
      have i1 := hat k x hx 1 (by omega)
      have i2 := hat k x hx 2 (by omega)
      simp only [Nat.add_zero] at i0
      change wr.cell? ⟨g, k * 3, none⟩ = some (.string x.1) at i0
      change wr.cell? ⟨g, k * 3 + 1, none⟩ = some (.int .u32 (x.2.1 : Int)) at i1
      change wr.cell? ⟨g, k * 3 + 2, none⟩ = some (.int .u32 (x.2.2 : Int)) at i2
      have HCE := Lib.hid hce
      cases hce
      have hkn : (k : Int) < (L.length : Int) := by omega
      have hlen := HLEN.out
      have hkw : IntKind.i64.wrap (k : Int) = (k : Int) := by rw [IntKind.wrap_i64]; have := HLEN.out; omega
      have HLT := Lib.hid hlt
      have HX := Lib.hid hx
      have HBA : Hid (Below w.heap.size w (wr.alloc (.cells #[.string x.1, .int .u32 (x.2.1 : Int), .int .u32 (x.2.2 : Int)] 90))) := Lib.hid (HB.out.alloc HB.out.size _)
      have HCA := Lib.hid (HC.out x (List.mem_of_getElem? hx) _ HBA.out)
      clear hat hlt hx
      cases hq : q x
      · rw [hq] at HCA
        have HQ := Lib.hid hq
        clear hq
        go_wp2_with fail
        with_reducible refine HCA.out.mono ?_
        rintro _ w5 ⟨rfl, hb5⟩
        have HB5 : Hid (Below w.heap.size w w5) := Lib.hid (HBA.out.trans (hb5.mono HBA.out.size))
        clear hb5
        go_wp2_with fail
        go_roundw
        case rel => exact ⟨k + 1, HLT.out, by go_num, HB5.out, fun j hj => by
          by_cases hjk : j = k
          · subst hjk
            show (L[j]?).any _ = false
            rw [HX.out]
            exact HQ.out
          · exact HM.out j (by omega)⟩
        case measure => simp [intOf]; have := HLT.out; omega
      · rw [hq] at HCA
        have HR := Lib.hid (HHIT.out k x HX.out hq HM.out)
        clear hq
        go_wp2_with fail
        with_reducible refine HCA.out.mono ?_
        rintro _ w5 ⟨rfl, hb5⟩
        have HB5 : Hid (Below w.heap.size w w5) := Lib.hid (HBA.out.trans (hb5.mono HBA.out.size))
        clear hb5
        go_wp2_with fail
        go_ret
        exact ⟨by rw [HR.out]; rfl, HB5.out⟩
    · have HR := Lib.hid (HMISS.out (fun j hj => HM.out j (by omega)))
      obtain rfl : k = L.length := by omega
      clear hlt
      go_wp2_with fail
      go_ret
      exact ⟨by rw [HR.out]; rfl, HB.out⟩
set_option maxRecDepth 100000 in
set_option maxHeartbeats 4000000 in
theorem find_Gs (q : Nat × Bool → Bool) (f b : Nat) (A : Option Addr) (c : Nat) (L : List (Nat × Bool)) (w : World) (B : Nat) (hro : w.ownsRow B 92 2 (.slice A L.length c) L.length (L.flatMap cGs)) (hl : L.length ≤ 400)
    (hf : ∀ args W, (callFunc f args).run Tryz.prog W = .ok (.enter f args) W)
    (hc : ∀ x ∈ L, ∀ W, Below w.heap.size w W → Calls Tryz.prog f #[.agg #[.int .i64 (x.1 : Int), .bool x.2], .pointer (some ⟨b, 0, none⟩)] W fun e W' => e = .returned (.bool (q x)) ∧ Below W.heap.size W W') :
    Calls Tryz.prog 123 #[.slice A L.length c, .func (.func f) #[] #[.pointer (some ⟨b, 0, none⟩)]] w fun e w' => e = .returned (.int .i64 (atI (fnd q L))) ∧ Below w.heap.size w w' := by
  have HROW : Hid (∀ W, Below w.heap.size w W → W.ownsRow B 92 2 (.slice A L.length c) L.length (L.flatMap cGs)) := Lib.hid (fun W hW => hro.kept (grown_of_below hW none) (none_or _))
  have HLEN := Lib.hid hl
  have HC := Lib.hid hc
  have HHIT : Hid (∀ k x, L[k]? = some x → q x = true → (∀ j, j < k → (L[j]?).any q = false) → fnd q L = some k) := Lib.hid (fun k x hx hp hm => by have := hitD (g := fun y : Nat × Bool => y) (p := q) hx hp hm; simpa using this)
  have HMISS : Hid ((∀ j, j < L.length → (L[j]?).any q = false) → fnd q L = none) := Lib.hid (fun hm => by have := missD (g := fun y : Nat × Bool => y) (p := q) hm; simpa using this)
  clear hro hl hc
  go_enter Tryz.func123, Tryz.ntmps123
  go_wp2_with fail
  go_loopw [5, 6, 9] (fun _ _ i wr => FB w L.length (fun j => (L[j]?).any q) i wr) (fun _ _ i _ => L.length - (intOf i).toNat)
  case atStart => exact ⟨0, Nat.zero_le _, rfl, Below.refl _ _, fun j hj => absurd hj (by omega)⟩
  case round =>
    obtain ⟨k, hk, rfl, hb, hm⟩ := hrel
    have HM := Lib.hid hm
    have HB := Lib.hid hb
    clear hm hb
    by_cases hlt : k < L.length
    · obtain ⟨x, hx⟩ : ∃ x, L[k]? = some x := ⟨_, List.getElem?_eq_getElem hlt⟩
      obtain ⟨g, c', hce, hg, hB, hat⟩ := own_at len_cGs (HROW.out wr HB.out) (by omega)
      have i0 := hat k x hx 0 (by omega)
      have i1 := hat k x hx 1 (by omega)
      simp only [Nat.add_zero] at i0
      change wr.cell? ⟨g, k * 2, none⟩ = some (.int .i64 (x.1 : Int)) at i0
      change wr.cell? ⟨g, k * 2 + 1, none⟩ = some (.bool x.2) at i1
      have HCE := Lib.hid hce
      cases hce
      have hkn : (k : Int) < (L.length : Int) := by omega
      have hlen := HLEN.out
      have hkw : IntKind.i64.wrap (k : Int) = (k : Int) := by rw [IntKind.wrap_i64]; have := HLEN.out; omega
      have HLT := Lib.hid hlt
      have HX := Lib.hid hx
      have HBA : Hid (Below w.heap.size w (wr.alloc (.cells #[.int .i64 (x.1 : Int), .bool x.2] 92))) := Lib.hid (HB.out.alloc HB.out.size _)
      have HCA := Lib.hid (HC.out x (List.mem_of_getElem? hx) _ HBA.out)
      clear hat hlt hx
      cases hq : q x
      · rw [hq] at HCA
        have HQ := Lib.hid hq
        clear hq
        go_wp2_with fail
        with_reducible refine HCA.out.mono ?_
        rintro _ w5 ⟨rfl, hb5⟩
        have HB5 : Hid (Below w.heap.size w w5) := Lib.hid (HBA.out.trans (hb5.mono HBA.out.size))
        clear hb5
        go_wp2_with fail
        go_roundw
        case rel => exact ⟨k + 1, HLT.out, by go_num, HB5.out, fun j hj => by
          by_cases hjk : j = k
          · subst hjk
            show (L[j]?).any _ = false
            rw [HX.out]
            exact HQ.out
          · exact HM.out j (by omega)⟩
        case measure => simp [intOf]; have := HLT.out; omega
      · rw [hq] at HCA
        have HR := Lib.hid (HHIT.out k x HX.out hq HM.out)
        clear hq
        go_wp2_with fail
        with_reducible refine HCA.out.mono ?_
        rintro _ w5 ⟨rfl, hb5⟩
        have HB5 : Hid (Below w.heap.size w w5) := Lib.hid (HBA.out.trans (hb5.mono HBA.out.size))
        clear hb5
        go_wp2_with fail
        go_ret
        exact ⟨by rw [HR.out]; rfl, HB5.out⟩
    · have HR := Lib.hid (HMISS.out (fun j hj => HM.out j (by omega)))
      obtain rfl : k = L.length := by omega
      clear hlt
      go_wp2_with fail
      go_ret
      exact ⟨by rw [HR.out]; rfl, HB.out⟩
set_option maxRecDepth 100000 in
set_option maxHeartbeats 4000000 in
theorem find_Ss (q : ByteArray × Nat → Bool) (f b : Nat) (A : Option Addr) (c : Nat) (L : List (ByteArray × Nat)) (w : World) (B : Nat) (hro : w.ownsRow B 68 2 (.slice A L.length c) L.length (L.flatMap cSs)) (hl : L.length ≤ 400)
    (hf : ∀ args W, (callFunc f args).run Tryz.prog W = .ok (.enter f args) W)
    (hc : ∀ x ∈ L, ∀ W, Below w.heap.size w W → Calls Tryz.prog f #[.agg #[.string x.1, .int .i64 (x.2 : Int)], .pointer (some ⟨b, 0, none⟩)] W fun e W' => e = .returned (.bool (q x)) ∧ Below W.heap.size W W') :
    Calls Tryz.prog 91 #[.slice A L.length c, .func (.func f) #[] #[.pointer (some ⟨b, 0, none⟩)]] w fun e w' => e = .returned (.int .i64 (atI (fnd q L))) ∧ Below w.heap.size w w' := by
  have HROW : Hid (∀ W, Below w.heap.size w W → W.ownsRow B 68 2 (.slice A L.length c) L.length (L.flatMap cSs)) := Lib.hid (fun W hW => hro.kept (grown_of_below hW none) (none_or _))
  have HLEN := Lib.hid hl
  have HC := Lib.hid hc
  have HHIT : Hid (∀ k x, L[k]? = some x → q x = true → (∀ j, j < k → (L[j]?).any q = false) → fnd q L = some k) := Lib.hid (fun k x hx hp hm => by have := hitD (g := fun y : ByteArray × Nat => y) (p := q) hx hp hm; simpa using this)
  have HMISS : Hid ((∀ j, j < L.length → (L[j]?).any q = false) → fnd q L = none) := Lib.hid (fun hm => by have := missD (g := fun y : ByteArray × Nat => y) (p := q) hm; simpa using this)
  clear hro hl hc
  go_enter Tryz.func91, Tryz.ntmps91
  go_wp2_with fail
  go_loopw [5, 6, 9] (fun _ _ i wr => FB w L.length (fun j => (L[j]?).any q) i wr) (fun _ _ i _ => L.length - (intOf i).toNat)
  case atStart => exact ⟨0, Nat.zero_le _, rfl, Below.refl _ _, fun j hj => absurd hj (by omega)⟩
  case round =>
    obtain ⟨k, hk, rfl, hb, hm⟩ := hrel
    have HM := Lib.hid hm
    have HB := Lib.hid hb
    clear hm hb
    by_cases hlt : k < L.length
    · obtain ⟨x, hx⟩ : ∃ x, L[k]? = some x := ⟨_, List.getElem?_eq_getElem hlt⟩
      obtain ⟨g, c', hce, hg, hB, hat⟩ := own_at len_cSs (HROW.out wr HB.out) (by omega)
      have i0 := hat k x hx 0 (by omega)
      have i1 := hat k x hx 1 (by omega)
      simp only [Nat.add_zero] at i0
      change wr.cell? ⟨g, k * 2, none⟩ = some (.string x.1) at i0
      change wr.cell? ⟨g, k * 2 + 1, none⟩ = some (.int .i64 (x.2 : Int)) at i1
      have HCE := Lib.hid hce
      cases hce
      have hkn : (k : Int) < (L.length : Int) := by omega
      have hlen := HLEN.out
      have hkw : IntKind.i64.wrap (k : Int) = (k : Int) := by rw [IntKind.wrap_i64]; have := HLEN.out; omega
      have HLT := Lib.hid hlt
      have HX := Lib.hid hx
      have HBA : Hid (Below w.heap.size w (wr.alloc (.cells #[.string x.1, .int .i64 (x.2 : Int)] 68))) := Lib.hid (HB.out.alloc HB.out.size _)
      have HCA := Lib.hid (HC.out x (List.mem_of_getElem? hx) _ HBA.out)
      clear hat hlt hx
      cases hq : q x
      · rw [hq] at HCA
        have HQ := Lib.hid hq
        clear hq
        go_wp2_with fail
        with_reducible refine HCA.out.mono ?_
        rintro _ w5 ⟨rfl, hb5⟩
        have HB5 : Hid (Below w.heap.size w w5) := Lib.hid (HBA.out.trans (hb5.mono HBA.out.size))
        clear hb5
        go_wp2_with fail
        go_roundw
        case rel => exact ⟨k + 1, HLT.out, by go_num, HB5.out, fun j hj => by
          by_cases hjk : j = k
          · subst hjk
            show (L[j]?).any _ = false
            rw [HX.out]
            exact HQ.out
          · exact HM.out j (by omega)⟩
        case measure => simp [intOf]; have := HLT.out; omega
      · rw [hq] at HCA
        have HR := Lib.hid (HHIT.out k x HX.out hq HM.out)
        clear hq
        go_wp2_with fail
        with_reducible refine HCA.out.mono ?_
        rintro _ w5 ⟨rfl, hb5⟩
        have HB5 : Hid (Below w.heap.size w w5) := Lib.hid (HBA.out.trans (hb5.mono HBA.out.size))
        clear hb5
        go_wp2_with fail
        go_ret
        exact ⟨by rw [HR.out]; rfl, HB5.out⟩
    · have HR := Lib.hid (HMISS.out (fun j hj => HM.out j (by omega)))
      obtain rfl : k = L.length := by omega
      clear hlt
      go_wp2_with fail
      go_ret
      exact ⟨by rw [HR.out]; rfl, HB.out⟩
end Go.Proofs.YtapdiionikfgpaaGreatDoor
