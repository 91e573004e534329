import Derived.Test.YtapdiionikfgpaaGreatDoorGb
import Derived.Deep.AppendLies
import Derived.Deep.DrawnRows
import Derived.Deep.RegionLaw
namespace Go.Proofs.YtapdiionikfgpaaGreatDoor
open Go.ChangeShapes Go.WideShapes Go.ChangeAt Go.RowKit
set_option linter.unusedVariables false
set_option linter.unusedSimpArgs false
theorem own_off {w : World} {B e z n tb : Nat} {v : Value} {xs : List Value} (h : w.ownsRow B e z v n xs) (ht : tb < B) : v.ownBlock = none ∨ v.ownBlock ≠ some tb := by
  rcases own_old h with h1 | ⟨g, h1, _, h2⟩
  · exact Or.inl h1
  · exact Or.inr (by rw [h1]; simp; omega)
theorem PlIn.off {W W' : World} {B tb : Nat} {SV CV : Value} {ss : List (ByteArray × Nat)} {D : List (Sv × Co)} (h : PlIn W B SV CV ss D) (hg : W.grownBy W' (some tb)) (ht : tb < B) : PlIn W' B SV CV ss D :=
  ⟨h.1.kept hg (own_off h.1 ht), h.2.1.kept hg (own_off h.2.1 ht), fun i x hx => by
    have hX := h.2.2.1 i x hx
    exact hX.grown hg (own_off hX.1 ht) (own_off hX.2.1 ht) (own_off hX.2.2.1 ht) (own_off hX.2.2.2.1 ht) (own_off hX.2.2.2.2 ht), h.2.2.2⟩
/-- what a line answers, and leaves -/
def Lp (tb B : Nat) (o : Nat × Pm) (w : World) (e : Ending) (w' : World) : Prop := e = .returned (.int .i64 (o.1 : Int)) ∧ Below tb w w' ∧ (o.1 = 0 → ∃ SV CV D, RS w' B tb SV CV o.2 D)
theorem lp_err {tb B k : Nat} {q p : Pm} {o : Nat × Pm} {w w' : World} (ho : o = (k + 1, q)) (hb : Below tb w w') : Lp tb B o w (.returned (.int .i64 ((k + 1 : Nat) : Int))) w' := by
  subst ho
  exact ⟨rfl, hb, fun h => by cases h⟩
theorem onceV_some {old x : Nat} {set : Nat → Pm} {p : Pm} : onceV old (some x) set p = if old ≠ 0 then (7, p) else (0, set x) := rfl
theorem tb_set {W : World} {tb j : Nat} {u : Value} {w : World} (h : Below tb w W) : Below tb w (W.setCell ⟨tb, j, none⟩ u) := h.setCell (by simp) u
theorem line_stack (p : Pm) (a : ByteArray) : lineV p [kStack, a] = onceV p.st (numO a 64 4088 8) (fun n => { p with st := n }) p := by
  show two p kStack a = _
  unfold two
  rw [if_pos rfl]
set_option maxRecDepth 100000 in
set_option maxHeartbeats 4000000 in
theorem r21_stack (a : ByteArray) (w : World) (B tb : Nat) (SV CV : Value) (p : Pm) (D : List (Sv × Co)) (h : RS w B tb SV CV p D) (hs : a.size ≤ 9223372036854775807) (b o c : Nat) (hb : b < tb)
    (q0 : w.cell? ⟨b, o, none⟩ = some (.string ⟨#[115, 116, 97, 99, 107]⟩)) (q1 : w.cell? ⟨b, o + 1, none⟩ = some (.string a)) :
    Calls Tryz.prog 21 #[.pointer (some ⟨tb, 0, none⟩), .slice (some ⟨b, o, none⟩) 2 c] w fun e w' => Lp tb B (lineV p [kStack, a]) w e w' := by
  have HLV := Lib.hid (line_stack p a)
  have HRS := Lib.hid h
  have HTB : Hid (tb < w.heap.size) := Lib.hid h.1.lt
  have H48 := Lib.hid (r48 a 64 4088 8 hs (by omega) (by omega) (by omega) (by omega) w)
  rw [show ((64 : Nat) : Int) = 64 from rfl, show ((4088 : Nat) : Int) = 4088 from rfl, show ((8 : Nat) : Int) = 8 from rfl] at H48
  clear h hs
  go_enter Tryz.func21, Tryz.ntmps21
  go_wp2_with fail
  with_reducible refine H48.out.mono ?_
  rintro _ w5 ⟨⟨n, hn, hnm, rfl⟩, hb5⟩
  have HR5 := Lib.hid (HRS.out.below hb5)
  have HB5 : Hid (Below tb w w5) := Lib.hid (hb5.mono (by have := HTB.out; omega))
  have g0 := HR5.out.1.cell 0
  have g6 := HR5.out.1.cell 6
  have z0 := HR5.out.1.frz 0
  have z6 := HR5.out.1.frz 6
  simp at g0 g6
  have HNM := Lib.hid hnm
  clear hb5 H48 q0 q1 hnm HTB
  cases hv : numO a 64 4088 8 with
  | none =>
    have HX : Hid (lineV p [kStack, a] = (5, p)) := Lib.hid (by rw [HLV.out, hv]; rfl)
    clear hv g0 g6 z0 z6
    go_wp2_with fail
    go_ret
    exact lp_err (p := p) HX.out HB5.out
  | some m =>
    obtain rfl : n = m := HNM.out m hv
    have hlo : 64 ≤ n := by
      cases hvv : valO a with
      | none => rw [numO_none hvv] at hv; cases hv
      | some k =>
        rw [numO_some hvv] at hv
        split at hv
        · rename_i hc; cases hv; exact hc.1
        · cases hv
    have HLO := Lib.hid hlo
    by_cases h0 : p.st = 0
    · have HX : Hid (lineV p [kStack, a] = (0, { p with st := n })) := Lib.hid (by rw [HLV.out, hv]; rw [onceV_some, if_neg (by simp [h0])])
      have e1 : decide (p.st = 0) = true := decide_eq_true h0
      have hnw : IntKind.i64.wrap (n : Int) = (n : Int) := by rw [IntKind.wrap_i64]; omega
      clear hv h0 hlo
      go_wp2_with fail
      go_ret
      refine ⟨by rw [HX.out]; rfl, tb_set (tb_set HB5.out), fun _ => ⟨SV, CV, D, ?_⟩⟩
      rw [HX.out]
      obtain ⟨hx, hp, hd, ht, hc, hss⟩ := HR5.out
      refine ⟨?_, (hp.off (grown_set tb 6 _) ht).off (grown_set tb 0 _) ht, hd, ht, hc, hss⟩
      have hnz : decide (n = 0) = false := decide_eq_false (by have := HLO.out; omega)
      have := (hx.set 6 (.bool true)).set 0 (.int .i64 (n : Int))
      simpa [hnz] using this
    · have HX : Hid (lineV p [kStack, a] = (7, p)) := Lib.hid (by rw [HLV.out, hv]; rw [onceV_some, if_pos (by simpa using h0)])
      have e1 : decide (p.st = 0) = false := decide_eq_false h0
      clear hv h0 g0 z0 z6 hlo
      go_wp2_with fail
      go_ret
      exact lp_err (p := p) HX.out HB5.out
theorem line_trusted (p : Pm) (a : ByteArray) : lineV p [kTrusted, a] = onceV p.tr (numO a 1 60 1) (fun n => { p with tr := n }) p := by
  show two p kTrusted a = _
  unfold two
  rw [if_neg (by decide), if_pos rfl]
set_option maxRecDepth 100000 in
set_option maxHeartbeats 4000000 in
theorem r21_trusted (a : ByteArray) (w : World) (B tb : Nat) (SV CV : Value) (p : Pm) (D : List (Sv × Co)) (h : RS w B tb SV CV p D) (hs : a.size ≤ 9223372036854775807) (b o c : Nat) (hb : b < tb)
    (q0 : w.cell? ⟨b, o, none⟩ = some (.string ⟨#[116, 114, 117, 115, 116, 101, 100]⟩)) (q1 : w.cell? ⟨b, o + 1, none⟩ = some (.string a)) :
    Calls Tryz.prog 21 #[.pointer (some ⟨tb, 0, none⟩), .slice (some ⟨b, o, none⟩) 2 c] w fun e w' => Lp tb B (lineV p [kTrusted, a]) w e w' := by
  have HLV := Lib.hid (line_trusted p a)
  have HRS := Lib.hid h
  have HTB : Hid (tb < w.heap.size) := Lib.hid h.1.lt
  have H48 := Lib.hid (r48 a 1 60 1 hs (by omega) (by omega) (by omega) (by omega) w)
  rw [show ((1 : Nat) : Int) = 1 from rfl, show ((60 : Nat) : Int) = 60 from rfl] at H48
  clear h hs
  go_enter Tryz.func21, Tryz.ntmps21
  go_wp2_with fail
  with_reducible refine H48.out.mono ?_
  rintro _ w5 ⟨⟨n, hn, hnm, rfl⟩, hb5⟩
  have HR5 := Lib.hid (HRS.out.below hb5)
  have HB5 : Hid (Below tb w w5) := Lib.hid (hb5.mono (by have := HTB.out; omega))
  have g0 := HR5.out.1.cell 1
  have g6 := HR5.out.1.cell 7
  have z0 := HR5.out.1.frz 1
  have z6 := HR5.out.1.frz 7
  simp at g0 g6
  have HNM := Lib.hid hnm
  clear hb5 H48 q0 q1 hnm HTB
  cases hv : numO a 1 60 1 with
  | none =>
    have HX : Hid (lineV p [kTrusted, a] = (5, p)) := Lib.hid (by rw [HLV.out, hv]; rfl)
    clear hv g0 g6 z0 z6
    go_wp2_with fail
    go_ret
    exact lp_err (p := p) HX.out HB5.out
  | some m =>
    obtain rfl : n = m := HNM.out m hv
    have hlo : 1 ≤ n := by
      cases hvv : valO a with
      | none => rw [numO_none hvv] at hv; cases hv
      | some k =>
        rw [numO_some hvv] at hv
        split at hv
        · rename_i hc; cases hv; exact hc.1
        · cases hv
    have HLO := Lib.hid hlo
    by_cases h0 : p.tr = 0
    · have HX : Hid (lineV p [kTrusted, a] = (0, { p with tr := n })) := Lib.hid (by rw [HLV.out, hv]; rw [onceV_some, if_neg (by simp [h0])])
      have e1 : decide (p.tr = 0) = true := decide_eq_true h0
      have hnw : IntKind.i64.wrap (n : Int) = (n : Int) := by rw [IntKind.wrap_i64]; omega
      clear hv h0 hlo
      go_wp2_with fail
      go_ret
      refine ⟨by rw [HX.out]; rfl, tb_set (tb_set HB5.out), fun _ => ⟨SV, CV, D, ?_⟩⟩
      rw [HX.out]
      obtain ⟨hx, hp, hd, ht, hc, hss⟩ := HR5.out
      refine ⟨?_, (hp.off (grown_set tb 7 _) ht).off (grown_set tb 1 _) ht, hd, ht, hc, hss⟩
      have hnz : decide (n = 0) = false := decide_eq_false (by have := HLO.out; omega)
      have := (hx.set 7 (.bool true)).set 1 (.int .i64 (n : Int))
      simpa [hnz] using this
    · have HX : Hid (lineV p [kTrusted, a] = (7, p)) := Lib.hid (by rw [HLV.out, hv]; rw [onceV_some, if_pos (by simpa using h0)])
      have e1 : decide (p.tr = 0) = false := decide_eq_false h0
      clear hv h0 g0 z0 z6 hlo
      go_wp2_with fail
      go_ret
      exact lp_err (p := p) HX.out HB5.out
end Go.Proofs.YtapdiionikfgpaaGreatDoor
namespace Go.Proofs.YtapdiionikfgpaaGreatDoor
open Go.ChangeShapes Go.WideShapes Go.ChangeAt Go.RowKit
open Li (bb)
set_option linter.unusedVariables false
set_option linter.unusedSimpArgs false
theorem info48 : ∃ i, Tryz.prog.info? 48 = some i ∧ i.zero = some (.agg #[.string ⟨#[]⟩, .slice none 0 0, .slice none 0 0, .slice none 0 0, .slice none 0 0, .slice none 0 0]) ∧ i.size = 6 ∧ i.bytes = 136 := by
  have h : (Tryz.prog.info? 48).map (fun i => (i.zero, i.size, i.bytes)) = some (some (.agg #[.string ⟨#[]⟩, .slice none 0 0, .slice none 0 0, .slice none 0 0, .slice none 0 0, .slice none 0 0]), 6, 136) := by kernel_rfl
  cases hq : Tryz.prog.info? 48 with
  | none => rw [hq] at h; cases h
  | some i =>
    rw [hq] at h
    simp only [Option.map_some, Option.some.injEq, Prod.mk.injEq] at h
    exact ⟨i, rfl, h.1, h.2.1, h.2.2⟩
theorem comp_ok {WA W' w : World} {B tb : Nat} {SV V' CV : Value} {p : Pm} {D : List (Sv × Co)} {a : ByteArray} (h : RS WA B tb SV CV p D) (hb : Below tb w WA)
    (ho : W'.ownsRow B 48 6 V' (D.length + 1) (D.flatMap cCo ++ cCo (Sv.nil, Co.new a))) (hg : WA.grownBy W' CV.ownBlock) (hl : D.length ≤ 11) :
    Lp tb B (0, { p with cs := p.cs ++ [Co.new a] }) w (.returned (.int .i64 ((0 : Nat) : Int))) (W'.setCell ⟨tb, 3, none⟩ V') := by
  have hle := h.len
  obtain ⟨hx, hp, hd, ht, hc, hss⟩ := h
  refine ⟨rfl, (hb.grown hg (Nat.le_of_lt hx.lt) (fun k hk => by have := (hp.2.1.lt k hk).1; omega)).setCell (by simp) _, fun _ => ⟨SV, V', D ++ [(Sv.nil, Co.new a)], ?_⟩⟩
  have hx' := (hx.grown hg (own_ne hp.2.1 hx (by decide))).set 3 V'
  refine ⟨by simpa using hx', (hp.comp ho hg).off (grown_set tb 3 _) ht, by simp [hd], ht, by simp only [List.length_append, List.length_singleton]; omega, hss⟩
theorem atI_pos (o : Option Nat) : decide (0 ≤ atI o) = o.isSome := by
  cases o with
  | none => rfl
  | some k => exact decide_eq_true (by show (0 : Int) ≤ (k : Int); omega)
theorem line_comp (p : Pm) (a : ByteArray) : lineV p [kComp, a] = if nameB a = true then addV p.cs (Co.new a) (byName a) 12 (fun l => { p with cs := l }) p else (5, p) := by
  show two p kComp a = _
  unfold two
  rw [if_neg (by decide), if_neg (by decide), if_pos rfl]
set_option maxRecDepth 100000 in
set_option maxHeartbeats 8000000 in
theorem r21_comp (a : ByteArray) (w : World) (B tb : Nat) (SV CV : Value) (p : Pm) (D : List (Sv × Co)) (h : RS w B tb SV CV p D) (hB : B ≤ w.heap.size) (hs : a.size ≤ 9223372036854775807) (b o c : Nat) (hb : b < tb)
    (q0 : w.cell? ⟨b, o, none⟩ = some (.string ⟨#[99, 111, 109, 112, 97, 114, 116, 109, 101, 110, 116]⟩)) (q1 : w.cell? ⟨b, o + 1, none⟩ = some (.string a)) :
    Calls Tryz.prog 21 #[.pointer (some ⟨tb, 0, none⟩), .slice (some ⟨b, o, none⟩) 2 c] w fun e w' => Lp tb B (lineV p [kComp, a]) w e w' := by
  have HLV := Lib.hid (line_comp p a)
  have HRS := Lib.hid h
  have HTB : Hid (tb < w.heap.size) := Lib.hid h.1.lt
  have HBB : Hid (B ≤ w.heap.size) := Lib.hid hB
  have HLE : Hid (D.length = p.cs.length ∧ p.cs.length ≤ 12) := Lib.hid ⟨h.len, h.2.2.2.2.1⟩
  have H22 := Lib.hid (c22 a hs)
  have H50 := Lib.hid (r50 a w B tb SV CV p D h)
  have g3 := h.1.cell 3
  have z3 := h.1.frz 3
  simp at g3
  obtain ⟨A, cc, rfl, _⟩ := own_slice h.2.1.2.1
  clear h hs hB
  cases hnm : nameB a
  · have HX : Hid (lineV p [kComp, a] = (5, p)) := Lib.hid (by rw [HLV.out, if_neg (by rw [hnm]; decide)])
    rw [hnm] at H22
    clear hnm H50 g3 z3
    go_enter Tryz.func21, Tryz.ntmps21
    go_wp2_with fail
    with_reducible refine (H22.out _).mono ?_
    rintro _ w5 ⟨rfl, rfl⟩
    go_wp2_with fail
    go_ret
    exact lp_err (p := p) HX.out (Below.refl _ _)
  rw [hnm] at H22
  have HPOS := Lib.hid (atI_pos (fnd (byName a) p.cs))
  cases hf : fnd (byName a) p.cs with
  | some k =>
    have HX : Hid (lineV p [kComp, a] = (7, p)) := Lib.hid (by rw [HLV.out, if_pos hnm]; unfold addV; rw [hf, if_pos (show (some k).isSome = true from rfl)])
    rw [hf] at H50
    have e1 : decide ((0 : Int) ≤ (k : Int)) = true := by simp
    change Hid (Calls Tryz.prog 50 _ _ fun e w' => e = .returned (.int .i64 (k : Int)) ∧ w' = w) at H50
    clear hnm hf HPOS g3 z3
    go_enter Tryz.func21, Tryz.ntmps21
    go_wp2_with fail
    with_reducible refine (H22.out _).mono ?_
    rintro _ w5 ⟨rfl, rfl⟩
    go_wp2_with fail
    with_reducible refine H50.out.mono ?_
    rintro _ w6 ⟨rfl, rfl⟩
    go_wp2_with fail
    go_ret
    exact lp_err (p := p) HX.out (Below.refl _ _)
  | none =>
    rw [hf] at H50
    change Hid (Calls Tryz.prog 50 _ _ fun e w' => e = .returned (.int .i64 (-1)) ∧ w' = w) at H50
    by_cases hl : 12 ≤ D.length
    · have HX : Hid (lineV p [kComp, a] = (3, p)) := Lib.hid (by rw [HLV.out, if_pos hnm]; unfold addV; rw [hf, if_neg (by simp), if_pos (by have := HLE.out.1; omega)])
      have e1 : decide ((12 : Int) ≤ (D.length : Int)) = true := by simp; omega
      clear hnm hf HPOS z3 hl
      go_enter Tryz.func21, Tryz.ntmps21
      go_wp2_with fail
      with_reducible refine (H22.out _).mono ?_
      rintro _ w5 ⟨rfl, rfl⟩
      go_wp2_with fail
      with_reducible refine H50.out.mono ?_
      rintro _ w6 ⟨rfl, rfl⟩
      go_wp2_with fail
      go_ret
      exact lp_err (p := p) HX.out (Below.refl _ _)
    · have HX : Hid (lineV p [kComp, a] = (0, { p with cs := p.cs ++ [Co.new a] })) := Lib.hid (by rw [HLV.out, if_pos hnm]; unfold addV; rw [hf, if_neg (by simp), if_neg (by have := HLE.out.1; omega)])
      have e1 : decide ((12 : Int) ≤ (D.length : Int)) = false := by simp; omega
      have hl2 : D.length ≤ 11 := by omega
      have HL2 := Lib.hid hl2
      clear hnm hf HPOS hl
      obtain ⟨i0, hi0, hz0, hz1, hz2⟩ := info48
      have HI0 := Lib.hid hi0
      have HZ0 := Lib.hid hz0
      have HZ1 := Lib.hid hz1
      have HZ2 := Lib.hid hz2
      have HNL : Hid (D.length + 1 ≤ maxLen) := Lib.hid (by unfold maxLen; omega)
      have HNB : Hid ((D.length + 1) * 136 ≤ 140737488355328) := Lib.hid (by omega)
      have HBL : Hid (Below w.heap.size w (w.drew.alloc (.cells #[.string a, .slice none 0 0, .slice none 0 0, .slice none 0 0, .slice none 0 0, .slice none 0 0] 48))) := Lib.hid ((Below.refl _ w).drew.alloc (by simp) _)
      have HPA : Hid (RS (w.drew.alloc (.cells #[.string a, .slice none 0 0, .slice none 0 0, .slice none 0 0, .slice none 0 0, .slice none 0 0] 48)) B tb SV (.slice A D.length cc) p D) := Lib.hid (HRS.out.below HBL.out)
      have HED : Hid ((w.drew.alloc (.cells #[.string a, .slice none 0 0, .slice none 0 0, .slice none 0 0, .slice none 0 0, .slice none 0 0] 48)).ownsRow B 48 6 (.slice A D.length cc) D.length (D.flatMap cCo)) := Lib.hid HPA.out.2.1.2.1
      have HBS : Hid (B ≤ (w.drew.alloc (.cells #[.string a, .slice none 0 0, .slice none 0 0, .slice none 0 0, .slice none 0 0, .slice none 0 0] 48)).heap.size) := Lib.hid (by have := HBB.out; simp; omega)
      have HNW : Hid (∀ j u, (#[.string a, .slice none 0 0, .slice none 0 0, .slice none 0 0, .slice none 0 0, .slice none 0 0] : Array Value).toList[j]? = some u → (w.drew.alloc (.cells #[.string a, .slice none 0 0, .slice none 0 0, .slice none 0 0, .slice none 0 0, .slice none 0 0] 48)).cell? ((⟨w.heap.size, 0, none⟩ : Addr).add j) = some u) := Lib.hid (World.news_of_block (heap_alloc_new w.drew (.cells #[.string a, .slice none 0 0, .slice none 0 0, .slice none 0 0, .slice none 0 0, .slice none 0 0] 48)))
      have HOC : Hid (∀ u ∈ ([.string a, .slice none 0 0, .slice none 0 0, .slice none 0 0, .slice none 0 0, .slice none 0 0] : List Value), u.oneCell' = true) := Lib.hid (by intro u hu; simp at hu; rcases hu with rfl | rfl <;> rfl)
      have HG : Hid (∀ W', World.grownBy (w.drew.alloc (.cells #[.string a, .slice none 0 0, .slice none 0 0, .slice none 0 0, .slice none 0 0, .slice none 0 0] 48)) W' (Value.ownBlock (.slice A D.length cc)) → W'.cell? ⟨tb, 3, none⟩ = some (.slice A D.length cc) ∧ W'.frozen? ⟨tb, 3, none⟩ = false) := Lib.hid (fun W' hg => by
        have hx := HPA.out.1.grown hg (own_ne HED.out HPA.out.1 (by decide))
        exact ⟨hx.cell 3, hx.frz 3⟩)
      have htb := HTB.out
      have htne : tb ≠ w.heap.size := by omega
      have g3a : (w.drew.alloc (.cells #[.string a, .slice none 0 0, .slice none 0 0, .slice none 0 0, .slice none 0 0, .slice none 0 0] 48)).cell? ⟨tb, 3, none⟩ = some (.slice A D.length cc) := HPA.out.1.cell 3
      clear hi0 hz0 hz1 hz2
      go_enter Tryz.func21, Tryz.ntmps21
      go_wp2_with fail
      with_reducible refine (H22.out _).mono ?_
      rintro _ w5 ⟨rfl, rfl⟩
      go_wp2_with fail
      with_reducible refine H50.out.mono ?_
      rintro _ w6 ⟨rfl, rfl⟩
      go_upto_region 25 with fail
      go_region_law (first | (refine step_append_lies _ (by rfl) _ _ 23 (by rfl) B 48 i0 (.agg #[.string ⟨#[]⟩, .slice none 0 0, .slice none 0 0, .slice none 0 0, .slice none 0 0, .slice none 0 0]) 6 136 Tryz.underlying23 HI0.out HZ0.out HZ1.out HZ2.out rfl (by decide) (.slice A D.length cc) D.length (D.flatMap cCo) (by rfl) HED.out ⟨w6.heap.size, 0, none⟩ 1 1 [.string a, .slice none 0 0, .slice none 0 0, .slice none 0 0, .slice none 0 0, .slice none 0 0] (by rfl) rfl HNW.out HOC.out (by decide) HNL.out HNB.out HBS.out _ rfl ?_; intro g5 c5 w7 hown5 hgrow5 hat5 hlt5; obtain ⟨x5a, x5b⟩ := HG.out w7 hgrow5))
      all_goals
        go_wp2_with fail
        go_ret
        rw [HX.out]
        exact comp_ok HPA.out (HBL.out.mono (Nat.le_of_lt HTB.out)) hown5 hgrow5 HL2.out
end Go.Proofs.YtapdiionikfgpaaGreatDoor
namespace Go.Proofs.YtapdiionikfgpaaGreatDoor
open Go.ChangeShapes Go.WideShapes Go.ChangeAt Go.RowKit
open Li (bb)
set_option linter.unusedVariables false
set_option linter.unusedSimpArgs false
theorem info68 : ∃ i, Tryz.prog.info? 68 = some i ∧ i.zero = some (.agg #[.string ⟨#[]⟩, .int .i64 0]) ∧ i.size = 2 ∧ i.bytes = 24 := by
  have h : (Tryz.prog.info? 68).map (fun i => (i.zero, i.size, i.bytes)) = some (some (.agg #[.string ⟨#[]⟩, .int .i64 0]), 2, 24) := by kernel_rfl
  cases hq : Tryz.prog.info? 68 with
  | none => rw [hq] at h; cases h
  | some i =>
    rw [hq] at h
    simp only [Option.map_some, Option.some.injEq, Prod.mk.injEq] at h
    exact ⟨i, rfl, h.1, h.2.1, h.2.2⟩
theorem share_ok {WA W' w : World} {B tb : Nat} {SV V' CV : Value} {p : Pm} {D : List (Sv × Co)} {y : ByteArray × Nat} (h : RS WA B tb SV CV p D) (hb : Below tb w WA)
    (ho : W'.ownsRow B 68 2 V' (p.ss.length + 1) (p.ss.flatMap cSs ++ cSs y)) (hg : WA.grownBy W' SV.ownBlock) (hl : p.ss.length ≤ 7) :
    Lp tb B (0, { p with ss := p.ss ++ [y] }) w (.returned (.int .i64 ((0 : Nat) : Int))) (W'.setCell ⟨tb, 2, none⟩ V') := by
  obtain ⟨hx, hp, hd, ht, hc, hss⟩ := h
  refine ⟨rfl, (hb.grown hg (Nat.le_of_lt hx.lt) (fun k hk => by have := (hp.1.lt k hk).1; omega)).setCell (by simp) _, fun _ => ⟨V', CV, D, ?_⟩⟩
  have hx' := (hx.grown hg (own_ne hp.1 hx (by decide))).set 2 V'
  refine ⟨by simpa using hx', (hp.share ho hg).off (grown_set tb 2 _) ht, hd, ht, hc, by simp only [List.length_append, List.length_singleton]; omega⟩
theorem line_share (p : Pm) (a b : ByteArray) : lineV p [kShare, a, b] = shareV p a b := by
  show three p kShare a b = _
  unfold three
  rw [if_pos rfl]
theorem shareV_none {p : Pm} {a b : ByteArray} (h : numO b 1 4096 1 = none) : shareV p a b = (5, p) := by
  show shareO (numO b 1 4096 1) p a = _
  rw [h]
  rfl
theorem shareV_some {p : Pm} {a b : ByteArray} {n : Nat} (h : numO b 1 4096 1 = some n) : shareV p a b = if nameB a = true then addV p.ss (a, n) (fun x => decide (x.1 = a)) 8 (fun l => { p with ss := l }) p else (5, p) := by
  show shareO (numO b 1 4096 1) p a = _
  rw [h]
  rfl
theorem numO_le {s : ByteArray} {lo hi of n : Nat} (h : numO s lo hi of = some n) : lo ≤ n ∧ n ≤ hi ∧ n % of = 0 := by
  cases hvv : valO s with
  | none => rw [numO_none hvv] at h; cases h
  | some k =>
    rw [numO_some hvv] at h
    split at h
    · rename_i hc; cases h; exact hc
    · cases h
set_option maxRecDepth 100000 in
set_option maxHeartbeats 8000000 in
theorem r21_share (a t : ByteArray) (w : World) (B tb : Nat) (SV CV : Value) (p : Pm) (D : List (Sv × Co)) (h : RS w B tb SV CV p D) (hB : B ≤ w.heap.size) (hs : a.size ≤ 9223372036854775807) (hs2 : t.size ≤ 9223372036854775807) (b o c : Nat) (hb : b < tb)
    (q0 : w.cell? ⟨b, o, none⟩ = some (.string ⟨#[115, 104, 97, 114, 101]⟩)) (q1 : w.cell? ⟨b, o + 1, none⟩ = some (.string a)) (q2 : w.cell? ⟨b, o + 2, none⟩ = some (.string t)) :
    Calls Tryz.prog 21 #[.pointer (some ⟨tb, 0, none⟩), .slice (some ⟨b, o, none⟩) 3 c] w fun e w' => Lp tb B (lineV p [kShare, a, t]) w e w' := by
  have HLV := Lib.hid (line_share p a t)
  have HRS := Lib.hid h
  have HTB : Hid (tb < w.heap.size) := Lib.hid h.1.lt
  have HBB : Hid (B ≤ w.heap.size) := Lib.hid hB
  have HLE : Hid (p.ss.length ≤ 8) := Lib.hid h.2.2.2.2.2
  have H22 := Lib.hid (c22 a hs)
  have H48 := Lib.hid (r48 t 1 4096 1 hs2 (by omega) (by omega) (by omega) (by omega) w)
  rw [show ((1 : Nat) : Int) = 1 from rfl, show ((4096 : Nat) : Int) = 4096 from rfl] at H48
  obtain ⟨A, cc, rfl, _⟩ := own_slice h.2.1.1
  clear h hs hB hs2
  go_enter Tryz.func21, Tryz.ntmps21
  go_wp2_with fail
  with_reducible refine H48.out.mono ?_
  rintro _ w5 ⟨⟨n, hn, hnm, rfl⟩, hb5⟩
  have HR5 := Lib.hid (HRS.out.below hb5)
  have HB5 : Hid (Below tb w w5) := Lib.hid (hb5.mono (by have := HTB.out; omega))
  have HBB5 : Hid (B ≤ w5.heap.size) := Lib.hid (Nat.le_trans HBB.out hb5.size)
  have HTB5 : Hid (tb < w5.heap.size) := Lib.hid HR5.out.1.lt
  have q1' : w5.cell? ⟨b, o + 1, none⟩ = some (.string a) := (hb5.cell (p := ⟨b, _, none⟩) (by have := HTB.out; show b < _; omega)).trans q1
  have HNM := Lib.hid hnm
  clear hb5 H48 q0 q1 q2 hnm
  cases hv : numO t 1 4096 1 with
  | none =>
    have HX : Hid (lineV p [kShare, a, t] = (5, p)) := Lib.hid (by rw [HLV.out, shareV_none hv])
    clear hv
    cases hnmb : nameB a
    · rw [hnmb] at H22
      go_wp2_with fail
      with_reducible refine (H22.out _).mono ?_
      rintro _ w6 ⟨rfl, rfl⟩
      go_wp2_with fail
      go_ret
      exact lp_err (p := p) HX.out HB5.out
    · rw [hnmb] at H22
      go_wp2_with fail
      with_reducible refine (H22.out _).mono ?_
      rintro _ w6 ⟨rfl, rfl⟩
      go_wp2_with fail
      go_ret
      exact lp_err (p := p) HX.out HB5.out
  | some m =>
    obtain rfl : n = m := HNM.out m hv
    have HNL4 := Lib.hid (numO_le hv)
    have hn4 : n ≤ 4096 := HNL4.out.2.1
    have hnw : IntKind.i64.wrap (n : Int) = (n : Int) := by rw [IntKind.wrap_i64]; omega
    have HSV := Lib.hid (shareV_some (p := p) (a := a) hv)
    cases hnmb : nameB a
    · have HX : Hid (lineV p [kShare, a, t] = (5, p)) := Lib.hid (by rw [HLV.out, HSV.out, if_neg (by rw [hnmb]; decide)])
      rw [hnmb] at H22
      clear hv hnmb
      go_wp2_with fail
      with_reducible refine (H22.out _).mono ?_
      rintro _ w6 ⟨rfl, rfl⟩
      go_wp2_with fail
      go_ret
      exact lp_err (p := p) HX.out HB5.out
    have H51 := Lib.hid (r51 a w5 B tb _ CV p D HR5.out)
    rw [hnmb] at H22
    cases hf : fnd (fun y : ByteArray × Nat => decide (y.1 = a)) p.ss with
    | some k =>
      have HX : Hid (lineV p [kShare, a, t] = (7, p)) := Lib.hid (by rw [HLV.out, HSV.out, if_pos hnmb]; unfold addV; rw [hf, if_pos (show (some k).isSome = true from rfl)])
      rw [hf] at H51
      have e1 : decide ((0 : Int) ≤ (k : Int)) = true := by simp
      change Hid (Calls Tryz.prog 51 _ _ fun e w' => e = .returned (.int .i64 (k : Int)) ∧ w' = w5) at H51
      clear hv hnmb hf
      go_wp2_with fail
      with_reducible refine (H22.out _).mono ?_
      rintro _ w6 ⟨rfl, rfl⟩
      go_wp2_with fail
      with_reducible refine H51.out.mono ?_
      rintro _ w7 ⟨rfl, rfl⟩
      go_wp2_with fail
      go_ret
      exact lp_err (p := p) HX.out HB5.out
    | none =>
      rw [hf] at H51
      change Hid (Calls Tryz.prog 51 _ _ fun e w' => e = .returned (.int .i64 (-1)) ∧ w' = w5) at H51
      have g2 := HR5.out.1.cell 2
      have z2 := HR5.out.1.frz 2
      simp at g2
      by_cases hl : 8 ≤ p.ss.length
      · have HX : Hid (lineV p [kShare, a, t] = (3, p)) := Lib.hid (by rw [HLV.out, HSV.out, if_pos hnmb]; unfold addV; rw [hf, if_neg (by simp), if_pos hl])
        have e1 : decide ((8 : Int) ≤ (p.ss.length : Int)) = true := by simp; omega
        clear hv hnmb hf hl z2
        go_wp2_with fail
        with_reducible refine (H22.out _).mono ?_
        rintro _ w6 ⟨rfl, rfl⟩
        go_wp2_with fail
        with_reducible refine H51.out.mono ?_
        rintro _ w7 ⟨rfl, rfl⟩
        go_wp2_with fail
        go_ret
        exact lp_err (p := p) HX.out HB5.out
      · have HX : Hid (lineV p [kShare, a, t] = (0, { p with ss := p.ss ++ [(a, n)] })) := Lib.hid (by rw [HLV.out, HSV.out, if_pos hnmb]; unfold addV; rw [hf, if_neg (by simp), if_neg hl])
        have e1 : decide ((8 : Int) ≤ (p.ss.length : Int)) = false := by simp; omega
        have hl2 : p.ss.length ≤ 7 := by omega
        have HL2 := Lib.hid hl2
        clear hv hnmb hf hl
        obtain ⟨i0, hi0, hz0, hz1, hz2⟩ := info68
        have HI0 := Lib.hid hi0
        have HZ0 := Lib.hid hz0
        have HZ1 := Lib.hid hz1
        have HZ2 := Lib.hid hz2
        have HNL : Hid (p.ss.length + 1 ≤ maxLen) := Lib.hid (by unfold maxLen; omega)
        have HNB : Hid ((p.ss.length + 1) * 24 ≤ 140737488355328) := Lib.hid (by omega)
        have HBL : Hid (Below w5.heap.size w5 (w5.drew.alloc (.cells #[.string a, .int .i64 (n : Int)] 68))) := Lib.hid ((Below.refl _ w5).drew.alloc (by simp) _)
        have HPA : Hid (RS (w5.drew.alloc (.cells #[.string a, .int .i64 (n : Int)] 68)) B tb (.slice A p.ss.length cc) CV p D) := Lib.hid (HR5.out.below HBL.out)
        have HED : Hid ((w5.drew.alloc (.cells #[.string a, .int .i64 (n : Int)] 68)).ownsRow B 68 2 (.slice A p.ss.length cc) p.ss.length (p.ss.flatMap cSs)) := Lib.hid HPA.out.2.1.1
        have HBS : Hid (B ≤ (w5.drew.alloc (.cells #[.string a, .int .i64 (n : Int)] 68)).heap.size) := Lib.hid (by have := HBB5.out; simp; omega)
        have HNW : Hid (∀ j u, (#[.string a, .int .i64 (n : Int)] : Array Value).toList[j]? = some u → (w5.drew.alloc (.cells #[.string a, .int .i64 (n : Int)] 68)).cell? ((⟨w5.heap.size, 0, none⟩ : Addr).add j) = some u) := Lib.hid (World.news_of_block (heap_alloc_new w5.drew (.cells #[.string a, .int .i64 (n : Int)] 68)))
        have HOC : Hid (∀ u ∈ ([.string a, .int .i64 (n : Int)] : List Value), u.oneCell' = true) := Lib.hid (by intro u hu; simp at hu; rcases hu with rfl | rfl <;> rfl)
        have HG : Hid (∀ W', World.grownBy (w5.drew.alloc (.cells #[.string a, .int .i64 (n : Int)] 68)) W' (Value.ownBlock (.slice A p.ss.length cc)) → W'.cell? ⟨tb, 2, none⟩ = some (.slice A p.ss.length cc) ∧ W'.frozen? ⟨tb, 2, none⟩ = false) := Lib.hid (fun W' hg => by
          have hx := HPA.out.1.grown hg (own_ne HED.out HPA.out.1 (by decide))
          exact ⟨hx.cell 2, hx.frz 2⟩)
        have htb := HTB5.out
        have htne : tb ≠ w5.heap.size := by omega
        have g2a : (w5.drew.alloc (.cells #[.string a, .int .i64 (n : Int)] 68)).cell? ⟨tb, 2, none⟩ = some (.slice A p.ss.length cc) := HPA.out.1.cell 2
        clear hi0 hz0 hz1 hz2
        go_wp2_with fail
        with_reducible refine (H22.out _).mono ?_
        rintro _ w6 ⟨rfl, rfl⟩
        go_wp2_with fail
        with_reducible refine H51.out.mono ?_
        rintro _ w7 ⟨rfl, rfl⟩
        go_upto_region 34 with fail
        go_region_law (first | (refine step_append_lies _ (by rfl) _ _ 22 (by rfl) B 68 i0 (.agg #[.string ⟨#[]⟩, .int .i64 0]) 2 24 Tryz.underlying22 HI0.out HZ0.out HZ1.out HZ2.out rfl (by decide) (.slice A p.ss.length cc) p.ss.length (p.ss.flatMap cSs) (by rfl) HED.out ⟨w7.heap.size, 0, none⟩ 1 1 [.string a, .int .i64 (n : Int)] (by rfl) rfl HNW.out HOC.out (by decide) HNL.out HNB.out HBS.out _ rfl ?_; intro g5 c5 w8 hown5 hgrow5 hat5 hlt5; obtain ⟨x5a, x5b⟩ := HG.out w8 hgrow5))
        all_goals
          go_wp2_with fail
          go_ret
          rw [HX.out]
          exact share_ok (y := (a, n)) HPA.out (HB5.out.trans (HBL.out.mono (Nat.le_of_lt HTB5.out))) hown5 hgrow5 HL2.out
theorem line_start (p : Pm) (a b : ByteArray) : lineV p [kStart, a, b] = startV p a b := by
  show three p kStart a b = _
  unfold three
  rw [if_neg (by decide), if_pos rfl]
theorem startV_no {p : Pm} {a b : ByteArray} (h : ¬ (nameB a = true ∧ symB b = true)) : startV p a b = (5, p) := by
  unfold startV
  rw [if_neg h]
theorem startV_yes {p : Pm} {a b : ByteArray} (h : nameB a = true ∧ symB b = true) : startV p a b = (match fnd (byName a) p.cs with
    | none => (6, p)
    | some k => if p.mn ≠ ⟨#[]⟩ then (7, p) else (0, { p with s0 := k, mn := b })) := by
  unfold startV
  rw [if_pos h]
  rfl
theorem symB_ne {b : ByteArray} (h : symB b = true) : b ≠ ⟨#[]⟩ := by
  intro e
  subst e
  have : symB ⟨#[]⟩ = false := symB_no _ (by decide)
  rw [this] at h
  cases h
set_option maxRecDepth 100000 in
set_option maxHeartbeats 8000000 in
theorem r21_start (a t : ByteArray) (w : World) (B tb : Nat) (SV CV : Value) (p : Pm) (D : List (Sv × Co)) (h : RS w B tb SV CV p D) (hs : a.size ≤ 9223372036854775807) (hs2 : t.size ≤ 9223372036854775807) (b o c : Nat) (hb : b < tb)
    (q0 : w.cell? ⟨b, o, none⟩ = some (.string ⟨#[115, 116, 97, 114, 116]⟩)) (q1 : w.cell? ⟨b, o + 1, none⟩ = some (.string a)) (q2 : w.cell? ⟨b, o + 2, none⟩ = some (.string t)) :
    Calls Tryz.prog 21 #[.pointer (some ⟨tb, 0, none⟩), .slice (some ⟨b, o, none⟩) 3 c] w fun e w' => Lp tb B (lineV p [kStart, a, t]) w e w' := by
  have HLV := Lib.hid (line_start p a t)
  have HRS := Lib.hid h
  have HLE : Hid (p.cs.length ≤ 12) := Lib.hid h.2.2.2.2.1
  have H22 := Lib.hid (c22 a hs)
  have H49 := Lib.hid (c49 t hs2)
  have H50 := Lib.hid (r50 a w B tb SV CV p D h)
  have g4 := h.1.cell 4
  have g5 := h.1.cell 5
  have g8 := h.1.cell 8
  have z4 := h.1.frz 4
  have z5 := h.1.frz 5
  have z8 := h.1.frz 8
  simp at g4 g5 g8
  have hbt : b ≠ tb := by omega
  clear h hs hs2
  cases hnm : nameB a
  · have HX : Hid (lineV p [kStart, a, t] = (5, p)) := Lib.hid (by rw [HLV.out, startV_no (by rw [hnm]; simp)])
    rw [hnm] at H22
    clear hnm H50 H49 g4 g5 g8 z4 z5 z8
    go_enter Tryz.func21, Tryz.ntmps21
    go_wp2_with fail
    with_reducible refine (H22.out _).mono ?_
    rintro _ w5 ⟨rfl, rfl⟩
    go_wp2_with fail
    go_ret
    exact lp_err (p := p) HX.out (Below.refl _ _)
  rw [hnm] at H22
  cases hsy : symB t
  · have HX : Hid (lineV p [kStart, a, t] = (5, p)) := Lib.hid (by rw [HLV.out, startV_no (by rw [hsy]; simp)])
    rw [hsy] at H49
    clear hnm hsy H50 g4 g5 g8 z4 z5 z8
    go_enter Tryz.func21, Tryz.ntmps21
    go_wp2_with fail
    with_reducible refine (H22.out _).mono ?_
    rintro _ w5 ⟨rfl, rfl⟩
    go_wp2_with fail
    with_reducible refine (H49.out _).mono ?_
    rintro _ w6 ⟨rfl, rfl⟩
    go_wp2_with fail
    go_ret
    exact lp_err (p := p) HX.out (Below.refl _ _)
  have HSY := Lib.hid (symB_ne hsy)
  have HYS := Lib.hid (startV_yes (p := p) ⟨hnm, hsy⟩)
  rw [hsy] at H49
  cases hf : fnd (byName a) p.cs with
  | none =>
    have HX : Hid (lineV p [kStart, a, t] = (6, p)) := Lib.hid (by rw [HLV.out, HYS.out, hf])
    rw [hf] at H50
    change Hid (Calls Tryz.prog 50 _ _ fun e w' => e = .returned (.int .i64 (-1)) ∧ w' = w) at H50
    clear hnm hsy hf g4 g5 g8 z4 z5 z8
    go_enter Tryz.func21, Tryz.ntmps21
    go_wp2_with fail
    with_reducible refine (H22.out _).mono ?_
    rintro _ w5 ⟨rfl, rfl⟩
    go_wp2_with fail
    with_reducible refine (H49.out _).mono ?_
    rintro _ w6 ⟨rfl, rfl⟩
    go_wp2_with fail
    with_reducible refine H50.out.mono ?_
    rintro _ w7 ⟨rfl, rfl⟩
    go_wp2_with fail
    go_ret
    exact lp_err (p := p) HX.out (Below.refl _ _)
  | some k =>
    rw [hf] at H50
    change Hid (Calls Tryz.prog 50 _ _ fun e w' => e = .returned (.int .i64 (k : Int)) ∧ w' = w) at H50
    have e1 : decide ((k : Int) < 0) = false := by simp
    by_cases hm : p.mn = ⟨#[]⟩
    · have HX : Hid (lineV p [kStart, a, t] = (0, { p with s0 := k, mn := t })) := Lib.hid (by
        rw [HLV.out, HYS.out, hf]
        show (if p.mn ≠ ⟨#[]⟩ then _ else _) = _
        rw [if_neg (by simp [hm])])
      have e2 : decide (p.mn = ⟨#[]⟩) = true := decide_eq_true hm
      clear hnm hsy hf hm
      go_enter Tryz.func21, Tryz.ntmps21
      go_wp2_with fail
      with_reducible refine (H22.out _).mono ?_
      rintro _ w5 ⟨rfl, rfl⟩
      go_wp2_with fail
      with_reducible refine (H49.out _).mono ?_
      rintro _ w6 ⟨rfl, rfl⟩
      go_wp2_with fail
      with_reducible refine H50.out.mono ?_
      rintro _ w7 ⟨rfl, rfl⟩
      go_wp2_with fail
      go_ret
      refine ⟨by rw [HX.out]; rfl, tb_set (tb_set (tb_set (Below.refl _ _))), fun _ => ⟨SV, CV, D, ?_⟩⟩
      rw [HX.out]
      obtain ⟨hx, hp, hd, ht, hc, hss⟩ := HRS.out
      refine ⟨?_, ((hp.off (grown_set tb 8 _) ht).off (grown_set tb 4 _) ht).off (grown_set tb 5 _) ht, hd, ht, hc, hss⟩
      have hnz : decide (t = ⟨#[]⟩) = false := decide_eq_false HSY.out
      have := ((hx.set 8 (.bool true)).set 4 (.int .i64 (k : Int))).set 5 (.string t)
      simpa [hnz] using this
    · have HX : Hid (lineV p [kStart, a, t] = (7, p)) := Lib.hid (by
        rw [HLV.out, HYS.out, hf]
        show (if p.mn ≠ ⟨#[]⟩ then _ else _) = _
        rw [if_pos hm])
      have e2 : decide (p.mn = ⟨#[]⟩) = false := decide_eq_false hm
      clear hnm hsy hf hm g4 g5 z4 z5 z8
      go_enter Tryz.func21, Tryz.ntmps21
      go_wp2_with fail
      with_reducible refine (H22.out _).mono ?_
      rintro _ w5 ⟨rfl, rfl⟩
      go_wp2_with fail
      with_reducible refine (H49.out _).mono ?_
      rintro _ w6 ⟨rfl, rfl⟩
      go_wp2_with fail
      with_reducible refine H50.out.mono ?_
      rintro _ w7 ⟨rfl, rfl⟩
      go_wp2_with fail
      go_ret
      exact lp_err (p := p) HX.out (Below.refl _ _)
end Go.Proofs.YtapdiionikfgpaaGreatDoor
namespace Go.Proofs.YtapdiionikfgpaaGreatDoor
open Go.ChangeShapes Go.WideShapes Go.ChangeAt Go.RowKit
open Li (bb)
set_option linter.unusedVariables false
set_option linter.unusedSimpArgs false
/-- how a search stands -/
def FB (w : World) (n : Nat) (q : Nat → Bool) (i : Value) (wr : World) : Prop := ∃ k : Nat, k ≤ n ∧ i = .int .i64 (k : Int) ∧ Below w.heap.size w wr ∧ ∀ j, j < k → q j = false
theorem info88 : ∃ i, Tryz.prog.info? 88 = some i ∧ i.zero = some (.agg #[.string ⟨#[]⟩, .bool false]) ∧ i.size = 2 ∧ i.bytes = 24 := by
  have h : (Tryz.prog.info? 88).map (fun i => (i.zero, i.size, i.bytes)) = some (some (.agg #[.string ⟨#[]⟩, .bool false]), 2, 24) := by kernel_rfl
  cases hq : Tryz.prog.info? 88 with
  | none => rw [hq] at h; cases h
  | some i =>
    rw [hq] at h
    simp only [Option.map_some, Option.some.injEq, Prod.mk.injEq] at h
    exact ⟨i, rfl, h.1, h.2.1, h.2.2⟩
theorem app_ok_f {WA W' w : World} {B tb i g c g5 n5 c5 : Nat} {SV : Value} {p : Pm} {D : List (Sv × Co)} {x : Sv × Co} {y} (h : RS WA B tb SV (.slice (some ⟨g, 0, none⟩) D.length c) p D) (hb : Below tb w WA) (hx : D[i]? = some x)
    (ho : W'.ownsRow B 88 2 (.slice (some ⟨g5, 0, none⟩) n5 c5) (x.2.fs.length + 1) (x.2.fs.flatMap cFs ++ cFs y)) (hg : WA.grownBy W' x.1.f.ownBlock) (hat : x.1.f.ownBlock = some g5 ∨ g5 = WA.heap.size) :
    Lp tb B (0, upd p i { x.2 with fs := x.2.fs ++ [y] }) w (.returned (.int .i64 ((0 : Nat) : Int))) (W'.setCell ⟨g, i * 6 + 1, none⟩ (.slice (some ⟨g5, 0, none⟩) n5 c5)) := by
  obtain ⟨hx0, hp, hd, ht, hc, hss⟩ := h
  have hX := (hp.2.2.1 i x hx).1
  have hgB : B ≤ g := (hp.2.1.lt g rfl).1
  have hxb := hx0.grown hg (own_ne hX hx0 (by decide))
  refine ⟨rfl, (hb.grown hg (Nat.le_of_lt hx0.lt) (fun k hk => by have := (hX.lt k hk).1; omega)).setCell (by show tb ≤ g; omega) _, fun _ => ⟨SV, _, _, ?_, hp.app_f hx rfl ho hg (by rcases hat with e | e; exact Or.inl e; exact Or.inr (by rw [← e]; rfl)), ?_, ht, ?_, hss⟩⟩
  · exact hxb.grown (grown_set g _ _) (by simp; omega)
  · rw [List.map_set, hd]; rfl
  · show (p.cs.set i _).length ≤ 12
    rw [List.length_set]; exact hc
theorem info50 : ∃ i, Tryz.prog.info? 50 = some i ∧ i.zero = some (.agg #[.string ⟨#[]⟩, .int .i64 0, .int .i64 0]) ∧ i.size = 3 ∧ i.bytes = 32 := by
  have h : (Tryz.prog.info? 50).map (fun i => (i.zero, i.size, i.bytes)) = some (some (.agg #[.string ⟨#[]⟩, .int .i64 0, .int .i64 0]), 3, 32) := by kernel_rfl
  cases hq : Tryz.prog.info? 50 with
  | none => rw [hq] at h; cases h
  | some i =>
    rw [hq] at h
    simp only [Option.map_some, Option.some.injEq, Prod.mk.injEq] at h
    exact ⟨i, rfl, h.1, h.2.1, h.2.2⟩
theorem app_ok_e {WA W' w : World} {B tb i g c g5 n5 c5 : Nat} {SV : Value} {p : Pm} {D : List (Sv × Co)} {x : Sv × Co} {y} (h : RS WA B tb SV (.slice (some ⟨g, 0, none⟩) D.length c) p D) (hb : Below tb w WA) (hx : D[i]? = some x)
    (ho : W'.ownsRow B 50 3 (.slice (some ⟨g5, 0, none⟩) n5 c5) (x.2.es.length + 1) (x.2.es.flatMap cEs ++ cEs y)) (hg : WA.grownBy W' x.1.e.ownBlock) (hat : x.1.e.ownBlock = some g5 ∨ g5 = WA.heap.size) :
    Lp tb B (0, upd p i { x.2 with es := x.2.es ++ [y] }) w (.returned (.int .i64 ((0 : Nat) : Int))) (W'.setCell ⟨g, i * 6 + 2, none⟩ (.slice (some ⟨g5, 0, none⟩) n5 c5)) := by
  obtain ⟨hx0, hp, hd, ht, hc, hss⟩ := h
  have hX := (hp.2.2.1 i x hx).2.1
  have hgB : B ≤ g := (hp.2.1.lt g rfl).1
  have hxb := hx0.grown hg (own_ne hX hx0 (by decide))
  refine ⟨rfl, (hb.grown hg (Nat.le_of_lt hx0.lt) (fun k hk => by have := (hX.lt k hk).1; omega)).setCell (by show tb ≤ g; omega) _, fun _ => ⟨SV, _, _, ?_, hp.app_e hx rfl ho hg (by rcases hat with e | e; exact Or.inl e; exact Or.inr (by rw [← e]; rfl)), ?_, ht, ?_, hss⟩⟩
  · exact hxb.grown (grown_set g _ _) (by simp; omega)
  · rw [List.map_set, hd]; rfl
  · show (p.cs.set i _).length ≤ 12
    rw [List.length_set]; exact hc
theorem info79 : ∃ i, Tryz.prog.info? 79 = some i ∧ i.zero = some (.agg #[.int .i64 0, .string ⟨#[]⟩]) ∧ i.size = 2 ∧ i.bytes = 24 := by
  have h : (Tryz.prog.info? 79).map (fun i => (i.zero, i.size, i.bytes)) = some (some (.agg #[.int .i64 0, .string ⟨#[]⟩]), 2, 24) := by kernel_rfl
  cases hq : Tryz.prog.info? 79 with
  | none => rw [hq] at h; cases h
  | some i =>
    rw [hq] at h
    simp only [Option.map_some, Option.some.injEq, Prod.mk.injEq] at h
    exact ⟨i, rfl, h.1, h.2.1, h.2.2⟩
theorem app_ok_i {WA W' w : World} {B tb i g c g5 n5 c5 : Nat} {SV : Value} {p : Pm} {D : List (Sv × Co)} {x : Sv × Co} {y} (h : RS WA B tb SV (.slice (some ⟨g, 0, none⟩) D.length c) p D) (hb : Below tb w WA) (hx : D[i]? = some x)
    (ho : W'.ownsRow B 79 2 (.slice (some ⟨g5, 0, none⟩) n5 c5) (x.2.is.length + 1) (x.2.is.flatMap cIs ++ cIs y)) (hg : WA.grownBy W' x.1.i.ownBlock) (hat : x.1.i.ownBlock = some g5 ∨ g5 = WA.heap.size) :
    Lp tb B (0, upd p i { x.2 with is := x.2.is ++ [y] }) w (.returned (.int .i64 ((0 : Nat) : Int))) (W'.setCell ⟨g, i * 6 + 3, none⟩ (.slice (some ⟨g5, 0, none⟩) n5 c5)) := by
  obtain ⟨hx0, hp, hd, ht, hc, hss⟩ := h
  have hX := (hp.2.2.1 i x hx).2.2.1
  have hgB : B ≤ g := (hp.2.1.lt g rfl).1
  have hxb := hx0.grown hg (own_ne hX hx0 (by decide))
  refine ⟨rfl, (hb.grown hg (Nat.le_of_lt hx0.lt) (fun k hk => by have := (hX.lt k hk).1; omega)).setCell (by show tb ≤ g; omega) _, fun _ => ⟨SV, _, _, ?_, hp.app_i hx rfl ho hg (by rcases hat with e | e; exact Or.inl e; exact Or.inr (by rw [← e]; rfl)), ?_, ht, ?_, hss⟩⟩
  · exact hxb.grown (grown_set g _ _) (by simp; omega)
  · rw [List.map_set, hd]; rfl
  · show (p.cs.set i _).length ≤ 12
    rw [List.length_set]; exact hc
theorem info90 : ∃ i, Tryz.prog.info? 90 = some i ∧ i.zero = some (.agg #[.string ⟨#[]⟩, .int .u32 0, .int .u32 0]) ∧ i.size = 3 ∧ i.bytes = 24 := by
  have h : (Tryz.prog.info? 90).map (fun i => (i.zero, i.size, i.bytes)) = some (some (.agg #[.string ⟨#[]⟩, .int .u32 0, .int .u32 0]), 3, 24) := by kernel_rfl
  cases hq : Tryz.prog.info? 90 with
  | none => rw [hq] at h; cases h
  | some i =>
    rw [hq] at h
    simp only [Option.map_some, Option.some.injEq, Prod.mk.injEq] at h
    exact ⟨i, rfl, h.1, h.2.1, h.2.2⟩
theorem app_ok_d {WA W' w : World} {B tb i g c g5 n5 c5 : Nat} {SV : Value} {p : Pm} {D : List (Sv × Co)} {x : Sv × Co} {y} (h : RS WA B tb SV (.slice (some ⟨g, 0, none⟩) D.length c) p D) (hb : Below tb w WA) (hx : D[i]? = some x)
    (ho : W'.ownsRow B 90 3 (.slice (some ⟨g5, 0, none⟩) n5 c5) (x.2.ds.length + 1) (x.2.ds.flatMap cDs ++ cDs y)) (hg : WA.grownBy W' x.1.d.ownBlock) (hat : x.1.d.ownBlock = some g5 ∨ g5 = WA.heap.size) :
    Lp tb B (0, upd p i { x.2 with ds := x.2.ds ++ [y] }) w (.returned (.int .i64 ((0 : Nat) : Int))) (W'.setCell ⟨g, i * 6 + 4, none⟩ (.slice (some ⟨g5, 0, none⟩) n5 c5)) := by
  obtain ⟨hx0, hp, hd, ht, hc, hss⟩ := h
  have hX := (hp.2.2.1 i x hx).2.2.2.1
  have hgB : B ≤ g := (hp.2.1.lt g rfl).1
  have hxb := hx0.grown hg (own_ne hX hx0 (by decide))
  refine ⟨rfl, (hb.grown hg (Nat.le_of_lt hx0.lt) (fun k hk => by have := (hX.lt k hk).1; omega)).setCell (by show tb ≤ g; omega) _, fun _ => ⟨SV, _, _, ?_, hp.app_d hx rfl ho hg (by rcases hat with e | e; exact Or.inl e; exact Or.inr (by rw [← e]; rfl)), ?_, ht, ?_, hss⟩⟩
  · exact hxb.grown (grown_set g _ _) (by simp; omega)
  · rw [List.map_set, hd]; rfl
  · show (p.cs.set i _).length ≤ 12
    rw [List.length_set]; exact hc
theorem info92 : ∃ i, Tryz.prog.info? 92 = some i ∧ i.zero = some (.agg #[.int .i64 0, .bool false]) ∧ i.size = 2 ∧ i.bytes = 16 := by
  have h : (Tryz.prog.info? 92).map (fun i => (i.zero, i.size, i.bytes)) = some (some (.agg #[.int .i64 0, .bool false]), 2, 16) := by kernel_rfl
  cases hq : Tryz.prog.info? 92 with
  | none => rw [hq] at h; cases h
  | some i =>
    rw [hq] at h
    simp only [Option.map_some, Option.some.injEq, Prod.mk.injEq] at h
    exact ⟨i, rfl, h.1, h.2.1, h.2.2⟩
theorem app_ok_g {WA W' w : World} {B tb i g c g5 n5 c5 : Nat} {SV : Value} {p : Pm} {D : List (Sv × Co)} {x : Sv × Co} {y} (h : RS WA B tb SV (.slice (some ⟨g, 0, none⟩) D.length c) p D) (hb : Below tb w WA) (hx : D[i]? = some x)
    (ho : W'.ownsRow B 92 2 (.slice (some ⟨g5, 0, none⟩) n5 c5) (x.2.gs.length + 1) (x.2.gs.flatMap cGs ++ cGs y)) (hg : WA.grownBy W' x.1.g.ownBlock) (hat : x.1.g.ownBlock = some g5 ∨ g5 = WA.heap.size) :
    Lp tb B (0, upd p i { x.2 with gs := x.2.gs ++ [y] }) w (.returned (.int .i64 ((0 : Nat) : Int))) (W'.setCell ⟨g, i * 6 + 5, none⟩ (.slice (some ⟨g5, 0, none⟩) n5 c5)) := by
  obtain ⟨hx0, hp, hd, ht, hc, hss⟩ := h
  have hX := (hp.2.2.1 i x hx).2.2.2.2
  have hgB : B ≤ g := (hp.2.1.lt g rfl).1
  have hxb := hx0.grown hg (own_ne hX hx0 (by decide))
  refine ⟨rfl, (hb.grown hg (Nat.le_of_lt hx0.lt) (fun k hk => by have := (hX.lt k hk).1; omega)).setCell (by show tb ≤ g; omega) _, fun _ => ⟨SV, _, _, ?_, hp.app_g hx rfl ho hg (by rcases hat with e | e; exact Or.inl e; exact Or.inr (by rw [← e]; rfl)), ?_, ht, ?_, hss⟩⟩
  · exact hxb.grown (grown_set g _ _) (by simp; omega)
  · rw [List.map_set, hd]; rfl
  · show (p.cs.set i _).length ≤ 12
    rw [List.length_set]; exact hc
end Go.Proofs.YtapdiionikfgpaaGreatDoor
