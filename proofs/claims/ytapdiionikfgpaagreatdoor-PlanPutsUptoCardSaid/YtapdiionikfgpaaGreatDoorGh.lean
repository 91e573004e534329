import Derived.Test.YtapdiionikfgpaaGreatDoorRbz
import Derived.Test.YtapdiionikfgpaaGreatDoorGg
import Derived.Test.YtapdiionikfgpaaGreatDoorGa
import Derived.Deep.AppendLies
import Derived.Shelf.LaysM
import Derived.Shelf.Strconv.Itoa1
import Derived.Shelf.Strconv.Itoa2
import Derived.Shelf.Strconv.Itoa3
import Derived.Test.YtapdiionikfgpaaGreatDoorProg
import Derived.Lib.ItoaMem
import Derived.WalkSmall
namespace Go.Proofs.YtapdiionikfgpaaGreatDoor
open Go.ChangeShapes Go.WideShapes Go.ChangeAt Go.RowKit
set_option linter.unusedVariables false
set_option linter.unusedSimpArgs false
/-- what a writer leaves alone -/
def Fk (wb : Nat) (w w' : World) : Prop := Below wb w w' ∧ ∀ j cs t fr, wb < j → t ≠ 57 → w.heap[j]? = some (.cells cs t fr) → w'.heap[j]? = some (.cells cs t fr)
theorem Fk.refl (wb : Nat) (w : World) : Fk wb w w := ⟨Below.refl _ _, fun _ _ _ _ _ _ h => h⟩
theorem Fk.trans {wb : Nat} {a b c : World} (h : Fk wb a b) (k : Fk wb b c) : Fk wb a c := ⟨h.1.trans k.1, fun j cs t fr h1 h2 h3 => k.2 j cs t fr h1 h2 (h.2 j cs t fr h1 h2 h3)⟩
theorem Fk.of {wb : Nat} {w w' : World} (h : Below w.heap.size w w') (hw : wb ≤ w.heap.size) : Fk wb w w' := ⟨h.mono hw, fun j cs t fr _ _ h3 => by rw [h.block j (heap_lt h3)]; exact h3⟩
theorem Fk.bx {wb b t : Nat} {w w' : World} {cs : Array Value} (h : Fk wb w w') (hb : Bx w b cs t) (h1 : wb < b) (h2 : t ≠ 57) : Bx w' b cs t := h.2 b cs t (0, 0) h1 h2 hb
/-- the writer, with so many lines -/
def WR (w : World) (wb B : Nat) (V : Value) (ok : Bool) (LS : List (List ByteArray)) : Prop := Bx w wb #[V, .bool ok] 94 ∧ Li.RdOut B V (LS.map (fun l => (0, l))) w ∧ wb < B
theorem rdo_kept {w w' : World} {B : Nat} {V : Value} {R : List (Nat × List ByteArray)} (h : Li.RdOut B V R w) (hb : Below w.heap.size w w') : Li.RdOut B V R w' := by
  obtain ⟨D, h1, h2, h3⟩ := h
  exact ⟨D, h1, h2.kept (grown_of_below hb none) (none_or _), fun x hx => (h3 x hx).kept (grown_of_below hb none) (none_or _)⟩
theorem WR.below {w w' : World} {wb B : Nat} {V : Value} {ok : Bool} {LS : List (List ByteArray)} (h : WR w wb B V ok LS) (hb : Below w.heap.size w w') : WR w' wb B V ok LS := ⟨h.1.below hb, rdo_kept h.2.1 hb, h.2.2⟩
theorem info57 : ∃ i, Tryz.prog.info? 57 = some i ∧ i.zero = some (.agg #[.int .i64 0, .slice none 0 0]) ∧ i.size = 2 ∧ i.bytes = 32 := by
  have h : (Tryz.prog.info? 57).map (fun i => (i.zero, i.size, i.bytes)) = some (some (.agg #[.int .i64 0, .slice none 0 0]), 2, 32) := by kernel_rfl
  cases hq : Tryz.prog.info? 57 with
  | none => rw [hq] at h; cases h
  | some i =>
    rw [hq] at h
    simp only [Option.map_some, Option.some.injEq, Prod.mk.injEq] at h
    exact ⟨i, rfl, h.1, h.2.1, h.2.2⟩
set_option maxRecDepth 100000 in
set_option maxHeartbeats 4000000 in
/-- say -/
theorem n55 (ws : List ByteArray) (A : Option Addr) (c : Nat) (w : World) (wb B : Nat) (V : Value) (ok : Bool) (LS : List (List ByteArray)) (h : WR w wb B V ok LS) (hB : B ≤ w.heap.size) (hw : w.ownsRow B 9 1 (.slice A ws.length c) ws.length (ws.map .string)) (hl : LS.length ≤ 1073741824) :
    Calls Tryz.prog 55 #[.pointer (some ⟨wb, 0, none⟩), .slice A ws.length c] w fun e w' => e = .returned (.tuple #[]) ∧ (∃ V', WR w' wb B V' ok (LS ++ [ws])) ∧ Fk wb w w' := by
  obtain ⟨hbx, ⟨D, hD, hrow, hws⟩, hwB⟩ := h
  have hDl : D.length = LS.length := by have := congrArg List.length hD; simpa using this
  obtain ⟨AV, cV, hV, -⟩ := own_slice hrow
  subst hV
  obtain ⟨i0, hi0, hz0, hz1, hz2⟩ := info57
  have HI0 := Lib.hid hi0
  have HZ0 := Lib.hid hz0
  have HZ1 := Lib.hid hz1
  have HZ2 := Lib.hid hz2
  have HNL : Hid (D.length + 1 ≤ maxLen) := Lib.hid (by unfold maxLen; omega)
  have HNB : Hid ((D.length + 1) * 32 ≤ 140737488355328) := Lib.hid (by omega)
  have HBA : Hid (Below w.heap.size w (w.alloc (.cells #[.int .i64 0, .slice A ws.length c] 57))) := Lib.hid ((Below.refl _ _).alloc (Nat.le_refl _) _)
  have HED : Hid ((w.alloc (.cells #[.int .i64 0, .slice A ws.length c] 57)).ownsRow B 57 2 (.slice AV D.length cV) D.length (D.flatMap fun x => [.int .i64 (x.1 : Int), x.2.1])) := Lib.hid (hrow.kept (grown_of_below HBA.out none) (none_or _))
  have HBS : Hid (B ≤ (w.alloc (.cells #[.int .i64 0, .slice A ws.length c] 57)).heap.size) := Lib.hid (Nat.le_trans hB HBA.out.size)
  have HNW : Hid (∀ j u, ([.int .i64 0, .slice A ws.length c] : List Value)[j]? = some u → (w.alloc (.cells #[.int .i64 0, .slice A ws.length c] 57)).cell? ((⟨w.heap.size, 0, none⟩ : Addr).add j) = some u) := Lib.hid (World.news_of_block (heap_alloc_new w (.cells #[.int .i64 0, .slice A ws.length c] 57)))
  have HOC : Hid (∀ u ∈ ([.int .i64 0, .slice A ws.length c] : List Value), u.oneCell' = true) := Lib.hid (by intro u hu; simp at hu; rcases hu with rfl | rfl <;> rfl)
  have HBXA : Hid (Bx (w.alloc (.cells #[.int .i64 0, .slice A ws.length c] 57)) wb #[.slice AV D.length cV, .bool ok] 94) := Lib.hid (hbx.below HBA.out)
  have HWS : Hid (∀ x ∈ D, (w.alloc (.cells #[.int .i64 0, .slice A ws.length c] 57)).ownsRow B 9 1 x.2.1 x.2.2.length (x.2.2.map Value.string)) := Lib.hid (fun x hx => (hws x hx).kept (grown_of_below HBA.out none) (none_or _))
  have HW1 : Hid ((w.alloc (.cells #[.int .i64 0, .slice A ws.length c] 57)).ownsRow B 9 1 (.slice A ws.length c) ws.length (ws.map .string)) := Lib.hid (hw.kept (grown_of_below HBA.out none) (none_or _))
  have HD := Lib.hid hD
  have HWB := Lib.hid hwB
  have HBX := Lib.hid hbx
  have HLT : Hid (wb < w.heap.size) := Lib.hid hbx.lt
  have p0 := hbx.cell 0
  have a0 := HBXA.out.cell 0
  simp at p0 a0
  clear hi0 hz0 hz1 hz2 hbx hD hrow hws hB hw hl hDl
  go_enter Tryz.func55, Tryz.ntmps55
  go_wp2_with (at_builtin; refine wpList_append_lies _ (by rfl) _ _ 37 (by rfl) B 57 i0 (.agg #[.int .i64 0, .slice none 0 0]) 2 32 Tryz.underlying37 HI0.out HZ0.out HZ1.out HZ2.out rfl (by decide) (.slice AV D.length cV) D.length _ (by rfl) HED.out ⟨w.heap.size, 0, none⟩ 1 1 [.int .i64 0, .slice A ws.length c] (by rfl) rfl HNW.out HOC.out (by decide) HNL.out HNB.out HBS.out _ rfl ?_; intro g5 c5 w8 hown5 hgrow5 hat5 hlt5; have HBX8 : Bx w8 wb #[.slice AV D.length cV, .bool ok] 94 := HBXA.out.grown hgrow5 (own_ne HED.out HBXA.out (by decide)); have y0 := HBX8.cell 0; have z0 := HBX8.frz 0; simp at y0)
  go_end0
  have hrow8 : w8.ownsRow B 57 2 (.slice (some ⟨g5, 0, none⟩) (D.length + 1) c5) (D ++ [((0, .slice A ws.length c, ws) : Nat × Value × List ByteArray)]).length ((D ++ [((0, .slice A ws.length c, ws) : Nat × Value × List ByteArray)]).flatMap fun x => [.int .i64 (x.1 : Int), x.2.1]) := by
    simpa using hown5
  have hg5B : wb < g5 := by
    rcases hat5 with e | e
    · have := (HED.out.lt g5 e).1
      have := HWB.out
      omega
    · have := HLT.out
      simp at e
      omega
  refine ⟨rfl, ⟨_, by simpa using HBX8.set 0 (.slice (some ⟨g5, 0, none⟩) (D.length + 1) c5), ⟨D ++ [((0, .slice A ws.length c, ws) : Nat × Value × List ByteArray)], by simp [HD.out], hrow8.kept (grown_set wb 0 _) (Or.inr (by simp [Value.ownBlock]; omega)), fun x hx => ?_⟩, HWB.out⟩, ⟨?_, fun j cs t fr h1 h2 h3 => ?_⟩⟩
  · have hk : (w.alloc (.cells #[.int .i64 0, .slice A ws.length c] 57)).ownsRow B 9 1 x.2.1 x.2.2.length (x.2.2.map Value.string) := by
      rcases List.mem_append.1 hx with hx | hx
      · exact HWS.out x hx
      · rw [List.mem_singleton.1 hx]; exact HW1.out
    have h8 := hk.kept hgrow5 (own_apart hk HED.out (by decide))
    exact h8.kept (grown_set wb 0 _) (own_off h8 HWB.out)
  · refine (Below.setCell ?_ (by simp) _)
    have h1 : Below wb w (w.alloc (.cells #[.int .i64 0, .slice A ws.length c] 57)) := HBA.out.mono (Nat.le_of_lt HLT.out)
    exact h1.grown hgrow5 (by have := HBXA.out.lt; omega) (fun k hk => by have := (HED.out.lt k hk).1; have := HWB.out; omega)
  · rw [Below.heap_setCell _ _ _ _ (by show j ≠ wb; omega)]
    have h4 : (w.alloc (.cells #[.int .i64 0, .slice A ws.length c] 57)).heap[j]? = some (.cells cs t fr) := by rw [HBA.out.block j (heap_lt h3)]; exact h3
    rw [hgrow5.block j (heap_lt h4) (own_ne HED.out h4 h2)]
    exact h4
end Go.Proofs.YtapdiionikfgpaaGreatDoor
namespace Go.Proofs
open Go.Shelf
set_option maxRecDepth 100000
def Tryz.laysM171_ren : Go.Shelf.Ren := ⟨fun | 171 => 56 | 243 => 99 | 246 => 125 | 283 => 135 | 284 => 136 | 285 => 137 | 286 => 138 | 129 => 150 | 317 => 149 | 318 => 151 | 319 => 152 | 320 => 153 | 337 => 173 | 338 => 174 | n => n, fun | 3 => 3 | 9 => 9 | 2 => 2 | 4 => 4 | 171 => 182 | 0 => 0 | 53 => 171 | 37 => 152 | 5 => 5 | 173 => 185 | 212 => 196 | 51 => 82 | 20 => 20 | 213 => 197 | 46 => 199 | 232 => 225 | 233 => 226 | n => n, fun | 17 => 0 | 18 => 6 | 19 => 7 | n => n⟩
theorem Tryz.laysM171 : Go.Proofs.LaysM.n171 Tryz.prog Tryz.laysM171_ren := {
  mixed := by kernel_rfl
  f129 := Tryz.func150.trans (congrArg some (by kernel_rfl))
  f171 := Tryz.func56.trans (congrArg some (by kernel_rfl))
  f243 := Tryz.func99.trans (congrArg some (by kernel_rfl))
  f246 := Tryz.func125.trans (congrArg some (by kernel_rfl))
  f283 := Tryz.func135.trans (congrArg some (by kernel_rfl))
  f284 := Tryz.func136.trans (congrArg some (by kernel_rfl))
  f285 := Tryz.func137.trans (congrArg some (by kernel_rfl))
  f286 := Tryz.func138.trans (congrArg some (by kernel_rfl))
  f317 := Tryz.func149.trans (congrArg some (by kernel_rfl))
  f318 := Tryz.func151.trans (congrArg some (by kernel_rfl))
  f319 := Tryz.func152.trans (congrArg some (by kernel_rfl))
  f320 := Tryz.func153.trans (congrArg some (by kernel_rfl))
  f337 := Tryz.func173.trans (congrArg some (by kernel_rfl))
  f338 := Tryz.func174.trans (congrArg some (by kernel_rfl))
  t0 := Tryz.underlying0
  a0 := Tryz.isAgg0
  z0 := Tryz.sizeOf0
  v0 := Tryz.zeroValue0
  t2 := Tryz.underlying2
  a2 := Tryz.isAgg2
  z2 := Tryz.sizeOf2
  v2 := Tryz.zeroValue2
  t3 := Tryz.underlying3
  a3 := Tryz.isAgg3
  z3 := Tryz.sizeOf3
  v3 := Tryz.zeroValue3
  t4 := Tryz.underlying4
  a4 := Tryz.isAgg4
  z4 := Tryz.sizeOf4
  v4 := Tryz.zeroValue4
  t5 := Tryz.underlying5
  a5 := Tryz.isAgg5
  z5 := Tryz.sizeOf5
  v5 := Tryz.zeroValue5
  t9 := Tryz.underlying9
  a9 := Tryz.isAgg9
  z9 := Tryz.sizeOf9
  v9 := Tryz.zeroValue9
  t20 := Tryz.underlying20
  a20 := Tryz.isAgg20
  z20 := Tryz.sizeOf20
  v20 := Tryz.zeroValue20
  t37 := Tryz.underlying152
  a37 := Tryz.isAgg152
  z37 := Tryz.sizeOf152
  v37 := Tryz.zeroValue152
  t46 := Tryz.underlying199
  a46 := Tryz.isAgg199
  z46 := Tryz.sizeOf199
  v46 := Tryz.zeroValue199
  t51 := Tryz.underlying82
  a51 := Tryz.isAgg82
  z51 := Tryz.sizeOf82
  v51 := Tryz.zeroValue82
  t53 := Tryz.underlying171
  a53 := Tryz.isAgg171
  z53 := Tryz.sizeOf171
  v53 := Tryz.zeroValue171
  t171 := Tryz.underlying182
  a171 := Tryz.isAgg182
  z171 := Tryz.sizeOf182
  v171 := Tryz.zeroValue182
  t173 := Tryz.underlying185
  a173 := Tryz.isAgg185
  z173 := Tryz.sizeOf185
  v173 := Tryz.zeroValue185
  t212 := Tryz.underlying196
  a212 := Tryz.isAgg196
  z212 := Tryz.sizeOf196
  v212 := Tryz.zeroValue196
  t213 := Tryz.underlying197
  a213 := Tryz.isAgg197
  z213 := Tryz.sizeOf197
  t232 := Tryz.underlying225
  a232 := Tryz.isAgg225
  z232 := Tryz.sizeOf225
  v232 := Tryz.zeroValue225
  t233 := Tryz.underlying226
  a233 := Tryz.isAgg226
  z233 := Tryz.sizeOf226
  v233 := Tryz.zeroValue226
  g17 := by kernel_rfl
  g18 := by kernel_rfl
  g19 := by kernel_rfl
  i0 := by kernel_rfl
  i2 := by kernel_rfl
  i3 := by kernel_rfl
  i4 := by kernel_rfl
  i5 := by kernel_rfl
  i9 := by kernel_rfl
  i20 := by kernel_rfl
  i37 := by kernel_rfl
  i46 := by kernel_rfl
  i51 := by kernel_rfl
  i53 := by kernel_rfl
  i171 := by kernel_rfl
  i173 := by kernel_rfl
  i212 := by kernel_rfl
  i232 := by kernel_rfl
  i233 := by kernel_rfl
  m17 := by kernel_rfl
  m18 := by kernel_rfl
  m19 := by kernel_rfl }
open Go.RowKit Go.Sort Go.Lib in
/-- strconv.Itoa: "Itoa is equivalent to FormatInt(int64(i), 10).": i's DECIMAL NUMERAL ('Lib.itoa': a '-' where i is negative, then the digits), FOR EVERY int. The world behind the call: the world before it, new blocks behind the heap (the library's 'var a [24]byte'), draws. (LAID: no walk: one application.) -/
theorem Tryz.strconv_Itoa (n : Int) (h0 : -9223372036854775808 ≤ n) (h1 : n ≤ 9223372036854775807) (w : World) (htab : Lib.TabIs Tryz.prog w "internal/strconv.uint64pow10" .u64 Lib.pow10Tab) :
    Calls Tryz.prog 56 #[.int .i64 n] w fun e w' => e = .returned (.string ⟨(Lib.itoa n).toArray⟩) ∧ ∃ k os, w' = grow (w.drewN k) os := Any.strconv_Itoa Tryz.laysM171 n h0 h1 w htab
end Go.Proofs
namespace Go.Proofs.YtapdiionikfgpaaGreatDoor
open Go.ChangeShapes Go.WideShapes Go.ChangeAt Go.RowKit Go.Shelf Go.Sort Go.Lib
set_option linter.unusedVariables false
set_option linter.unusedSimpArgs false
/-- a number in tens -/
def tn (n : Nat) : ByteArray := ⟨(Lib.decDigits n).toArray⟩
/-- the table of powers -/
def Gt (w : World) : Prop := Lib.TabIs Tryz.prog w "internal/strconv.uint64pow10" .u64 Lib.pow10Tab ∧ 7 < w.heap.size
theorem Gt.below {w w' : World} (h : Gt w) (hb : Below w.heap.size w w') : Gt w' :=
  ⟨var?_below hb (show Tryz.prog.globalNamed "internal/strconv.uint64pow10" = some 0 by kernel_rfl) (by have := h.2; omega) h.1, Nat.lt_of_lt_of_le h.2 hb.size⟩
theorem itoa_tn (n : Nat) : (⟨(Lib.itoa (n : Int)).toArray⟩ : ByteArray) = tn n := by
  unfold Lib.itoa
  rw [if_neg (by omega)]
  rfl
theorem below_grow {w : World} (n : Nat) (os : Array Obj) : Below w.heap.size w (Go.Sort.grow (w.drewN n) os) := by
  refine ⟨rfl, rfl, rfl, ?_, fun k hk => ?_⟩
  · show w.heap.size ≤ (w.heap ++ os).size
    simp
  · show (w.heap ++ os)[k]? = w.heap[k]?
    rw [Array.getElem?_append_left hk]
/-- strconv.Itoa -/
theorem c37 (n : Nat) (hn : n ≤ 4294967296) (w : World) (hg : Gt w) : Calls Tryz.prog 56 #[.int .i64 (n : Int)] w fun e w' => e = .returned (.string (tn n)) ∧ Below w.heap.size w w' := by
  refine (Tryz.strconv_Itoa (n : Int) (by omega) (by omega) w hg.1).mono ?_
  rintro _ w' ⟨rfl, k, os, rfl⟩
  exact ⟨by rw [itoa_tn], below_grow k os⟩
theorem holds_zero0 (w : World) (T : TypeId) (nd : Nat) (hs : nd ≤ 24) : Holds (fun (b : UInt8) => Value.int .u8 (b.toNat : Int)) (w.alloc (.cells zeros24 T)) w.heap.size 0 (Array.replicate nd (0 : UInt8)) := fun j hj => by
  have hj' : j < nd := by simpa using hj
  refine ⟨?_, World.frozen?_alloc_new _ _ _ _⟩
  rw [World.cell?_alloc_new, zeros24_at _ (by omega), getElem!_pos _ j hj]
  simp
end Go.Proofs.YtapdiionikfgpaaGreatDoor
namespace Go.Proofs.YtapdiionikfgpaaGreatDoor
open Go.ChangeShapes Go.WideShapes Go.ChangeAt Go.RowKit
set_option linter.unusedVariables false
set_option linter.unusedSimpArgs false
def tnI (n : Int) : ByteArray := ⟨(Lib.itoa n).toArray⟩
def InI (n : Int) : Prop := -9223372036854775808 ≤ n ∧ n ≤ 9223372036854775807
theorem n56 (n : Int) (hn : InI n) (w : World) (hg : Gt w) : Calls Tryz.prog 56 #[.int .i64 n] w fun e w' => e = .returned (.string (tnI n)) ∧ Below w.heap.size w w' := by
  refine (Tryz.strconv_Itoa n hn.1 hn.2 w hg.1).mono ?_
  rintro _ w' ⟨rfl, k, os, rfl⟩
  exact ⟨rfl, below_grow k os⟩
/-- the name of a number -/
def nmS (ss : List (ByteArray × Int)) (i : Int) : Option ByteArray := if 0 ≤ i then (ss[i.toNat]?).map (·.1) else none
def nmC (cs : List CoI) (i : Int) : Option ByteArray := if 0 ≤ i then (cs[i.toNat]?).map (·.nm) else none
theorem n59 (nm : ByteArray) (a b c d e : Value) (w : World) : Calls Tryz.prog 59 #[.agg #[.string nm, a, b, c, d, e]] w fun r w' => r = .returned (.string nm) ∧ Below w.heap.size w w' := by
  have HB : Hid (Below w.heap.size w (w.alloc (.cells #[.string nm, a, b, c, d, e] 48))) := Lib.hid ((Below.refl _ _).alloc (Nat.le_refl _) _)
  go_enter Tryz.func59, Tryz.ntmps59
  go_wp2_with fail
  go_ret
  exact ⟨rfl, HB.out⟩
theorem n101 (nm : ByteArray) (n : Int) (w : World) : Calls Tryz.prog 101 #[.agg #[.string nm, .int .i64 n]] w fun r w' => r = .returned (.string nm) ∧ Below w.heap.size w w' := by
  have HB : Hid (Below w.heap.size w (w.alloc (.cells #[.string nm, .int .i64 n] 68))) := Lib.hid ((Below.refl _ _).alloc (Nat.le_refl _) _)
  go_enter Tryz.func101, Tryz.ntmps101
  go_wp2_with fail
  go_ret
  exact ⟨rfl, HB.out⟩
theorem ent_59 (args : Array Value) (W : World) : (callFunc 59 args).run Tryz.prog W = .ok (.enter 59 args) W := by kernel_rfl
theorem ent_101 (args : Array Value) (W : World) : (callFunc 101 args).run Tryz.prog W = .ok (.enter 101 args) W := by kernel_rfl
theorem WR.bad {w : World} {wb B : Nat} {V : Value} {ok : Bool} {LS : List (List ByteArray)} (h : WR w wb B V ok LS) : WR (w.setCell ⟨wb, 1, none⟩ (.bool false)) wb B V false LS ∧ Fk wb w (w.setCell ⟨wb, 1, none⟩ (.bool false)) := by
  obtain ⟨h1, ⟨D, hD, hrow, hws⟩, h3⟩ := h
  refine ⟨⟨by simpa using h1.set 1 (.bool false), ⟨D, hD, hrow.kept (grown_set wb 1 _) (own_off hrow h3), fun x hx => (hws x hx).kept (grown_set wb 1 _) (own_off (hws x hx) h3)⟩, h3⟩, (Below.refl _ _).setCell (by simp) _, fun j cs t fr k1 k2 k3 => ?_⟩
  rw [Below.heap_setCell _ _ _ _ (by show j ≠ wb; omega)]
  exact k3
set_option maxRecDepth 100000 in
set_option maxHeartbeats 4000000 in
theorem n100 (v : Value) (L : List (ByteArray × Int)) (i : Int) (w : World) (wb B : Nat) (V : Value) (ok : Bool) (LS : List (List ByteArray)) (h : WR w wb B V ok LS) (hl : Ly w v 2 iSs L) (hn : L.length ≤ 1048576) :
    Calls Tryz.prog 100 #[.pointer (some ⟨wb, 0, none⟩), v, .int .i64 i, .func (.func 101) #[] #[]] w fun e w' => e = .returned (.string ((nmS L i).getD ⟨#[]⟩)) ∧ WR w' wb B V (ok && (nmS L i).isSome) LS ∧ Fk wb w w' := by
  obtain ⟨A, c, rfl, g⟩ := hl
  have HWR := Lib.hid h
  have HLT : Hid (wb < w.heap.size) := Lib.hid h.1.lt
  by_cases hin : 0 ≤ i ∧ i < (L.length : Int)
  · obtain ⟨k, rfl⟩ : ∃ k : Nat, i = (k : Int) := ⟨i.toNat, by omega⟩
    have hk : k < L.length := by omega
    obtain ⟨x, hx⟩ : ∃ x, L[k]? = some x := ⟨_, List.getElem?_eq_getElem hk⟩
    have HN : Hid (nmS L (k : Int) = some x.1) := Lib.hid (by unfold nmS; rw [if_pos (by omega)]; simp [hx])
    obtain ⟨b, o, rfl, hb, hc⟩ := g (by omega)
    have p0 : w.cell? ⟨b, o + k * 2, none⟩ = some (.string x.1) := hc k x hx 0 _ rfl
    have p1 : w.cell? ⟨b, o + k * 2 + 1, none⟩ = some (.int .i64 x.2) := hc k x hx 1 _ rfl
    have HC := Lib.hid (n101 x.1 x.2 w)
    have e1 : decide ((k : Int) < 0) = false := by simp
    have e2 : decide ((L.length : Int) ≤ (k : Int)) = false := by simp; omega
    have e3 : decide (L.length ≤ k) = false := by simp; omega
    have hkn : (k : Int) < (L.length : Int) := by omega
    have hkw : IntKind.i64.wrap (k : Int) = (k : Int) := by rw [IntKind.wrap_i64]; omega
    have hent := ent_101
    clear h hin hc hb hx hk
    go_enter Tryz.func100, Tryz.ntmps100
    go_wp2_with fail
    with_reducible refine HC.out.mono ?_
    rintro _ w5 ⟨rfl, hb5⟩
    have HB5 := Lib.hid hb5
    clear hb5
    go_wp2_with fail
    go_ret
    exact ⟨by rw [HN.out]; rfl, by rw [HN.out]; simpa using HWR.out.below HB5.out, Fk.of HB5.out (Nat.le_of_lt HLT.out)⟩
  · have HN : Hid (nmS L i = none) := Lib.hid (by
      unfold nmS
      by_cases h0 : 0 ≤ i
      · rw [if_pos h0, List.getElem?_eq_none (by omega)]; rfl
      · rw [if_neg h0])
    have z1 := h.1.frz 1
    have y1 := h.1.cell 1
    simp at y1
    by_cases h0 : i < 0
    · have e1 : decide (i < 0) = true := by simp; omega
      clear h hin h0 g
      go_enter Tryz.func100, Tryz.ntmps100
      go_wp2_with fail
      go_ret
      exact ⟨by rw [HN.out]; rfl, by rw [HN.out]; simpa using HWR.out.bad.1, HWR.out.bad.2⟩
    · have e1 : decide (i < 0) = false := by simp; omega
      have e2 : decide ((L.length : Int) ≤ i) = true := by simp; omega
      clear h hin h0 g
      go_enter Tryz.func100, Tryz.ntmps100
      go_wp2_with fail
      go_ret
      exact ⟨by rw [HN.out]; rfl, by rw [HN.out]; simpa using HWR.out.bad.1, HWR.out.bad.2⟩
set_option maxRecDepth 100000 in
set_option maxHeartbeats 4000000 in
theorem n58 (v : Value) (L : List (Sv × CoI)) (i : Int) (w : World) (wb B : Nat) (V : Value) (ok : Bool) (LS : List (List ByteArray)) (h : WR w wb B V ok LS) (hl : Ly w v 6 iCo L) (hn : L.length ≤ 1048576) :
    Calls Tryz.prog 58 #[.pointer (some ⟨wb, 0, none⟩), v, .int .i64 i, .func (.func 59) #[] #[]] w fun e w' => e = .returned (.string ((nmC (L.map (·.2)) i).getD ⟨#[]⟩)) ∧ WR w' wb B V (ok && (nmC (L.map (·.2)) i).isSome) LS ∧ Fk wb w w' := by
  obtain ⟨A, c, rfl, g⟩ := hl
  have HWR := Lib.hid h
  have HLT : Hid (wb < w.heap.size) := Lib.hid h.1.lt
  by_cases hin : 0 ≤ i ∧ i < (L.length : Int)
  · obtain ⟨k, rfl⟩ : ∃ k : Nat, i = (k : Int) := ⟨i.toNat, by omega⟩
    have hk : k < L.length := by omega
    obtain ⟨x, hx⟩ : ∃ x, L[k]? = some x := ⟨_, List.getElem?_eq_getElem hk⟩
    have HN : Hid (nmC (L.map (·.2)) (k : Int) = some x.2.nm) := Lib.hid (by unfold nmC; rw [if_pos (by omega)]; simp [hx])
    obtain ⟨b, o, rfl, hb, hc⟩ := g (by omega)
    have p0 : w.cell? ⟨b, o + k * 6, none⟩ = some (.string x.2.nm) := hc k x hx 0 _ rfl
    have p1 : w.cell? ⟨b, o + k * 6 + 1, none⟩ = some (x.1.f) := hc k x hx 1 _ rfl
    have p2 : w.cell? ⟨b, o + k * 6 + 2, none⟩ = some (x.1.e) := hc k x hx 2 _ rfl
    have p3 : w.cell? ⟨b, o + k * 6 + 3, none⟩ = some (x.1.i) := hc k x hx 3 _ rfl
    have p4 : w.cell? ⟨b, o + k * 6 + 4, none⟩ = some (x.1.d) := hc k x hx 4 _ rfl
    have p5 : w.cell? ⟨b, o + k * 6 + 5, none⟩ = some (x.1.g) := hc k x hx 5 _ rfl
    have HC := Lib.hid (n59 x.2.nm x.1.f x.1.e x.1.i x.1.d x.1.g w)
    have e1 : decide ((k : Int) < 0) = false := by simp
    have e2 : decide ((L.length : Int) ≤ (k : Int)) = false := by simp; omega
    have e3 : decide (L.length ≤ k) = false := by simp; omega
    have hkn : (k : Int) < (L.length : Int) := by omega
    have hkw : IntKind.i64.wrap (k : Int) = (k : Int) := by rw [IntKind.wrap_i64]; omega
    have hent := ent_59
    clear h hin hc hb hx hk
    go_enter Tryz.func58, Tryz.ntmps58
    go_wp2_with fail
    with_reducible refine HC.out.mono ?_
    rintro _ w5 ⟨rfl, hb5⟩
    have HB5 := Lib.hid hb5
    clear hb5
    go_wp2_with fail
    go_ret
    exact ⟨by rw [HN.out]; rfl, by rw [HN.out]; simpa using HWR.out.below HB5.out, Fk.of HB5.out (Nat.le_of_lt HLT.out)⟩
  · have HN : Hid (nmC (L.map (·.2)) i = none) := Lib.hid (by
      unfold nmC
      by_cases h0 : 0 ≤ i
      · rw [if_pos h0, List.getElem?_eq_none (by simp; omega)]; rfl
      · rw [if_neg h0])
    have z1 := h.1.frz 1
    have y1 := h.1.cell 1
    simp at y1
    by_cases h0 : i < 0
    · have e1 : decide (i < 0) = true := by simp; omega
      clear h hin h0 g
      go_enter Tryz.func58, Tryz.ntmps58
      go_wp2_with fail
      go_ret
      exact ⟨by rw [HN.out]; rfl, by rw [HN.out]; simpa using HWR.out.bad.1, HWR.out.bad.2⟩
    · have e1 : decide (i < 0) = false := by simp; omega
      have e2 : decide ((L.length : Int) ≤ i) = true := by simp; omega
      clear h hin h0 g
      go_enter Tryz.func58, Tryz.ntmps58
      go_wp2_with fail
      go_ret
      exact ⟨by rw [HN.out]; rfl, by rw [HN.out]; simpa using HWR.out.bad.1, HWR.out.bad.2⟩
end Go.Proofs.YtapdiionikfgpaaGreatDoor
