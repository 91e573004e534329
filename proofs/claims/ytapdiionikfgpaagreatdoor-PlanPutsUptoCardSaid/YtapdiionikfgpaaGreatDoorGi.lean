import Derived.Test.YtapdiionikfgpaaGreatDoorGe
import Derived.Shelf.Strings.Builder1
import Derived.Shelf.Strings.Builder2
import Derived.Shelf.Strings.OnBuilder
import Derived.Test.YtapdiionikfgpaaGreatDoorProg
/-
  DERIVED: THE SHELF's CONTRACTS AT THIS DUMP, IN PLAIN WORDS (tools/lay-plain.mjs out of 'YtapdiionikfgpaaGreatDoorSh.lean', which tools/lay-shelf.mjs wrote): THE SAME DECLARATIONS UNDER THE SAME NAMES: 'import', 'namespace', 'open', 'def', 'theorem' AND NOTHING ELSE: no command of the shelf's: FOR A HAND-IN. Each laying: the table of numbers ('.._ren') and one theorem, a field a fact of the dump's own or the kernel's comparison; each contract: ONE APPLICATION.
-/
namespace Go.Proofs
open Go.Shelf
def Tryz.lays169_ren : Go.Shelf.Ren := ⟨fun | 169 => 106 | n => n, fun | 70 => 151 | 9 => 9 | 0 => 0 | 72 => 154 | 37 => 152 | 127 => 175 | 3 => 3 | 5 => 5 | n => n, fun | n => n⟩
theorem Tryz.lays169 : Go.Proofs.Lays.n169 Tryz.prog Tryz.lays169_ren := {
  mixed := by kernel_rfl
  f169 := Tryz.func106.trans (congrArg some (by kernel_rfl))
  t0 := Tryz.underlying0
  a0 := Tryz.isAgg0
  z0 := Tryz.sizeOf0
  v0 := Tryz.zeroValue0
  t3 := Tryz.underlying3
  a3 := Tryz.isAgg3
  z3 := Tryz.sizeOf3
  v3 := Tryz.zeroValue3
  t9 := Tryz.underlying9
  a9 := Tryz.isAgg9
  z9 := Tryz.sizeOf9
  v9 := Tryz.zeroValue9
  t37 := Tryz.underlying152
  a37 := Tryz.isAgg152
  z37 := Tryz.sizeOf152
  v37 := Tryz.zeroValue152
  t70 := Tryz.underlying151
  a70 := Tryz.isAgg151
  z70 := Tryz.sizeOf151
  v70 := Tryz.zeroValue151
  t72 := Tryz.underlying154
  a72 := Tryz.isAgg154
  z72 := Tryz.sizeOf154
  v72 := Tryz.zeroValue154
  t127 := Tryz.underlying175
  a127 := Tryz.isAgg175
  z127 := Tryz.sizeOf175
  v127 := Tryz.zeroValue175 }
theorem Tryz.Builder_Extra_169 : Builder.Extra Tryz.prog Tryz.lays169_ren := {
  sizeBuilder := by kernel_rfl
  liesBuilder := by kernel_rfl
  t5 := Tryz.underlying5
  a5 := Tryz.isAgg5
  z5 := Tryz.sizeOf5
  v5 := Tryz.zeroValue5
  infoByte := by kernel_rfl
  cellsByte := by kernel_rfl
  sizeByte := by kernel_rfl
  neB5 := by decide }
open Go.RowKit in
/-- (*strings.Builder).String: "String returns the accumulated string.": OF A BUILDER THAT HOLDS AT LEAST ONE BYTE. ✋ THE MODEL FREEZES THOSE BYTES IN THE BUFFER (unsafe.String): a later write INTO them ends the model's run without an answer; a later append BEHIND them goes on. The statement's order of evaluation is drawn: one draw. (LAID: no walk: one application.) -/
theorem Tryz.Builder_String (B b : Nat) (l : List UInt8) (w : World) (h : Lib.IsBuilder 154 5 B b (Lib.byteCells l) w) (h0 : l ≠ []) :
    Calls Tryz.prog 106 #[.pointer (some ⟨b, 0, none⟩)] w fun e w' => e = .returned (.string ⟨l.toArray⟩) ∧ Below B w w' := Any.Builder_String Tryz.lays169 Tryz.Builder_Extra_169 B b l w h h0
open Go.RowKit in
/-- (*strings.Builder).String OF A BUILDER THAT HOLDS NO BYTE: the empty string. (Its buffer is nil, or a row of which it has taken nothing yet; where that row has NO capacity the model lays one new block for unsafe.SliceData's 'some address'.) One draw. (LAID: no walk: one application.) -/
theorem Tryz.Builder_String_empty (B b : Nat) (w : World) (h : Lib.IsBuilder 154 5 B b [] w) (hBw : B ≤ w.heap.size) :
    Calls Tryz.prog 106 #[.pointer (some ⟨b, 0, none⟩)] w fun e w' => e = .returned (.string ⟨#[]⟩) ∧ Below B w w' := Any.Builder_String_empty Tryz.lays169 Tryz.Builder_Extra_169 B b w h hBw
open Go.RowKit in
/-- (*strings.Builder).String: "String returns the accumulated string.": WHATEVER THE BUILDER HOLDS. (LAID: no walk: one application.) -/
theorem Tryz.Builder_String_any (B b : Nat) (l : List UInt8) (w : World) (h : Lib.IsBuilder 154 5 B b (Lib.byteCells l) w) (hBw : B ≤ w.heap.size) :
    Calls Tryz.prog 106 #[.pointer (some ⟨b, 0, none⟩)] w fun e w' => e = .returned (.string ⟨l.toArray⟩) ∧ Below B w w' := Any.Builder_String_any Tryz.lays169 Tryz.Builder_Extra_169 B b l w h hBw
def Tryz.lays156_ren : Go.Shelf.Ren := ⟨fun | 156 => 103 | 165 => 127 | 166 => 104 | 169 => 106 | 240 => 128 | 241 => 139 | 276 => 140 | 277 => 154 | n => n, fun | 31 => 55 | 9 => 9 | 3 => 3 | 4 => 4 | 0 => 0 | 20 => 20 | 72 => 154 | 76 => 158 | 70 => 151 | 37 => 152 | 75 => 157 | 127 => 175 | 164 => 187 | 5 => 5 | 80 => 74 | n => n, fun | n => n⟩
theorem Tryz.lays156 : Go.Proofs.Lays.n156 Tryz.prog Tryz.lays156_ren := {
  mixed := by kernel_rfl
  f156 := Tryz.func103.trans (congrArg some (by kernel_rfl))
  f165 := Tryz.func127.trans (congrArg some (by kernel_rfl))
  f166 := Tryz.func104.trans (congrArg some (by kernel_rfl))
  f169 := Tryz.func106.trans (congrArg some (by kernel_rfl))
  f240 := Tryz.func128.trans (congrArg some (by kernel_rfl))
  f241 := Tryz.func139.trans (congrArg some (by kernel_rfl))
  f276 := Tryz.func140.trans (congrArg some (by kernel_rfl))
  f277 := Tryz.func154.trans (congrArg some (by kernel_rfl))
  t0 := Tryz.underlying0
  a0 := Tryz.isAgg0
  z0 := Tryz.sizeOf0
  v0 := Tryz.zeroValue0
  t3 := Tryz.underlying3
  a3 := Tryz.isAgg3
  z3 := Tryz.sizeOf3
  v3 := Tryz.zeroValue3
  t4 := Tryz.underlying4
  a4 := Tryz.isAgg4
  z4 := Tryz.sizeOf4
  v4 := Tryz.zeroValue4
  t9 := Tryz.underlying9
  a9 := Tryz.isAgg9
  z9 := Tryz.sizeOf9
  v9 := Tryz.zeroValue9
  t20 := Tryz.underlying20
  a20 := Tryz.isAgg20
  z20 := Tryz.sizeOf20
  v20 := Tryz.zeroValue20
  t31 := Tryz.underlying55
  a31 := Tryz.isAgg55
  z31 := Tryz.sizeOf55
  v31 := Tryz.zeroValue55
  t37 := Tryz.underlying152
  a37 := Tryz.isAgg152
  z37 := Tryz.sizeOf152
  v37 := Tryz.zeroValue152
  t70 := Tryz.underlying151
  a70 := Tryz.isAgg151
  z70 := Tryz.sizeOf151
  v70 := Tryz.zeroValue151
  t72 := Tryz.underlying154
  a72 := Tryz.isAgg154
  z72 := Tryz.sizeOf154
  v72 := Tryz.zeroValue154
  t75 := Tryz.underlying157
  a75 := Tryz.isAgg157
  z75 := Tryz.sizeOf157
  v75 := Tryz.zeroValue157
  t76 := Tryz.underlying158
  a76 := Tryz.isAgg158
  z76 := Tryz.sizeOf158
  v76 := Tryz.zeroValue158
  t127 := Tryz.underlying175
  a127 := Tryz.isAgg175
  z127 := Tryz.sizeOf175
  v127 := Tryz.zeroValue175
  t164 := Tryz.underlying187
  a164 := Tryz.isAgg187
  z164 := Tryz.sizeOf187
  v164 := Tryz.zeroValue187 }
theorem Tryz.Builder_Extra_156 : Builder.Extra Tryz.prog Tryz.lays156_ren := {
  sizeBuilder := by kernel_rfl
  liesBuilder := by kernel_rfl
  t5 := Tryz.underlying5
  a5 := Tryz.isAgg5
  z5 := Tryz.sizeOf5
  v5 := Tryz.zeroValue5
  infoByte := by kernel_rfl
  cellsByte := by kernel_rfl
  sizeByte := by kernel_rfl
  neB5 := by decide }
open Go.RowKit in
/-- No element: the empty string; the world is as it was. (Whatever the slice's address and capacity: a nil slice too.) (LAID: no walk: one application.) -/
theorem Tryz.strings_Join_none (a : Option Addr) (c : Nat) (sep : ByteArray) (w : World) :
    Calls Tryz.prog 103 #[.slice a 0 c, .string sep] w fun e w' => e = .returned (.string ⟨#[]⟩) ∧ w' = w := Any.strings_Join_none Tryz.lays156 Tryz.Builder_Extra_156 a c sep w
open Go.RowKit in
/-- strings.Join: "Join concatenates the elements of its first argument to create a single string. The separator string sep is placed between elements in the resulting string.": HOWEVER MANY ELEMENTS. Below the heap's end the world is as it was. (LAID: no walk: one application.) -/
theorem Tryz.strings_Join (bk o c : Nat) (xs : List ByteArray) (sep : ByteArray) (w : World) (hcells : ∀ (j : Nat) x, xs[j]? = some x → w.cell? ⟨bk, o + j, none⟩ = some (.string x)) (hbk : bk < w.heap.size) (hN : xs.length ≤ 140737488355328) (hcap : xs.length ≤ c) (hlen : (Lib.join (xs.map (·.data.toList)) sep.data.toList).length ≤ 140737488355328) :
    Calls Tryz.prog 103 #[.slice (some ⟨bk, o, none⟩) xs.length c, .string sep] w fun e w' => e = .returned (.string ⟨(Lib.join (xs.map (·.data.toList)) sep.data.toList).toArray⟩) ∧ Below w.heap.size w w' := Any.strings_Join Tryz.lays156 Tryz.Builder_Extra_156 bk o c xs sep w hcells hbk hN hcap hlen
def Tryz.lays167_ren : Go.Shelf.Ren := ⟨fun | 167 => 105 | 240 => 128 | 276 => 140 | n => n, fun | 0 => 0 | 3 => 3 | 4 => 4 | 5 => 5 | 9 => 9 | 20 => 20 | 37 => 152 | 70 => 151 | 72 => 154 | 75 => 157 | 80 => 74 | 164 => 187 | n => n, fun | n => n⟩
theorem Tryz.lays167 : Go.Proofs.Lays.n167 Tryz.prog Tryz.lays167_ren := {
  mixed := by kernel_rfl
  f167 := Tryz.func105.trans (congrArg some (by kernel_rfl))
  f240 := Tryz.func128.trans (congrArg some (by kernel_rfl))
  f276 := Tryz.func140.trans (congrArg some (by kernel_rfl))
  t0 := Tryz.underlying0
  a0 := Tryz.isAgg0
  z0 := Tryz.sizeOf0
  v0 := Tryz.zeroValue0
  t4 := Tryz.underlying4
  a4 := Tryz.isAgg4
  z4 := Tryz.sizeOf4
  v4 := Tryz.zeroValue4
  t5 := Tryz.underlying5
  a5 := Tryz.isAgg5
  z5 := Tryz.sizeOf5
  v5 := Tryz.zeroValue5
  t9 := Tryz.underlying9
  a9 := Tryz.isAgg9
  z9 := Tryz.sizeOf9
  v9 := Tryz.zeroValue9
  t20 := Tryz.underlying20
  a20 := Tryz.isAgg20
  z20 := Tryz.sizeOf20
  v20 := Tryz.zeroValue20
  t37 := Tryz.underlying152
  a37 := Tryz.isAgg152
  z37 := Tryz.sizeOf152
  v37 := Tryz.zeroValue152
  t70 := Tryz.underlying151
  a70 := Tryz.isAgg151
  z70 := Tryz.sizeOf151
  v70 := Tryz.zeroValue151
  t72 := Tryz.underlying154
  a72 := Tryz.isAgg154
  z72 := Tryz.sizeOf154
  v72 := Tryz.zeroValue154
  t75 := Tryz.underlying157
  a75 := Tryz.isAgg157
  z75 := Tryz.sizeOf157
  v75 := Tryz.zeroValue157
  t164 := Tryz.underlying187
  a164 := Tryz.isAgg187
  z164 := Tryz.sizeOf187
  v164 := Tryz.zeroValue187 }
theorem Tryz.Builder_Extra_167 : Builder.Extra Tryz.prog Tryz.lays167_ren where
  sizeBuilder := by kernel_rfl
  liesBuilder := by kernel_rfl
  t5 := Tryz.underlying5
  a5 := Tryz.isAgg5
  z5 := Tryz.sizeOf5
  v5 := Tryz.zeroValue5
  infoByte := by kernel_rfl
  cellsByte := by kernel_rfl
  sizeByte := by kernel_rfl
  neB5 := by decide
open Go.RowKit in
theorem Tryz.Builder_WriteByte (B b : Nat) (bs : List Value) (c : Int) (w : World) (h : Lib.IsBuilder 154 5 B b bs w) (hlen : bs.length + 1 ≤ 140737488355328) (hBw : B ≤ w.heap.size) :
    Calls Tryz.prog 105 #[.pointer (some ⟨b, 0, none⟩), .int .u8 c] w fun e w' => e = .returned .nilIface ∧ (Lib.BuilderAt 154 5 B b (.pointer (some ⟨b, 0, none⟩)) (bs ++ [.int .u8 c]) w' ∧ Below B w w') := Any.Builder_WriteByte Tryz.lays167 Tryz.Builder_Extra_167 B b bs c w h hlen hBw
def Tryz.lays166_ren : Go.Shelf.Ren := ⟨fun | 166 => 104 | 240 => 128 | 276 => 140 | n => n, fun | 0 => 0 | 3 => 3 | 4 => 4 | 5 => 5 | 9 => 9 | 20 => 20 | 37 => 152 | 70 => 151 | 72 => 154 | 75 => 157 | 80 => 74 | 164 => 187 | n => n, fun | n => n⟩
theorem Tryz.lays166 : Go.Proofs.Lays.n166 Tryz.prog Tryz.lays166_ren := {
  mixed := by kernel_rfl
  f166 := Tryz.func104.trans (congrArg some (by kernel_rfl))
  f240 := Tryz.func128.trans (congrArg some (by kernel_rfl))
  f276 := Tryz.func140.trans (congrArg some (by kernel_rfl))
  t0 := Tryz.underlying0
  a0 := Tryz.isAgg0
  z0 := Tryz.sizeOf0
  v0 := Tryz.zeroValue0
  t3 := Tryz.underlying3
  a3 := Tryz.isAgg3
  z3 := Tryz.sizeOf3
  v3 := Tryz.zeroValue3
  t4 := Tryz.underlying4
  a4 := Tryz.isAgg4
  z4 := Tryz.sizeOf4
  v4 := Tryz.zeroValue4
  t9 := Tryz.underlying9
  a9 := Tryz.isAgg9
  z9 := Tryz.sizeOf9
  v9 := Tryz.zeroValue9
  t20 := Tryz.underlying20
  a20 := Tryz.isAgg20
  z20 := Tryz.sizeOf20
  v20 := Tryz.zeroValue20
  t37 := Tryz.underlying152
  a37 := Tryz.isAgg152
  z37 := Tryz.sizeOf152
  v37 := Tryz.zeroValue152
  t70 := Tryz.underlying151
  a70 := Tryz.isAgg151
  z70 := Tryz.sizeOf151
  v70 := Tryz.zeroValue151
  t72 := Tryz.underlying154
  a72 := Tryz.isAgg154
  z72 := Tryz.sizeOf154
  v72 := Tryz.zeroValue154
  t75 := Tryz.underlying157
  a75 := Tryz.isAgg157
  z75 := Tryz.sizeOf157
  v75 := Tryz.zeroValue157
  t164 := Tryz.underlying187
  a164 := Tryz.isAgg187
  z164 := Tryz.sizeOf187
  v164 := Tryz.zeroValue187 }
theorem Tryz.Builder_Extra_166 : Builder.Extra Tryz.prog Tryz.lays166_ren where
  sizeBuilder := by kernel_rfl
  liesBuilder := by kernel_rfl
  t5 := Tryz.underlying5
  a5 := Tryz.isAgg5
  z5 := Tryz.sizeOf5
  v5 := Tryz.zeroValue5
  infoByte := by kernel_rfl
  cellsByte := by kernel_rfl
  sizeByte := by kernel_rfl
  neB5 := by decide
open Go.RowKit in
theorem Tryz.Builder_WriteString (B b : Nat) (bs : List Value) (s : ByteArray) (w : World) (h : Lib.IsBuilder 154 5 B b bs w) (hlen : bs.length + s.size ≤ 140737488355328) (hBw : B ≤ w.heap.size) :
    Calls Tryz.prog 104 #[.pointer (some ⟨b, 0, none⟩), .string s] w fun e w' => e = .returned (.tuple #[.int .i64 s.size, .nilIface]) ∧ (Lib.BuilderAt 154 5 B b (.pointer (some ⟨b, 0, none⟩)) (bs ++ Lib.strCells s) w' ∧ Below B w w') := Any.Builder_WriteString Tryz.lays166 Tryz.Builder_Extra_166 B b bs s w h hlen hBw
end Go.Proofs
namespace Go.Proofs.YtapdiionikfgpaaGreatDoor.Li
open Go.ChangeShapes Go.WideShapes Go.ChangeAt Go.RowKit
set_option linter.unusedVariables false
theorem join_snoc (l : List (List UInt8)) (y sep : List UInt8) : Lib.join (l ++ [y]) sep = (if l = [] then y else Lib.join l sep ++ sep ++ y) := by
  cases l with
  | nil => simp [Lib.join_one]
  | cons x r => simp [Lib.join_cons, Lib.joinTail]
theorem jn_list (x : Wl) : ∀ n, (jn x n).data.toList = Lib.join (((List.range n).map x.f).map (·.data.toList)) [32] := by
  intro n
  induction n with
  | zero => rfl
  | succ k ih =>
    rw [List.range_succ, List.map_append, List.map_append, List.map_cons, List.map_nil, List.map_cons, List.map_nil, join_snoc, ← ih]
    by_cases h : k = 0
    · subst h; simp [jn, ByteArray.data_append]
    · have h2 : ¬ (List.map (fun x => x.data.toList) (List.map x.f (List.range k)) = []) := by simpa using h
      rw [if_neg h2, jn, if_neg h]
      simp [ByteArray.data_append]
theorem c26 (x : Wl) (w : World) (h : Ss w x.A x.n x.f) (hn : 0 < x.n) (hc : x.n ≤ x.c) (hN : x.n ≤ 16777216) (hs : (jn x x.n).size ≤ 16777216) :
    Calls Tryz.prog 103 #[.slice x.A x.n x.c, .string ⟨#[32]⟩] w fun e w' => e = .returned (.string (jn x x.n)) ∧ Below w.heap.size w w' := by
  obtain ⟨b, o, e, hl, hcell⟩ := h hn
  have hlen : ((List.range x.n).map x.f).length = x.n := by simp
  have hj := jn_list x x.n
  have hsz : (Lib.join (((List.range x.n).map x.f).map (·.data.toList)) [32]).length = (jn x x.n).size := by rw [← hj]; rfl
  have K := Tryz.strings_Join b o x.c ((List.range x.n).map x.f) ⟨#[32]⟩ w (fun j y hy => by
    obtain ⟨hj1, hj2⟩ := List.getElem?_eq_some_iff.mp hy
    rw [hlen] at hj1
    have : y = x.f j := by rw [← hj2]; simp
    rw [this]; exact (hcell j hj1).1) hl (by rw [hlen]; omega) (by rw [hlen]; exact hc) (by
      show (Lib.join (((List.range x.n).map x.f).map (·.data.toList)) [32]).length ≤ _
      rw [hsz]; omega)
  rw [hlen] at K
  rw [e]
  refine K.mono ?_
  rintro e' w' ⟨rfl, hb⟩
  refine ⟨?_, hb⟩
  have : (⟨(Lib.join (((List.range x.n).map x.f).map (·.data.toList)) [32]).toArray⟩ : ByteArray) = jn x x.n := by
    rw [← hj]
  rw [← this]
end Go.Proofs.YtapdiionikfgpaaGreatDoor.Li
namespace Go.Proofs.YtapdiionikfgpaaGreatDoor.Li
open Go.ChangeShapes Go.WideShapes Go.ChangeAt Go.RowKit
set_option linter.unusedVariables false
/-- the builder of Put, so many lines written -/
def Bu (w wr : World) (s : ByteArray) : Prop := (Lib.IsBuilder 154 5 w.heap.size w.heap.size (Lib.strCells s) wr) ∧ Below w.heap.size w wr
def R5 (w : World) (g : Nat → Wl) (n : Nat) (i : Value) (wr : World) : Prop := ∃ k : Nat, k ≤ n ∧ i = .int .i64 (k : Int) ∧ Bu w wr (outN g k) ∧ ∀ j, j < k → ¬ longP (g j)
theorem bu0 (w : World) : Bu w (w.alloc (.cells #[.pointer none, .slice none 0 0] 154)) ⟨#[]⟩ := ⟨Lib.fresh_isBuilder 154 5 w, (Below.refl _ w).alloc (Nat.le_refl _) _⟩
theorem at_below {p : Value} {bs : List Value} {B b : Nat} {w w' : World} (h : Lib.BuilderAt 154 5 B b p bs w) (hb : Below w.heap.size w w') : Lib.BuilderAt 154 5 B b p bs w' := by
  have hlt := h.lt
  obtain ⟨h1, v, h2, h3, h4⟩ := h
  exact ⟨h1, v, (hb.block b hlt).trans h2, h3.kept (row := none) ⟨hb.os, hb.tape, hb.output, hb.size, fun j hj _ => hb.block j hj⟩ (by cases v.ownBlock <;> simp), h4⟩
theorem bu_below {w wr w' : World} {s : ByteArray} (h : Bu w wr s) (hb : Below wr.heap.size wr w') : Bu w w' s :=
  ⟨h.1.imp (fun k => at_below k hb) (fun k => at_below k hb), h.2.trans (hb.mono h.2.size)⟩
theorem bu_alloc {w wr : World} {s : ByteArray} (h : Bu w wr s) (o : Obj) : Bu w (wr.alloc o) s := bu_below h ((Below.refl _ wr).alloc (Nat.le_refl _) o)
theorem cells_add (s t : ByteArray) : Lib.strCells (s ++ t) = Lib.strCells s ++ Lib.strCells t := by simp [Lib.strCells, ByteArray.data_append]
theorem bw27 {w wr : World} {s : ByteArray} (h : Bu w wr s) (t : ByteArray) (hs : s.size ≤ 16777216) (ht : t.size ≤ 16777216) :
    Calls Tryz.prog 104 #[.pointer (some ⟨w.heap.size, 0, none⟩), .string t] wr fun e w' => e = .returned (.tuple #[.int .i64 t.size, .nilIface]) ∧ Bu w w' (s ++ t) := by
  refine (Tryz.Builder_WriteString w.heap.size w.heap.size (Lib.strCells s) t wr h.1 (by rw [Lib.strCells_length]; omega) h.2.size).mono ?_
  rintro _ w' ⟨rfl, h2, h3⟩
  exact ⟨rfl, Or.inr (by rw [cells_add]; exact h2), h.2.trans h3⟩
theorem bw28 {w wr : World} {s : ByteArray} (h : Bu w wr s) (hs : s.size ≤ 33554432) :
    Calls Tryz.prog 105 #[.pointer (some ⟨w.heap.size, 0, none⟩), .int .u8 10] wr fun e w' => e = .returned .nilIface ∧ Bu w w' (s ++ ⟨#[10]⟩) := by
  refine (Tryz.Builder_WriteByte w.heap.size w.heap.size (Lib.strCells s) 10 wr h.1 (by rw [Lib.strCells_length]; omega) h.2.size).mono ?_
  rintro _ w' ⟨rfl, h2, h3⟩
  exact ⟨rfl, Or.inr (by rw [cells_add]; exact h2), h.2.trans h3⟩
theorem bw29 {w wr : World} {s : ByteArray} (h : Bu w wr s) :
    Calls Tryz.prog 106 #[.pointer (some ⟨w.heap.size, 0, none⟩)] wr fun e w' => e = .returned (.string s) ∧ Below w.heap.size w w' := by
  refine (Tryz.Builder_String_any w.heap.size w.heap.size s.data.toList wr h.1 h.2.size).mono ?_
  rintro _ w' ⟨rfl, h3⟩
  exact ⟨rfl, h.2.trans h3⟩
set_option maxHeartbeats 16000000 in
theorem c14 (A : Option Addr) (n c : Nat) (g : Nat → Wl) (w : World) (hA : Ws w A n g) (hn : n ≤ 9223372036854775807)
    (hb : ∀ k, k ≤ n → n ≤ 400 → (∀ j, j < k → ¬ longP (g j)) → (outN g k).size ≤ 16777216) (hb2 : ∀ k, k < n → ∀ m, m ≤ (g k).n → (jn (g k) m).size ≤ 16777216) (hb3 : ∀ k, k < n → (g k).n ≤ 16777216) :
    Calls Tryz.prog 60 #[.slice A n c] w fun e w' => e = .returned (putV g n) ∧ Below w.heap.size w w' := by
  have HA := Lib.hid hA
  have K25 := Lib.hid (c25 A n c g w hA hn)
  have HB := Lib.hid hb
  have HB2 := Lib.hid hb2
  have HB3 := Lib.hid hb3
  clear hA hb hb2 hb3
  have HY0 : Hid (mayB g n = false → putV g n = .tuple #[.string ⟨#[]⟩, .int .i64 5]) := Lib.hid (putV_may g n)
  obtain ⟨q, hq⟩ : ∃ q, mayB g n = q := ⟨_, rfl⟩
  rw [hq] at K25 HY0
  have HY := Lib.hid hq
  clear hq
  go_enter Tryz.func60, Tryz.ntmps60
  go_wp2_with fail
  refine (K25.out).mono ?_
  rintro _ w1 ⟨rfl, b1⟩
  have HW1 := Lib.hid b1
  clear b1
  cases q
  · have HW := Lib.hid (HY0.out rfl)
    go_wp2_with fail
    go_ret2
    exact ⟨by rw [HW.out]; rfl, HW1.out⟩
  · by_cases h4 : 400 < n
    · have HW := Lib.hid (putV_many g n HY.out h4)
      go_wp2_with fail
      go_ret2
      exact ⟨by rw [HW.out]; rfl, HW1.out⟩
    · go_wp2_with fail
      go_loopw [16] (fun i wr => R5 w1 g n i wr) (fun i _ => n - (intOf i).toNat)
      case atStart => exact ⟨0, by omega, rfl, bu0 w1, fun j hj => absurd hj (by omega)⟩
      case round =>
        obtain ⟨k, hk, rfl, hbu, hin⟩ := hrel
        have HBU := Lib.hid hbu
        have HIN := Lib.hid hin
        clear hbu hin
        by_cases hlt : k < n
        · obtain ⟨b, o, rfl, hbl, hc⟩ := HA.out (by omega)
          obtain ⟨q0, q1, hs, hn2, hnc⟩ := hc k hlt
          have hbw : Below w.heap.size w wr := HW1.out.trans (HBU.out.2.mono HW1.out.size)
          have z : ∀ j, wr.cell? ⟨b, j, none⟩ = w.cell? ⟨b, j, none⟩ := fun j => hbw.cell (p := ⟨b, j, none⟩) hbl
          rw [← z] at q0 q1
          have HBW := Lib.hid hbw
          have HL : Hid (lineP (g k)) := Lib.hid (by
            have := HY.out
            by_cases hp : lineP (g k)
            · exact hp
            · have h2 := mayB_no g n k hlt hp
              rw [h2] at this; cases this)
          have z0 := HB.out k (Nat.le_of_lt hlt) (by omega) HIN.out
          have z1 := HB2.out k hlt (g k).n (Nat.le_refl _)
          have HO : Hid (outN g (k + 1) = (outN g k ++ jn (g k) (g k).n) ++ ⟨#[10]⟩) := Lib.hid rfl
          have K26 : Hid (∀ wz, Below w.heap.size w wz → Calls Tryz.prog 103 #[.slice (g k).A (g k).n (g k).c, .string ⟨#[32]⟩] wz fun e w' => e = .returned (.string (jn (g k) (g k).n)) ∧ Below wz.heap.size wz w') :=
            Lib.hid fun wz hz => c26 (g k) wz (hs.below hz) HL.out.1 hnc (HB3.out k hlt) z1
          have HLO : Hid (longP (g k) → putV g n = .tuple #[.string ⟨#[]⟩, .int .i64 3]) := Lib.hid fun h => putV_long g n k HY.out hlt h
          have HST : Hid (¬ longP (g k) → ∀ j, j < k + 1 → ¬ longP (g j)) := Lib.hid fun hl j hj => by
            by_cases e : j = k
            · rw [e]; exact hl
            · exact HIN.out j (by omega)
          have HK : Hid (k + 1 ≤ n) := Lib.hid hlt
          have HLG : Hid (longP (g k) ↔ 100 < (jn (g k) (g k).n).size) := Lib.hid Iff.rfl
          have HC := Lib.hid hc
          clear z hc hs hk hbw
          obtain ⟨out', ho'⟩ : ∃ out', outN g (k + 1) = out' := ⟨_, rfl⟩
          rw [ho'] at HO
          have HO2 := Lib.hid ho'
          clear ho'
          generalize jn (g k) (g k).n = said at *
          generalize outN g k = out at *
          go_wp2_with fail
          refine (K26.out _ (by first | exact HBW.out | exact HBW.out.alloc HBW.out.size _ | skip)).mono ?_
          rintro _ w2 ⟨rfl, b2⟩
          have HU2 := Lib.hid (bu_below (by first | exact HBU.out | exact bu_alloc HBU.out _) b2)
          clear b2
          by_cases hl : 100 < said.size
          · have HW := Lib.hid (HLO.out (HLG.out.mpr hl))
            go_wp2_with fail
            go_ret2
            exact ⟨by rw [HW.out]; rfl, HW1.out.trans (HU2.out.2.mono HW1.out.size)⟩
          · have HS3 := Lib.hid (HST.out (fun h => hl (HLG.out.mp h)))
            have K27 := Lib.hid (bw27 HU2.out said z0 z1)
            go_wp2_with fail
            refine K27.out.mono ?_
            rintro _ w3 ⟨rfl, hu3⟩
            have K28 := Lib.hid (bw28 hu3 (by rw [ByteArray.size_append]; omega))
            clear hu3
            go_wp2_with fail
            refine K28.out.mono ?_
            rintro _ w4 ⟨rfl, hu4⟩
            have HU4 := Lib.hid hu4
            clear hu4
            go_wp2_with fail
            go_roundw
            case rel => exact ⟨k + 1, HK.out, by go_num, by rw [HO2.out, HO.out]; exact HU4.out, HS3.out⟩
            case measure => simp [intOf]; have := HK.out; omega
        · have hkn : k = n := by omega
          subst hkn
          have HW := Lib.hid (putV_ok g k HY.out HIN.out (by omega))
          have K29 := Lib.hid (bw29 HBU.out)
          generalize outN g k = s at *
          go_wp2_with fail
          refine K29.out.mono ?_
          rintro _ w5 ⟨rfl, b5⟩
          have HB5 := Lib.hid b5
          clear b5
          go_wp2_with fail
          go_ret2
          exact ⟨by rw [HW.out]; rfl, HW1.out.trans (HB5.out.mono HW1.out.size)⟩
end Go.Proofs.YtapdiionikfgpaaGreatDoor.Li
