import Derived.Test.YtapdiionikfgpaaGreatDoorGe
import Derived.Test.YtapdiionikfgpaaGreatDoorGa
import Derived.Shelf.Strings.Trim
import Derived.Shelf.LaysM
import Derived.Shelf.Strconv.Clone
import Derived.Ground.MpProg
import Derived.Shelf.Pu.ErrVarParseUint
import Derived.Shelf.Strings.Split
import Derived.Shelf.Strings.FieldsFuncAny
import Derived.Test.YtapdiionikfgpaaGreatDoorProg
import Derived.Laws.AppendOwn
import Derived.Shelf.Strings.SlTrimAscii
/-
  DERIVED: THE SHELF's CONTRACTS AT THIS DUMP, IN PLAIN WORDS (tools/lay-plain.mjs out of 'YtapdiionikfgpaaGreatDoorSi.lean', which tools/lay-shelf.mjs wrote): THE SAME DECLARATIONS UNDER THE SAME NAMES: 'import', 'namespace', 'open', 'def', 'theorem' AND NOTHING ELSE: no command of the shelf's: FOR A HAND-IN. Each laying: the table of numbers ('.._ren') and one theorem, a field a fact of the dump's own or the kernel's comparison; each contract: ONE APPLICATION.
-/
namespace Go.Proofs
open Go.Shelf
def Tryz.lays160_ren : Go.Shelf.Ren := ⟨fun | 160 => 146 | 232 => 161 | 231 => 160 | 227 => 162 | 234 => 164 | 233 => 163 | 236 => 166 | 235 => 165 | 228 => 177 | 271 => 179 | 151 => 178 | 197 => 142 | 120 => 182 | 152 => 181 | 260 => 155 | 137 => 183 | 119 => 184 | 224 => 158 | 225 => 157 | 217 => 156 | 266 => 175 | n => n, fun | 9 => 9 | 4 => 4 | 3 => 3 | 5 => 5 | 117 => 205 | 116 => 204 | 0 => 0 | 124 => 208 | 21 => 21 | 105 => 189 | 46 => 199 | 119 => 215 | 139 => 218 | 138 => 217 | n => n, fun | 3 => 2 | 4 => 3 | n => n⟩
theorem Tryz.lays160 : Go.Proofs.Lays.n160 Tryz.prog Tryz.lays160_ren := {
  mixed := by kernel_rfl
  f119 := Tryz.func184.trans (congrArg some (by kernel_rfl))
  f120 := Tryz.func182.trans (congrArg some (by kernel_rfl))
  f137 := Tryz.func183.trans (congrArg some (by kernel_rfl))
  f151 := Tryz.func178.trans (congrArg some (by kernel_rfl))
  f152 := Tryz.func181.trans (congrArg some (by kernel_rfl))
  f160 := Tryz.func146.trans (congrArg some (by kernel_rfl))
  f197 := Tryz.func142.trans (congrArg some (by kernel_rfl))
  f217 := Tryz.func156.trans (congrArg some (by kernel_rfl))
  f224 := Tryz.func158.trans (congrArg some (by kernel_rfl))
  f225 := Tryz.func157.trans (congrArg some (by kernel_rfl))
  f227 := Tryz.func162.trans (congrArg some (by kernel_rfl))
  f228 := Tryz.func177.trans (congrArg some (by kernel_rfl))
  f231 := Tryz.func160.trans (congrArg some (by kernel_rfl))
  f232 := Tryz.func161.trans (congrArg some (by kernel_rfl))
  f233 := Tryz.func163.trans (congrArg some (by kernel_rfl))
  f234 := Tryz.func164.trans (congrArg some (by kernel_rfl))
  f235 := Tryz.func165.trans (congrArg some (by kernel_rfl))
  f236 := Tryz.func166.trans (congrArg some (by kernel_rfl))
  f260 := Tryz.func155.trans (congrArg some (by kernel_rfl))
  f266 := Tryz.func175.trans (congrArg some (by kernel_rfl))
  f271 := Tryz.func179.trans (congrArg some (by kernel_rfl))
  t0 := Tryz.underlying0
  a0 := Tryz.isAgg0
  z0 := Tryz.sizeOf0
  v0 := Tryz.zeroValue0
  t3 := Tryz.underlying3
  a3 := Tryz.isAgg3
  z3 := Tryz.sizeOf3
  v3 := Tryz.zeroValue3
  t4 := Tryz.underlying4
  a4 := Tryz.isAgg4
  z4 := Tryz.sizeOf4
  v4 := Tryz.zeroValue4
  t5 := Tryz.underlying5
  a5 := Tryz.isAgg5
  z5 := Tryz.sizeOf5
  v5 := Tryz.zeroValue5
  t9 := Tryz.underlying9
  a9 := Tryz.isAgg9
  z9 := Tryz.sizeOf9
  v9 := Tryz.zeroValue9
  t21 := Tryz.underlying21
  a21 := Tryz.isAgg21
  z21 := Tryz.sizeOf21
  v21 := Tryz.zeroValue21
  t46 := Tryz.underlying199
  a46 := Tryz.isAgg199
  z46 := Tryz.sizeOf199
  v46 := Tryz.zeroValue199
  t105 := Tryz.underlying189
  a105 := Tryz.isAgg189
  z105 := Tryz.sizeOf189
  v105 := Tryz.zeroValue189
  t116 := Tryz.underlying204
  a116 := Tryz.isAgg204
  z116 := Tryz.sizeOf204
  t117 := Tryz.underlying205
  a117 := Tryz.isAgg205
  z117 := Tryz.sizeOf205
  v117 := Tryz.zeroValue205
  t119 := Tryz.underlying215
  a119 := Tryz.isAgg215
  z119 := Tryz.sizeOf215
  t124 := Tryz.underlying208
  a124 := Tryz.isAgg208
  z124 := Tryz.sizeOf208
  v124 := Tryz.zeroValue208
  t138 := Tryz.underlying217
  a138 := Tryz.isAgg217
  z138 := Tryz.sizeOf217
  v138 := Tryz.zeroValue217
  t139 := Tryz.underlying218
  a139 := Tryz.isAgg218
  z139 := Tryz.sizeOf218
  v139 := Tryz.zeroValue218
  g3 := by kernel_rfl
  g4 := by kernel_rfl }
open Go.RowKit in
/-- strings.Trim: "Trim returns a slice of the string s with all leading and trailing Unicode code points contained in cutset removed.": AT A cutset OF ONE ASCII BYTE. THE WORLD BEHIND IT: as it was, or (where s is not empty) with ONE DRAW MORE off the tape: the statement 'return trimLeftByte(trimRightByte(s, c), c)' draws its order of evaluation. (LAID: no walk: one application.) -/
theorem Tryz.strings_Trim_one (s : ByteArray) (c : UInt8) (hc : c.toNat < 128) (w : World) (hs : s.size ≤ 9223372036854775807) :
    Calls Tryz.prog 146 #[.string s, .string ⟨#[c]⟩] w fun e w' => e = .returned (.string ⟨(Lib.trimB s.data.toList c).toArray⟩) ∧ (w' = w ∨ w' = w.drew) := Any.strings_Trim_one Tryz.lays160 s c hc w hs
def Tryz.laysM316_ren : Go.Shelf.Ren := ⟨fun | 316 => 114 | n => n, fun | 9 => 9 | 3 => 3 | 4 => 4 | 37 => 152 | 0 => 0 | 127 => 175 | 5 => 5 | n => n, fun | n => n⟩
theorem Tryz.laysM316 : Go.Proofs.LaysM.n316 Tryz.prog Tryz.laysM316_ren := {
  mixed := by kernel_rfl
  f316 := Tryz.func114.trans (congrArg some (by kernel_rfl))
  t0 := Tryz.underlying0
  a0 := Tryz.isAgg0
  z0 := Tryz.sizeOf0
  v0 := Tryz.zeroValue0
  t3 := Tryz.underlying3
  a3 := Tryz.isAgg3
  z3 := Tryz.sizeOf3
  v3 := Tryz.zeroValue3
  t4 := Tryz.underlying4
  a4 := Tryz.isAgg4
  z4 := Tryz.sizeOf4
  v4 := Tryz.zeroValue4
  t9 := Tryz.underlying9
  a9 := Tryz.isAgg9
  z9 := Tryz.sizeOf9
  v9 := Tryz.zeroValue9
  t37 := Tryz.underlying152
  a37 := Tryz.isAgg152
  z37 := Tryz.sizeOf152
  v37 := Tryz.zeroValue152
  t127 := Tryz.underlying175
  a127 := Tryz.isAgg175
  z127 := Tryz.sizeOf175
  v127 := Tryz.zeroValue175
  t5 := Tryz.underlying5
  a5 := Tryz.isAgg5
  z5 := Tryz.sizeOf5
  v5 := Tryz.zeroValue5
  i0 := by kernel_rfl
  i3 := by kernel_rfl
  i4 := by kernel_rfl
  i5 := by kernel_rfl
  i9 := by kernel_rfl
  i37 := by kernel_rfl
  i127 := by kernel_rfl }
open Go.RowKit in
/-- internal/stringslite.Clone (what strings.Clone calls): "Clone returns a fresh copy of s.": THE SAME BYTES. Of what was there nothing has turned (a new row is laid, and frozen, where s is not empty). (LAID: no walk: one application.) -/
theorem Tryz.stringslite_Clone (s : ByteArray) (w : World) (hlim : s.size ≤ 281474976710656) :
    Calls Tryz.prog 114 #[.string s] w fun e w' => e = .returned (.string s) ∧ Below w.heap.size w w' := Any.stringslite_Clone Tryz.laysM316 s w hlim
def Tryz.laysPu14_ren : Go.Shelf.Ren := ⟨fun | 14 => 134 | 16 => 147 | 17 => 148 | 19 => 167 | 20 => 168 | 21 => 169 | 22 => 170 | 23 => 171 | 24 => 172 | 25 => 114 | 27 => 56 | 26 => 180 | 28 => 99 | 29 => 125 | 30 => 135 | 31 => 136 | 32 => 137 | 33 => 138 | 35 => 150 | 34 => 149 | 36 => 151 | 37 => 152 | 38 => 153 | 39 => 173 | 40 => 174 | n => n, fun | 9 => 9 | 3 => 3 | 22 => 171 | 24 => 157 | 25 => 180 | 4 => 4 | 34 => 209 | 5 => 5 | 36 => 199 | 37 => 152 | 0 => 0 | 39 => 211 | 21 => 21 | 44 => 223 | 47 => 175 | 50 => 230 | 48 => 228 | 2 => 2 | 52 => 182 | 55 => 185 | 59 => 196 | 60 => 82 | 20 => 20 | 61 => 197 | 65 => 225 | 66 => 226 | 67 => 74 | n => n, fun | 0 => 4 | 1 => 5 | 2 => 0 | 3 => 6 | 4 => 7 | n => n⟩
theorem Tryz.laysPu14 : Go.Proofs.LaysPu.n14 Tryz.prog Tryz.laysPu14_ren := {
  mixed := by kernel_rfl
  f14 := Tryz.func134.trans (congrArg some (by kernel_rfl))
  f16 := Tryz.func147.trans (congrArg some (by kernel_rfl))
  f17 := Tryz.func148.trans (congrArg some (by kernel_rfl))
  f19 := Tryz.func167.trans (congrArg some (by kernel_rfl))
  f20 := Tryz.func168.trans (congrArg some (by kernel_rfl))
  f21 := Tryz.func169.trans (congrArg some (by kernel_rfl))
  f22 := Tryz.func170.trans (congrArg some (by kernel_rfl))
  f23 := Tryz.func171.trans (congrArg some (by kernel_rfl))
  f24 := Tryz.func172.trans (congrArg some (by kernel_rfl))
  f25 := Tryz.func114.trans (congrArg some (by kernel_rfl))
  f26 := Tryz.func180.trans (congrArg some (by kernel_rfl))
  f27 := Tryz.func56.trans (congrArg some (by kernel_rfl))
  f28 := Tryz.func99.trans (congrArg some (by kernel_rfl))
  f29 := Tryz.func125.trans (congrArg some (by kernel_rfl))
  f30 := Tryz.func135.trans (congrArg some (by kernel_rfl))
  f31 := Tryz.func136.trans (congrArg some (by kernel_rfl))
  f32 := Tryz.func137.trans (congrArg some (by kernel_rfl))
  f33 := Tryz.func138.trans (congrArg some (by kernel_rfl))
  f34 := Tryz.func149.trans (congrArg some (by kernel_rfl))
  f35 := Tryz.func150.trans (congrArg some (by kernel_rfl))
  f36 := Tryz.func151.trans (congrArg some (by kernel_rfl))
  f37 := Tryz.func152.trans (congrArg some (by kernel_rfl))
  f38 := Tryz.func153.trans (congrArg some (by kernel_rfl))
  f39 := Tryz.func173.trans (congrArg some (by kernel_rfl))
  f40 := Tryz.func174.trans (congrArg some (by kernel_rfl))
  t0 := Tryz.underlying0
  a0 := Tryz.isAgg0
  z0 := Tryz.sizeOf0
  v0 := Tryz.zeroValue0
  i0 := by kernel_rfl
  t2 := Tryz.underlying2
  a2 := Tryz.isAgg2
  z2 := Tryz.sizeOf2
  v2 := Tryz.zeroValue2
  i2 := by kernel_rfl
  t3 := Tryz.underlying3
  a3 := Tryz.isAgg3
  z3 := Tryz.sizeOf3
  v3 := Tryz.zeroValue3
  i3 := by kernel_rfl
  t4 := Tryz.underlying4
  a4 := Tryz.isAgg4
  z4 := Tryz.sizeOf4
  v4 := Tryz.zeroValue4
  i4 := by kernel_rfl
  t5 := Tryz.underlying5
  a5 := Tryz.isAgg5
  z5 := Tryz.sizeOf5
  v5 := Tryz.zeroValue5
  i5 := by kernel_rfl
  t9 := Tryz.underlying9
  a9 := Tryz.isAgg9
  z9 := Tryz.sizeOf9
  v9 := Tryz.zeroValue9
  i9 := by kernel_rfl
  t20 := Tryz.underlying20
  a20 := Tryz.isAgg20
  z20 := Tryz.sizeOf20
  v20 := Tryz.zeroValue20
  i20 := by kernel_rfl
  t21 := Tryz.underlying21
  a21 := Tryz.isAgg21
  z21 := Tryz.sizeOf21
  v21 := Tryz.zeroValue21
  i21 := by kernel_rfl
  t22 := Tryz.underlying171
  a22 := Tryz.isAgg171
  z22 := Tryz.sizeOf171
  v22 := Tryz.zeroValue171
  i22 := by kernel_rfl
  t24 := Tryz.underlying157
  a24 := Tryz.isAgg157
  z24 := Tryz.sizeOf157
  v24 := Tryz.zeroValue157
  i24 := by kernel_rfl
  t25 := Tryz.underlying180
  a25 := Tryz.isAgg180
  z25 := Tryz.sizeOf180
  v25 := Tryz.zeroValue180
  i25 := by kernel_rfl
  t34 := Tryz.underlying209
  a34 := Tryz.isAgg209
  z34 := Tryz.sizeOf209
  v34 := Tryz.zeroValue209
  i34 := by kernel_rfl
  c34 := by kernel_rfl
  t36 := Tryz.underlying199
  a36 := Tryz.isAgg199
  z36 := Tryz.sizeOf199
  v36 := Tryz.zeroValue199
  i36 := by kernel_rfl
  t37 := Tryz.underlying152
  a37 := Tryz.isAgg152
  z37 := Tryz.sizeOf152
  v37 := Tryz.zeroValue152
  i37 := by kernel_rfl
  t39 := Tryz.underlying211
  a39 := Tryz.isAgg211
  z39 := Tryz.sizeOf211
  v39 := Tryz.zeroValue211
  i39 := by kernel_rfl
  t44 := Tryz.underlying223
  a44 := Tryz.isAgg223
  z44 := Tryz.sizeOf223
  v44 := Tryz.zeroValue223
  i44 := by kernel_rfl
  t47 := Tryz.underlying175
  a47 := Tryz.isAgg175
  z47 := Tryz.sizeOf175
  v47 := Tryz.zeroValue175
  i47 := by kernel_rfl
  t48 := Tryz.underlying228
  a48 := Tryz.isAgg228
  z48 := Tryz.sizeOf228
  v48 := Tryz.zeroValue228
  i48 := by kernel_rfl
  t50 := Tryz.underlying230
  a50 := Tryz.isAgg230
  z50 := Tryz.sizeOf230
  v50 := Tryz.zeroValue230
  i50 := by kernel_rfl
  t52 := Tryz.underlying182
  a52 := Tryz.isAgg182
  z52 := Tryz.sizeOf182
  v52 := Tryz.zeroValue182
  i52 := by kernel_rfl
  t55 := Tryz.underlying185
  a55 := Tryz.isAgg185
  z55 := Tryz.sizeOf185
  v55 := Tryz.zeroValue185
  i55 := by kernel_rfl
  t59 := Tryz.underlying196
  a59 := Tryz.isAgg196
  z59 := Tryz.sizeOf196
  v59 := Tryz.zeroValue196
  i59 := by kernel_rfl
  t60 := Tryz.underlying82
  a60 := Tryz.isAgg82
  z60 := Tryz.sizeOf82
  v60 := Tryz.zeroValue82
  i60 := by kernel_rfl
  t61 := Tryz.underlying197
  a61 := Tryz.isAgg197
  z61 := Tryz.sizeOf197
  t65 := Tryz.underlying225
  a65 := Tryz.isAgg225
  z65 := Tryz.sizeOf225
  v65 := Tryz.zeroValue225
  i65 := by kernel_rfl
  t66 := Tryz.underlying226
  a66 := Tryz.isAgg226
  z66 := Tryz.sizeOf226
  v66 := Tryz.zeroValue226
  i66 := by kernel_rfl
  t67 := Tryz.underlying74
  a67 := Tryz.isAgg74
  z67 := Tryz.sizeOf74
  v67 := Tryz.zeroValue74
  i67 := by kernel_rfl
  g0 := by kernel_rfl
  m0 := by kernel_rfl
  g1 := by kernel_rfl
  m1 := by kernel_rfl
  g2 := by kernel_rfl
  m2 := by kernel_rfl
  g3 := by kernel_rfl
  m3 := by kernel_rfl
  g4 := by kernel_rfl
  m4 := by kernel_rfl }
open Go.RowKit in
/-- strconv.ParseUint(s, 10, 32), AT EVERY STRING THAT SPELLS A uint32 ('Lib.parseUintB 32 s.data.toList = .ok u'): u, AND NO ERROR. (LAID: no walk: one application.) -/
theorem Tryz.strconv_ParseUint_10_at32_ok (s : ByteArray) (hmax : s.size ≤ 9223372036854775806) (u : Nat) (h : Lib.parseUintB 32 s.data.toList = .ok u) (w : World) :
    Calls Tryz.prog 134 #[.string s, .int .i64 10, .int .i64 32] w fun e w' => e = .returned (.tuple #[.int .u64 u, .nilIface]) ∧ (w' = w ∨ w' = Lib.bytesWorld w 5 s) := Any.strconv_ParseUint_10_at32_ok Tryz.laysPu14 s hmax u h w
open Go.RowKit in
/-- strconv.ParseUint(s, 10, 32), AT EVERY NUMERAL THAT NO uint32 HOLDS: THE GREATEST uint32, AND AN ERROR THAT IS NOT nil: a *NumError in a new block N: {Func: "ParseUint", Num: s's bytes, Err: what the variable ErrRange holds}. Of what was there nothing has turned. (LAID: no walk: one application.) -/
theorem Tryz.strconv_ParseUint_10_at32_range (s : ByteArray) (hlim : s.size ≤ 281474976710656) (h : Lib.parseUintB 32 s.data.toList = .range) (ev : Value) (w : World) (hv : w.cell? ⟨5, 0, none⟩ = some ev) (hev : ev = .nilIface ∨ ∃ te pe, ev = .iface te pe) :
    Calls Tryz.prog 134 #[.string s, .int .i64 10, .int .i64 32] w fun e w' => ∃ N, e = .returned (.tuple #[.int .u64 4294967295, .iface 211 (.pointer (some ⟨N, 0, none⟩))]) ∧ w.heap.size ≤ N ∧ w'.heap[N]? = some (.cells #[.string ⟨#[80, 97, 114, 115, 101, 85, 105, 110, 116]⟩, .string s, ev] 223 (0, 0)) ∧ Below w.heap.size w w' := Any.strconv_ParseUint_10_at32_range Tryz.laysPu14 s hlim h ev w hv hev
def Tryz.lays146_ren : Go.Shelf.Ren := ⟨fun | 146 => 69 | 221 => 112 | 268 => 129 | 138 => 130 | 143 => 131 | 195 => 141 | 197 => 142 | 218 => 143 | 219 => 144 | 260 => 155 | 217 => 156 | 225 => 157 | 224 => 158 | 267 => 159 | 266 => 175 | 314 => 176 | n => n, fun | 9 => 9 | 31 => 55 | 3 => 3 | 4 => 4 | 0 => 0 | 105 => 189 | 21 => 21 | 5 => 5 | 46 => 199 | 119 => 215 | 139 => 218 | 138 => 217 | 146 => 219 | 51 => 82 | n => n, fun | 1 => 1 | 3 => 2 | 4 => 3 | n => n⟩
theorem Tryz.lays146 : Go.Proofs.Lays.n146 Tryz.prog Tryz.lays146_ren := {
  mixed := by kernel_rfl
  f138 := Tryz.func130.trans (congrArg some (by kernel_rfl))
  f143 := Tryz.func131.trans (congrArg some (by kernel_rfl))
  f146 := Tryz.func69.trans (congrArg some (by kernel_rfl))
  f195 := Tryz.func141.trans (congrArg some (by kernel_rfl))
  f197 := Tryz.func142.trans (congrArg some (by kernel_rfl))
  f217 := Tryz.func156.trans (congrArg some (by kernel_rfl))
  f218 := Tryz.func143.trans (congrArg some (by kernel_rfl))
  f219 := Tryz.func144.trans (congrArg some (by kernel_rfl))
  f221 := Tryz.func112.trans (congrArg some (by kernel_rfl))
  f224 := Tryz.func158.trans (congrArg some (by kernel_rfl))
  f225 := Tryz.func157.trans (congrArg some (by kernel_rfl))
  f260 := Tryz.func155.trans (congrArg some (by kernel_rfl))
  f266 := Tryz.func175.trans (congrArg some (by kernel_rfl))
  f267 := Tryz.func159.trans (congrArg some (by kernel_rfl))
  f268 := Tryz.func129.trans (congrArg some (by kernel_rfl))
  f314 := Tryz.func176.trans (congrArg some (by kernel_rfl))
  t0 := Tryz.underlying0
  a0 := Tryz.isAgg0
  z0 := Tryz.sizeOf0
  v0 := Tryz.zeroValue0
  t3 := Tryz.underlying3
  a3 := Tryz.isAgg3
  z3 := Tryz.sizeOf3
  v3 := Tryz.zeroValue3
  t4 := Tryz.underlying4
  a4 := Tryz.isAgg4
  z4 := Tryz.sizeOf4
  v4 := Tryz.zeroValue4
  t5 := Tryz.underlying5
  a5 := Tryz.isAgg5
  z5 := Tryz.sizeOf5
  v5 := Tryz.zeroValue5
  t9 := Tryz.underlying9
  a9 := Tryz.isAgg9
  z9 := Tryz.sizeOf9
  v9 := Tryz.zeroValue9
  t21 := Tryz.underlying21
  a21 := Tryz.isAgg21
  z21 := Tryz.sizeOf21
  v21 := Tryz.zeroValue21
  t31 := Tryz.underlying55
  a31 := Tryz.isAgg55
  z31 := Tryz.sizeOf55
  v31 := Tryz.zeroValue55
  t46 := Tryz.underlying199
  a46 := Tryz.isAgg199
  z46 := Tryz.sizeOf199
  v46 := Tryz.zeroValue199
  t51 := Tryz.underlying82
  a51 := Tryz.isAgg82
  z51 := Tryz.sizeOf82
  v51 := Tryz.zeroValue82
  t105 := Tryz.underlying189
  a105 := Tryz.isAgg189
  z105 := Tryz.sizeOf189
  v105 := Tryz.zeroValue189
  t119 := Tryz.underlying215
  a119 := Tryz.isAgg215
  z119 := Tryz.sizeOf215
  t138 := Tryz.underlying217
  a138 := Tryz.isAgg217
  z138 := Tryz.sizeOf217
  v138 := Tryz.zeroValue217
  t139 := Tryz.underlying218
  a139 := Tryz.isAgg218
  z139 := Tryz.sizeOf218
  v139 := Tryz.zeroValue218
  t146 := Tryz.underlying219
  a146 := Tryz.isAgg219
  z146 := Tryz.sizeOf219
  v146 := Tryz.zeroValue219
  g1 := by kernel_rfl
  g3 := by kernel_rfl
  g4 := by kernel_rfl }
open Go.RowKit Go.Lib in
/-- strings.Split. (LAID: no walk: one application.) -/
theorem Tryz.strings_Split (s sep : ByteArray) (m : Int) (w : World) (hs : s.size < 4294967281) (hm : w.cell? ⟨1, 0, none⟩ = some (.int .i64 m)) (h1 : 1 ≤ sep.size) :
    Calls Tryz.prog 69 #[.string s, .string sep] w fun e w' =>
      e = .returned (.slice (some ⟨w.heap.size, 0, none⟩) (Lib.countB s sep + 1) (Lib.countB s sep + 1)) ∧ w' = w.alloc (.cells ((Lib.splitB sep 0 (Lib.countB s sep) s).map Value.string).toArray 9) := Any.strings_Split Tryz.lays146 (by kernel_rfl) s sep m w hs hm h1
def Tryz.lays229_ren : Go.Shelf.Ren := ⟨fun | 229 => 70 | n => n, fun | 9 => 9 | 40 => 77 | 31 => 55 | 152 => 162 | 3 => 3 | 0 => 0 | 4 => 4 | 21 => 21 | 154 => 164 | n => n, fun | n => n⟩
theorem Tryz.lays229 : Go.Proofs.Lays.n229 Tryz.prog Tryz.lays229_ren := {
  mixed := by kernel_rfl
  f229 := Tryz.func70.trans (congrArg some (by kernel_rfl))
  t0 := Tryz.underlying0
  a0 := Tryz.isAgg0
  z0 := Tryz.sizeOf0
  v0 := Tryz.zeroValue0
  t3 := Tryz.underlying3
  a3 := Tryz.isAgg3
  z3 := Tryz.sizeOf3
  v3 := Tryz.zeroValue3
  t4 := Tryz.underlying4
  a4 := Tryz.isAgg4
  z4 := Tryz.sizeOf4
  v4 := Tryz.zeroValue4
  t9 := Tryz.underlying9
  a9 := Tryz.isAgg9
  z9 := Tryz.sizeOf9
  v9 := Tryz.zeroValue9
  t21 := Tryz.underlying21
  a21 := Tryz.isAgg21
  z21 := Tryz.sizeOf21
  v21 := Tryz.zeroValue21
  t31 := Tryz.underlying55
  a31 := Tryz.isAgg55
  z31 := Tryz.sizeOf55
  v31 := Tryz.zeroValue55
  t40 := Tryz.underlying77
  a40 := Tryz.isAgg77
  z40 := Tryz.sizeOf77
  v40 := Tryz.zeroValue77
  t152 := Tryz.underlying162
  a152 := Tryz.isAgg162
  z152 := Tryz.sizeOf162
  v152 := Tryz.zeroValue162
  t154 := Tryz.underlying164
  a154 := Tryz.isAgg164
  z154 := Tryz.sizeOf164
  v154 := Tryz.zeroValue164 }
open Go.RowKit Go.Lib in
theorem Tryz.strings_FieldsFunc_runes (g : Nat) (lb : Array Value) (eg : ∀ args w, (callFunc g args).run Tryz.prog w = .ok (.enter g args) w) (p : Nat → Bool) (s : ByteArray) (w : World) (hs : s.size ≤ 4294967296) (hp : PredAtRunes Tryz.prog g lb p w) :
    Calls Tryz.prog 70 #[.string s, .func (.func g) #[] lb] w fun e w' => ∃ A, e = .returned (.slice (some ⟨A, 0, none⟩) (Lib.goFieldsP p s).length (Lib.goFieldsP p s).length) ∧ w.heap.size ≤ A ∧
      w'.ownsRow w.heap.size 9 1 (.slice (some ⟨A, 0, none⟩) (Lib.goFieldsP p s).length (Lib.goFieldsP p s).length) (Lib.goFieldsP p s).length ((Lib.goFieldsP p s).map Value.string) ∧ Below w.heap.size w w' := Any.strings_FieldsFunc_runes Tryz.lays229 g lb eg p s w hs hp (by kernel_rfl) (by kernel_rfl)
open Go.RowKit Go.Lib in
/-- .. over a hand of the authors' house's premise as it stands. (LAID: no walk: one application.) -/
theorem Tryz.strings_FieldsFunc (g : Nat) (lb : Array Value) (eg : ∀ args w, (callFunc g args).run Tryz.prog w = .ok (.enter g args) w) (p : Nat → Bool) (s : ByteArray) (w : World) (hs : s.size ≤ 4294967296) (hp : PredAt Tryz.prog g lb encR p w) :
    Calls Tryz.prog 70 #[.string s, .func (.func g) #[] lb] w fun e w' => ∃ A, e = .returned (.slice (some ⟨A, 0, none⟩) (Lib.goFieldsP p s).length (Lib.goFieldsP p s).length) ∧ w.heap.size ≤ A ∧
      w'.ownsRow w.heap.size 9 1 (.slice (some ⟨A, 0, none⟩) (Lib.goFieldsP p s).length (Lib.goFieldsP p s).length) (Lib.goFieldsP p s).length ((Lib.goFieldsP p s).map Value.string) ∧ Below w.heap.size w w' := Any.strings_FieldsFunc Tryz.lays229 g lb eg p s w hs hp (by kernel_rfl) (by kernel_rfl)
end Go.Proofs
namespace Go.Proofs.YtapdiionikfgpaaGreatDoor.Li
open Go.ChangeShapes Go.WideShapes Go.ChangeAt Go.RowKit
set_option linter.unusedVariables false
/-- a blank or a tab -/
def pB (n : Nat) : Bool := decide (n = 32 ∨ n = 9)
/-- the words that a line says -/
def wordsB (s : ByteArray) : List ByteArray := (Lib.goFieldsP pB s).takeWhile (fun t => !decide (bb t 0 = 35))
theorem pred33 (w : World) : PredAtRunes Tryz.prog 71 #[] pB w := by
  intro W x hx hb
  show Calls Tryz.prog 71 #[.int .i32 (x : Int)] W _
  refine (c33 (x : Int) W).mono ?_
  rintro e w' ⟨he, rfl⟩
  refine ⟨?_, 0, rfl⟩
  rw [he]
  congr 2
  unfold pB
  rw [decide_eq_decide]
  omega
theorem enter33 (args : Array Value) (w : World) : (callFunc 71 args).run Tryz.prog w = .ok (.enter 71 args) w := enters_of Tryz.func71 (by kernel_rfl) rfl args w
theorem c32 (s : ByteArray) (hs : s.size ≤ 4294967296) (w : World) :
    Calls Tryz.prog 70 #[.string s, .func (.func 71) #[] #[]] w fun e w' => ∃ A, e = .returned (.slice (some ⟨A, 0, none⟩) (Lib.goFieldsP pB s).length (Lib.goFieldsP pB s).length) ∧ w.heap.size ≤ A ∧
      w'.ownsRow w.heap.size 9 1 (.slice (some ⟨A, 0, none⟩) (Lib.goFieldsP pB s).length (Lib.goFieldsP pB s).length) (Lib.goFieldsP pB s).length ((Lib.goFieldsP pB s).map Value.string) ∧ Below w.heap.size w w' :=
  Tryz.strings_FieldsFunc_runes 71 #[] enter33 pB s w hs (pred33 w)
theorem c35 (s : ByteArray) (hs : s.size ≤ 281474976710656) (w : World) : Calls Tryz.prog 73 #[.string s] w fun e w' => e = .returned (.string s) ∧ Below w.heap.size w w' := by
  have K := Lib.hid (Tryz.stringslite_Clone s)
  go_enter Tryz.func73, Tryz.ntmps73
  go_wp2_with fail
  refine (K.out _ hs).mono ?_
  rintro _ w1 ⟨rfl, b1⟩
  go_wp2_with fail
  go_ret
  exact ⟨rfl, b1⟩
theorem own_base {w : World} {B B' e size n : Nat} {v : Value} {xs : List Value} (h : w.ownsRow B e size v n xs) (hB : B' ≤ B) : w.ownsRow B' e size v n xs := by
  obtain ⟨h1, h2⟩ := h
  refine ⟨h1, ?_⟩
  rcases h2 with h2 | ⟨g, cap, cur, a, b, c, d⟩
  · exact Or.inl h2
  · exact Or.inr ⟨g, cap, cur, a, Nat.le_trans hB b, c, d⟩
theorem own_below {w w' : World} {B e size n : Nat} {v : Value} {xs : List Value} (h : w.ownsRow B e size v n xs) (hb : Below w.heap.size w w') : w'.ownsRow B e size v n xs := by
  obtain ⟨h1, h2⟩ := h
  refine ⟨h1, ?_⟩
  rcases h2 with h2 | ⟨g, cap, cur, a, b, c, d⟩
  · exact Or.inl h2
  · have hg : g < w.heap.size := by
      by_cases hh : g < w.heap.size
      · exact hh
      · rw [Array.getElem?_eq_none (by omega)] at c; cases c
    exact Or.inr ⟨g, cap, cur, a, b, by rw [hb.block g hg]; exact c, d⟩
theorem gr_below {B : Nat} {a w w' : World} {v : Value} {e size n : Nat} {xs : List Value} (h : Below B a w) (ho : w.ownsRow B e size v n xs) (hg : w.grownBy w' v.ownBlock) (hB : B ≤ w.heap.size) : Below B a w' :=
  h.grown hg hB (fun k hk => (ho.lt k hk).1)
theorem take_snoc {α : Type} (l : List α) (k : Nat) (h : k < l.length) : l.take (k + 1) = l.take k ++ [l[k]] := by
  rw [List.take_add_one, List.getElem?_eq_getElem h]; rfl
theorem tw_stop {α : Type} (p : α → Bool) : ∀ (l : List α) (k : Nat) (h : k < l.length), (∀ j, (hj : j < l.length) → j < k → p l[j] = true) → p l[k] = false → l.takeWhile p = l.take k
  | [], k, h, _, _ => absurd h (by simp)
  | a :: t, 0, h, _, hp => by simp at hp; simp [hp]
  | a :: t, k + 1, h, hj, hp => by
    have h0 := hj 0 (by simp) (by omega)
    simp at h0
    rw [List.takeWhile_cons, h0]
    simp only [if_true, List.take_succ_cons]
    congr 1
    exact tw_stop p t k (by simpa using h) (fun j h1 h2 => by have := hj (j + 1) (by simpa using h1) (by omega); simpa using this) (by simpa using hp)
theorem tw_all {α : Type} (p : α → Bool) : ∀ (l : List α), (∀ j, (hj : j < l.length) → p l[j] = true) → l.takeWhile p = l
  | [], _ => rfl
  | a :: t, h => by
    have h0 := h 0 (by simp)
    simp at h0
    rw [List.takeWhile_cons, h0]
    simp only [if_true]
    congr 1
    exact tw_all p t (fun j hj => by have := h (j + 1) (by simpa using hj); simpa using this)
theorem addr_add (A k : Nat) : (⟨A, 0, none⟩ : Addr).add k = ⟨A, k, none⟩ := by
  unfold Addr.add
  split <;> simp_all
/-- so many of the pieces, put into a row -/
def RW (w1 : World) (B : Nat) (ps : List ByteArray) (l i : Value) (wr : World) : Prop :=
  ∃ k : Nat, k ≤ ps.length ∧ i = .int .i64 (k : Int) ∧ wr.ownsRow B 9 1 l k ((ps.take k).map Value.string) ∧ Below B w1 wr ∧ ∀ j, (h : j < ps.length) → j < k → (!decide (bb ps[j] 0 = 35)) = true
theorem has0 (s : ByteArray) : (decide (0 < s.size) && decide (bb s 0 = 35)) = decide (bb s 0 = 35) := by
  by_cases h : 0 < s.size
  · simp [h]
  · have : bb s 0 = 0 := by unfold bb; rw [dif_neg h]
    simp [h, this]
theorem one_cell (w : World) (x : Value) (t : TypeId) : ∀ (j : Nat) (u : Value), [x][j]? = some u → (w.alloc (.cells #[x] t)).cell? ((⟨w.heap.size, 0, none⟩ : Addr).add j) = some u := by
  intro j u h
  cases j with
  | zero =>
    simp at h
    subst h
    exact World.cell?_alloc_at _ _ _ _ (by simp)
  | succ j => simp at h
set_option maxHeartbeats 4000000 in
theorem c19 (s : ByteArray) (hs : s.size ≤ 16777216) (w : World) (hN : (Lib.goFieldsP pB s).length ≤ 16777216) (hP : ∀ p ∈ Lib.goFieldsP pB s, p.size ≤ 16777216) :
    Calls Tryz.prog 36 #[.string s] w fun e w' => ∃ v, e = .returned v ∧ w'.ownsRow w.heap.size 9 1 v (wordsB s).length ((wordsB s).map Value.string) ∧ Below w.heap.size w w' := by
  obtain ⟨i0, hi, hz⟩ : ∃ i, Tryz.prog.info? 9 = some i ∧ (i.zero, i.size, i.bytes) = (some (.string ⟨#[]⟩), 1, 16) := by
    have h : (Tryz.prog.info? 9).map (fun i => (i.zero, i.size, i.bytes)) = some (some (.string ⟨#[]⟩), 1, 16) := by kernel_rfl
    cases hq : Tryz.prog.info? 9 with
    | none => rw [hq] at h; cases h
    | some i => rw [hq] at h; exact ⟨i, rfl, by simpa using h⟩
  simp only [Prod.mk.injEq] at hz
  obtain ⟨hz0, hz1, hz2⟩ := hz
  have K := Lib.hid (c32 s (by omega) w)
  have HW : Hid (wordsB s = (Lib.goFieldsP pB s).takeWhile (fun t => !decide (bb t 0 = 35))) := Lib.hid rfl
  generalize wordsB s = ws at *
  generalize Lib.goFieldsP pB s = ps at *
  have HI := Lib.hid hi
  have HZ0 := Lib.hid hz0
  have HZ1 := Lib.hid hz1
  have HZ2 := Lib.hid hz2
  clear hi hz0 hz1 hz2
  go_enter Tryz.func36, Tryz.ntmps36
  go_wp2_with fail
  refine (K.out).mono ?_
  rintro _ w1 ⟨A, rfl, hA, ho, b1⟩
  have HO := Lib.hid ho
  have HA := Lib.hid hA
  have HB := Lib.hid b1
  have HC := Lib.hid (ho.cells (g := A) rfl)
  have hlt := (ho.lt A rfl).2
  clear ho hA b1
  go_wp2_with fail
  go_loopw [3, 9] (fun l i wr => RW w1 w1.heap.size ps l i wr) (fun _ i _ => ps.length - (intOf i).toNat)
  case atStart => exact ⟨0, by omega, rfl, World.ownsRow_nil _ _ _ _, Below.refl _ _, fun j _ hj => absurd hj (by omega)⟩
  case round =>
    obtain ⟨k, hk, rfl, ho, hb, hall⟩ := hrel
    have HO2 := Lib.hid ho
    have HB2 := Lib.hid hb
    have HL := Lib.hid hall
    clear ho hb hall
    by_cases hkn : k < ps.length
    · have hcell : wr.cell? ⟨A, k, none⟩ = some (.string ps[k]) := by
        rw [HB2.out.cell (p := ⟨A, k, none⟩) hlt]
        have := HC.out k (.string ps[k]) (by rw [List.getElem?_map, List.getElem?_eq_getElem hkn]; rfl)
        rw [addr_add] at this
        exact this
      have hsz : (ps[k]).size ≤ 16777216 := hP _ (List.getElem_mem hkn)
      have K34 := Lib.hid (c34 ps[k] (by omega))
      rw [has0] at K34
      have K35 := Lib.hid (c35 ps[k] (by omega))
      have HT := Lib.hid (take_snoc ps k hkn)
      have HS : Hid ((!decide (bb ps[k] 0 = 35)) = false → ws = ps.take k) := Lib.hid fun h => by
        rw [HW.out]; exact tw_stop _ ps k hkn (fun j h1 h2 => HL.out j h1 h2) h
      have HS2 : Hid ((!decide (bb ps[k] 0 = 35)) = true → ∀ j, (h : j < ps.length) → j < k + 1 → (!decide (bb ps[j] 0 = 35)) = true) := Lib.hid fun h j h1 h2 => by
        by_cases e : j = k
        · subst e; exact h
        · exact HL.out j h1 (by omega)
      generalize ps[k] = x at *
      obtain ⟨q, hq⟩ : ∃ q, decide (bb x 0 = 35) = q := ⟨_, rfl⟩
      rw [hq] at K34 HS HS2
      clear hq
      go_wp2_with fail
      refine (K34.out _).mono ?_
      rintro _ _ ⟨rfl, rfl⟩
      cases q
      · have HS3 := Lib.hid (HS2.out rfl)
        go_wp2_with fail
        refine (K35.out _).mono ?_
        rintro _ w4 ⟨rfl, b4⟩
        have HB4 := Lib.hid (HB2.out.trans (b4.mono HB2.out.size))
        have HO4 := Lib.hid (own_below HO2.out b4)
        clear b4
        have z4 := HB4.out.size
        go_wp2_with (at_builtin; refine wpList_append_own _ rfl _ _ 55 rfl w1.heap.size 9 i0 (.string ⟨#[]⟩) 1 16 Tryz.underlying55 HI.out HZ0.out HZ1.out HZ2.out rfl (by decide) _ _ _ rfl (HO4.out.alloc _) ⟨w4.heap.size, 0, none⟩ 1 1 [.string x] rfl rfl (one_cell _ _ _) (fun x hx => by simp at hx; subst hx; rfl) (by unfold maxLen; omega) (by omega) (by simp; omega) ?_; intro v' w5 hown5 hgrow5 hnil5)
        go_roundw
        case rel => exact ⟨k + 1, hkn, by go_num, by rw [HT.out, List.map_append]; exact hown5, gr_below (HB4.out.alloc HB4.out.size _) (HO4.out.alloc _) hgrow5 (by simp; omega), HS3.out⟩
        case measure => simp [intOf]; omega
      · have HS3 := Lib.hid (HS.out rfl)
        have hl : (ps.take k).length = k := by simp; omega
        have HL2 := Lib.hid hl
        clear hl
        go_wp2_with fail
        go_ret
        refine ⟨_, rfl, ?_, HB.out.trans (HB2.out.mono HB.out.size)⟩
        rw [HS3.out, HL2.out]
        exact own_base HO2.out HB.out.size
    · have hkk : k = ps.length := by omega
      subst hkk
      have HS3 : Hid (ws = ps) := Lib.hid (by rw [HW.out]; exact tw_all _ ps (fun j h => HL.out j h h))
      have HT : Hid (ps.take ps.length = ps) := Lib.hid (List.take_length ..)
      go_wp2_with fail
      go_ret
      refine ⟨_, rfl, ?_, HB.out.trans (HB2.out.mono HB.out.size)⟩
      have := HO2.out
      rw [HT.out] at this
      rw [HS3.out]
      exact own_base this HB.out.size
end Go.Proofs.YtapdiionikfgpaaGreatDoor.Li
namespace Go.Proofs.YtapdiionikfgpaaGreatDoor.Li
open Go.ChangeShapes Go.WideShapes Go.ChangeAt Go.RowKit
set_option linter.unusedVariables false
theorem dropWhile_nil {α : Type} (p : α → Bool) : ∀ l : List α, l.dropWhile p = [] ↔ ∀ x ∈ l, p x = true
  | [] => by simp
  | a :: t => by
    rw [List.dropWhile_cons]
    split
    · rename_i h
      rw [dropWhile_nil p t]
      simp [h]
    · rename_i h
      simp [h]
theorem dw_head {α : Type} (p : α → Bool) : ∀ (l : List α) (a : α) (t : List α), l.dropWhile p = a :: t → p a = false
  | [], _, _, h => by simp at h
  | b :: l, a, t, h => by
    rw [List.dropWhile_cons] at h
    split at h
    · exact dw_head p l a t h
    · rename_i hb
      cases h
      simpa using hb
theorem trimS_nil (l cs : List UInt8) : Lib.trimS l cs = [] ↔ ∀ x ∈ l, cs.contains x = true := by
  unfold Lib.trimS Lib.trimLeftS Lib.trimRightS
  rw [dropWhile_nil]
  constructor
  · intro h
    by_cases he : (l.reverse.dropWhile (cs.contains ·)) = []
    · rw [dropWhile_nil] at he
      intro x hx
      exact he x (by simpa using hx)
    · exfalso
      cases hd : l.reverse.dropWhile (cs.contains ·) with
      | nil => exact he hd
      | cons a t =>
        have h0 := dw_head (cs.contains ·) l.reverse a t hd
        rw [hd] at h
        have h1 := h a (by simp)
        rw [h1] at h0
        cases h0
  · intro h x hx
    have : x ∈ l.reverse := (List.dropWhile_sublist (fun x => cs.contains x)).subset (by simpa using hx)
    exact h x (by simpa using this)
open Classical in
noncomputable def dA (base : Nat) (s : ByteArray) : Bool := decide (0 < s.size ∧ ∀ i, i < s.size → dg (bb s i) < base)
theorem mem_bb (s : ByteArray) (p : UInt8 → Prop) : (∀ x ∈ s.data.toList, p x) ↔ ∀ i, (h : i < s.size) → p (s[i]'h) := by
  constructor
  · intro h i hi
    exact h _ (by
      have : s[i] = s.data.toList[i]'hi := rfl
      rw [this]; exact List.getElem_mem _)
  · intro h x hx
    obtain ⟨i, hi, rfl⟩ := List.getElem_of_mem hx
    exact h i hi
theorem u8_all (P : UInt8 → Bool) (h : (List.range 256).all (fun n => P (UInt8.ofNat n)) = true) (x : UInt8) : P x = true := by
  have := List.all_eq_true.1 h x.toNat (List.mem_range.2 x.toNat_lt)
  simpa using this
def digs10 : ByteArray := ⟨#[48, 49, 50, 51, 52, 53, 54, 55, 56, 57]⟩
def digs16 : ByteArray := ⟨#[48, 49, 50, 51, 52, 53, 54, 55, 56, 57, 97, 98, 99, 100, 101, 102]⟩
theorem in10 (x : UInt8) : digs10.data.toList.contains x = decide (dg x.toNat < 10) := by
  have := u8_all (fun x => digs10.data.toList.contains x == decide (dg x.toNat < 10)) (by decide +kernel) x
  simpa using this
theorem in16 (x : UInt8) : digs16.data.toList.contains x = decide (dg x.toNat < 16) := by
  have := u8_all (fun x => digs16.data.toList.contains x == decide (dg x.toNat < 16)) (by decide +kernel) x
  simpa using this
theorem dA_trim (base : Nat) (cs s : ByteArray) (hin : ∀ x : UInt8, cs.data.toList.contains x = decide (dg x.toNat < base)) (h0 : 0 < s.size) :
    ((⟨(Lib.trimS s.data.toList cs.data.toList).toArray⟩ : ByteArray).toList == []) = dA base s := by
  have e : ((⟨(Lib.trimS s.data.toList cs.data.toList).toArray⟩ : ByteArray).toList == []) = decide (Lib.trimS s.data.toList cs.data.toList = []) := by
    rw [ByteArray.toList_eq, Bool.eq_iff_iff]
    simp
  rw [e]
  unfold dA
  rw [decide_eq_decide, trimS_nil, mem_bb s]
  constructor
  · intro h
    refine ⟨h0, fun i hi => ?_⟩
    have := h i hi
    rw [hin] at this
    rw [bb_eq s i hi]
    simpa using this
  · intro h i hi
    have := h.2 i hi
    rw [bb_eq s i hi] at this
    rw [hin]
    simpa using this
theorem c22 (base : Nat) (cs s : ByteArray) (hin : ∀ x : UInt8, cs.data.toList.contains x = decide (dg x.toNat < base)) (ha : cs.data.toList.all (fun b => decide (b.toNat < 128)) = true) (hcs : cs.size ≤ 16) (hs : s.size ≤ 9223372036854775807) (w : World) :
    Calls Tryz.prog 133 #[.string s, .string cs] w fun e w' => e = .returned (.bool (dA base s)) ∧ Below w.heap.size w w' := by
  by_cases h0 : s.size = 0
  · have hw : dA base s = false := by unfold dA; exact decide_eq_false (fun h => by omega)
    rw [hw]
    obtain rfl := size0 h0
    clear h0 hs hw hin ha
    go_enter Tryz.func133, Tryz.ntmps133
    go_wp2
    go_ret
    exact ⟨rfl, Below.refl _ _⟩
  · have hne : (s.toList == []) = false := by
      rw [ByteArray.toList_eq]
      obtain ⟨⟨l⟩⟩ := s
      cases l with
      | nil => exact absurd rfl h0
      | cons c t => rfl
    have K := Lib.hid (Any.strings_Trim_laid Tryz.lays160 (by kernel_rfl) s cs w hs (by omega) (ascii_of_all ha))
    have HE := dA_trim base cs s hin (by omega)
    generalize (⟨(Lib.trimS s.data.toList cs.data.toList).toArray⟩ : ByteArray) = t at *
    generalize dA base s = q at *
    clear hin ha hcs h0
    go_enter Tryz.func133, Tryz.ntmps133
    go_wp2_with fail
    refine (K.out).mono ?_
    rintro _ w1 ⟨rfl, b1⟩
    have HB := Lib.hid b1
    clear b1
    go_wp2_with fail
    go_ret
    exact ⟨rfl, HB.out⟩
theorem c22_10 (s : ByteArray) (hs : s.size ≤ 9223372036854775807) (w : World) :
    Calls Tryz.prog 133 #[.string s, .string ⟨#[48, 49, 50, 51, 52, 53, 54, 55, 56, 57]⟩] w fun e w' => e = .returned (.bool (dA 10 s)) ∧ Below w.heap.size w w' :=
  c22 10 digs10 s in10 (by decide +kernel) (by decide +kernel) hs w
theorem c22_16 (s : ByteArray) (hs : s.size ≤ 9223372036854775807) (w : World) :
    Calls Tryz.prog 133 #[.string s, .string ⟨#[48, 49, 50, 51, 52, 53, 54, 55, 56, 57, 97, 98, 99, 100, 101, 102]⟩] w fun e w' => e = .returned (.bool (dA 16 s)) ∧ Below w.heap.size w w' :=
  c22 16 digs16 s in16 (by decide +kernel) (by decide +kernel) hs w
end Go.Proofs.YtapdiionikfgpaaGreatDoor.Li
namespace Go.Proofs.YtapdiionikfgpaaGreatDoor.Li
open Go.ChangeShapes Go.WideShapes Go.ChangeAt Go.RowKit
set_option linter.unusedVariables false
theorem numN_mono (base : Nat) (h1 : 1 ≤ base) (s : ByteArray) : ∀ m k, numN base s k ≤ numN base s (k + m)
  | 0, k => Nat.le_refl _
  | m + 1, k => by
    have ih := numN_mono base h1 s m k
    rw [← Nat.add_assoc, numN]
    have : 1 * numN base s (k + m) ≤ base * numN base s (k + m) := Nat.mul_le_mul_right _ h1
    omega
theorem dg10 (b : Nat) (h : dg b < 10) : 48 ≤ b ∧ b ≤ 57 ∧ dg b = b - 48 := by
  rcases dg16 b (by omega) with h1 | h1
  · exact h1
  · omega
theorem parseU (s : ByteArray) (hd : ∀ i, i < s.size → dg (bb s i) < 10) : ∀ m k, k + m = s.size → numN 10 s k ≤ 4294967295 →
    Lib.parseUintM 4294967295 (numN 10 s k) (s.data.toList.drop k) = if numN 10 s s.size ≤ 4294967295 then .ok (numN 10 s s.size) else .range
  | 0, k, h, hle => by
    obtain rfl : k = s.size := by omega
    rw [List.drop_eq_nil_of_le (by show s.data.toList.length ≤ s.data.size; simp), if_pos hle]
    rfl
  | m + 1, k, h, hle => by
    have hk : k < s.data.toList.length := by show k < s.data.toList.length; have : s.data.toList.length = s.size := rfl; omega
    rw [List.drop_eq_getElem_cons hk]
    have hb : (s.data.toList[k]).toNat = bb s k := by rw [bb_eq s k (by omega)]; rfl
    obtain ⟨h1, h2, h3⟩ := dg10 (bb s k) (hd k (by omega))
    have hn : numN 10 s (k + 1) = numN 10 s k * 10 + (bb s k - 48) := by rw [numN, h3]; omega
    unfold Lib.parseUintM
    rw [hb, if_pos ⟨h1, h2⟩, if_neg (by omega), ← hn]
    by_cases hov : 4294967295 < numN 10 s (k + 1)
    · rw [if_pos hov, if_neg]
      have := numN_mono 10 (by decide) s m (k + 1)
      rw [show k + 1 + m = s.size by omega] at this
      omega
    · rw [if_neg hov]
      exact parseU s hd m (k + 1) (by omega) (by omega)
theorem parseB (s : ByteArray) (h0 : 0 < s.size) (hd : ∀ i, i < s.size → dg (bb s i) < 10) :
    Lib.parseUintB 32 s.data.toList = if numN 10 s s.size ≤ 4294967295 then .ok (numN 10 s s.size) else .range := by
  unfold Lib.parseUintB
  rw [if_neg (fun h => by
    have : s.size = 0 := by show s.data.toList.length = 0; rw [h]; rfl
    omega)]
  have h := parseU s hd s.size 0 (by omega) (by simp [numN])
  rw [List.drop_zero, show numN 10 s 0 = 0 from rfl] at h
  rw [show (2 : Nat) ^ 32 - 1 = 4294967295 by decide, h]
/-- what a call of Number reads of the package's variables -/
def Gl (w : World) : Prop := ∃ ev m, w.cell? ⟨5, 0, none⟩ = some ev ∧ (ev = .nilIface ∨ ∃ te pe, ev = .iface te pe) ∧ w.cell? ⟨1, 0, none⟩ = some (.int .i64 m) ∧ 5 < w.heap.size
theorem Gl.below {w w' : World} (h : Gl w) (hb : Below w.heap.size w w') : Gl w' := by
  obtain ⟨ev, m, h1, h2, h3, h4⟩ := h
  exact ⟨ev, m, by rw [hb.cell (p := ⟨5, 0, none⟩) h4]; exact h1, h2, by rw [hb.cell (p := ⟨1, 0, none⟩) (by show 1 < _; omega)]; exact h3, Nat.lt_of_lt_of_le h4 hb.size⟩
theorem bytesW_below (w : World) (t : TypeId) (s : ByteArray) : Below w.heap.size w (Lib.bytesWorld w t s) := Lib.bytesWorld_below _ _ _
theorem dA_false (base : Nat) (s : ByteArray) (h : dA base s = false) (h0 : 0 < s.size) : ∃ i, i < s.size ∧ base ≤ dg (bb s i) := by
  classical
  by_cases hh : ∃ i, i < s.size ∧ base ≤ dg (bb s i)
  · exact hh
  · exfalso
    unfold dA at h
    have := of_decide_eq_false h
    apply this
    refine ⟨h0, fun i hi => ?_⟩
    by_cases hd : dg (bb s i) < base
    · exact hd
    · exact absurd ⟨i, hi, by omega⟩ hh
theorem dA_true (base : Nat) (s : ByteArray) (h : dA base s = true) : 0 < s.size ∧ ∀ i, i < s.size → dg (bb s i) < base := by
  unfold dA at h
  exact of_decide_eq_true h
theorem px_iff (s : ByteArray) : px s = true ↔ 2 ≤ s.size ∧ bb s 0 = 48 ∧ bb s 1 = 120 := by unfold px; simp
/-- in sixteens, refused -/
theorem ref_a (s : ByteArray) (hp : px s = true) (h : 8 < (s.extract 2 s.size).size ∨ dA 16 (s.extract 2 s.size) = false) : refV s = noN := by
  obtain ⟨h1, h2, h3⟩ := (px_iff s).mp hp
  have hz : (s.extract 2 s.size).size = s.size - 2 := by simp
  unfold refV
  by_cases hx : hexP s
  · rw [if_pos hx]
    split
    · rfl
    · rename_i h4
      apply fin_no
      rcases h with h | h
      · omega
      · right; left
        exact dA_false 16 _ h (by have := hx.1; omega)
  · rw [if_neg hx, if_pos]
    left
    exact ⟨by omega, h2⟩
theorem ref_b (s : ByteArray) (hp : px s = true) (h1 : ¬ 8 < (s.extract 2 s.size).size) (h2 : dA 16 (s.extract 2 s.size) = true) : refV s = .tuple #[.int .u32 (numN 16 (s.extract 2 s.size) (s.extract 2 s.size).size : Int), .bool true] := by
  obtain ⟨h3, h4, h5⟩ := (px_iff s).mp hp
  obtain ⟨h6, h7⟩ := dA_true 16 _ h2
  have hz : (s.extract 2 s.size).size = s.size - 2 := by simp
  unfold refV
  rw [if_pos ⟨by omega, h4, h5⟩, if_neg (by omega)]
  apply fin_yes
  rintro (h | ⟨i, hi, hd⟩ | h)
  · omega
  · have := h7 i hi; omega
  · have := numN_16 (s.extract 2 s.size) _ (by omega) h7
    omega
theorem not_hex (s : ByteArray) (hp : px s = false) : ¬ hexP s := fun h => by
  have : px s = true := (px_iff s).mpr ⟨by have := h.1; omega, h.2.1, h.2.2⟩
  rw [hp] at this; cases this
theorem ref_c (s : ByteArray) (hp : px s = false) (h : dA 10 s = false ∨ (1 < s.size ∧ bb s 0 = 48)) : refV s = noN := by
  unfold refV
  rw [if_neg (not_hex s hp)]
  split
  · rfl
  · rename_i h2
    rcases h with h | h
    · apply fin_no
      by_cases h0 : s.size = 0
      · exact Or.inl h0
      · exact Or.inr (Or.inl (dA_false 10 s h (by omega)))
    · exact absurd (Or.inl h) h2
theorem numN_big (s : ByteArray) (hd : ∀ i, i < s.size → dg (bb s i) < 10) (h48 : bb s 0 ≠ 48) (hl : 10 < s.size) : 4294967295 < numN 10 s s.size := by
  have h1 : ∀ k, 1 ≤ k → k ≤ s.size → 10 ^ (k - 1) ≤ numN 10 s k := by
    intro k
    induction k with
    | zero => intro h; omega
    | succ k ih =>
      intro _ hk
      by_cases h0 : k = 0
      · subst h0
        obtain ⟨a, b, c⟩ := dg10 (bb s 0) (hd 0 (by omega))
        simp [numN]
        omega
      · have := ih (by omega) (by omega)
        rw [numN, show k + 1 - 1 = (k - 1) + 1 by omega, Nat.pow_succ]
        omega
  have h2 := h1 s.size (by omega) (Nat.le_refl _)
  have h3 : 10 ^ 10 ≤ 10 ^ (s.size - 1) := Nat.pow_le_pow_right (by decide) (by omega)
  omega
theorem ref_d (s : ByteArray) (hp : px s = false) (h : dA 10 s = true) (hz : ¬ (1 < s.size ∧ bb s 0 = 48)) (hb : numN 10 s s.size ≤ 4294967295) : refV s = .tuple #[.int .u32 (numN 10 s s.size : Int), .bool true] := by
  obtain ⟨h6, h7⟩ := dA_true 10 _ h
  unfold refV
  rw [if_neg (not_hex s hp), if_neg]
  · apply fin_yes
    rintro (h | ⟨i, hi, hd⟩ | h)
    · omega
    · have := h7 i hi; omega
    · omega
  · rintro (h1 | h1)
    · exact hz h1
    · have := numN_big s h7 (fun h48 => hz ⟨by omega, h48⟩) h1
      omega
theorem ref_e (s : ByteArray) (hp : px s = false) (h : dA 10 s = true) (hb : ¬ numN 10 s s.size ≤ 4294967295) : refV s = noN := by
  unfold refV
  rw [if_neg (not_hex s hp)]
  split
  · rfl
  · exact fin_no 10 s (Or.inr (Or.inr (by omega)))
end Go.Proofs.YtapdiionikfgpaaGreatDoor.Li
namespace Go.Proofs.YtapdiionikfgpaaGreatDoor.Li
open Go.ChangeShapes Go.WideShapes Go.ChangeAt Go.RowKit
set_option linter.unusedVariables false
/-- the pieces between the ends -/
def piecesB (s : ByteArray) : List ByteArray := Lib.splitB ⟨#[10]⟩ 0 (Lib.countB s ⟨#[10]⟩) s
theorem piecesB_len (s : ByteArray) : (piecesB s).length = Lib.countB s ⟨#[10]⟩ + 1 := Lib.splitB_all ⟨#[10]⟩ (by decide) 0 _ s rfl
theorem piecesB_ne (s : ByteArray) : piecesB s ≠ [] := fun h => by have := piecesB_len s; rw [h] at this; simp at this
/-- the lines -/
def lnsB (s : ByteArray) : List ByteArray := if (piecesB s).getLast (piecesB_ne s) = ⟨#[]⟩ then (piecesB s).dropLast else piecesB s
theorem emp_iff (s : ByteArray) : (s.toList == []) = decide (s = ⟨#[]⟩) := by
  rw [ByteArray.toList_eq, Bool.eq_iff_iff]
  obtain ⟨⟨l⟩⟩ := s
  simp
theorem c18_core (s : ByteArray) (ls ps : List ByteArray) (n : Nat) (hn0 : n ≤ 16777216) (hne : ps ≠ []) (hL : ps.length = n + 1) (HD : Hid (ls = if ps.getLast hne = ⟨#[]⟩ then ps.dropLast else ps)) (w : World)
    (K : Hid (Calls Tryz.prog 69 #[.string s, .string ⟨#[10]⟩] w fun e w' => e = .returned (.slice (some ⟨w.heap.size, 0, none⟩) (n + 1) (n + 1)) ∧ w' = w.alloc (.cells (ps.map Value.string).toArray 9))) :
    Calls Tryz.prog 35 #[.string s] w fun e w' => ∃ c, e = .returned (.slice (some ⟨w.heap.size, 0, none⟩) ls.length c) ∧ Below w.heap.size w w' ∧ w.heap.size < w'.heap.size ∧ ls.length ≤ c ∧ c ≤ 16777217 ∧
      ∀ k, (h : k < ls.length) → w'.cell? ⟨w.heap.size, k, none⟩ = some (.string ls[k]) := by
  have hn : n < ps.length := by omega
  have hlast : ps.getLast hne = ps[n] := by rw [List.getLast_eq_getElem]; congr 1; omega
  have HC : Hid (∀ k, (h : k < ps.length) → (w.alloc (.cells (ps.map Value.string).toArray 9)).cell? ⟨w.heap.size, k, none⟩ = some (.string ps[k])) := Lib.hid fun k h => by
    rw [World.cell?_alloc_at _ _ _ _ (by simp)]
    simp
  have hcell := HC.out n hn
  have HW : Hid (w.heap.size < (w.alloc (.cells (ps.map Value.string).toArray 9)).heap.size ∧ Below w.heap.size w (w.alloc (.cells (ps.map Value.string).toArray 9))) := Lib.hid ⟨by simp, (Below.refl _ _).alloc (Nat.le_refl _) _⟩
  have HLL := Lib.hid hL
  rw [hlast] at HD
  generalize ps[n] = x at *
  clear hL hlast hn
  obtain ⟨W1, hW1⟩ : ∃ W1, w.alloc (.cells (ps.map Value.string).toArray 9) = W1 := ⟨_, rfl⟩
  rw [hW1] at HC HW K hcell
  clear hW1
  have hn2 := hn0
  by_cases hx : x = ⟨#[]⟩
  · have hb : (x.toList == []) = true := by rw [emp_iff, decide_eq_true hx]
    have HD2 : Hid (ls = ps.dropLast) := Lib.hid (by rw [HD.out, if_pos hx])
    clear hx
    go_enter Tryz.func35, Tryz.ntmps35
    go_wp2_with fail
    refine (K.out).mono ?_
    rintro _ w1 ⟨rfl, rfl⟩
    go_wp2_with fail
    go_ret
    have hl : ps.dropLast.length = n := by rw [List.length_dropLast, HLL.out]; omega
    rw [HD2.out]
    refine ⟨n + 1, ?_, HW.out.2, HW.out.1, by omega, by omega, fun k h => ?_⟩
    · rw [hl]; first | rfl | go_num
    · rw [HC.out k (by rw [HLL.out]; omega)]
      simp
  · have hb : (x.toList == []) = false := by rw [emp_iff, decide_eq_false hx]
    have HD2 : Hid (ls = ps) := Lib.hid (by rw [HD.out, if_neg hx])
    clear hx
    go_enter Tryz.func35, Tryz.ntmps35
    go_wp2_with fail
    refine (K.out).mono ?_
    rintro _ w1 ⟨rfl, rfl⟩
    go_wp2_with fail
    go_ret
    rw [HD2.out]
    refine ⟨n + 1, ?_, HW.out.2, HW.out.1, by rw [HLL.out]; omega, by omega, fun k h => HC.out k h⟩
    rw [HLL.out]; rfl
theorem c18 (s : ByteArray) (hs : s.size ≤ 16777216) (w : World) (hG : Gl w) :
    Calls Tryz.prog 35 #[.string s] w fun e w' => ∃ c, e = .returned (.slice (some ⟨w.heap.size, 0, none⟩) (lnsB s).length c) ∧ Below w.heap.size w w' ∧ w.heap.size < w'.heap.size ∧ (lnsB s).length ≤ c ∧ c ≤ 16777217 ∧
      ∀ k, (h : k < (lnsB s).length) → w'.cell? ⟨w.heap.size, k, none⟩ = some (.string (lnsB s)[k]) := by
  obtain ⟨ev, m, g1, g2, g3, g4⟩ := hG
  have hc : Lib.countB s ⟨#[10]⟩ ≤ s.size := Lib.countB_le ⟨#[10]⟩ (by decide) s.size s (Nat.le_refl _)
  exact c18_core s (lnsB s) (piecesB s) (Lib.countB s ⟨#[10]⟩) (by omega) (piecesB_ne s) (piecesB_len s) (Lib.hid rfl) w (Lib.hid (Tryz.strings_Split s ⟨#[10]⟩ m w (by omega) g3 (by decide)))
end Go.Proofs.YtapdiionikfgpaaGreatDoor.Li
namespace Go.Proofs.YtapdiionikfgpaaGreatDoor.Li
open Go.ChangeShapes Go.WideShapes Go.ChangeAt Go.RowKit
set_option linter.unusedVariables false
/-- may a byte stand in a text? -/
def okb (n : Nat) : Bool := decide (n = 9 ∨ n = 10 ∨ (32 ≤ n ∧ n ≤ 126))
open Classical in
noncomputable def okT (s : ByteArray) : Bool := decide (∀ i, i < s.size → okb (bb s i) = true)
def saidB : Nat → List ByteArray → List (Nat × List ByteArray)
  | _, [] => []
  | k, x :: r => if wordsB x = [] then saidB (k + 1) r else (k, wordsB x) :: saidB (k + 1) r
theorem saidB_snoc (x : ByteArray) : ∀ (l : List ByteArray) (j : Nat), saidB j (l ++ [x]) = saidB j l ++ (if wordsB x = [] then [] else [(j + l.length, wordsB x)])
  | [], j => by
    simp only [List.nil_append, saidB, List.length_nil, Nat.add_zero]
  | y :: r, j => by
    have ih := saidB_snoc x r (j + 1)
    rw [List.cons_append, saidB, saidB, ih]
    split
    · rw [List.length_cons, show j + 1 + r.length = j + (r.length + 1) by omega]
    · rw [List.length_cons, show j + 1 + r.length = j + (r.length + 1) by omega, List.cons_append]
/-- is there too much of it? -/
def manyP (s : ByteArray) : Prop := 400 < (lnsB s).length ∨ ∃ x ∈ lnsB s, 100 < x.size
open Classical in
noncomputable def rdE (s : ByteArray) : Nat := if okT s = false then 5 else if manyP s then 3 else 0
open Classical in
noncomputable def rdV (s : ByteArray) : List (Nat × List ByteArray) := if rdE s = 0 then saidB 1 (lnsB s) else []
/-- what Read answers, in memory -/
def RdOut (B : Nat) (V : Value) (R : List (Nat × List ByteArray)) (w : World) : Prop :=
  ∃ D : List (Nat × Value × List ByteArray), D.map (fun x => (x.1, x.2.2)) = R ∧ w.ownsRow B 57 2 V D.length (D.flatMap fun x => [.int .i64 (x.1 : Int), x.2.1]) ∧ ∀ x ∈ D, w.ownsRow B 9 1 x.2.1 x.2.2.length (x.2.2.map Value.string)
theorem own_slice {w : World} {B e size n : Nat} {v : Value} {xs : List Value} (h : w.ownsRow B e size v n xs) : ∃ A c, v = .slice A n c ∧ n ≤ c := by
  obtain ⟨h1, h2⟩ := h
  rcases h2 with ⟨h2, h3⟩ | ⟨g, cap, cur, a, b, c, d, e⟩
  · subst h3; exact ⟨none, 0, h2, Nat.le_refl _⟩
  · exact ⟨_, cap, a, d⟩
theorem rd_nil (B : Nat) (w : World) : RdOut B (.slice none 0 0) [] w := ⟨[], rfl, World.ownsRow_nil _ _ _ _, fun x hx => by cases hx⟩
theorem rd_below {B : Nat} {V : Value} {R : List (Nat × List ByteArray)} {w w' : World} (h : RdOut B V R w) (hb : Below w.heap.size w w') : RdOut B V R w' := by
  obtain ⟨D, h1, h2, h3⟩ := h
  exact ⟨D, h1, own_below h2 hb, fun x hx => own_below (h3 x hx) hb⟩
theorem rd_base {B B' : Nat} {V : Value} {R : List (Nat × List ByteArray)} {w : World} (h : RdOut B V R w) (hB : B' ≤ B) : RdOut B' V R w := by
  obtain ⟨D, h1, h2, h3⟩ := h
  exact ⟨D, h1, own_base h2 hB, fun x hx => own_base (h3 x hx) hB⟩
theorem own_block {w : World} {B e size n g : Nat} {v : Value} {xs : List Value} (h : w.ownsRow B e size v n xs) (hg : v.ownBlock = some g) : ∃ cur, w.heap[g]? = some (.cells cur e (0, 0)) := by
  obtain ⟨h1, h2⟩ := h
  rcases h2 with ⟨h2, h3⟩ | ⟨g', cap, cur, a, b, c, d⟩
  · subst h2; simp [Value.ownBlock] at hg
  · subst a; simp [Value.ownBlock] at hg; subst hg; exact ⟨cur, c⟩
/-- rows of two kinds lie apart -/
theorem own_apart {w : World} {B B' e e' size size' n n' : Nat} {v v' : Value} {xs xs' : List Value} (h : w.ownsRow B e size v n xs) (h' : w.ownsRow B' e' size' v' n' xs') (he : e ≠ e') : v.ownBlock = none ∨ v.ownBlock ≠ v'.ownBlock := by
  cases hv : v.ownBlock with
  | none => exact Or.inl rfl
  | some g =>
    refine Or.inr (fun hh => ?_)
    obtain ⟨c, hc⟩ := own_block h hv
    obtain ⟨c', hc'⟩ := own_block h' hh.symm
    rw [hc] at hc'
    simp at hc'
    exact he hc'.2
/-- one line more -/
theorem rd_snoc {B : Nat} {V V' v : Value} {D : List (Nat × Value × List ByteArray)} {R : List (Nat × List ByteArray)} {w w' : World} {j : Nat} {l : List ByteArray} (h1 : D.map (fun x => (x.1, x.2.2)) = R) (h2 : w.ownsRow B 57 2 V D.length (D.flatMap fun x => [.int .i64 (x.1 : Int), x.2.1]))
    (h3 : ∀ x ∈ D, w.ownsRow B 9 1 x.2.1 x.2.2.length (x.2.2.map Value.string)) (hv : w.ownsRow B 9 1 v l.length (l.map Value.string))
    (ho : w'.ownsRow B 57 2 V' (D.length + 1) ((D.flatMap fun x => [.int .i64 (x.1 : Int), x.2.1]) ++ [.int .i64 (j : Int), v])) (hg : w.grownBy w' V.ownBlock) : RdOut B V' (R ++ [(j, l)]) w' := by
  refine ⟨D ++ [(j, v, l)], by rw [List.map_append, h1]; rfl, ?_, ?_⟩
  · rw [List.length_append, List.flatMap_append]
    exact ho
  · intro x hx
    rcases List.mem_append.1 hx with hx | hx
    · exact (h3 x hx).kept hg (own_apart (h3 x hx) h2 (by decide))
    · obtain rfl : x = (j, v, l) := by simpa using hx
      exact hv.kept hg (own_apart hv h2 (by decide))
theorem spans_len (p : Nat → Bool) (s : ByteArray) : ∀ (f pos : Nat) (st : Option Nat) (acc : List (Nat × Nat)), (Lib.spansFromP p s f pos st acc).1.length ≤ acc.length + f
  | 0, _, _, _ => Nat.le_refl _
  | f + 1, pos, st, acc => by
    unfold Lib.spansFromP
    split
    · split
      · split
        · refine Nat.le_trans (spans_len p s f _ _ _) ?_
          simp; omega
        · refine Nat.le_trans (spans_len p s f _ _ _) ?_
          omega
      · split
        · refine Nat.le_trans (spans_len p s f _ _ _) ?_
          omega
        · refine Nat.le_trans (spans_len p s f _ _ _) ?_
          omega
    · simp
theorem fields_len (p : Nat → Bool) (s : ByteArray) : (Lib.goFieldsP p s).length ≤ s.size + 1 := by
  unfold Lib.goFieldsP Lib.spansOfP Lib.closeSpans
  have := spans_len p s s.size 0 none []
  rw [List.length_map]
  split
  · simp at this ⊢; omega
  · simp at this ⊢; omega
theorem fields_sz (p : Nat → Bool) (s : ByteArray) : ∀ x ∈ Lib.goFieldsP p s, x.size ≤ s.size := by
  intro x hx
  unfold Lib.goFieldsP at hx
  obtain ⟨y, _, rfl⟩ := List.mem_map.1 hx
  rw [ByteArray.size_extract]
  omega
theorem c19s (s : ByteArray) (hs : s.size ≤ 16777215) (w : World) :
    Calls Tryz.prog 36 #[.string s] w fun e w' => ∃ A c, e = .returned (.slice A (wordsB s).length c) ∧ w'.ownsRow w.heap.size 9 1 (.slice A (wordsB s).length c) (wordsB s).length ((wordsB s).map Value.string) ∧ Below w.heap.size w w' := by
  refine (c19 s (by omega) w (Nat.le_trans (fields_len pB s) (by omega)) (fun x hx => Nat.le_trans (fields_sz pB s x hx) (by omega))).mono ?_
  rintro e w' ⟨v, he, ho, hb⟩
  obtain ⟨A, c, rfl, _⟩ := own_slice ho
  exact ⟨A, c, he, ho, hb⟩
theorem wordsB_len (s : ByteArray) : (wordsB s).length ≤ s.size + 1 := Nat.le_trans ((List.takeWhile_sublist _).length_le) (fields_len pB s)
end Go.Proofs.YtapdiionikfgpaaGreatDoor.Li
