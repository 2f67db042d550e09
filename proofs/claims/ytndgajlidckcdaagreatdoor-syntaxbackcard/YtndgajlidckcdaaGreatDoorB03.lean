/-
  DERIVED: THE SHELF's CONTRACTS AT THIS DUMP, IN PLAIN WORDS (tools/lay-plain.mjs out of 'YtndgajlidckcdaaGreatDoorShelfx.lean', which tools/lay-shelf.mjs wrote): THE SAME DECLARATIONS UNDER THE SAME NAMES: 'import', 'namespace', 'open', 'def', 'theorem' AND NOTHING ELSE: no command of the shelf's: FOR A HAND-IN. Each laying: the table of numbers ('.._ren') and one theorem, a field a fact of the dump's own or the kernel's comparison; each contract: ONE APPLICATION.
  Walks of the lexer: signs.
  Walks of the lexer: a sign, a word, a number are read.
  Walks of the lexer: bytes of strings.
-/
import Derived.Test.YtndgajlidckcdaaGreatDoorB02
import Derived.Shelf.Small.Strs
import Derived.Shelf.LaysM
import Derived.Shelf.Strconv.Clone
import Derived.Ground.MpProg
import Derived.Shelf.Pu.ParseUintPublic10
import Derived.Shelf.Pu.ErrVarParseUint
import Derived.Shelf.Strings.Search1
import Derived.Shelf.Strings.Search2
import Derived.Shelf.Strings.Search3
import Derived.Shelf.Strings.Prefix
import Derived.Test.YtndgajlidckcdaaGreatDoorProg
namespace Go.Proofs
open Go.Shelf
def Tryz.lays137_ren : Go.Shelf.Ren := ⟨fun | 137 => 61 | 217 => 105 | 266 => 166 | n => n, fun | 9 => 9 | 5 => 5 | 3 => 3 | n => n, fun | n => n⟩
theorem Tryz.lays137 : Go.Proofs.Lays.n137 Tryz.prog Tryz.lays137_ren := {
  mixed := by kernel_rfl
  f137 := Tryz.func61.trans (congrArg some (by kernel_rfl))
  f217 := Tryz.func105.trans (congrArg some (by kernel_rfl))
  f266 := Tryz.func166.trans (congrArg some (by kernel_rfl))
  t3 := Tryz.underlying3
  a3 := Tryz.isAgg3
  z3 := Tryz.sizeOf3
  v3 := Tryz.zeroValue3
  t5 := Tryz.underlying5
  a5 := Tryz.isAgg5
  z5 := Tryz.sizeOf5
  v5 := Tryz.zeroValue5
  t9 := Tryz.underlying9
  a9 := Tryz.isAgg9
  z9 := Tryz.sizeOf9
  v9 := Tryz.zeroValue9 }
open Go.RowKit in
/-- strings.IndexByte: "IndexByte returns the index of the first instance of c in s, or -1 if c is not present in s.": IT RETURNS 'Lib.indexByte s c'; the world is as it was. (LAID: no walk: one application.) -/
theorem Tryz.strings_IndexByte (s : ByteArray) (c : Int) (w : World) :
    Calls Tryz.prog 61 #[.string s, .int .u8 c] w fun e w' => e = .returned (.int .i64 (Lib.indexByte s.data.toList c.toNat.toUInt8)) ∧ w' = w := Any.strings_IndexByte Tryz.lays137 s c w
def Tryz.laysM316_ren : Go.Shelf.Ren := ⟨fun | 316 => 203 | n => n, fun | 9 => 9 | 3 => 3 | 4 => 4 | 37 => 136 | 0 => 0 | 127 => 184 | 5 => 5 | n => n, fun | n => n⟩
theorem Tryz.laysM316 : Go.Proofs.LaysM.n316 Tryz.prog Tryz.laysM316_ren := {
  mixed := by kernel_rfl
  f316 := Tryz.func203.trans (congrArg some (by kernel_rfl))
  t0 := Tryz.underlying0
  a0 := Tryz.isAgg0
  z0 := Tryz.sizeOf0
  v0 := Tryz.zeroValue0
  t3 := Tryz.underlying3
  a3 := Tryz.isAgg3
  z3 := Tryz.sizeOf3
  v3 := Tryz.zeroValue3
  t4 := Tryz.underlying4
  a4 := Tryz.isAgg4
  z4 := Tryz.sizeOf4
  v4 := Tryz.zeroValue4
  t9 := Tryz.underlying9
  a9 := Tryz.isAgg9
  z9 := Tryz.sizeOf9
  v9 := Tryz.zeroValue9
  t37 := Tryz.underlying136
  a37 := Tryz.isAgg136
  z37 := Tryz.sizeOf136
  v37 := Tryz.zeroValue136
  t127 := Tryz.underlying184
  a127 := Tryz.isAgg184
  z127 := Tryz.sizeOf184
  v127 := Tryz.zeroValue184
  t5 := Tryz.underlying5
  a5 := Tryz.isAgg5
  z5 := Tryz.sizeOf5
  v5 := Tryz.zeroValue5
  i0 := by kernel_rfl
  i3 := by kernel_rfl
  i4 := by kernel_rfl
  i5 := by kernel_rfl
  i9 := by kernel_rfl
  i37 := by kernel_rfl
  i127 := by kernel_rfl }
open Go.RowKit in
/-- internal/stringslite.Clone (what strings.Clone calls): "Clone returns a fresh copy of s.": THE SAME BYTES. Of what was there nothing has turned (a new row is laid, and frozen, where s is not empty). (LAID: no walk: one application.) -/
theorem Tryz.stringslite_Clone (s : ByteArray) (w : World) (hlim : s.size ≤ 281474976710656) :
    Calls Tryz.prog 203 #[.string s] w fun e w' => e = .returned (.string s) ∧ Below w.heap.size w w' := Any.stringslite_Clone Tryz.laysM316 s w hlim
def Tryz.laysPu14_ren : Go.Shelf.Ren := ⟨fun | 14 => 60 | 16 => 103 | 17 => 104 | 19 => 160 | 20 => 161 | 21 => 162 | 22 => 163 | 23 => 164 | 24 => 165 | 25 => 203 | 27 => 205 | 26 => 204 | 28 => 237 | 29 => 259 | 30 => 230 | 31 => 231 | 32 => 232 | 33 => 233 | 35 => 252 | 34 => 251 | 36 => 253 | 37 => 254 | 38 => 255 | 39 => 264 | 40 => 265 | n => n, fun | 9 => 9 | 3 => 3 | 22 => 110 | 24 => 29 | 25 => 111 | 4 => 4 | 34 => 215 | 5 => 5 | 36 => 217 | 37 => 136 | 0 => 0 | 39 => 218 | 21 => 21 | 44 => 237 | 47 => 184 | 50 => 257 | 48 => 255 | 2 => 2 | 52 => 249 | 55 => 252 | 59 => 262 | 60 => 244 | 20 => 20 | 61 => 263 | 65 => 270 | 66 => 271 | 67 => 80 | n => n, fun | 0 => 6 | 1 => 7 | 2 => 11 | 3 => 12 | 4 => 13 | n => n⟩
theorem Tryz.laysPu14 : Go.Proofs.LaysPu.n14 Tryz.prog Tryz.laysPu14_ren := {
  mixed := by kernel_rfl
  f14 := Tryz.func60.trans (congrArg some (by kernel_rfl))
  f16 := Tryz.func103.trans (congrArg some (by kernel_rfl))
  f17 := Tryz.func104.trans (congrArg some (by kernel_rfl))
  f19 := Tryz.func160.trans (congrArg some (by kernel_rfl))
  f20 := Tryz.func161.trans (congrArg some (by kernel_rfl))
  f21 := Tryz.func162.trans (congrArg some (by kernel_rfl))
  f22 := Tryz.func163.trans (congrArg some (by kernel_rfl))
  f23 := Tryz.func164.trans (congrArg some (by kernel_rfl))
  f24 := Tryz.func165.trans (congrArg some (by kernel_rfl))
  f25 := Tryz.func203.trans (congrArg some (by kernel_rfl))
  f26 := Tryz.func204.trans (congrArg some (by kernel_rfl))
  f27 := Tryz.func205.trans (congrArg some (by kernel_rfl))
  f28 := Tryz.func237.trans (congrArg some (by kernel_rfl))
  f29 := Tryz.func259.trans (congrArg some (by kernel_rfl))
  f30 := Tryz.func230.trans (congrArg some (by kernel_rfl))
  f31 := Tryz.func231.trans (congrArg some (by kernel_rfl))
  f32 := Tryz.func232.trans (congrArg some (by kernel_rfl))
  f33 := Tryz.func233.trans (congrArg some (by kernel_rfl))
  f34 := Tryz.func251.trans (congrArg some (by kernel_rfl))
  f35 := Tryz.func252.trans (congrArg some (by kernel_rfl))
  f36 := Tryz.func253.trans (congrArg some (by kernel_rfl))
  f37 := Tryz.func254.trans (congrArg some (by kernel_rfl))
  f38 := Tryz.func255.trans (congrArg some (by kernel_rfl))
  f39 := Tryz.func264.trans (congrArg some (by kernel_rfl))
  f40 := Tryz.func265.trans (congrArg some (by kernel_rfl))
  t0 := Tryz.underlying0
  a0 := Tryz.isAgg0
  z0 := Tryz.sizeOf0
  v0 := Tryz.zeroValue0
  i0 := by kernel_rfl
  t2 := Tryz.underlying2
  a2 := Tryz.isAgg2
  z2 := Tryz.sizeOf2
  v2 := Tryz.zeroValue2
  i2 := by kernel_rfl
  t3 := Tryz.underlying3
  a3 := Tryz.isAgg3
  z3 := Tryz.sizeOf3
  v3 := Tryz.zeroValue3
  i3 := by kernel_rfl
  t4 := Tryz.underlying4
  a4 := Tryz.isAgg4
  z4 := Tryz.sizeOf4
  v4 := Tryz.zeroValue4
  i4 := by kernel_rfl
  t5 := Tryz.underlying5
  a5 := Tryz.isAgg5
  z5 := Tryz.sizeOf5
  v5 := Tryz.zeroValue5
  i5 := by kernel_rfl
  t9 := Tryz.underlying9
  a9 := Tryz.isAgg9
  z9 := Tryz.sizeOf9
  v9 := Tryz.zeroValue9
  i9 := by kernel_rfl
  t20 := Tryz.underlying20
  a20 := Tryz.isAgg20
  z20 := Tryz.sizeOf20
  v20 := Tryz.zeroValue20
  i20 := by kernel_rfl
  t21 := Tryz.underlying21
  a21 := Tryz.isAgg21
  z21 := Tryz.sizeOf21
  v21 := Tryz.zeroValue21
  i21 := by kernel_rfl
  t22 := Tryz.underlying110
  a22 := Tryz.isAgg110
  z22 := Tryz.sizeOf110
  v22 := Tryz.zeroValue110
  i22 := by kernel_rfl
  t24 := Tryz.underlying29
  a24 := Tryz.isAgg29
  z24 := Tryz.sizeOf29
  v24 := Tryz.zeroValue29
  i24 := by kernel_rfl
  t25 := Tryz.underlying111
  a25 := Tryz.isAgg111
  z25 := Tryz.sizeOf111
  v25 := Tryz.zeroValue111
  i25 := by kernel_rfl
  t34 := Tryz.underlying215
  a34 := Tryz.isAgg215
  z34 := Tryz.sizeOf215
  v34 := Tryz.zeroValue215
  i34 := by kernel_rfl
  c34 := by kernel_rfl
  t36 := Tryz.underlying217
  a36 := Tryz.isAgg217
  z36 := Tryz.sizeOf217
  v36 := Tryz.zeroValue217
  i36 := by kernel_rfl
  t37 := Tryz.underlying136
  a37 := Tryz.isAgg136
  z37 := Tryz.sizeOf136
  v37 := Tryz.zeroValue136
  i37 := by kernel_rfl
  t39 := Tryz.underlying218
  a39 := Tryz.isAgg218
  z39 := Tryz.sizeOf218
  v39 := Tryz.zeroValue218
  i39 := by kernel_rfl
  t44 := Tryz.underlying237
  a44 := Tryz.isAgg237
  z44 := Tryz.sizeOf237
  v44 := Tryz.zeroValue237
  i44 := by kernel_rfl
  t47 := Tryz.underlying184
  a47 := Tryz.isAgg184
  z47 := Tryz.sizeOf184
  v47 := Tryz.zeroValue184
  i47 := by kernel_rfl
  t48 := Tryz.underlying255
  a48 := Tryz.isAgg255
  z48 := Tryz.sizeOf255
  v48 := Tryz.zeroValue255
  i48 := by kernel_rfl
  t50 := Tryz.underlying257
  a50 := Tryz.isAgg257
  z50 := Tryz.sizeOf257
  v50 := Tryz.zeroValue257
  i50 := by kernel_rfl
  t52 := Tryz.underlying249
  a52 := Tryz.isAgg249
  z52 := Tryz.sizeOf249
  v52 := Tryz.zeroValue249
  i52 := by kernel_rfl
  t55 := Tryz.underlying252
  a55 := Tryz.isAgg252
  z55 := Tryz.sizeOf252
  v55 := Tryz.zeroValue252
  i55 := by kernel_rfl
  t59 := Tryz.underlying262
  a59 := Tryz.isAgg262
  z59 := Tryz.sizeOf262
  v59 := Tryz.zeroValue262
  i59 := by kernel_rfl
  t60 := Tryz.underlying244
  a60 := Tryz.isAgg244
  z60 := Tryz.sizeOf244
  v60 := Tryz.zeroValue244
  i60 := by kernel_rfl
  t61 := Tryz.underlying263
  a61 := Tryz.isAgg263
  z61 := Tryz.sizeOf263
  t65 := Tryz.underlying270
  a65 := Tryz.isAgg270
  z65 := Tryz.sizeOf270
  v65 := Tryz.zeroValue270
  i65 := by kernel_rfl
  t66 := Tryz.underlying271
  a66 := Tryz.isAgg271
  z66 := Tryz.sizeOf271
  v66 := Tryz.zeroValue271
  i66 := by kernel_rfl
  t67 := Tryz.underlying80
  a67 := Tryz.isAgg80
  z67 := Tryz.sizeOf80
  v67 := Tryz.zeroValue80
  i67 := by kernel_rfl
  g0 := by kernel_rfl
  m0 := by kernel_rfl
  g1 := by kernel_rfl
  m1 := by kernel_rfl
  g2 := by kernel_rfl
  m2 := by kernel_rfl
  g3 := by kernel_rfl
  m3 := by kernel_rfl
  g4 := by kernel_rfl
  m4 := by kernel_rfl }
open Go.RowKit in
/-- strconv.ParseUint(s, 10, 64), AT EVERY STRING THAT SPELLS A uint64 ('Lib.parseUintB 64 s.data.toList = .ok u'): u, AND NO ERROR. (LAID: no walk: one application.) -/
theorem Tryz.strconv_ParseUint_10_at64_ok (s : ByteArray) (hmax : s.size ≤ 9223372036854775806) (u : Nat) (h : Lib.parseUintB 64 s.data.toList = .ok u) (w : World) :
    Calls Tryz.prog 60 #[.string s, .int .i64 10, .int .i64 64] w fun e w' => e = .returned (.tuple #[.int .u64 u, .nilIface]) ∧ (w' = w ∨ w' = Lib.bytesWorld w 5 s) := Any.strconv_ParseUint_10_at64_ok Tryz.laysPu14 s hmax u h w
open Go.RowKit in
/-- strconv.ParseUint(s, 10, 64), AT EVERY NUMERAL THAT NO uint64 HOLDS: THE GREATEST uint64, AND AN ERROR THAT IS NOT nil: a *NumError in a new block N: {Func: "ParseUint", Num: s's bytes, Err: what the variable ErrRange holds}. Of what was there nothing has turned. (LAID: no walk: one application.) -/
theorem Tryz.strconv_ParseUint_10_at64_range (s : ByteArray) (hlim : s.size ≤ 281474976710656) (h : Lib.parseUintB 64 s.data.toList = .range) (ev : Value) (w : World) (hv : w.cell? ⟨7, 0, none⟩ = some ev) (hev : ev = .nilIface ∨ ∃ te pe, ev = .iface te pe) :
    Calls Tryz.prog 60 #[.string s, .int .i64 10, .int .i64 64] w fun e w' => ∃ N, e = .returned (.tuple #[.int .u64 18446744073709551615, .iface 218 (.pointer (some ⟨N, 0, none⟩))]) ∧ w.heap.size ≤ N ∧ w'.heap[N]? = some (.cells #[.string ⟨#[80, 97, 114, 115, 101, 85, 105, 110, 116]⟩, .string s, ev] 237 (0, 0)) ∧ Below w.heap.size w w' := Any.strconv_ParseUint_10_at64_range Tryz.laysPu14 s hlim h ev w hv hev
def Tryz.lays144_ren : Go.Shelf.Ren := ⟨fun | 144 => 168 | 143 => 209 | 219 => 239 | 217 => 105 | 225 => 260 | 224 => 261 | 267 => 262 | 266 => 166 | 314 => 267 | n => n, fun | 9 => 9 | 4 => 4 | 3 => 3 | 5 => 5 | 46 => 217 | 146 => 245 | 51 => 244 | n => n, fun | 1 => 8 | n => n⟩
theorem Tryz.lays144 : Go.Proofs.Lays.n144 Tryz.prog Tryz.lays144_ren := {
  mixed := by kernel_rfl
  f143 := Tryz.func209.trans (congrArg some (by kernel_rfl))
  f144 := Tryz.func168.trans (congrArg some (by kernel_rfl))
  f217 := Tryz.func105.trans (congrArg some (by kernel_rfl))
  f219 := Tryz.func239.trans (congrArg some (by kernel_rfl))
  f224 := Tryz.func261.trans (congrArg some (by kernel_rfl))
  f225 := Tryz.func260.trans (congrArg some (by kernel_rfl))
  f266 := Tryz.func166.trans (congrArg some (by kernel_rfl))
  f267 := Tryz.func262.trans (congrArg some (by kernel_rfl))
  f314 := Tryz.func267.trans (congrArg some (by kernel_rfl))
  t3 := Tryz.underlying3
  a3 := Tryz.isAgg3
  z3 := Tryz.sizeOf3
  v3 := Tryz.zeroValue3
  t4 := Tryz.underlying4
  a4 := Tryz.isAgg4
  z4 := Tryz.sizeOf4
  v4 := Tryz.zeroValue4
  t5 := Tryz.underlying5
  a5 := Tryz.isAgg5
  z5 := Tryz.sizeOf5
  v5 := Tryz.zeroValue5
  t9 := Tryz.underlying9
  a9 := Tryz.isAgg9
  z9 := Tryz.sizeOf9
  v9 := Tryz.zeroValue9
  t46 := Tryz.underlying217
  a46 := Tryz.isAgg217
  z46 := Tryz.sizeOf217
  v46 := Tryz.zeroValue217
  t51 := Tryz.underlying244
  a51 := Tryz.isAgg244
  z51 := Tryz.sizeOf244
  v51 := Tryz.zeroValue244
  t146 := Tryz.underlying245
  a146 := Tryz.isAgg245
  z146 := Tryz.sizeOf245
  v146 := Tryz.zeroValue245
  g1 := by kernel_rfl }
open Go.RowKit Go.Lib in
/-- strings.Contains: "Contains reports whether substr is within s.": IT RETURNS 'Lib.contains s substr'; the world is as it was. (LAID: no walk: one application.) -/
theorem Tryz.strings_Contains (s sub : ByteArray) (m : Int) (w : World) (hs : s.size < 4294967281) (hm : w.cell? ⟨8, 0, none⟩ = some (.int .i64 m)) :
    Calls Tryz.prog 168 #[.string s, .string sub] w fun e w' => e = .returned (.bool (Lib.contains s.data.toList sub.data.toList)) ∧ w' = w := Any.strings_Contains Tryz.lays144 s sub m w hs hm
def Tryz.lays99_ren : Go.Shelf.Ren := ⟨fun | 99 => 62 | 206 => 106 | n => n, fun | 9 => 9 | 4 => 4 | 3 => 3 | n => n, fun | n => n⟩
theorem Tryz.lays99 : Go.Proofs.Lays.n99 Tryz.prog Tryz.lays99_ren := {
  mixed := by kernel_rfl
  f99 := Tryz.func62.trans (congrArg some (by kernel_rfl))
  f206 := Tryz.func106.trans (congrArg some (by kernel_rfl))
  t3 := Tryz.underlying3
  a3 := Tryz.isAgg3
  z3 := Tryz.sizeOf3
  v3 := Tryz.zeroValue3
  t4 := Tryz.underlying4
  a4 := Tryz.isAgg4
  z4 := Tryz.sizeOf4
  v4 := Tryz.zeroValue4
  t9 := Tryz.underlying9
  a9 := Tryz.isAgg9
  z9 := Tryz.sizeOf9
  v9 := Tryz.zeroValue9 }
open Go.RowKit Go.Lib in
/-- strings.HasPrefix: "HasPrefix reports whether the string s begins with prefix.": IT RETURNS 'Lib.hasPrefix s prefix'; the world is as it was. (LAID: no walk: one application.) -/
theorem Tryz.strings_HasPrefix (s p : ByteArray) (w : World) :
    Calls Tryz.prog 62 #[.string s, .string p] w fun e w' => e = .returned (.bool (Lib.hasPrefix s.data.toList p.data.toList)) ∧ w' = w := Any.strings_HasPrefix Tryz.lays99 s p w
end Go.Proofs

namespace Go.Proofs.YtndgajlidckcdaaGreatDoor
open Go.RowKit

/-- Signs of two bytes. -/
def twins : List ByteArray := [⟨#[124, 124]⟩, ⟨#[38, 38]⟩, ⟨#[61, 61]⟩]
/-- Signs of one byte. -/
def lone1 : ByteArray := ⟨#[40, 41, 123, 125, 91, 93, 59, 44, 46, 61, 60, 43, 45, 42, 47, 37, 33]⟩
def isTwin (s : ByteArray) (p k : Nat) : Bool := Lib.hasPrefix (s.extract p s.size).data.toList (twins[k]?.getD ByteArray.empty).data.toList
/-- How long the sign is that stands at a place (0: none does). -/
def signP (s : ByteArray) (p : Nat) : Nat :=
  if isTwin s p 0 = true ∨ isTwin s p 1 = true ∨ isTwin s p 2 = true then 2
  else if h : p < s.size then (if 0 ≤ (Lib.indexByte lone1.data.toList (s[p].toNat : Int).toNat.toUInt8 : Int) then 1 else 0) else 0

theorem sign_twin {s : ByteArray} {p k : Nat} (hk : k < 3) (h : isTwin s p k = true) : signP s p = 2 := by
  unfold signP
  rw [if_pos]
  match k, hk, h with
  | 0, _, h => exact Or.inl h
  | 1, _, h => exact Or.inr (Or.inl h)
  | 2, _, h => exact Or.inr (Or.inr h)
theorem sign_lone {s : ByteArray} {p : Nat} (h : ∀ k, k < 3 → isTwin s p k = false) (hp : p < s.size) (hi : 0 ≤ (Lib.indexByte lone1.data.toList (s[p].toNat : Int).toNat.toUInt8 : Int)) : signP s p = 1 := by
  unfold signP
  rw [if_neg (by rw [h 0 (by omega), h 1 (by omega), h 2 (by omega)]; simp), dif_pos hp, if_pos hi]
theorem sign_none {s : ByteArray} {p : Nat} (h : ∀ k, k < 3 → isTwin s p k = false) (hp : p < s.size) (hi : ¬ 0 ≤ (Lib.indexByte lone1.data.toList (s[p].toNat : Int).toNat.toUInt8 : Int)) : signP s p = 0 := by
  unfold signP
  rw [if_neg (by rw [h 0 (by omega), h 1 (by omega), h 2 (by omega)]; simp), dif_pos hp, if_neg hi]

theorem prefix_calls (s : ByteArray) (k p : Nat) (w : World) {b : Bool} (hb : isTwin s p k = b) :
    Calls Tryz.prog 62 #[.string (s.extract p s.size), .string (twins[k]?.getD ByteArray.empty)] w fun e w' => e = .returned (.bool b) ∧ w' = w := by
  rw [← hb]
  exact Tryz.strings_HasPrefix _ _ w

theorem index_calls (c : Int) (v : Int) (w : World) (hv : Hid ((Lib.indexByte lone1.data.toList c.toNat.toUInt8 : Int) = v)) :
    Calls Tryz.prog 61 #[.string lone1, .int .u8 c] w fun e w' => e = .returned (.int .i64 v) ∧ w' = w := by
  rw [← unhide hv]
  exact Tryz.strings_IndexByte lone1 c w

def twinCells : Array Value := (twins.map Value.string).toArray

set_option maxRecDepth 100000 in
set_option maxHeartbeats 1000000 in
theorem signSize_any {w : World} {r : Nat} {S : LS} (h : Rd w r S) (fit : Fit S) (hlt : S.pl < S.src.size) (tt : TypeId) (fr : Nat × Nat) (hg : w.heap[10]? = some (.cells twinCells tt fr)) :
    Calls Tryz.prog 182 #[.pointer (some ⟨r, 0, none⟩)] w fun e w' => e = .returned (.int .i64 (signP S.src S.pl)) ∧ Rd w' r S ∧ Ext r w w' := by
  obtain ⟨z1, z2, z3⟩ := fit
  have hsz : (Tryz.prog.info? 242).map (·.size) = some twinCells.size := by kernel_rfl
  have hidx : ∀ (k : Nat), k < 3 → ∀ w1 : World, (Instr.index 242 (.agg twinCells) (.int .i64 k)).run Tryz.prog w1 = .ok (.string (twins[k]?.getD ByteArray.empty)) w1 := by
    intro k hk w1
    rcases (by omega : k = 0 ∨ k = 1 ∨ k = 2) with rfl | rfl | rfl <;> kernel_rfl
  have hlen : ∀ (k : Nat), k < 3 → (twins[k]?.getD ByteArray.empty).size = 2 := by
    intro k hk
    match k, hk with
    | 0, _ => rfl
    | 1, _ => rfl
    | 2, _ => rfl
  go_enter Tryz.func182, Tryz.ntmps182
  go_wp2_with (refine wpList_load_row rfl 242 _ rfl 10 rfl tt _ fr _ hg Tryz.underlying242 rfl hsz ?_)
  clear hsz hg
  go_loopg [6] 3 (fun g i wr => ∃ k : Nat, k ≤ 3 ∧ g = 3 - k ∧ i = .int .i64 k ∧ Hid (∀ j, j < k → isTwin S.src S.pl j = false) ∧ Rd wr r S ∧ Ext r w wr)
  case atStart => exact ⟨0, by omega, rfl, rfl, fun j hj => by omega, h, Ext.refl _ _⟩
  case round =>
    clear h
    obtain ⟨k, hk, rfl, rfl, HN, h, HX⟩ := hrel
    have c0 := h.c0
    have c1 := h.c1
    have HR := hide h
    clear h
    have hlt2 : (S.pl : Int) < S.src.size := by omega
    have hle2 : (S.pl : Int) ≤ S.src.size := by omega
    by_cases hk3 : k < 3
    · have hi := hidx k hk3
      have hl := hlen k hk3
      clear hidx hlen
      cases hb : isTwin S.src S.pl k
      · go_wp2
        go_quiet ((go_at_call 62; exact Calls.quiet_of_same (prefix_calls _ k _ _ hb)))
        go_wp2
        go_roundg (3 - (k + 1))
        case measure => omega
        case rel => exact ⟨k + 1, by omega, rfl, by go_num, fun j hj => by
          by_cases e : j = k
          · subst e; exact hb
          · exact unhide HN j (by omega), (unhide HR).drewN _, HX.drewN _⟩
      · have HS := hide (sign_twin hk3 hb)
        go_wp2
        go_quiet ((go_at_call 62; exact Calls.quiet_of_same (prefix_calls _ k _ _ hb)))
        go_wp2
        go_ret
        rw [unhide HS]
        exact ⟨by simp, (unhide HR).drewN _, HX.drewN _⟩
    · have HN3 := hide (show ∀ j, j < 3 → isTwin S.src S.pl j = false from fun j hj => unhide HN j (by omega))
      clear HN hidx hlen
      have hk3' : decide ((k : Int) < 3) = false := by simp; omega
      obtain ⟨v, hv⟩ : ∃ v : Int, (Lib.indexByte lone1.data.toList (S.src[S.pl].toNat : Int).toNat.toUInt8 : Int) = v := ⟨_, rfl⟩
      by_cases hx : 0 ≤ v
      · have HS := hide (sign_lone (unhide HN3) hlt (by rw [hv]; exact hx))
        have HV := hide hv
        clear hv
        have hx' : decide (0 ≤ v) = true := by simp [hx]
        go_wp2
        go_quiet ((go_at_call 61; exact Calls.quiet_of_same (index_calls _ v _ HV)))
        go_wp2
        go_ret
        rw [unhide HS]
        exact ⟨rfl, (unhide HR).drewN _, HX.drewN _⟩
      · have HS := hide (sign_none (unhide HN3) hlt (by rw [hv]; exact hx))
        have HV := hide hv
        clear hv
        have hx' : decide (0 ≤ v) = false := by simpa using hx
        go_wp2
        go_quiet ((go_at_call 61; exact Calls.quiet_of_same (index_calls _ v _ HV)))
        go_wp2
        go_ret
        rw [unhide HS]
        exact ⟨rfl, (unhide HR).drewN _, HX.drewN _⟩
end Go.Proofs.YtndgajlidckcdaaGreatDoor

namespace Go.Proofs.YtndgajlidckcdaaGreatDoor
open Go.RowKit

theorem sign_le {s : ByteArray} {p : Nat} (hp : p < s.size) : p + signP s p ≤ s.size := by
  unfold signP
  have key : ∀ k, k < 3 → isTwin s p k = true → p + 2 ≤ s.size := by
    intro k hk h
    unfold isTwin at h
    rw [Lib.extract_data] at h
    have h2 : (twins[k]?.getD ByteArray.empty).data.toList.length = 2 := by
      rcases (by omega : k = 0 ∨ k = 1 ∨ k = 2) with rfl | rfl | rfl <;> rfl
    unfold Lib.hasPrefix at h
    have h3 := (List.isPrefixOf_iff_prefix.1 h).length_le
    rw [h2, List.length_take, List.length_drop, ← Lib.size_eq] at h3
    omega
  split
  · rename_i h
    rcases h with h | h | h
    · exact key 0 (by omega) h
    · exact key 1 (by omega) h
    · exact key 2 (by omega) h
  · (repeat' split) <;> omega

set_option maxRecDepth 100000 in
set_option maxHeartbeats 1000000 in
theorem readSign_no {w : World} {r : Nat} {S : LS} (h : Rd w r S) (fit : Fit S) (hlt : S.pl < S.src.size) (tt : TypeId) (fr : Nat × Nat) (hg : w.heap[10]? = some (.cells twinCells tt fr)) (hz : signP S.src S.pl = 0) :
    Calls Tryz.prog 122 #[.pointer (some ⟨r, 0, none⟩)] w fun e w' => e = .panicked (thrown 3 S.tp) ∧ Ext r w w' := by
  have HS := hide (signSize_any h fit hlt tt fr hg)
  rw [hz] at HS
  clear h fit hg hz
  go_enter Tryz.func122, Tryz.ntmps122
  go_wp2_with fail
  refine (unhide HS).mono ?_
  rintro e w1 ⟨rfl, h1, hx⟩
  go_wp2_with fail
  refine (fail_any h1 _).mono ?_
  rintro e w2 ⟨rfl, rfl⟩
  exact ⟨rfl, rfl, hx⟩

set_option maxRecDepth 100000 in
set_option maxHeartbeats 1000000 in
theorem readSign_ok {w : World} {r : Nat} {S : LS} (h : Rd w r S) (fit : Fit S) (hlt : S.pl < S.src.size) (tt : TypeId) (fr : Nat × Nat) (hg : w.heap[10]? = some (.cells twinCells tt fr)) (n : Nat) (hn : signP S.src S.pl = n) (hz : 0 < n) :
    Calls Tryz.prog 122 #[.pointer (some ⟨r, 0, none⟩)] w fun e w' => e = .returned (.tuple #[]) ∧ Rd w' r { S with pl := S.pl + n, kd := 1, mrk := S.src.extract S.pl (S.pl + n) } ∧ Ext r w w' := by
  have HS := hide (signSize_any h fit hlt tt fr hg)
  have hle := sign_le hlt
  rw [hn] at HS hle
  obtain ⟨z1, z2, z3⟩ := fit
  clear h hg hn
  have b0 : ((n : Int) == 0) = false := by rw [beq_eq_false_iff_ne]; omega
  have q0 : (0 : Int) ≤ (S.pl : Int) := by omega
  have q00 : (0 : Int) ≤ (S.pl : Int) + (n : Int) := by omega
  have qw : IntKind.i64.wrap ((S.pl : Int) + (n : Int)) = (S.pl : Int) + (n : Int) := wrap_small _ (by omega) (by omega)
  have q1 : (S.pl : Int) + (n : Int) ≤ S.src.size := by omega
  have q2 : (S.pl : Int) ≤ (S.pl : Int) + (n : Int) := by omega
  go_enter Tryz.func122, Tryz.ntmps122
  go_wp2_with fail
  refine (unhide HS).mono ?_
  rintro e w1 ⟨rfl, h1, hx⟩
  have c0 := h1.c0
  have c1 := h1.c1
  have c3 := h1.c3
  have c6 := h1.c6
  have f1 := h1.f1
  have f3 := h1.f3
  have f6 := h1.frozen 6
  have HR := hide h1
  clear h1
  go_wp2_with fail
  go_region_held3 (fun w' => w'.cell? ⟨r, 0, none⟩ = some (.string S.src) ∧ w'.cell? ⟨r, 1, none⟩ = some (.int .i64 S.pl)) ((refine ⟨?_, ?_⟩ <;> simp [World.cell?_setCell_other, c0, c1])) (fail)
  go_wp2_with fail
  go_end0
  exact ⟨rfl, ((((unhide HR).set3 1).set6 _).set1 (S.pl + n)).drew, (((hx.setCell 3 _).setCell 6 _).setCell 1 _).drew⟩

theorem ext_below {r : Nat} {w w' : World} (h : Below w.heap.size w w') : Ext r w w' := ⟨h.os, h.tape, h.output, h.size, fun k hk _ => h.block k hk⟩
theorem rd_below {r : Nat} {w w' : World} {S : LS} (hr : Rd w r S) (h : Below w.heap.size w w') : Rd w' r S := by
  have hl := hr.lt
  obtain ⟨t, hr⟩ := hr
  exact ⟨t, (h.block r hl).trans hr⟩

/-- The words of the language. -/
def wordBytes : List (List UInt8) := [[99, 108, 97, 115, 115], [102, 105, 101, 108, 100], [102, 110], [118, 97, 114], [105, 102], [101, 108, 115, 101], [119, 104, 105, 108, 101], [114, 101, 116, 117, 114, 110], [116, 104, 114, 111, 119], [116, 114, 121], [99, 97, 116, 99, 104], [112, 114, 105, 110, 116], [116, 114, 117, 101], [102, 97, 108, 115, 101], [110, 105, 108], [116, 104, 105, 115], [110, 101, 119], [115, 117, 112, 101, 114], [105, 110, 112, 117, 116], [108, 101, 110]]
def wordTexts : List ByteArray := wordBytes.map fun l => ⟨l.toArray⟩
def isW (s : ByteArray) : Bool := onList wordTexts s
def wordCells : Array Value := (wordTexts.map Value.string).toArray

theorem isW_calls (s : ByteArray) (w : World) (tt : TypeId) (fr : Nat × Nat) (hg : w.heap[9]? = some (.cells wordCells tt fr)) {b : Bool} (hb : isW s = b) :
    Calls Tryz.prog 178 #[.string s] w fun e w' => e = .returned (.bool b) ∧ w' = w := by
  rw [← hb]
  exact word_any wordTexts rfl s w tt fr hg

theorem clone_calls (s : ByteArray) (w : World) (hs : s.size ≤ 3000) :
    Calls Tryz.prog 179 #[.string s] w fun e w' => e = .returned (.string s) ∧ Below w.heap.size w w' := by
  go_enter Tryz.func179, Tryz.ntmps179
  go_wp2_with fail
  refine (Tryz.stringslite_Clone s w (by omega)).mono ?_
  rintro e w1 ⟨rfl, hb⟩
  go_wp2_with fail
  go_ret
  exact ⟨rfl, hb⟩

/-- A word's or a name's bytes, from a place on. -/
def wordAt (S : LS) : ByteArray := S.src.extract S.pl (runP S.src nb (S.src.size - S.pl) S.pl)
def wordEnd (S : LS) : Nat := runP S.src nb (S.src.size - S.pl) S.pl

theorem run_name' {w : World} {r : Nat} {S : LS} (h : Rd w r S) (fit : Fit S) :
    Calls Tryz.prog 176 #[.pointer (some ⟨r, 0, none⟩), .func (.func 177) #[] #[]] w fun e w' => e = .returned (.string (wordAt S)) ∧
      S.pl ≤ wordEnd S ∧ Rd w' r { S with pl := wordEnd S } ∧ Fit { S with pl := wordEnd S } ∧ Ext r w w' := run_name h fit

theorem wordAt_size (S : LS) (fit : Fit S) : (wordAt S).size ≤ 3000 := by
  have := fit.size
  unfold wordAt
  rw [ByteArray.size_extract]
  omega

set_option maxRecDepth 100000 in
set_option maxHeartbeats 1000000 in
theorem readWord_word {w : World} {r : Nat} {S : LS} (h : Rd w r S) (fit : Fit S) (tt : TypeId) (fr : Nat × Nat) (hg : w.heap[9]? = some (.cells wordCells tt fr)) (hr : 9 ≠ r) (hw : isW (wordAt S) = true) :
    Calls Tryz.prog 118 #[.pointer (some ⟨r, 0, none⟩)] w fun e w' => e = .returned (.tuple #[]) ∧ Rd w' r { S with pl := wordEnd S, kd := 1, mrk := wordAt S } ∧ Ext r w w' := by
  have HS := hide (run_name' h fit)
  have hsz := (Array.getElem?_eq_some_iff.1 hg).1
  go_enter Tryz.func118, Tryz.ntmps118
  go_wp2_with fail
  refine (unhide HS).mono ?_
  rintro e w1 ⟨rfl, hle, h1, fit1, hx⟩
  have hg1 : w1.heap[9]? = some (.cells wordCells tt fr) := (hx.block _ hsz hr).trans hg
  go_wp2_with fail
  refine (isW_calls _ _ tt fr hg1 hw).mono ?_
  rintro e w2 ⟨rfl, rfl⟩
  have c3 := h1.c3
  have c6 := h1.c6
  have f3 := h1.f3
  have f6 := h1.frozen 6
  clear hg hg1 hw fit h
  go_wp2_with fail
  go_end0
  exact ⟨rfl, (h1.set3 1).set6 _, (hx.setCell 3 _).setCell 6 _⟩

set_option maxRecDepth 100000 in
set_option maxHeartbeats 1000000 in
theorem readWord_long {w : World} {r : Nat} {S : LS} (h : Rd w r S) (fit : Fit S) (tt : TypeId) (fr : Nat × Nat) (hg : w.heap[9]? = some (.cells wordCells tt fr)) (hr : 9 ≠ r) (hw : isW (wordAt S) = false) (hl : 16 < (wordAt S).size) :
    Calls Tryz.prog 118 #[.pointer (some ⟨r, 0, none⟩)] w fun e w' => e = .panicked (thrown 4 S.tp) ∧ Ext r w w' := by
  have HS := hide (run_name' h fit)
  have hsz := (Array.getElem?_eq_some_iff.1 hg).1
  have hs := wordAt_size S fit
  have b0 : decide (16 < ((wordAt S).size : Int)) = true := decide_eq_true (by omega)
  go_enter Tryz.func118, Tryz.ntmps118
  go_wp2_with fail
  refine (unhide HS).mono ?_
  rintro e w1 ⟨rfl, hle, h1, fit1, hx⟩
  have hg1 : w1.heap[9]? = some (.cells wordCells tt fr) := (hx.block _ hsz hr).trans hg
  go_wp2_with fail
  refine (isW_calls _ _ tt fr hg1 hw).mono ?_
  rintro e w2 ⟨rfl, rfl⟩
  clear hg hg1 hw fit h
  go_wp2_with fail
  refine (fail_any h1 _).mono ?_
  rintro e w2 ⟨rfl, rfl⟩
  exact ⟨rfl, rfl, hx⟩

set_option maxRecDepth 100000 in
set_option maxHeartbeats 1000000 in
theorem readWord_name {w : World} {r : Nat} {S : LS} (h : Rd w r S) (fit : Fit S) (tt : TypeId) (fr : Nat × Nat) (hg : w.heap[9]? = some (.cells wordCells tt fr)) (hr : 9 ≠ r) (hw : isW (wordAt S) = false) (hl : (wordAt S).size ≤ 16) :
    Calls Tryz.prog 118 #[.pointer (some ⟨r, 0, none⟩)] w fun e w' => e = .returned (.tuple #[]) ∧ Rd w' r { S with pl := wordEnd S, kd := 2, tx := wordAt S } ∧ Ext r w w' := by
  have HS := hide (run_name' h fit)
  have hsz := (Array.getElem?_eq_some_iff.1 hg).1
  have hs := wordAt_size S fit
  have b0 : decide (16 < ((wordAt S).size : Int)) = false := decide_eq_false (by omega)
  go_enter Tryz.func118, Tryz.ntmps118
  go_wp2_with fail
  refine (unhide HS).mono ?_
  rintro e w1 ⟨rfl, hle, h1, fit1, hx⟩
  have hg1 : w1.heap[9]? = some (.cells wordCells tt fr) := (hx.block _ hsz hr).trans hg
  go_wp2_with fail
  refine (isW_calls _ _ tt fr hg1 hw).mono ?_
  rintro e w2 ⟨rfl, rfl⟩
  clear hg hg1 hw fit h
  go_wp2_with fail
  refine (clone_calls _ _ hs).mono ?_
  rintro e w2 ⟨rfl, hb⟩
  have h2 := rd_below h1 hb
  have c3 := h2.c3
  have c7 := h2.c7
  have f3 := h2.f3
  have f7 := h2.frozen 7
  go_wp2_with fail
  go_end0
  exact ⟨rfl, (h2.set3 2).set7 _, ((hx.trans (ext_below hb)).setCell 3 _).setCell 7 _⟩
end Go.Proofs.YtndgajlidckcdaaGreatDoor

namespace Go.Proofs.YtndgajlidckcdaaGreatDoor
open Go.RowKit

set_option maxHeartbeats 400000 in
theorem inString_ok {w : World} {r : Nat} {S : LS} (h : Rd w r S) (fit : Fit S) (hlt : S.pl < S.src.size) (hn : S.src[S.pl].toNat ≠ 10) :
    Calls Tryz.prog 180 #[.pointer (some ⟨r, 0, none⟩)] w fun e w' => e = .returned (.int .u8 S.src[S.pl].toNat) ∧
      Rd w' r { S with pl := S.pl + 1 } ∧ Ext r w w' := by
  obtain ⟨z1, z2, z3⟩ := fit
  have c0 := h.c0
  have c1 := h.c1
  have f1 := h.f1
  have HR := hide h
  clear h
  have b0 : ((S.pl : Int) == S.src.size) = false := by rw [beq_eq_false_iff_ne]; omega
  have b1 : ((S.src[S.pl].toNat : Int) == 10) = false := by rw [beq_eq_false_iff_ne]; omega
  have hlt2 : (S.pl : Int) < S.src.size := by omega
  clear hn
  go_enter Tryz.func180, Tryz.ntmps180
  go_wp2
  go_quiet (fail)
  go_wp2
  go_quiet (fail)
  go_wp2
  go_ret
  refine ⟨?_, ?_, ?_⟩
  · simp
  · exact (((unhide HR).drewN _).set1 (S.pl + 1)).drewN _
  · exact (((Ext.refl r w).drewN _).setCell 1 _).drewN _

set_option maxHeartbeats 400000 in
theorem inString_no {w : World} {r : Nat} {S : LS} (h : Rd w r S) (fit : Fit S) (hs : ∀ hlt : S.pl < S.src.size, S.src[S.pl].toNat = 10) :
    Calls Tryz.prog 180 #[.pointer (some ⟨r, 0, none⟩)] w fun e w' => e = .panicked (thrown 3 S.pl) ∧ Ext r w w' := by
  obtain ⟨z1, z2, z3⟩ := fit
  have c0 := h.c0
  have c1 := h.c1
  clear h
  by_cases hlt : S.pl < S.src.size
  · have b0 : ((S.pl : Int) == S.src.size) = false := by rw [beq_eq_false_iff_ne]; omega
    have b1 : ((S.src[S.pl].toNat : Int) == 10) = true := by rw [beq_iff_eq]; have := hs hlt; omega
    have hlt2 : (S.pl : Int) < S.src.size := by omega
    clear hs
    go_enter Tryz.func180, Tryz.ntmps180
    go_wp2
    go_quiet (fail)
    go_wp2
    exact ⟨rfl, rfl, (Ext.refl r w).drewN _⟩
  · have b0 : ((S.pl : Int) == S.src.size) = true := by rw [beq_iff_eq]; omega
    clear hs
    go_enter Tryz.func180, Tryz.ntmps180
    go_wp2
    go_quiet (fail)
    go_wp2
    exact ⟨rfl, rfl, (Ext.refl r w).drewN _⟩

/-- What the byte behind a backslash stands for. -/
def escP (c : Nat) : Option Nat := if c = 110 then some 10 else if c = 34 then some 34 else if c = 92 then some 92 else none

def escPost (o : Option Nat) (p : Nat) (e : Ending) (R : Prop) : Prop := match o with
  | some c => e = .returned (.int .u8 c) ∧ R
  | none => e = .panicked (thrown 3 p)

set_option maxHeartbeats 1000000 in
theorem escaped_any {w : World} {r : Nat} {S : LS} (h : Rd w r S) (fit : Fit S) (hlt : S.pl < S.src.size) (hn : S.src[S.pl].toNat ≠ 10) :
    Calls Tryz.prog 181 #[.pointer (some ⟨r, 0, none⟩)] w fun e w' =>
      escPost (escP S.src[S.pl].toNat) S.pl e (Rd w' r { S with pl := S.pl + 1 }) ∧ Ext r w w' := by
  have HI := hide (inString_ok h fit hlt hn)
  obtain ⟨z1, z2, z3⟩ := fit
  clear h hn
  obtain ⟨c, hc⟩ : ∃ c, S.src[S.pl].toNat = c := ⟨_, rfl⟩
  rw [hc] at HI
  rw [hc]
  clear hc
  have HS := hide z3
  clear z3
  rcases (by omega : c = 110 ∨ c = 34 ∨ c = 92 ∨ (c ≠ 110 ∧ c ≠ 34 ∧ c ≠ 92)) with rfl | rfl | rfl | ⟨h1, h2, h3⟩
  · go_enter Tryz.func181, Tryz.ntmps181
    go_wp2_with fail
    refine (unhide HI).mono ?_
    rintro e w1 ⟨rfl, hr, hx⟩
    go_wp2_with fail
    go_ret
    exact ⟨⟨rfl, hr⟩, hx⟩
  · go_enter Tryz.func181, Tryz.ntmps181
    go_wp2_with fail
    refine (unhide HI).mono ?_
    rintro e w1 ⟨rfl, hr, hx⟩
    go_wp2_with fail
    go_ret
    exact ⟨⟨rfl, hr⟩, hx⟩
  · go_enter Tryz.func181, Tryz.ntmps181
    go_wp2_with fail
    refine (unhide HI).mono ?_
    rintro e w1 ⟨rfl, hr, hx⟩
    go_wp2_with fail
    go_ret
    exact ⟨⟨rfl, hr⟩, hx⟩
  · have b1 : ((c : Int) == 110) = false := by rw [beq_eq_false_iff_ne]; omega
    have b2 : ((c : Int) == 34) = false := by rw [beq_eq_false_iff_ne]; omega
    have b3 : ((c : Int) == 92) = false := by rw [beq_eq_false_iff_ne]; omega
    have he : escP c = none := by simp [escP, h1, h2, h3]
    have HE := hide he
    clear he h1 h2 h3
    go_enter Tryz.func181, Tryz.ntmps181
    go_wp2_with fail
    refine (unhide HI).mono ?_
    rintro e w1 ⟨rfl, hr, hx⟩
    have c1 := hr.c1
    go_wp2_with fail
    refine ⟨rfl, ?_, hx⟩
    rw [unhide HE]
    exact rfl
end Go.Proofs.YtndgajlidckcdaaGreatDoor
