/- The library's contracts that the lexer's walk takes, laid at this program. Walks of words and names, the program's and the document's. -/
import Derived.Shelf.Small.Strs
import Derived.Shelf.Small.Wraps
import Derived.Shelf.LaysM
import Derived.Shelf.LaysC
import Derived.Shelf.Strconv.Clone
import Derived.Shelf.Strconv.AtoiAll
import Derived.Shelf.Strconv.ErrVarAll
import Derived.Shelf.Strings.Search3
import Derived.Shelf.Strings.Shaped
import Derived.Shelf.Strings.Prefix
import Derived.Lib.AtoiTie
import Derived.Lib.AtoiErrMem
import Derived.Test.YtcdobniommnflaaGreatDoorProg
import Derived.Test.YtcdobniommnflaaGreatDoorMf04
namespace Go.Proofs
open Go.Shelf
def Tryz.lays137_ren : Go.Shelf.Ren := ⟨fun | 137 => 124 | 217 => 146 | 266 => 174 | n => n, fun | 9 => 9 | 5 => 5 | 3 => 3 | n => n, fun | n => n⟩
theorem Tryz.lays137 : Go.Proofs.Lays.n137 Tryz.prog Tryz.lays137_ren := {
  mixed := by kernel_rfl
  f137 := Tryz.func124.trans (congrArg some (by kernel_rfl))
  f217 := Tryz.func146.trans (congrArg some (by kernel_rfl))
  f266 := Tryz.func174.trans (congrArg some (by kernel_rfl))
  t3 := Tryz.underlying3
  a3 := Tryz.isAgg3
  z3 := Tryz.sizeOf3
  v3 := Tryz.zeroValue3
  t5 := Tryz.underlying5
  a5 := Tryz.isAgg5
  z5 := Tryz.sizeOf5
  v5 := Tryz.zeroValue5
  t9 := Tryz.underlying9
  a9 := Tryz.isAgg9
  z9 := Tryz.sizeOf9
  v9 := Tryz.zeroValue9 }
open Go.RowKit in
theorem Tryz.strings_IndexByte (s : ByteArray) (c : Int) (w : World) :
    Calls Tryz.prog 124 #[.string s, .int .u8 c] w fun e w' => e = .returned (.int .i64 (Lib.indexByte s.data.toList c.toNat.toUInt8)) ∧ w' = w := Any.strings_IndexByte Tryz.lays137 s c w
def Tryz.lays103_ren : Go.Shelf.Ren := ⟨fun | 103 => 151 | 210 => 182 | 206 => 123 | n => n, fun | 9 => 9 | 4 => 4 | 24 => 196 | 3 => 3 | n => n, fun | n => n⟩
theorem Tryz.lays103 : Go.Proofs.Lays.n103 Tryz.prog Tryz.lays103_ren := {
  mixed := by kernel_rfl
  f103 := Tryz.func151.trans (congrArg some (by kernel_rfl))
  f206 := Tryz.func123.trans (congrArg some (by kernel_rfl))
  f210 := Tryz.func182.trans (congrArg some (by kernel_rfl))
  t3 := Tryz.underlying3
  a3 := Tryz.isAgg3
  z3 := Tryz.sizeOf3
  v3 := Tryz.zeroValue3
  t4 := Tryz.underlying4
  a4 := Tryz.isAgg4
  z4 := Tryz.sizeOf4
  v4 := Tryz.zeroValue4
  t9 := Tryz.underlying9
  a9 := Tryz.isAgg9
  z9 := Tryz.sizeOf9
  v9 := Tryz.zeroValue9
  t24 := Tryz.underlying196
  a24 := Tryz.isAgg196
  z24 := Tryz.sizeOf196
  v24 := Tryz.zeroValue196 }
open Go.RowKit in
theorem Tryz.strings_CutPrefix (s p : ByteArray) (w : World) :
    Calls Tryz.prog 151 #[.string s, .string p] w fun e w' => e = .returned (.tuple #[.string ⟨(Lib.trimPrefix s.data.toList p.data.toList).toArray⟩, .bool (Lib.hasPrefix s.data.toList p.data.toList)]) ∧ w' = w := Any.strings_CutPrefix Tryz.lays103 s p w
def Tryz.laysM316_ren : Go.Shelf.Ren := ⟨fun | 316 => 148 | n => n, fun | 9 => 9 | 3 => 3 | 4 => 4 | 37 => 105 | 0 => 0 | 127 => 150 | 5 => 5 | n => n, fun | n => n⟩
theorem Tryz.laysM316 : Go.Proofs.LaysM.n316 Tryz.prog Tryz.laysM316_ren := {
  mixed := by kernel_rfl
  f316 := Tryz.func148.trans (congrArg some (by kernel_rfl))
  t0 := Tryz.underlying0
  a0 := Tryz.isAgg0
  z0 := Tryz.sizeOf0
  v0 := Tryz.zeroValue0
  t3 := Tryz.underlying3
  a3 := Tryz.isAgg3
  z3 := Tryz.sizeOf3
  v3 := Tryz.zeroValue3
  t4 := Tryz.underlying4
  a4 := Tryz.isAgg4
  z4 := Tryz.sizeOf4
  v4 := Tryz.zeroValue4
  t9 := Tryz.underlying9
  a9 := Tryz.isAgg9
  z9 := Tryz.sizeOf9
  v9 := Tryz.zeroValue9
  t37 := Tryz.underlying105
  a37 := Tryz.isAgg105
  z37 := Tryz.sizeOf105
  v37 := Tryz.zeroValue105
  t127 := Tryz.underlying150
  a127 := Tryz.isAgg150
  z127 := Tryz.sizeOf150
  v127 := Tryz.zeroValue150
  t5 := Tryz.underlying5
  a5 := Tryz.isAgg5
  z5 := Tryz.sizeOf5
  v5 := Tryz.zeroValue5
  i0 := by kernel_rfl
  i3 := by kernel_rfl
  i4 := by kernel_rfl
  i5 := by kernel_rfl
  i9 := by kernel_rfl
  i37 := by kernel_rfl
  i127 := by kernel_rfl }
open Go.RowKit in
theorem Tryz.stringslite_Clone (s : ByteArray) (w : World) (hlim : s.size ≤ 281474976710656) :
    Calls Tryz.prog 148 #[.string s] w fun e w' => e = .returned (.string s) ∧ Below w.heap.size w w' := Any.stringslite_Clone Tryz.laysM316 s w hlim
def Tryz.laysC172_ren : Go.Shelf.Ren := ⟨fun | 172 => 150 | 244 => 180 | 245 => 181 | 247 => 196 | 279 => 197 | 280 => 198 | 281 => 199 | 282 => 200 | 287 => 210 | 316 => 148 | 171 => 189 | 205 => 211 | 321 => 218 | 322 => 219 | 243 => 206 | 246 => 214 | 283 => 222 | 284 => 223 | 285 => 224 | 286 => 225 | 129 => 230 | 317 => 229 | 318 => 231 | 319 => 232 | 320 => 233 | 337 => 234 | 338 => 235 | n => n, fun | 9 => 9 | 3 => 3 | 75 => 189 | 76 => 190 | 4 => 4 | 5 => 5 | 167 => 226 | 37 => 105 | 0 => 0 | 85 => 227 | 2 => 2 | 168 => 229 | 53 => 238 | 175 => 239 | 46 => 212 | 210 => 242 | 127 => 150 | 145 => 251 | 143 => 249 | 21 => 21 | 171 => 252 | 173 => 255 | 212 => 258 | 51 => 223 | 20 => 20 | 213 => 259 | 232 => 263 | 233 => 264 | 80 => 111 | n => n, fun | 15 => 3 | 16 => 4 | 17 => 5 | 18 => 6 | 19 => 7 | n => n⟩
theorem Tryz.laysC172 : Go.Proofs.LaysC.n172 Tryz.prog Tryz.laysC172_ren := {
  mixed := by kernel_rfl
  f129 := Tryz.func230.trans (congrArg some (by kernel_rfl))
  f171 := Tryz.func189.trans (congrArg some (by kernel_rfl))
  f172 := Tryz.func150.trans (congrArg some (by kernel_rfl))
  f205 := Tryz.func211.trans (congrArg some (by kernel_rfl))
  f243 := Tryz.func206.trans (congrArg some (by kernel_rfl))
  f244 := Tryz.func180.trans (congrArg some (by kernel_rfl))
  f245 := Tryz.func181.trans (congrArg some (by kernel_rfl))
  f246 := Tryz.func214.trans (congrArg some (by kernel_rfl))
  f247 := Tryz.func196.trans (congrArg some (by kernel_rfl))
  f279 := Tryz.func197.trans (congrArg some (by kernel_rfl))
  f280 := Tryz.func198.trans (congrArg some (by kernel_rfl))
  f281 := Tryz.func199.trans (congrArg some (by kernel_rfl))
  f282 := Tryz.func200.trans (congrArg some (by kernel_rfl))
  f283 := Tryz.func222.trans (congrArg some (by kernel_rfl))
  f284 := Tryz.func223.trans (congrArg some (by kernel_rfl))
  f285 := Tryz.func224.trans (congrArg some (by kernel_rfl))
  f286 := Tryz.func225.trans (congrArg some (by kernel_rfl))
  f287 := Tryz.func210.trans (congrArg some (by kernel_rfl))
  f316 := Tryz.func148.trans (congrArg some (by kernel_rfl))
  f317 := Tryz.func229.trans (congrArg some (by kernel_rfl))
  f318 := Tryz.func231.trans (congrArg some (by kernel_rfl))
  f319 := Tryz.func232.trans (congrArg some (by kernel_rfl))
  f320 := Tryz.func233.trans (congrArg some (by kernel_rfl))
  f321 := Tryz.func218.trans (congrArg some (by kernel_rfl))
  f322 := Tryz.func219.trans (congrArg some (by kernel_rfl))
  f337 := Tryz.func234.trans (congrArg some (by kernel_rfl))
  f338 := Tryz.func235.trans (congrArg some (by kernel_rfl))
  t0 := Tryz.underlying0
  a0 := Tryz.isAgg0
  z0 := Tryz.sizeOf0
  v0 := Tryz.zeroValue0
  t2 := Tryz.underlying2
  a2 := Tryz.isAgg2
  z2 := Tryz.sizeOf2
  v2 := Tryz.zeroValue2
  t3 := Tryz.underlying3
  a3 := Tryz.isAgg3
  z3 := Tryz.sizeOf3
  v3 := Tryz.zeroValue3
  t4 := Tryz.underlying4
  a4 := Tryz.isAgg4
  z4 := Tryz.sizeOf4
  v4 := Tryz.zeroValue4
  t5 := Tryz.underlying5
  a5 := Tryz.isAgg5
  z5 := Tryz.sizeOf5
  v5 := Tryz.zeroValue5
  t9 := Tryz.underlying9
  a9 := Tryz.isAgg9
  z9 := Tryz.sizeOf9
  v9 := Tryz.zeroValue9
  t20 := Tryz.underlying20
  a20 := Tryz.isAgg20
  z20 := Tryz.sizeOf20
  v20 := Tryz.zeroValue20
  t21 := Tryz.underlying21
  a21 := Tryz.isAgg21
  z21 := Tryz.sizeOf21
  v21 := Tryz.zeroValue21
  t37 := Tryz.underlying105
  a37 := Tryz.isAgg105
  z37 := Tryz.sizeOf105
  v37 := Tryz.zeroValue105
  t46 := Tryz.underlying212
  a46 := Tryz.isAgg212
  z46 := Tryz.sizeOf212
  v46 := Tryz.zeroValue212
  t51 := Tryz.underlying223
  a51 := Tryz.isAgg223
  z51 := Tryz.sizeOf223
  v51 := Tryz.zeroValue223
  t53 := Tryz.underlying238
  a53 := Tryz.isAgg238
  z53 := Tryz.sizeOf238
  v53 := Tryz.zeroValue238
  t75 := Tryz.underlying189
  a75 := Tryz.isAgg189
  z75 := Tryz.sizeOf189
  v75 := Tryz.zeroValue189
  t76 := Tryz.underlying190
  a76 := Tryz.isAgg190
  z76 := Tryz.sizeOf190
  v76 := Tryz.zeroValue190
  t85 := Tryz.underlying227
  a85 := Tryz.isAgg227
  z85 := Tryz.sizeOf227
  v85 := Tryz.zeroValue227
  t127 := Tryz.underlying150
  a127 := Tryz.isAgg150
  z127 := Tryz.sizeOf150
  v127 := Tryz.zeroValue150
  t143 := Tryz.underlying249
  a143 := Tryz.isAgg249
  z143 := Tryz.sizeOf249
  v143 := Tryz.zeroValue249
  t145 := Tryz.underlying251
  a145 := Tryz.isAgg251
  z145 := Tryz.sizeOf251
  v145 := Tryz.zeroValue251
  t167 := Tryz.underlying226
  a167 := Tryz.isAgg226
  z167 := Tryz.sizeOf226
  v167 := Tryz.zeroValue226
  t168 := Tryz.underlying229
  a168 := Tryz.isAgg229
  z168 := Tryz.sizeOf229
  v168 := Tryz.zeroValue229
  t171 := Tryz.underlying252
  a171 := Tryz.isAgg252
  z171 := Tryz.sizeOf252
  v171 := Tryz.zeroValue252
  t173 := Tryz.underlying255
  a173 := Tryz.isAgg255
  z173 := Tryz.sizeOf255
  v173 := Tryz.zeroValue255
  t175 := Tryz.underlying239
  a175 := Tryz.isAgg239
  z175 := Tryz.sizeOf239
  v175 := Tryz.zeroValue239
  t210 := Tryz.underlying242
  a210 := Tryz.isAgg242
  z210 := Tryz.sizeOf242
  v210 := Tryz.zeroValue242
  t212 := Tryz.underlying258
  a212 := Tryz.isAgg258
  z212 := Tryz.sizeOf258
  v212 := Tryz.zeroValue258
  t213 := Tryz.underlying259
  a213 := Tryz.isAgg259
  z213 := Tryz.sizeOf259
  t232 := Tryz.underlying263
  a232 := Tryz.isAgg263
  z232 := Tryz.sizeOf263
  v232 := Tryz.zeroValue263
  t233 := Tryz.underlying264
  a233 := Tryz.isAgg264
  z233 := Tryz.sizeOf264
  v233 := Tryz.zeroValue264
  g15 := by kernel_rfl
  g16 := by kernel_rfl
  g17 := by kernel_rfl
  g18 := by kernel_rfl
  g19 := by kernel_rfl
  t80 := Tryz.underlying111
  a80 := Tryz.isAgg111
  z80 := Tryz.sizeOf111
  v80 := Tryz.zeroValue111
  i0 := by kernel_rfl
  i2 := by kernel_rfl
  i3 := by kernel_rfl
  i4 := by kernel_rfl
  i5 := by kernel_rfl
  i9 := by kernel_rfl
  i20 := by kernel_rfl
  i21 := by kernel_rfl
  i37 := by kernel_rfl
  i46 := by kernel_rfl
  i51 := by kernel_rfl
  i53 := by kernel_rfl
  i75 := by kernel_rfl
  i76 := by kernel_rfl
  i80 := by kernel_rfl
  i85 := by kernel_rfl
  i127 := by kernel_rfl
  i143 := by kernel_rfl
  i145 := by kernel_rfl
  i167 := by kernel_rfl
  i168 := by kernel_rfl
  i171 := by kernel_rfl
  i173 := by kernel_rfl
  i175 := by kernel_rfl
  i210 := by kernel_rfl
  i212 := by kernel_rfl
  i232 := by kernel_rfl
  i233 := by kernel_rfl
  m15 := by kernel_rfl
  m16 := by kernel_rfl
  m17 := by kernel_rfl
  m18 := by kernel_rfl
  m19 := by kernel_rfl
  c0 := by kernel_rfl
  c2 := by kernel_rfl
  c3 := by kernel_rfl
  c4 := by kernel_rfl
  c5 := by kernel_rfl
  c9 := by kernel_rfl
  c20 := by kernel_rfl
  c21 := by kernel_rfl
  c37 := by kernel_rfl
  c46 := by kernel_rfl
  c51 := by kernel_rfl
  c53 := by kernel_rfl
  c75 := by kernel_rfl
  c76 := by kernel_rfl
  c80 := by kernel_rfl
  c85 := by kernel_rfl
  c127 := by kernel_rfl
  c143 := by kernel_rfl
  c145 := by kernel_rfl
  c167 := by kernel_rfl
  c168 := by kernel_rfl
  c171 := by kernel_rfl
  c173 := by kernel_rfl
  c175 := by kernel_rfl
  c210 := by kernel_rfl
  c212 := by kernel_rfl
  c213 := by kernel_rfl
  c232 := by kernel_rfl
  c233 := by kernel_rfl }
def Tryz.lays143_ren : Go.Shelf.Ren := ⟨fun | 143 => 125 | 219 => 147 | 217 => 146 | 225 => 175 | 224 => 176 | 267 => 177 | 266 => 174 | 314 => 194 | n => n, fun | 9 => 9 | 3 => 3 | 4 => 4 | 5 => 5 | 46 => 212 | 146 => 224 | 51 => 223 | n => n, fun | 1 => 2 | n => n⟩
theorem Tryz.lays143 : Go.Proofs.Lays.n143 Tryz.prog Tryz.lays143_ren := {
  mixed := by kernel_rfl
  f143 := Tryz.func125.trans (congrArg some (by kernel_rfl))
  f217 := Tryz.func146.trans (congrArg some (by kernel_rfl))
  f219 := Tryz.func147.trans (congrArg some (by kernel_rfl))
  f224 := Tryz.func176.trans (congrArg some (by kernel_rfl))
  f225 := Tryz.func175.trans (congrArg some (by kernel_rfl))
  f266 := Tryz.func174.trans (congrArg some (by kernel_rfl))
  f267 := Tryz.func177.trans (congrArg some (by kernel_rfl))
  f314 := Tryz.func194.trans (congrArg some (by kernel_rfl))
  t3 := Tryz.underlying3
  a3 := Tryz.isAgg3
  z3 := Tryz.sizeOf3
  v3 := Tryz.zeroValue3
  t4 := Tryz.underlying4
  a4 := Tryz.isAgg4
  z4 := Tryz.sizeOf4
  v4 := Tryz.zeroValue4
  t5 := Tryz.underlying5
  a5 := Tryz.isAgg5
  z5 := Tryz.sizeOf5
  v5 := Tryz.zeroValue5
  t9 := Tryz.underlying9
  a9 := Tryz.isAgg9
  z9 := Tryz.sizeOf9
  v9 := Tryz.zeroValue9
  t46 := Tryz.underlying212
  a46 := Tryz.isAgg212
  z46 := Tryz.sizeOf212
  v46 := Tryz.zeroValue212
  t51 := Tryz.underlying223
  a51 := Tryz.isAgg223
  z51 := Tryz.sizeOf223
  v51 := Tryz.zeroValue223
  t146 := Tryz.underlying224
  a146 := Tryz.isAgg224
  z146 := Tryz.sizeOf224
  v146 := Tryz.zeroValue224
  g1 := by kernel_rfl }
open Go.RowKit Go.Lib in
theorem Tryz.strings_Index (s sub : ByteArray) (m : Int) (w : World) (hs : s.size < 4294967281) (hm : w.cell? ⟨2, 0, none⟩ = some (.int .i64 m)) :
    Calls Tryz.prog 125 #[.string s, .string sub] w fun e w' => e = .returned (.int .i64 (Lib.index s.data.toList sub.data.toList)) ∧ w' = w := Any.strings_Index Tryz.lays143 s sub m w hs hm
def Tryz.lays144_ren : Go.Shelf.Ren := ⟨fun | 144 => 201 | 143 => 125 | 219 => 147 | 217 => 146 | 225 => 175 | 224 => 176 | 267 => 177 | 266 => 174 | 314 => 194 | n => n, fun | 9 => 9 | 4 => 4 | 3 => 3 | 5 => 5 | 46 => 212 | 146 => 224 | 51 => 223 | n => n, fun | 1 => 2 | n => n⟩
theorem Tryz.lays144 : Go.Proofs.Lays.n144 Tryz.prog Tryz.lays144_ren := {
  mixed := by kernel_rfl
  f143 := Tryz.func125.trans (congrArg some (by kernel_rfl))
  f144 := Tryz.func201.trans (congrArg some (by kernel_rfl))
  f217 := Tryz.func146.trans (congrArg some (by kernel_rfl))
  f219 := Tryz.func147.trans (congrArg some (by kernel_rfl))
  f224 := Tryz.func176.trans (congrArg some (by kernel_rfl))
  f225 := Tryz.func175.trans (congrArg some (by kernel_rfl))
  f266 := Tryz.func174.trans (congrArg some (by kernel_rfl))
  f267 := Tryz.func177.trans (congrArg some (by kernel_rfl))
  f314 := Tryz.func194.trans (congrArg some (by kernel_rfl))
  t3 := Tryz.underlying3
  a3 := Tryz.isAgg3
  z3 := Tryz.sizeOf3
  v3 := Tryz.zeroValue3
  t4 := Tryz.underlying4
  a4 := Tryz.isAgg4
  z4 := Tryz.sizeOf4
  v4 := Tryz.zeroValue4
  t5 := Tryz.underlying5
  a5 := Tryz.isAgg5
  z5 := Tryz.sizeOf5
  v5 := Tryz.zeroValue5
  t9 := Tryz.underlying9
  a9 := Tryz.isAgg9
  z9 := Tryz.sizeOf9
  v9 := Tryz.zeroValue9
  t46 := Tryz.underlying212
  a46 := Tryz.isAgg212
  z46 := Tryz.sizeOf212
  v46 := Tryz.zeroValue212
  t51 := Tryz.underlying223
  a51 := Tryz.isAgg223
  z51 := Tryz.sizeOf223
  v51 := Tryz.zeroValue223
  t146 := Tryz.underlying224
  a146 := Tryz.isAgg224
  z146 := Tryz.sizeOf224
  v146 := Tryz.zeroValue224
  g1 := by kernel_rfl }
open Go.RowKit Go.Lib in
theorem Tryz.strings_Contains_one (s : ByteArray) (c : UInt8) (w : World) :
    Calls Tryz.prog 201 #[.string s, .string ⟨#[c]⟩] w fun e w' => e = .returned (.bool (decide (0 ≤ Lib.indexByte s.data.toList c))) ∧ w' = w := Any.strings_Contains_one Tryz.lays144 s c w
def Tryz.laysM143_ren : Go.Shelf.Ren := ⟨fun | 143 => 125 | 219 => 147 | 217 => 146 | 225 => 175 | 224 => 176 | 267 => 177 | 266 => 174 | 314 => 194 | n => n, fun | 9 => 9 | 3 => 3 | 4 => 4 | 5 => 5 | 46 => 212 | 146 => 224 | 51 => 223 | n => n, fun | 1 => 2 | n => n⟩
theorem Tryz.laysM143 : Go.Proofs.LaysM.n143 Tryz.prog Tryz.laysM143_ren := {
  mixed := by kernel_rfl
  f143 := Tryz.func125.trans (congrArg some (by kernel_rfl))
  f217 := Tryz.func146.trans (congrArg some (by kernel_rfl))
  f219 := Tryz.func147.trans (congrArg some (by kernel_rfl))
  f224 := Tryz.func176.trans (congrArg some (by kernel_rfl))
  f225 := Tryz.func175.trans (congrArg some (by kernel_rfl))
  f266 := Tryz.func174.trans (congrArg some (by kernel_rfl))
  f267 := Tryz.func177.trans (congrArg some (by kernel_rfl))
  f314 := Tryz.func194.trans (congrArg some (by kernel_rfl))
  t3 := Tryz.underlying3
  a3 := Tryz.isAgg3
  z3 := Tryz.sizeOf3
  v3 := Tryz.zeroValue3
  t4 := Tryz.underlying4
  a4 := Tryz.isAgg4
  z4 := Tryz.sizeOf4
  v4 := Tryz.zeroValue4
  t5 := Tryz.underlying5
  a5 := Tryz.isAgg5
  z5 := Tryz.sizeOf5
  v5 := Tryz.zeroValue5
  t9 := Tryz.underlying9
  a9 := Tryz.isAgg9
  z9 := Tryz.sizeOf9
  v9 := Tryz.zeroValue9
  t46 := Tryz.underlying212
  a46 := Tryz.isAgg212
  z46 := Tryz.sizeOf212
  v46 := Tryz.zeroValue212
  t51 := Tryz.underlying223
  a51 := Tryz.isAgg223
  z51 := Tryz.sizeOf223
  v51 := Tryz.zeroValue223
  t146 := Tryz.underlying224
  a146 := Tryz.isAgg224
  z146 := Tryz.sizeOf224
  v146 := Tryz.zeroValue224
  g1 := by kernel_rfl
  i3 := by kernel_rfl
  i4 := by kernel_rfl
  i5 := by kernel_rfl
  i9 := by kernel_rfl
  i46 := by kernel_rfl
  i51 := by kernel_rfl
  i146 := by kernel_rfl
  m1 := by kernel_rfl
  s1_3 := fun w h => Go.Proofs.cell_of_shapedOpen_int (zero := #[.int .i64 0]) (t := 3) h (of_decide_eq_true (by kernel_rfl)) (by kernel_rfl) rfl (by kernel_rfl) (by kernel_rfl) Tryz.underlying3 }
def Tryz.lays99_ren : Go.Shelf.Ren := ⟨fun | 99 => 100 | 206 => 123 | n => n, fun | 9 => 9 | 4 => 4 | 3 => 3 | n => n, fun | n => n⟩
theorem Tryz.lays99 : Go.Proofs.Lays.n99 Tryz.prog Tryz.lays99_ren := {
  mixed := by kernel_rfl
  f99 := Tryz.func100.trans (congrArg some (by kernel_rfl))
  f206 := Tryz.func123.trans (congrArg some (by kernel_rfl))
  t3 := Tryz.underlying3
  a3 := Tryz.isAgg3
  z3 := Tryz.sizeOf3
  v3 := Tryz.zeroValue3
  t4 := Tryz.underlying4
  a4 := Tryz.isAgg4
  z4 := Tryz.sizeOf4
  v4 := Tryz.zeroValue4
  t9 := Tryz.underlying9
  a9 := Tryz.isAgg9
  z9 := Tryz.sizeOf9
  v9 := Tryz.zeroValue9 }
open Go.RowKit Go.Lib in
theorem Tryz.strings_HasPrefix (s p : ByteArray) (w : World) :
    Calls Tryz.prog 100 #[.string s, .string p] w fun e w' => e = .returned (.bool (Lib.hasPrefix s.data.toList p.data.toList)) ∧ w' = w := Any.strings_HasPrefix Tryz.lays99 s p w
def Tryz.lays101_ren : Go.Shelf.Ren := ⟨fun | 101 => 178 | 208 => 195 | 206 => 123 | n => n, fun | 9 => 9 | 4 => 4 | 3 => 3 | n => n, fun | n => n⟩
theorem Tryz.lays101 : Go.Proofs.Lays.n101 Tryz.prog Tryz.lays101_ren := {
  mixed := by kernel_rfl
  f101 := Tryz.func178.trans (congrArg some (by kernel_rfl))
  f206 := Tryz.func123.trans (congrArg some (by kernel_rfl))
  f208 := Tryz.func195.trans (congrArg some (by kernel_rfl))
  t3 := Tryz.underlying3
  a3 := Tryz.isAgg3
  z3 := Tryz.sizeOf3
  v3 := Tryz.zeroValue3
  t4 := Tryz.underlying4
  a4 := Tryz.isAgg4
  z4 := Tryz.sizeOf4
  v4 := Tryz.zeroValue4
  t9 := Tryz.underlying9
  a9 := Tryz.isAgg9
  z9 := Tryz.sizeOf9
  v9 := Tryz.zeroValue9 }
open Go.RowKit Go.Lib in
theorem Tryz.strings_TrimPrefix (s p : ByteArray) (w : World) :
    Calls Tryz.prog 178 #[.string s, .string p] w fun e w' => e = .returned (.string ⟨(Lib.trimPrefix s.data.toList p.data.toList).toArray⟩) ∧ w' = w := Any.strings_TrimPrefix Tryz.lays101 s p w
open Go.RowKit in
theorem Tryz.atoi_ok (s : ByteArray) (hmax : s.size ≤ 9223372036854775806) (v : Int) (h : Lib.atoiAll s.data.toList = .ok v) (w : World) :
    Calls Tryz.prog 150 #[.string s] w fun e w' => e = .returned (.tuple #[.int .i64 v, .nilIface]) ∧ Below w.heap.size w w' := by
  refine (Any.strconv_Atoi_ok Tryz.laysC172 s hmax v h w).mono ?_
  rintro e w' ⟨rfl, h⟩
  refine ⟨rfl, ?_⟩
  rcases h with rfl | ⟨t, rfl⟩
  · exact Below.refl _ _
  · exact Lib.bytesWorld_below _ _ _
open Go.RowKit in
theorem Tryz.atoi_range (s : ByteArray) (hlim : s.size ≤ 281474976710656) (h : Lib.atoiAll s.data.toList = .range) (tp : TypeId) (p : Value) (w : World) (hvar : w.var? Tryz.prog "strconv.ErrRange" = some #[.iface tp p]) :
    Calls Tryz.prog 150 #[.string s] w fun e w' => (∃ N, e = .returned (.tuple #[.int .i64 (Lib.atoiSat s.data.toList), .iface 229 (.pointer (some ⟨N, 0, none⟩))])) ∧ Below w.heap.size w w' := by
  refine (Any.strconv_Atoi_range_var Tryz.laysC172 s hlim h tp p w hvar).mono ?_
  rintro e w' ⟨N, rfl, _, _, h⟩
  exact ⟨⟨N, rfl⟩, h⟩
end Go.Proofs

namespace Go.Proofs.YtcdobniommnflaaGreatDoor
open Go.RowKit

theorem at_is (s : ByteArray) (a : Int) (k : Nat) (t : ByteArray) (b : Bool) (ha : a = (k : Int)) (hb : pre t.data.toList (s.data.toList.drop k) = b) (hk : k ≤ s.size) (hs : s.size ≤ 140737488355328) (ht : t.size ≤ 1000) (w : World) :
    Calls Tryz.prog 78 #[.string s, .int .i64 a, .string t] w fun e w' => e = .returned (.bool b) ∧ w' = w := by
  subst ha hb
  exact at_any s k t hk hs ht w
theorem rword_is (s : ByteArray) (a : Int) (k n : Nat) (ha : a = (k : Int)) (hn : wdLen (s.data.toList.drop k) = n) (hk : k ≤ s.size) (hs : s.size ≤ 140737488355328) (w : World) :
    Calls Tryz.prog 79 #[.string s, .int .i64 a] w fun e w' => e = .returned (.int .i64 (n : Int)) ∧ w' = w := by
  subst ha hn
  exact rword_any s k hk hs w

theorem pre1 {c : UInt8} {r : Txt} : pre [c] r = true ↔ ∃ t, r = c :: t := by
  unfold pre Lib.hasPrefix
  cases r with
  | nil => simp
  | cons d u =>
    simp only [List.isPrefixOf, Bool.and_true, beq_iff_eq]
    constructor
    · rintro rfl; exact ⟨u, rfl⟩
    · rintro ⟨t, h⟩; injection h with h _; exact h.symm
theorem pre1_at {s : ByteArray} {k : Nat} {c : UInt8} (h : pre [c] (s.data.toList.drop k) = true) : ∃ hk : k < s.size, s[k] = c := by
  obtain ⟨t, ht⟩ := pre1.1 h
  by_cases hk : k < s.size
  · rw [drop_at s k hk] at ht
    exact ⟨hk, by injection ht⟩
  · rw [drop_end s k (by omega)] at ht
    cases ht

/-- How many bytes of words with points between, if a word begins there. -/
def rnm (r : Txt) : Nat := if wdLen r = 0 then 0 else nmLen r
def rnmAt (s : ByteArray) (k n : Nat) : Nat := if n = 0 then 0 else n + nmLen (s.data.toList.drop (k + n))
theorem rnm_start (s : ByteArray) (k : Nat) : rnm (s.data.toList.drop k) = rnmAt s k (wdLen (s.data.toList.drop k)) := by
  unfold rnm rnmAt
  split
  · rfl
  · rw [nm_wd (by omega), List.drop_drop]
theorem noW_start {s : ByteArray} {k : Nat} (h : ¬ wdLen (s.data.toList.drop k) = 0) : noW (s.data.toList.drop (k + wdLen (s.data.toList.drop k))) = true := by
  rw [← List.drop_drop]; exact noW_wd (by omega)
theorem rnm_go {s : ByteArray} {k n : Nat} (h0 : 0 < n) (hp : pre [46] (s.data.toList.drop (k + n)) = true) (hw : 0 < wdLen (s.data.toList.drop (k + n + 1))) :
    rnmAt s k n = rnmAt s k (n + (1 + wdLen (s.data.toList.drop (k + n + 1)))) ∧ noW (s.data.toList.drop (k + (n + (1 + wdLen (s.data.toList.drop (k + n + 1)))))) = true := by
  obtain ⟨hlt, hc⟩ := pre1_at hp
  have e : s.data.toList.drop (k + n) = 46 :: s.data.toList.drop (k + n + 1) := by rw [drop_at s _ hlt, hc]
  have e2 : k + (n + (1 + wdLen (s.data.toList.drop (k + n + 1)))) = (k + n + 1) + wdLen (s.data.toList.drop (k + n + 1)) := by omega
  unfold rnmAt
  rw [if_neg (by omega), if_neg (by omega), e, nm_go hw, e2, ← List.drop_drop (i := wdLen (s.data.toList.drop (k + n + 1))) (j := k + n + 1)]
  exact ⟨by omega, noW_wd hw⟩
theorem rnm_end {s : ByteArray} {k n : Nat} (hn : noW (s.data.toList.drop (k + n)) = true) (h : pre [46] (s.data.toList.drop (k + n)) = true → wdLen (s.data.toList.drop (k + n + 1)) = 0) : rnmAt s k n = n := by
  unfold rnmAt
  split
  · omega
  · rw [nm_end hn]; · omega
    intro t ht
    have hp : pre [46] (s.data.toList.drop (k + n)) = true := pre1.2 ⟨t, ht⟩
    obtain ⟨hlt, _⟩ := pre1_at hp
    have := h hp
    rw [drop_at s _ hlt] at ht
    injection ht with _ h2
    rw [← h2]; exact this
theorem wd_drop (s : ByteArray) (k : Nat) (hk : k ≤ s.size) : k + wdLen (s.data.toList.drop k) ≤ s.size := by
  have := wd_le (s.data.toList.drop k)
  rw [len_drop] at this
  omega

def RNm (s : ByteArray) (k n : Nat) : Prop := k + n ≤ s.size ∧ rnm (s.data.toList.drop k) = rnmAt s k n ∧ (n = 0 ∨ noW (s.data.toList.drop (k + n)) = true)

set_option maxHeartbeats 2000000 in
theorem rname_any (s : ByteArray) (k : Nat) (hk : k ≤ s.size) (hs : s.size ≤ 140737488355328) (w : World) :
    Calls Tryz.prog 44 #[.string s, .int .i64 (k : Int)] w fun e w' => e = .returned (.int .i64 (rnm (s.data.toList.drop k) : Int)) ∧ w' = w := by
  obtain ⟨n0, hn0⟩ : ∃ n, wdLen (s.data.toList.drop k) = n := ⟨_, rfl⟩
  have HB : Hid (RNm s k n0) := by
    refine hide ⟨by rw [← hn0]; exact wd_drop s k hk, by rw [← hn0]; exact rnm_start s k, ?_⟩
    by_cases h : n0 = 0
    · exact .inl h
    · exact .inr (by rw [← hn0]; exact noW_start (by rw [hn0]; exact h))
  have H0 := hide hn0
  clear hn0
  go_enter Tryz.func44, Tryz.ntmps44
  go_wp2_with (go_at_call 79; refine (rword_is s _ k n0 rfl (unhide H0) hk hs _).mono ?_; rintro e w' ⟨rfl, rfl⟩)
  go_loop [5] (fun i => ∃ n : Nat, i = .int .i64 (n : Int) ∧ Hid (RNm s k n)) (fun i => s.size - (intOf i).toNat)
  case atStart => exact ⟨n0, rfl, HB⟩
  case round =>
    obtain ⟨n, rfl, HH⟩ := hrel
    have hle := (unhide HH).1
    by_cases h0 : 0 < n
    · cases hp : pre [46] (s.data.toList.drop (k + n)) with
      | true =>
        obtain ⟨hlt, hc⟩ := pre1_at hp
        clear hc
        obtain ⟨m, hm⟩ : ∃ m, wdLen (s.data.toList.drop (k + n + 1)) = m := ⟨_, rfl⟩
        have HM := hide hm
        have hbd := wd_drop s (k + n + 1) (by omega)
        rw [hm] at hbd
        have HP := hide hp
        clear hm hp
        by_cases hw : 0 < m
        · go_wp2_with (first
            | (go_at_call 78; refine (at_is s _ (k + n) ⟨#[46]⟩ true (by omega) (unhide HP) (by omega) hs (by decide) _).mono ?_; rintro e w' ⟨rfl, rfl⟩)
            | (go_at_call 79; refine (rword_is s _ (k + n + 1) m (by omega) (unhide HM) (by omega) hs _).mono ?_; rintro e w' ⟨rfl, rfl⟩))
          go_round
          case rel =>
            have hh := unhide HH
            have hg := rnm_go h0 (unhide HP) (by rw [unhide HM]; exact hw)
            rw [unhide HM] at hg
            exact ⟨n + (1 + m), by go_num, hide ⟨by omega, hh.2.1.trans hg.1, .inr hg.2⟩⟩
          case measure => simp [intOf]; omega
        · go_wp2_with (first
            | (go_at_call 78; refine (at_is s _ (k + n) ⟨#[46]⟩ true (by omega) (unhide HP) (by omega) hs (by decide) _).mono ?_; rintro e w' ⟨rfl, rfl⟩)
            | (go_at_call 79; refine (rword_is s _ (k + n + 1) m (by omega) (unhide HM) (by omega) hs _).mono ?_; rintro e w' ⟨rfl, rfl⟩))
          go_ret
          have hh := unhide HH
          have hno : noW (s.data.toList.drop (k + n)) = true := by
            rcases hh.2.2 with h | h
            · omega
            · exact h
          exact ⟨ret_int (by rw [hh.2.1, rnm_end hno (fun _ => by rw [unhide HM]; omega)]), rfl⟩
      | false =>
        have HP := hide hp
        clear hp
        go_wp2_with (go_at_call 78; refine (at_is s _ (k + n) ⟨#[46]⟩ false (by omega) (unhide HP) (by omega) hs (by decide) _).mono ?_; rintro e w' ⟨rfl, rfl⟩)
        go_ret
        have hh := unhide HH
        have hno : noW (s.data.toList.drop (k + n)) = true := by
          rcases hh.2.2 with h | h
          · omega
          · exact h
        exact ⟨ret_int (by rw [hh.2.1, rnm_end hno (fun h => by rw [unhide HP] at h; cases h)]), rfl⟩
    · go_wp2
      go_ret
      have hh := unhide HH
      have e0 : n = 0 := by omega
      subst e0
      exact ⟨ret_int (by rw [hh.2.1]; rfl), rfl⟩

def nameP (l : Txt) : Bool := decide (l ≠ []) && decide (l.length ≤ 64) && decide (wdLen l ≠ 0) && decide (nmLen l = l.length)
theorem nm_at0 (s : ByteArray) (hs : s.size ≤ 140737488355328) (w : World) :
    Calls Tryz.prog 126 #[.string s, .int .i64 0] w fun e w' => e = .returned (.int .i64 ((nmLen s.data.toList : Nat) : Int)) ∧ w' = w := by
  have := nameEnd_any s 0 (Nat.zero_le _) hs w
  rw [List.drop_zero, Nat.zero_add] at this
  exact this
theorem size_len (s : ByteArray) : s.size = s.data.toList.length := by rw [Array.length_toList]; rfl
theorem data_cons {s : ByteArray} (h : 0 < s.size) : s.data.toList = s[0] :: s.data.toList.drop 1 := by
  have := drop_at s 0 h
  rwa [List.drop_zero] at this
theorem empty_of {s : ByteArray} (h : ¬ 0 < s.size) : s = ⟨#[]⟩ := ByteArray.ext (Array.eq_empty_of_size_eq_zero (by have : s.size = s.data.size := rfl; omega))



theorem rn_at0 (s : ByteArray) (hs : s.size ≤ 140737488355328) (w : World) :
    Calls Tryz.prog 44 #[.string s, .int .i64 0] w fun e w' => e = .returned (.int .i64 (rnm s.data.toList : Int)) ∧ w' = w := by
  have := rname_any s 0 (Nat.zero_le _) hs w
  rw [List.drop_zero] at this
  exact this
theorem rw_at0 (s : ByteArray) (hs : s.size ≤ 140737488355328) (w : World) :
    Calls Tryz.prog 79 #[.string s, .int .i64 0] w fun e w' => e = .returned (.int .i64 (wdLen s.data.toList : Int)) ∧ w' = w := by
  have := rword_any s 0 (Nat.zero_le _) hs w
  rw [List.drop_zero] at this
  exact this
theorem nameP_r {l : Txt} (h : l ≠ []) : nameP l = (decide (rnm l = l.length) && decide (l.length ≤ 64)) := by
  have hl : 0 < l.length := List.length_pos_iff.2 h
  unfold nameP rnm
  rw [decide_eq_true h, Bool.true_and, Bool.eq_iff_iff]
  by_cases hw : wdLen l = 0
  · rw [if_pos hw]; simp [hw]; omega
  · rw [if_neg hw]; simp [hw, and_comm]



def wordP (l : Txt) : Bool := decide (l ≠ []) && decide (wdLen l = l.length) && decide (l.length ≤ 64)
set_option maxHeartbeats 1000000 in
theorem rWord_any (s : ByteArray) (hs : s.size ≤ 140737488355328) (w : World) :
    Calls Tryz.prog 93 #[.string s] w fun e w' => e = .returned (.bool (wordP s.data.toList)) ∧ w' = w := by
  by_cases h0 : 0 < s.size
  · have hne : s.toList.isEmpty = false := by rw [Lib.toList_data, data_cons h0]; rfl
    have H := hide (show wordP s.data.toList = (decide (wdLen s.data.toList = s.size) && decide (s.size ≤ 64)) by
      unfold wordP; rw [decide_eq_true (by rw [data_cons h0]; simp), ← size_len, Bool.true_and])
    go_enter Tryz.func93, Tryz.ntmps93
    by_cases he : wdLen s.data.toList = s.size
    · have he2 : ((wdLen s.data.toList : Int) == (s.size : Int)) = true := by rw [beq_iff_eq, he]
      have HE := hide he
      clear he
      go_wp2_with (go_at_call 79; refine (rw_at0 s hs _).mono ?_; rintro e w' ⟨rfl, rfl⟩)
      go_ret
      refine ⟨ret_bool ?_, rfl⟩
      rw [unhide H, decide_eq_true (unhide HE), Bool.true_and, Bool.eq_iff_iff]
      simp <;> omega
    · have he2 : ((wdLen s.data.toList : Int) == (s.size : Int)) = false := by rw [beq_eq_false_iff_ne]; omega
      have HE := hide he
      clear he
      go_wp2_with (go_at_call 79; refine (rw_at0 s hs _).mono ?_; rintro e w' ⟨rfl, rfl⟩)
      go_ret
      exact ⟨ret_bool (by rw [unhide H, decide_eq_false (unhide HE)]; rfl), rfl⟩
  · have e := empty_of h0
    subst e
    go_enter Tryz.func93, Tryz.ntmps93
    go_wp2
    go_ret
    exact ⟨rfl, rfl⟩

theorem idx_mem (c : UInt8) : ∀ l : Txt, 0 ≤ Lib.indexByte l c ↔ c ∈ l
  | [] => by simp [Lib.indexByte]
  | b :: l => by
    unfold Lib.indexByte
    by_cases h : b = c
    · subst h; simp
    · rw [if_neg (by simp [h])]
      have ih := idx_mem c l
      have h2 : ¬ c = b := fun e => h e.symm
      by_cases hm : Lib.indexByte l c = -1
      · rw [if_pos (by simp [hm])]
        have : ¬ c ∈ l := fun hc => by have := ih.2 hc; omega
        simp [this, h2]
      · rw [if_neg (by simp [hm])]
        have hge : -1 ≤ Lib.indexByte l c := by
          clear ih hm h h2
          induction l with
          | nil => simp [Lib.indexByte]
          | cons d m ih => unfold Lib.indexByte; split; · decide
                           · split
                             · decide
                             · omega
        have h0 : 0 ≤ Lib.indexByte l c := by omega
        have := ih.1 h0
        simp [this]; omega
theorem nm_noW {r : Txt} (h : noW r = true) (h2 : nmLen r ≠ 0) : ∃ t, r = 46 :: t := by
  cases r with
  | nil => exact absurd rfl h2
  | cons c t =>
    by_cases hc : c = 46
    · exact ⟨t, by rw [hc]⟩
    · exact absurd (nm_stop (by simpa [noW] using h) (fun _ _ _ e => absurd e hc)) h2
theorem wcn_all : ∀ l : Txt, wcn l = l.length → ∀ c ∈ l, inW (bv c) = true
  | [], _, _, h => by cases h
  | d :: l, hl, c, hc => by
    unfold wcn at hl
    split at hl
    · rename_i hd
      rcases List.mem_cons.1 hc with rfl | hc
      · exact hd
      · exact wcn_all l (by simp only [List.length_cons] at hl; omega) c hc
    · simp at hl
theorem wd_all {l : Txt} (hl : wdLen l = l.length) : ∀ c ∈ l, inW (bv c) = true := by
  cases l with
  | nil => intro c h; cases h
  | cons d t =>
    rw [wd_cons] at hl
    split at hl
    · rename_i hd
      intro c hc
      rcases List.mem_cons.1 hc with rfl | hc
      · exact inW_L hd
      · exact wcn_all t (by simp only [List.length_cons] at hl; omega) c hc
    · simp at hl
theorem word_eq (l : Txt) : wordP l = (nameP l && !decide (0 ≤ Lib.indexByte l 46)) := by
  by_cases hne : l = []
  · subst hne; rfl
  · have hlen : 0 < l.length := List.length_pos_iff.2 hne
    rw [Bool.eq_iff_iff]
    unfold wordP nameP
    simp only [Bool.and_eq_true, decide_eq_true_eq, Bool.not_eq_true', decide_eq_false_iff_not]
    rw [idx_mem]
    constructor
    · rintro ⟨⟨h1, h2⟩, h3⟩
      have hw : 0 < wdLen l := by omega
      have e := nm_wd hw
      rw [h2, List.drop_of_length_le (Nat.le_refl _)] at e
      exact ⟨⟨⟨⟨h1, h3⟩, by omega⟩, e⟩, fun hm => by have := wd_all h2 46 hm; rw [inW46] at this; cases this⟩
    · rintro ⟨⟨⟨⟨h1, h3⟩, h4⟩, h5⟩, h6⟩
      refine ⟨⟨h1, ?_⟩, h3⟩
      have hw : 0 < wdLen l := by omega
      have e := nm_wd hw
      by_cases hz : nmLen (l.drop (wdLen l)) = 0
      · omega
      · obtain ⟨t, ht⟩ := nm_noW (noW_wd hw) hz
        exact absurd (List.mem_of_mem_drop (i := wdLen l) (by rw [ht]; simp)) h6

end Go.Proofs.YtcdobniommnflaaGreatDoor
