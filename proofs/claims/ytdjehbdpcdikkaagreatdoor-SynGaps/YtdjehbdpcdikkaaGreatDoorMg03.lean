/- The library's contracts that the lexer's walk takes, laid at this program. Walks of words and names, the program's and the document's. Walks of the gaps: a line's end, a comment's length, and where no gap stands. -/
import Derived.Shelf.Small.Strs
import Derived.Shelf.Small.Wraps
import Derived.Shelf.LaysM
import Derived.Shelf.LaysC
import Derived.Shelf.Strconv.Clone
import Derived.Shelf.Strconv.AtoiAll
import Derived.Shelf.Strconv.ErrVarAll
import Derived.Shelf.Strings.Search3
import Derived.Shelf.Strings.Shaped
import Derived.Shelf.Strings.Prefix
import Derived.Lib.AtoiTie
import Derived.Lib.AtoiErrMem
import Derived.Test.YtdjehbdpcdikkaaGreatDoorProg
import Derived.Test.YtdjehbdpcdikkaaGreatDoorMg02
import Derived.Below
namespace Go.Proofs
open Go.Shelf
def Tryz.lays137_ren : Go.Shelf.Ren := ⟨fun | 137 => 122 | 217 => 144 | 266 => 172 | n => n, fun | 9 => 9 | 5 => 5 | 3 => 3 | n => n, fun | n => n⟩
theorem Tryz.lays137 : Go.Proofs.Lays.n137 Tryz.prog Tryz.lays137_ren := {
  mixed := by kernel_rfl
  f137 := Tryz.func122.trans (congrArg some (by kernel_rfl))
  f217 := Tryz.func144.trans (congrArg some (by kernel_rfl))
  f266 := Tryz.func172.trans (congrArg some (by kernel_rfl))
  t3 := Tryz.underlying3
  a3 := Tryz.isAgg3
  z3 := Tryz.sizeOf3
  v3 := Tryz.zeroValue3
  t5 := Tryz.underlying5
  a5 := Tryz.isAgg5
  z5 := Tryz.sizeOf5
  v5 := Tryz.zeroValue5
  t9 := Tryz.underlying9
  a9 := Tryz.isAgg9
  z9 := Tryz.sizeOf9
  v9 := Tryz.zeroValue9 }
open Go.RowKit in
theorem Tryz.strings_IndexByte (s : ByteArray) (c : Int) (w : World) :
    Calls Tryz.prog 122 #[.string s, .int .u8 c] w fun e w' => e = .returned (.int .i64 (Lib.indexByte s.data.toList c.toNat.toUInt8)) ∧ w' = w := Any.strings_IndexByte Tryz.lays137 s c w
def Tryz.lays103_ren : Go.Shelf.Ren := ⟨fun | 103 => 149 | 210 => 180 | 206 => 121 | n => n, fun | 9 => 9 | 4 => 4 | 24 => 195 | 3 => 3 | n => n, fun | n => n⟩
theorem Tryz.lays103 : Go.Proofs.Lays.n103 Tryz.prog Tryz.lays103_ren := {
  mixed := by kernel_rfl
  f103 := Tryz.func149.trans (congrArg some (by kernel_rfl))
  f206 := Tryz.func121.trans (congrArg some (by kernel_rfl))
  f210 := Tryz.func180.trans (congrArg some (by kernel_rfl))
  t3 := Tryz.underlying3
  a3 := Tryz.isAgg3
  z3 := Tryz.sizeOf3
  v3 := Tryz.zeroValue3
  t4 := Tryz.underlying4
  a4 := Tryz.isAgg4
  z4 := Tryz.sizeOf4
  v4 := Tryz.zeroValue4
  t9 := Tryz.underlying9
  a9 := Tryz.isAgg9
  z9 := Tryz.sizeOf9
  v9 := Tryz.zeroValue9
  t24 := Tryz.underlying195
  a24 := Tryz.isAgg195
  z24 := Tryz.sizeOf195
  v24 := Tryz.zeroValue195 }
open Go.RowKit in
theorem Tryz.strings_CutPrefix (s p : ByteArray) (w : World) :
    Calls Tryz.prog 149 #[.string s, .string p] w fun e w' => e = .returned (.tuple #[.string ⟨(Lib.trimPrefix s.data.toList p.data.toList).toArray⟩, .bool (Lib.hasPrefix s.data.toList p.data.toList)]) ∧ w' = w := Any.strings_CutPrefix Tryz.lays103 s p w
def Tryz.laysM316_ren : Go.Shelf.Ren := ⟨fun | 316 => 146 | n => n, fun | 9 => 9 | 3 => 3 | 4 => 4 | 37 => 104 | 0 => 0 | 127 => 149 | 5 => 5 | n => n, fun | n => n⟩
theorem Tryz.laysM316 : Go.Proofs.LaysM.n316 Tryz.prog Tryz.laysM316_ren := {
  mixed := by kernel_rfl
  f316 := Tryz.func146.trans (congrArg some (by kernel_rfl))
  t0 := Tryz.underlying0
  a0 := Tryz.isAgg0
  z0 := Tryz.sizeOf0
  v0 := Tryz.zeroValue0
  t3 := Tryz.underlying3
  a3 := Tryz.isAgg3
  z3 := Tryz.sizeOf3
  v3 := Tryz.zeroValue3
  t4 := Tryz.underlying4
  a4 := Tryz.isAgg4
  z4 := Tryz.sizeOf4
  v4 := Tryz.zeroValue4
  t9 := Tryz.underlying9
  a9 := Tryz.isAgg9
  z9 := Tryz.sizeOf9
  v9 := Tryz.zeroValue9
  t37 := Tryz.underlying104
  a37 := Tryz.isAgg104
  z37 := Tryz.sizeOf104
  v37 := Tryz.zeroValue104
  t127 := Tryz.underlying149
  a127 := Tryz.isAgg149
  z127 := Tryz.sizeOf149
  v127 := Tryz.zeroValue149
  t5 := Tryz.underlying5
  a5 := Tryz.isAgg5
  z5 := Tryz.sizeOf5
  v5 := Tryz.zeroValue5
  i0 := by kernel_rfl
  i3 := by kernel_rfl
  i4 := by kernel_rfl
  i5 := by kernel_rfl
  i9 := by kernel_rfl
  i37 := by kernel_rfl
  i127 := by kernel_rfl }
open Go.RowKit in
theorem Tryz.stringslite_Clone (s : ByteArray) (w : World) (hlim : s.size ≤ 281474976710656) :
    Calls Tryz.prog 146 #[.string s] w fun e w' => e = .returned (.string s) ∧ Below w.heap.size w w' := Any.stringslite_Clone Tryz.laysM316 s w hlim
def Tryz.laysC172_ren : Go.Shelf.Ren := ⟨fun | 172 => 148 | 244 => 178 | 245 => 179 | 247 => 194 | 279 => 195 | 280 => 196 | 281 => 197 | 282 => 198 | 287 => 208 | 316 => 146 | 171 => 187 | 205 => 209 | 321 => 216 | 322 => 217 | 243 => 204 | 246 => 212 | 283 => 220 | 284 => 221 | 285 => 222 | 286 => 223 | 129 => 228 | 317 => 227 | 318 => 229 | 319 => 230 | 320 => 231 | 337 => 232 | 338 => 233 | n => n, fun | 9 => 9 | 3 => 3 | 75 => 188 | 76 => 189 | 4 => 4 | 5 => 5 | 167 => 225 | 37 => 104 | 0 => 0 | 85 => 226 | 2 => 2 | 168 => 228 | 53 => 237 | 175 => 238 | 46 => 211 | 210 => 241 | 127 => 149 | 145 => 250 | 143 => 248 | 21 => 21 | 171 => 251 | 173 => 254 | 212 => 257 | 51 => 222 | 20 => 20 | 213 => 258 | 232 => 262 | 233 => 263 | 80 => 110 | n => n, fun | 15 => 3 | 16 => 4 | 17 => 5 | 18 => 6 | 19 => 7 | n => n⟩
theorem Tryz.laysC172 : Go.Proofs.LaysC.n172 Tryz.prog Tryz.laysC172_ren := {
  mixed := by kernel_rfl
  f129 := Tryz.func228.trans (congrArg some (by kernel_rfl))
  f171 := Tryz.func187.trans (congrArg some (by kernel_rfl))
  f172 := Tryz.func148.trans (congrArg some (by kernel_rfl))
  f205 := Tryz.func209.trans (congrArg some (by kernel_rfl))
  f243 := Tryz.func204.trans (congrArg some (by kernel_rfl))
  f244 := Tryz.func178.trans (congrArg some (by kernel_rfl))
  f245 := Tryz.func179.trans (congrArg some (by kernel_rfl))
  f246 := Tryz.func212.trans (congrArg some (by kernel_rfl))
  f247 := Tryz.func194.trans (congrArg some (by kernel_rfl))
  f279 := Tryz.func195.trans (congrArg some (by kernel_rfl))
  f280 := Tryz.func196.trans (congrArg some (by kernel_rfl))
  f281 := Tryz.func197.trans (congrArg some (by kernel_rfl))
  f282 := Tryz.func198.trans (congrArg some (by kernel_rfl))
  f283 := Tryz.func220.trans (congrArg some (by kernel_rfl))
  f284 := Tryz.func221.trans (congrArg some (by kernel_rfl))
  f285 := Tryz.func222.trans (congrArg some (by kernel_rfl))
  f286 := Tryz.func223.trans (congrArg some (by kernel_rfl))
  f287 := Tryz.func208.trans (congrArg some (by kernel_rfl))
  f316 := Tryz.func146.trans (congrArg some (by kernel_rfl))
  f317 := Tryz.func227.trans (congrArg some (by kernel_rfl))
  f318 := Tryz.func229.trans (congrArg some (by kernel_rfl))
  f319 := Tryz.func230.trans (congrArg some (by kernel_rfl))
  f320 := Tryz.func231.trans (congrArg some (by kernel_rfl))
  f321 := Tryz.func216.trans (congrArg some (by kernel_rfl))
  f322 := Tryz.func217.trans (congrArg some (by kernel_rfl))
  f337 := Tryz.func232.trans (congrArg some (by kernel_rfl))
  f338 := Tryz.func233.trans (congrArg some (by kernel_rfl))
  t0 := Tryz.underlying0
  a0 := Tryz.isAgg0
  z0 := Tryz.sizeOf0
  v0 := Tryz.zeroValue0
  t2 := Tryz.underlying2
  a2 := Tryz.isAgg2
  z2 := Tryz.sizeOf2
  v2 := Tryz.zeroValue2
  t3 := Tryz.underlying3
  a3 := Tryz.isAgg3
  z3 := Tryz.sizeOf3
  v3 := Tryz.zeroValue3
  t4 := Tryz.underlying4
  a4 := Tryz.isAgg4
  z4 := Tryz.sizeOf4
  v4 := Tryz.zeroValue4
  t5 := Tryz.underlying5
  a5 := Tryz.isAgg5
  z5 := Tryz.sizeOf5
  v5 := Tryz.zeroValue5
  t9 := Tryz.underlying9
  a9 := Tryz.isAgg9
  z9 := Tryz.sizeOf9
  v9 := Tryz.zeroValue9
  t20 := Tryz.underlying20
  a20 := Tryz.isAgg20
  z20 := Tryz.sizeOf20
  v20 := Tryz.zeroValue20
  t21 := Tryz.underlying21
  a21 := Tryz.isAgg21
  z21 := Tryz.sizeOf21
  v21 := Tryz.zeroValue21
  t37 := Tryz.underlying104
  a37 := Tryz.isAgg104
  z37 := Tryz.sizeOf104
  v37 := Tryz.zeroValue104
  t46 := Tryz.underlying211
  a46 := Tryz.isAgg211
  z46 := Tryz.sizeOf211
  v46 := Tryz.zeroValue211
  t51 := Tryz.underlying222
  a51 := Tryz.isAgg222
  z51 := Tryz.sizeOf222
  v51 := Tryz.zeroValue222
  t53 := Tryz.underlying237
  a53 := Tryz.isAgg237
  z53 := Tryz.sizeOf237
  v53 := Tryz.zeroValue237
  t75 := Tryz.underlying188
  a75 := Tryz.isAgg188
  z75 := Tryz.sizeOf188
  v75 := Tryz.zeroValue188
  t76 := Tryz.underlying189
  a76 := Tryz.isAgg189
  z76 := Tryz.sizeOf189
  v76 := Tryz.zeroValue189
  t85 := Tryz.underlying226
  a85 := Tryz.isAgg226
  z85 := Tryz.sizeOf226
  v85 := Tryz.zeroValue226
  t127 := Tryz.underlying149
  a127 := Tryz.isAgg149
  z127 := Tryz.sizeOf149
  v127 := Tryz.zeroValue149
  t143 := Tryz.underlying248
  a143 := Tryz.isAgg248
  z143 := Tryz.sizeOf248
  v143 := Tryz.zeroValue248
  t145 := Tryz.underlying250
  a145 := Tryz.isAgg250
  z145 := Tryz.sizeOf250
  v145 := Tryz.zeroValue250
  t167 := Tryz.underlying225
  a167 := Tryz.isAgg225
  z167 := Tryz.sizeOf225
  v167 := Tryz.zeroValue225
  t168 := Tryz.underlying228
  a168 := Tryz.isAgg228
  z168 := Tryz.sizeOf228
  v168 := Tryz.zeroValue228
  t171 := Tryz.underlying251
  a171 := Tryz.isAgg251
  z171 := Tryz.sizeOf251
  v171 := Tryz.zeroValue251
  t173 := Tryz.underlying254
  a173 := Tryz.isAgg254
  z173 := Tryz.sizeOf254
  v173 := Tryz.zeroValue254
  t175 := Tryz.underlying238
  a175 := Tryz.isAgg238
  z175 := Tryz.sizeOf238
  v175 := Tryz.zeroValue238
  t210 := Tryz.underlying241
  a210 := Tryz.isAgg241
  z210 := Tryz.sizeOf241
  v210 := Tryz.zeroValue241
  t212 := Tryz.underlying257
  a212 := Tryz.isAgg257
  z212 := Tryz.sizeOf257
  v212 := Tryz.zeroValue257
  t213 := Tryz.underlying258
  a213 := Tryz.isAgg258
  z213 := Tryz.sizeOf258
  t232 := Tryz.underlying262
  a232 := Tryz.isAgg262
  z232 := Tryz.sizeOf262
  v232 := Tryz.zeroValue262
  t233 := Tryz.underlying263
  a233 := Tryz.isAgg263
  z233 := Tryz.sizeOf263
  v233 := Tryz.zeroValue263
  g15 := by kernel_rfl
  g16 := by kernel_rfl
  g17 := by kernel_rfl
  g18 := by kernel_rfl
  g19 := by kernel_rfl
  t80 := Tryz.underlying110
  a80 := Tryz.isAgg110
  z80 := Tryz.sizeOf110
  v80 := Tryz.zeroValue110
  i0 := by kernel_rfl
  i2 := by kernel_rfl
  i3 := by kernel_rfl
  i4 := by kernel_rfl
  i5 := by kernel_rfl
  i9 := by kernel_rfl
  i20 := by kernel_rfl
  i21 := by kernel_rfl
  i37 := by kernel_rfl
  i46 := by kernel_rfl
  i51 := by kernel_rfl
  i53 := by kernel_rfl
  i75 := by kernel_rfl
  i76 := by kernel_rfl
  i80 := by kernel_rfl
  i85 := by kernel_rfl
  i127 := by kernel_rfl
  i143 := by kernel_rfl
  i145 := by kernel_rfl
  i167 := by kernel_rfl
  i168 := by kernel_rfl
  i171 := by kernel_rfl
  i173 := by kernel_rfl
  i175 := by kernel_rfl
  i210 := by kernel_rfl
  i212 := by kernel_rfl
  i232 := by kernel_rfl
  i233 := by kernel_rfl
  m15 := by kernel_rfl
  m16 := by kernel_rfl
  m17 := by kernel_rfl
  m18 := by kernel_rfl
  m19 := by kernel_rfl
  c0 := by kernel_rfl
  c2 := by kernel_rfl
  c3 := by kernel_rfl
  c4 := by kernel_rfl
  c5 := by kernel_rfl
  c9 := by kernel_rfl
  c20 := by kernel_rfl
  c21 := by kernel_rfl
  c37 := by kernel_rfl
  c46 := by kernel_rfl
  c51 := by kernel_rfl
  c53 := by kernel_rfl
  c75 := by kernel_rfl
  c76 := by kernel_rfl
  c80 := by kernel_rfl
  c85 := by kernel_rfl
  c127 := by kernel_rfl
  c143 := by kernel_rfl
  c145 := by kernel_rfl
  c167 := by kernel_rfl
  c168 := by kernel_rfl
  c171 := by kernel_rfl
  c173 := by kernel_rfl
  c175 := by kernel_rfl
  c210 := by kernel_rfl
  c212 := by kernel_rfl
  c213 := by kernel_rfl
  c232 := by kernel_rfl
  c233 := by kernel_rfl }
def Tryz.lays143_ren : Go.Shelf.Ren := ⟨fun | 143 => 123 | 219 => 145 | 217 => 144 | 225 => 173 | 224 => 174 | 267 => 175 | 266 => 172 | 314 => 192 | n => n, fun | 9 => 9 | 3 => 3 | 4 => 4 | 5 => 5 | 46 => 211 | 146 => 223 | 51 => 222 | n => n, fun | 1 => 2 | n => n⟩
theorem Tryz.lays143 : Go.Proofs.Lays.n143 Tryz.prog Tryz.lays143_ren := {
  mixed := by kernel_rfl
  f143 := Tryz.func123.trans (congrArg some (by kernel_rfl))
  f217 := Tryz.func144.trans (congrArg some (by kernel_rfl))
  f219 := Tryz.func145.trans (congrArg some (by kernel_rfl))
  f224 := Tryz.func174.trans (congrArg some (by kernel_rfl))
  f225 := Tryz.func173.trans (congrArg some (by kernel_rfl))
  f266 := Tryz.func172.trans (congrArg some (by kernel_rfl))
  f267 := Tryz.func175.trans (congrArg some (by kernel_rfl))
  f314 := Tryz.func192.trans (congrArg some (by kernel_rfl))
  t3 := Tryz.underlying3
  a3 := Tryz.isAgg3
  z3 := Tryz.sizeOf3
  v3 := Tryz.zeroValue3
  t4 := Tryz.underlying4
  a4 := Tryz.isAgg4
  z4 := Tryz.sizeOf4
  v4 := Tryz.zeroValue4
  t5 := Tryz.underlying5
  a5 := Tryz.isAgg5
  z5 := Tryz.sizeOf5
  v5 := Tryz.zeroValue5
  t9 := Tryz.underlying9
  a9 := Tryz.isAgg9
  z9 := Tryz.sizeOf9
  v9 := Tryz.zeroValue9
  t46 := Tryz.underlying211
  a46 := Tryz.isAgg211
  z46 := Tryz.sizeOf211
  v46 := Tryz.zeroValue211
  t51 := Tryz.underlying222
  a51 := Tryz.isAgg222
  z51 := Tryz.sizeOf222
  v51 := Tryz.zeroValue222
  t146 := Tryz.underlying223
  a146 := Tryz.isAgg223
  z146 := Tryz.sizeOf223
  v146 := Tryz.zeroValue223
  g1 := by kernel_rfl }
open Go.RowKit Go.Lib in
theorem Tryz.strings_Index (s sub : ByteArray) (m : Int) (w : World) (hs : s.size < 4294967281) (hm : w.cell? ⟨2, 0, none⟩ = some (.int .i64 m)) :
    Calls Tryz.prog 123 #[.string s, .string sub] w fun e w' => e = .returned (.int .i64 (Lib.index s.data.toList sub.data.toList)) ∧ w' = w := Any.strings_Index Tryz.lays143 s sub m w hs hm
def Tryz.lays144_ren : Go.Shelf.Ren := ⟨fun | 144 => 199 | 143 => 123 | 219 => 145 | 217 => 144 | 225 => 173 | 224 => 174 | 267 => 175 | 266 => 172 | 314 => 192 | n => n, fun | 9 => 9 | 4 => 4 | 3 => 3 | 5 => 5 | 46 => 211 | 146 => 223 | 51 => 222 | n => n, fun | 1 => 2 | n => n⟩
theorem Tryz.lays144 : Go.Proofs.Lays.n144 Tryz.prog Tryz.lays144_ren := {
  mixed := by kernel_rfl
  f143 := Tryz.func123.trans (congrArg some (by kernel_rfl))
  f144 := Tryz.func199.trans (congrArg some (by kernel_rfl))
  f217 := Tryz.func144.trans (congrArg some (by kernel_rfl))
  f219 := Tryz.func145.trans (congrArg some (by kernel_rfl))
  f224 := Tryz.func174.trans (congrArg some (by kernel_rfl))
  f225 := Tryz.func173.trans (congrArg some (by kernel_rfl))
  f266 := Tryz.func172.trans (congrArg some (by kernel_rfl))
  f267 := Tryz.func175.trans (congrArg some (by kernel_rfl))
  f314 := Tryz.func192.trans (congrArg some (by kernel_rfl))
  t3 := Tryz.underlying3
  a3 := Tryz.isAgg3
  z3 := Tryz.sizeOf3
  v3 := Tryz.zeroValue3
  t4 := Tryz.underlying4
  a4 := Tryz.isAgg4
  z4 := Tryz.sizeOf4
  v4 := Tryz.zeroValue4
  t5 := Tryz.underlying5
  a5 := Tryz.isAgg5
  z5 := Tryz.sizeOf5
  v5 := Tryz.zeroValue5
  t9 := Tryz.underlying9
  a9 := Tryz.isAgg9
  z9 := Tryz.sizeOf9
  v9 := Tryz.zeroValue9
  t46 := Tryz.underlying211
  a46 := Tryz.isAgg211
  z46 := Tryz.sizeOf211
  v46 := Tryz.zeroValue211
  t51 := Tryz.underlying222
  a51 := Tryz.isAgg222
  z51 := Tryz.sizeOf222
  v51 := Tryz.zeroValue222
  t146 := Tryz.underlying223
  a146 := Tryz.isAgg223
  z146 := Tryz.sizeOf223
  v146 := Tryz.zeroValue223
  g1 := by kernel_rfl }
open Go.RowKit Go.Lib in
theorem Tryz.strings_Contains_one (s : ByteArray) (c : UInt8) (w : World) :
    Calls Tryz.prog 199 #[.string s, .string ⟨#[c]⟩] w fun e w' => e = .returned (.bool (decide (0 ≤ Lib.indexByte s.data.toList c))) ∧ w' = w := Any.strings_Contains_one Tryz.lays144 s c w
def Tryz.laysM143_ren : Go.Shelf.Ren := ⟨fun | 143 => 123 | 219 => 145 | 217 => 144 | 225 => 173 | 224 => 174 | 267 => 175 | 266 => 172 | 314 => 192 | n => n, fun | 9 => 9 | 3 => 3 | 4 => 4 | 5 => 5 | 46 => 211 | 146 => 223 | 51 => 222 | n => n, fun | 1 => 2 | n => n⟩
theorem Tryz.laysM143 : Go.Proofs.LaysM.n143 Tryz.prog Tryz.laysM143_ren := {
  mixed := by kernel_rfl
  f143 := Tryz.func123.trans (congrArg some (by kernel_rfl))
  f217 := Tryz.func144.trans (congrArg some (by kernel_rfl))
  f219 := Tryz.func145.trans (congrArg some (by kernel_rfl))
  f224 := Tryz.func174.trans (congrArg some (by kernel_rfl))
  f225 := Tryz.func173.trans (congrArg some (by kernel_rfl))
  f266 := Tryz.func172.trans (congrArg some (by kernel_rfl))
  f267 := Tryz.func175.trans (congrArg some (by kernel_rfl))
  f314 := Tryz.func192.trans (congrArg some (by kernel_rfl))
  t3 := Tryz.underlying3
  a3 := Tryz.isAgg3
  z3 := Tryz.sizeOf3
  v3 := Tryz.zeroValue3
  t4 := Tryz.underlying4
  a4 := Tryz.isAgg4
  z4 := Tryz.sizeOf4
  v4 := Tryz.zeroValue4
  t5 := Tryz.underlying5
  a5 := Tryz.isAgg5
  z5 := Tryz.sizeOf5
  v5 := Tryz.zeroValue5
  t9 := Tryz.underlying9
  a9 := Tryz.isAgg9
  z9 := Tryz.sizeOf9
  v9 := Tryz.zeroValue9
  t46 := Tryz.underlying211
  a46 := Tryz.isAgg211
  z46 := Tryz.sizeOf211
  v46 := Tryz.zeroValue211
  t51 := Tryz.underlying222
  a51 := Tryz.isAgg222
  z51 := Tryz.sizeOf222
  v51 := Tryz.zeroValue222
  t146 := Tryz.underlying223
  a146 := Tryz.isAgg223
  z146 := Tryz.sizeOf223
  v146 := Tryz.zeroValue223
  g1 := by kernel_rfl
  i3 := by kernel_rfl
  i4 := by kernel_rfl
  i5 := by kernel_rfl
  i9 := by kernel_rfl
  i46 := by kernel_rfl
  i51 := by kernel_rfl
  i146 := by kernel_rfl
  m1 := by kernel_rfl
  s1_3 := fun w h => Go.Proofs.cell_of_shapedOpen_int (zero := #[.int .i64 0]) (t := 3) h (of_decide_eq_true (by kernel_rfl)) (by kernel_rfl) rfl (by kernel_rfl) (by kernel_rfl) Tryz.underlying3 }
def Tryz.lays99_ren : Go.Shelf.Ren := ⟨fun | 99 => 98 | 206 => 121 | n => n, fun | 9 => 9 | 4 => 4 | 3 => 3 | n => n, fun | n => n⟩
theorem Tryz.lays99 : Go.Proofs.Lays.n99 Tryz.prog Tryz.lays99_ren := {
  mixed := by kernel_rfl
  f99 := Tryz.func98.trans (congrArg some (by kernel_rfl))
  f206 := Tryz.func121.trans (congrArg some (by kernel_rfl))
  t3 := Tryz.underlying3
  a3 := Tryz.isAgg3
  z3 := Tryz.sizeOf3
  v3 := Tryz.zeroValue3
  t4 := Tryz.underlying4
  a4 := Tryz.isAgg4
  z4 := Tryz.sizeOf4
  v4 := Tryz.zeroValue4
  t9 := Tryz.underlying9
  a9 := Tryz.isAgg9
  z9 := Tryz.sizeOf9
  v9 := Tryz.zeroValue9 }
open Go.RowKit Go.Lib in
theorem Tryz.strings_HasPrefix (s p : ByteArray) (w : World) :
    Calls Tryz.prog 98 #[.string s, .string p] w fun e w' => e = .returned (.bool (Lib.hasPrefix s.data.toList p.data.toList)) ∧ w' = w := Any.strings_HasPrefix Tryz.lays99 s p w
def Tryz.lays101_ren : Go.Shelf.Ren := ⟨fun | 101 => 176 | 208 => 193 | 206 => 121 | n => n, fun | 9 => 9 | 4 => 4 | 3 => 3 | n => n, fun | n => n⟩
theorem Tryz.lays101 : Go.Proofs.Lays.n101 Tryz.prog Tryz.lays101_ren := {
  mixed := by kernel_rfl
  f101 := Tryz.func176.trans (congrArg some (by kernel_rfl))
  f206 := Tryz.func121.trans (congrArg some (by kernel_rfl))
  f208 := Tryz.func193.trans (congrArg some (by kernel_rfl))
  t3 := Tryz.underlying3
  a3 := Tryz.isAgg3
  z3 := Tryz.sizeOf3
  v3 := Tryz.zeroValue3
  t4 := Tryz.underlying4
  a4 := Tryz.isAgg4
  z4 := Tryz.sizeOf4
  v4 := Tryz.zeroValue4
  t9 := Tryz.underlying9
  a9 := Tryz.isAgg9
  z9 := Tryz.sizeOf9
  v9 := Tryz.zeroValue9 }
open Go.RowKit Go.Lib in
theorem Tryz.strings_TrimPrefix (s p : ByteArray) (w : World) :
    Calls Tryz.prog 176 #[.string s, .string p] w fun e w' => e = .returned (.string ⟨(Lib.trimPrefix s.data.toList p.data.toList).toArray⟩) ∧ w' = w := Any.strings_TrimPrefix Tryz.lays101 s p w
open Go.RowKit in
theorem Tryz.atoi_ok (s : ByteArray) (hmax : s.size ≤ 9223372036854775806) (v : Int) (h : Lib.atoiAll s.data.toList = .ok v) (w : World) :
    Calls Tryz.prog 148 #[.string s] w fun e w' => e = .returned (.tuple #[.int .i64 v, .nilIface]) ∧ Below w.heap.size w w' := by
  refine (Any.strconv_Atoi_ok Tryz.laysC172 s hmax v h w).mono ?_
  rintro e w' ⟨rfl, h⟩
  refine ⟨rfl, ?_⟩
  rcases h with rfl | ⟨t, rfl⟩
  · exact Below.refl _ _
  · exact Lib.bytesWorld_below _ _ _
open Go.RowKit in
theorem Tryz.atoi_range (s : ByteArray) (hlim : s.size ≤ 281474976710656) (h : Lib.atoiAll s.data.toList = .range) (tp : TypeId) (p : Value) (w : World) (hvar : w.var? Tryz.prog "strconv.ErrRange" = some #[.iface tp p]) :
    Calls Tryz.prog 148 #[.string s] w fun e w' => (∃ N, e = .returned (.tuple #[.int .i64 (Lib.atoiSat s.data.toList), .iface 228 (.pointer (some ⟨N, 0, none⟩))])) ∧ Below w.heap.size w w' := by
  refine (Any.strconv_Atoi_range_var Tryz.laysC172 s hlim h tp p w hvar).mono ?_
  rintro e w' ⟨N, rfl, _, _, h⟩
  exact ⟨⟨N, rfl⟩, h⟩
end Go.Proofs

namespace Go.Proofs.YtdjehbdpcdikkaaGreatDoor
open Go.RowKit

theorem at_is (s : ByteArray) (a : Int) (k : Nat) (t : ByteArray) (b : Bool) (ha : a = (k : Int)) (hb : pre t.data.toList (s.data.toList.drop k) = b) (hk : k ≤ s.size) (hs : s.size ≤ 140737488355328) (ht : t.size ≤ 1000) (w : World) :
    Calls Tryz.prog 76 #[.string s, .int .i64 a, .string t] w fun e w' => e = .returned (.bool b) ∧ w' = w := by
  subst ha hb
  exact at_any s k t hk hs ht w
theorem rword_is (s : ByteArray) (a : Int) (k n : Nat) (ha : a = (k : Int)) (hn : wdLen (s.data.toList.drop k) = n) (hk : k ≤ s.size) (hs : s.size ≤ 140737488355328) (w : World) :
    Calls Tryz.prog 77 #[.string s, .int .i64 a] w fun e w' => e = .returned (.int .i64 (n : Int)) ∧ w' = w := by
  subst ha hn
  exact rword_any s k hk hs w

theorem pre1 {c : UInt8} {r : Txt} : pre [c] r = true ↔ ∃ t, r = c :: t := by
  unfold pre Lib.hasPrefix
  cases r with
  | nil => simp
  | cons d u =>
    simp only [List.isPrefixOf, Bool.and_true, beq_iff_eq]
    constructor
    · rintro rfl; exact ⟨u, rfl⟩
    · rintro ⟨t, h⟩; injection h with h _; exact h.symm
theorem pre1_at {s : ByteArray} {k : Nat} {c : UInt8} (h : pre [c] (s.data.toList.drop k) = true) : ∃ hk : k < s.size, s[k] = c := by
  obtain ⟨t, ht⟩ := pre1.1 h
  by_cases hk : k < s.size
  · rw [drop_at s k hk] at ht
    exact ⟨hk, by injection ht⟩
  · rw [drop_end s k (by omega)] at ht
    cases ht

/-- How many bytes of words with points between, if a word begins there. -/
def rnm (r : Txt) : Nat := if wdLen r = 0 then 0 else nmLen r
def rnmAt (s : ByteArray) (k n : Nat) : Nat := if n = 0 then 0 else n + nmLen (s.data.toList.drop (k + n))
theorem rnm_start (s : ByteArray) (k : Nat) : rnm (s.data.toList.drop k) = rnmAt s k (wdLen (s.data.toList.drop k)) := by
  unfold rnm rnmAt
  split
  · rfl
  · rw [nm_wd (by omega), List.drop_drop]
theorem noW_start {s : ByteArray} {k : Nat} (h : ¬ wdLen (s.data.toList.drop k) = 0) : noW (s.data.toList.drop (k + wdLen (s.data.toList.drop k))) = true := by
  rw [← List.drop_drop]; exact noW_wd (by omega)
theorem rnm_go {s : ByteArray} {k n : Nat} (h0 : 0 < n) (hp : pre [46] (s.data.toList.drop (k + n)) = true) (hw : 0 < wdLen (s.data.toList.drop (k + n + 1))) :
    rnmAt s k n = rnmAt s k (n + (1 + wdLen (s.data.toList.drop (k + n + 1)))) ∧ noW (s.data.toList.drop (k + (n + (1 + wdLen (s.data.toList.drop (k + n + 1)))))) = true := by
  obtain ⟨hlt, hc⟩ := pre1_at hp
  have e : s.data.toList.drop (k + n) = 46 :: s.data.toList.drop (k + n + 1) := by rw [drop_at s _ hlt, hc]
  have e2 : k + (n + (1 + wdLen (s.data.toList.drop (k + n + 1)))) = (k + n + 1) + wdLen (s.data.toList.drop (k + n + 1)) := by omega
  unfold rnmAt
  rw [if_neg (by omega), if_neg (by omega), e, nm_go hw, e2, ← List.drop_drop (i := wdLen (s.data.toList.drop (k + n + 1))) (j := k + n + 1)]
  exact ⟨by omega, noW_wd hw⟩
theorem rnm_end {s : ByteArray} {k n : Nat} (hn : noW (s.data.toList.drop (k + n)) = true) (h : pre [46] (s.data.toList.drop (k + n)) = true → wdLen (s.data.toList.drop (k + n + 1)) = 0) : rnmAt s k n = n := by
  unfold rnmAt
  split
  · omega
  · rw [nm_end hn]; · omega
    intro t ht
    have hp : pre [46] (s.data.toList.drop (k + n)) = true := pre1.2 ⟨t, ht⟩
    obtain ⟨hlt, _⟩ := pre1_at hp
    have := h hp
    rw [drop_at s _ hlt] at ht
    injection ht with _ h2
    rw [← h2]; exact this
theorem wd_drop (s : ByteArray) (k : Nat) (hk : k ≤ s.size) : k + wdLen (s.data.toList.drop k) ≤ s.size := by
  have := wd_le (s.data.toList.drop k)
  rw [len_drop] at this
  omega

def RNm (s : ByteArray) (k n : Nat) : Prop := k + n ≤ s.size ∧ rnm (s.data.toList.drop k) = rnmAt s k n ∧ (n = 0 ∨ noW (s.data.toList.drop (k + n)) = true)

set_option maxHeartbeats 2000000 in
theorem rname_any (s : ByteArray) (k : Nat) (hk : k ≤ s.size) (hs : s.size ≤ 140737488355328) (w : World) :
    Calls Tryz.prog 42 #[.string s, .int .i64 (k : Int)] w fun e w' => e = .returned (.int .i64 (rnm (s.data.toList.drop k) : Int)) ∧ w' = w := by
  obtain ⟨n0, hn0⟩ : ∃ n, wdLen (s.data.toList.drop k) = n := ⟨_, rfl⟩
  have HB : Hid (RNm s k n0) := by
    refine hide ⟨by rw [← hn0]; exact wd_drop s k hk, by rw [← hn0]; exact rnm_start s k, ?_⟩
    by_cases h : n0 = 0
    · exact .inl h
    · exact .inr (by rw [← hn0]; exact noW_start (by rw [hn0]; exact h))
  have H0 := hide hn0
  clear hn0
  go_enter Tryz.func42, Tryz.ntmps42
  go_wp2_with (go_at_call 77; refine (rword_is s _ k n0 rfl (unhide H0) hk hs _).mono ?_; rintro e w' ⟨rfl, rfl⟩)
  go_loop [5] (fun i => ∃ n : Nat, i = .int .i64 (n : Int) ∧ Hid (RNm s k n)) (fun i => s.size - (intOf i).toNat)
  case atStart => exact ⟨n0, rfl, HB⟩
  case round =>
    obtain ⟨n, rfl, HH⟩ := hrel
    have hle := (unhide HH).1
    by_cases h0 : 0 < n
    · cases hp : pre [46] (s.data.toList.drop (k + n)) with
      | true =>
        obtain ⟨hlt, hc⟩ := pre1_at hp
        clear hc
        obtain ⟨m, hm⟩ : ∃ m, wdLen (s.data.toList.drop (k + n + 1)) = m := ⟨_, rfl⟩
        have HM := hide hm
        have hbd := wd_drop s (k + n + 1) (by omega)
        rw [hm] at hbd
        have HP := hide hp
        clear hm hp
        by_cases hw : 0 < m
        · go_wp2_with (first
            | (go_at_call 76; refine (at_is s _ (k + n) ⟨#[46]⟩ true (by omega) (unhide HP) (by omega) hs (by decide) _).mono ?_; rintro e w' ⟨rfl, rfl⟩)
            | (go_at_call 77; refine (rword_is s _ (k + n + 1) m (by omega) (unhide HM) (by omega) hs _).mono ?_; rintro e w' ⟨rfl, rfl⟩))
          go_round
          case rel =>
            have hh := unhide HH
            have hg := rnm_go h0 (unhide HP) (by rw [unhide HM]; exact hw)
            rw [unhide HM] at hg
            exact ⟨n + (1 + m), by go_num, hide ⟨by omega, hh.2.1.trans hg.1, .inr hg.2⟩⟩
          case measure => simp [intOf]; omega
        · go_wp2_with (first
            | (go_at_call 76; refine (at_is s _ (k + n) ⟨#[46]⟩ true (by omega) (unhide HP) (by omega) hs (by decide) _).mono ?_; rintro e w' ⟨rfl, rfl⟩)
            | (go_at_call 77; refine (rword_is s _ (k + n + 1) m (by omega) (unhide HM) (by omega) hs _).mono ?_; rintro e w' ⟨rfl, rfl⟩))
          go_ret
          have hh := unhide HH
          have hno : noW (s.data.toList.drop (k + n)) = true := by
            rcases hh.2.2 with h | h
            · omega
            · exact h
          exact ⟨ret_int (by rw [hh.2.1, rnm_end hno (fun _ => by rw [unhide HM]; omega)]), rfl⟩
      | false =>
        have HP := hide hp
        clear hp
        go_wp2_with (go_at_call 76; refine (at_is s _ (k + n) ⟨#[46]⟩ false (by omega) (unhide HP) (by omega) hs (by decide) _).mono ?_; rintro e w' ⟨rfl, rfl⟩)
        go_ret
        have hh := unhide HH
        have hno : noW (s.data.toList.drop (k + n)) = true := by
          rcases hh.2.2 with h | h
          · omega
          · exact h
        exact ⟨ret_int (by rw [hh.2.1, rnm_end hno (fun h => by rw [unhide HP] at h; cases h)]), rfl⟩
    · go_wp2
      go_ret
      have hh := unhide HH
      have e0 : n = 0 := by omega
      subst e0
      exact ⟨ret_int (by rw [hh.2.1]; rfl), rfl⟩

def nameP (l : Txt) : Bool := decide (l ≠ []) && decide (l.length ≤ 64) && decide (wdLen l ≠ 0) && decide (nmLen l = l.length)
theorem size_len (s : ByteArray) : s.size = s.data.toList.length := by rw [Array.length_toList]; rfl
theorem data_cons {s : ByteArray} (h : 0 < s.size) : s.data.toList = s[0] :: s.data.toList.drop 1 := by
  have := drop_at s 0 h
  rwa [List.drop_zero] at this
theorem empty_of {s : ByteArray} (h : ¬ 0 < s.size) : s = ⟨#[]⟩ := ByteArray.ext (Array.eq_empty_of_size_eq_zero (by have : s.size = s.data.size := rfl; omega))



def wordP (l : Txt) : Bool := decide (l ≠ []) && decide (wdLen l = l.length) && decide (l.length ≤ 64)
end Go.Proofs.YtdjehbdpcdikkaaGreatDoor

namespace Go.Proofs.YtdjehbdpcdikkaaGreatDoor
open Go.RowKit

theorem idx_ge (c : UInt8) : ∀ l : Txt, -1 ≤ Lib.indexByte l c
  | [] => by simp [Lib.indexByte]
  | d :: m => by
    have ih := idx_ge c m
    unfold Lib.indexByte; split
    · decide
    · split
      · decide
      · omega
theorem ln_idx : ∀ l : Txt, (0 ≤ Lib.indexByte l 10 → (lnLen l : Int) = Lib.indexByte l 10) ∧ (¬ 0 ≤ Lib.indexByte l 10 → lnLen l = l.length)
  | [] => by simp [Lib.indexByte, lnLen]
  | c :: l => by
    have ih := ln_idx l
    have hg := idx_ge 10 l
    unfold Lib.indexByte lnLen
    by_cases h : c = 10
    · subst h; simp
    · rw [if_neg (by simp [h]), if_neg h]
      by_cases hm : Lib.indexByte l 10 = -1
      · rw [if_pos (by simp [hm])]
        have := ih.2 (by omega)
        exact ⟨fun h => absurd h (by decide), fun _ => by rw [this, List.length_cons]⟩
      · rw [if_neg (by simp [hm])]
        have := ih.1 (by omega)
        exact ⟨fun _ => by omega, fun h => by omega⟩

set_option maxHeartbeats 1000000 in
theorem lineLength_any (s : ByteArray) (w : World) :
    Calls Tryz.prog 99 #[.string s] w fun e w' => e = .returned (.int .i64 (lnLen s.data.toList : Int)) ∧ w' = w := by
  obtain ⟨h1, h2⟩ := ln_idx s.data.toList
  by_cases h : 0 ≤ Lib.indexByte s.data.toList 10
  · have H := hide (h1 h)
    clear h1 h2
    go_enter Tryz.func99, Tryz.ntmps99
    go_wp2_with (go_at_call 122; refine (Tryz.strings_IndexByte s 10 _).mono ?_; rintro e w' ⟨rfl, rfl⟩; rw [show (10 : Int).toNat.toUInt8 = 10 from rfl])
    go_ret
    exact ⟨ret_int (unhide H).symm, rfl⟩
  · have H := hide (h2 h)
    clear h1 h2
    go_enter Tryz.func99, Tryz.ntmps99
    go_wp2_with (go_at_call 122; refine (Tryz.strings_IndexByte s 10 _).mono ?_; rintro e w' ⟨rfl, rfl⟩; rw [show (10 : Int).toNat.toUInt8 = 10 from rfl])
    go_ret
    exact ⟨ret_int (by rw [unhide H, ← size_len]), rfl⟩

theorem ce_idx : ∀ l : Txt, (cEnd l = none → Lib.index l [42, 47] = -1) ∧ (∀ n, cEnd l = some n → Lib.index l [42, 47] = (n : Int))
  | [] => ⟨fun _ => rfl, fun n h => by cases h⟩
  | c :: l => by
    have ih := ce_idx l
    unfold cEnd Lib.index
    have e : pre [42, 47] (c :: l) = ([42, 47] : Txt).isPrefixOf (c :: l) := rfl
    rw [e]
    by_cases hp : ([42, 47] : Txt).isPrefixOf (c :: l) = true
    · rw [if_pos hp, if_pos hp]
      exact ⟨(fun h => by cases h), (fun n h => by cases h; rfl)⟩
    · rw [if_neg hp, if_neg hp]
      cases hc : cEnd l with
      | none =>
        rw [ih.1 hc]
        exact ⟨fun _ => rfl, (fun n h => by cases h)⟩
      | some m =>
        rw [ih.2 m hc, if_neg (by rw [beq_iff_eq]; omega)]
        refine ⟨(fun h => by cases h), fun n h => ?_⟩
        have : m + 1 = n := by simpa using h
        omega
def cmV : Option Nat → Value
  | none => .tuple #[.int .i64 0, .bool false]
  | some n => .tuple #[.int .i64 ((n : Int) + 4), .bool true]

theorem ext_drop (s : ByteArray) (k : Nat) : (s.extract k s.size).data.toList = s.data.toList.drop k := by
  have : (s.extract k s.size).data = s.data.extract k s.size := by simp
  rw [this, Array.toList_extract]
  show (s.data.toList.drop k).take (s.size - k) = _
  exact List.take_of_length_le (by rw [len_drop]; exact Nat.le_refl _)
theorem ext_piece (s : ByteArray) (k n : Nat) : (s.extract k (k + n)).data.toList = (s.data.toList.drop k).take n := by
  have : (s.extract k (k + n)).data = s.data.extract k (k + n) := by simp
  rw [this, Array.toList_extract]
  simp [List.take_drop]
theorem bytes_of {s : ByteArray} {l : Txt} (h : s.data.toList = l) : s = ⟨l.toArray⟩ := by
  cases s with
  | mk d => subst h; rfl
theorem run_tail (s : ByteArray) (k : Nat) (a : Int) (ha : a = (k : Int)) (hk : k ≤ s.size) (w : World) :
    (Instr.slice 9 (.string s) (some (.int .i64 a)) none none).run Tryz.prog w = .ok (.string (s.extract k s.size)) w := by
  subst ha
  have := run_slice_string_l (P := Tryz.prog) w 9 s Tryz.underlying9 .i64 (k : Int) (by omega) (by omega)
  rwa [Int.toNat_natCast] at this
theorem run_piece (s : ByteArray) (k n : Nat) (a b : Int) (ha : a = (k : Int)) (hb : b = ((k + n : Nat) : Int)) (hk : k + n ≤ s.size) (w : World) :
    (Instr.slice 9 (.string s) (some (.int .i64 a)) (some (.int .i64 b)) none).run Tryz.prog w = .ok (.string (s.extract k (k + n))) w := by
  subst ha hb
  have := run_slice_string (P := Tryz.prog) w 9 s .i64 .i64 (k : Int) ((k + n : Nat) : Int) Tryz.underlying9 (by omega) (by omega) (by omega)
  rwa [Int.toNat_natCast, Int.toNat_natCast] at this

set_option maxHeartbeats 1000000 in
theorem commentLength_any (s : ByteArray) (m : Int) (h2 : 2 ≤ s.size) (hs : s.size ≤ 65536) (w : World) (hm : w.cell? ⟨2, 0, none⟩ = some (.int .i64 m)) :
    Calls Tryz.prog 100 #[.string s] w fun e w' => e = .returned (cmV (cEnd (s.data.toList.drop 2))) ∧ w' = w := by
  have hrun := run_tail s 2 2 rfl h2
  obtain ⟨u, hu⟩ : ∃ u, s.extract 2 s.size = u := ⟨_, rfl⟩
  have hul : u.data.toList = s.data.toList.drop 2 := by rw [← hu]; exact ext_drop s 2
  have hus : u.size < 4294967281 := by rw [size_len, hul, len_drop]; omega
  rw [hu] at hrun
  obtain ⟨i1, i2⟩ := ce_idx u.data.toList
  rw [← hul]
  clear hul hu
  have HM := hide hm
  clear hm
  cases hc : cEnd u.data.toList with
  | none =>
    have H := hide (i1 hc)
    clear i1 i2
    go_enter Tryz.func100, Tryz.ntmps100
    go_wp2_with (go_at_call 123; refine (Tryz.strings_Index u ⟨#[42, 47]⟩ m _ hus (unhide HM)).mono ?_; rintro e w' ⟨rfl, rfl⟩; rw [show Lib.index u.data.toList (⟨#[42, 47]⟩ : ByteArray).data.toList = -1 from unhide H])
    go_ret2
    exact ⟨rfl, rfl⟩
  | some n =>
    have H := hide (i2 n hc)
    have hn : n ≤ 65536 := by
      have := ce_le _ _ hc
      rw [← size_len] at this
      have : u.size ≤ s.size := by have := run_tail s 2 2 rfl h2 w; rw [hrun w] at this; injection this with this _; injection this with this; rw [this]; simp
      omega
    clear i1 i2
    go_enter Tryz.func100, Tryz.ntmps100
    go_wp2_with (go_at_call 123; refine (Tryz.strings_Index u ⟨#[42, 47]⟩ m _ hus (unhide HM)).mono ?_; rintro e w' ⟨rfl, rfl⟩; rw [show Lib.index u.data.toList (⟨#[42, 47]⟩ : ByteArray).data.toList = (n : Int) from unhide H])
    go_ret2
    exact ⟨by simp [cmV]; omega, rfl⟩
end Go.Proofs.YtdjehbdpcdikkaaGreatDoor
