/- The library's contracts that the lexer's walk takes, laid at this program. Walks of words and names, the program's and the document's. Walks of the gaps: a line's end, a comment's length, and where no gap stands. Walks of the gaps: gapsEnd, and the document's gap. Plain arithmetic of the package num: what its operations come to, as functions on integers; no program stands in it. Plain facts on numbers' texts: which lists of bytes are a number's text, which number that is, and that texts and numbers lead back to one another; no program stands in it. -/
import Derived.Shelf.Small.Strs
import Derived.Shelf.Small.Wraps
import Derived.Shelf.LaysM
import Derived.Shelf.LaysC
import Derived.Shelf.Strconv.Clone
import Derived.Shelf.Strconv.AtoiAll
import Derived.Shelf.Strconv.ErrVarAll
import Derived.Shelf.Strings.Search3
import Derived.Shelf.Strings.Shaped
import Derived.Shelf.Strings.Prefix
import Derived.Lib.AtoiTie
import Derived.Lib.AtoiErrMem
import Derived.Test.YtccehgfecaamoaaGreatDoorProg
import Derived.Test.YtccehgfecaamoaaGreatDoorQb01
import Derived.Below
import Derived.RowKit
import Derived.Lib.Strings
import Derived.Lib.AtoiAll
set_option maxRecDepth 100000
set_option maxHeartbeats 32000000
namespace Go.Proofs
open Go.Shelf
def Tryz.lays137_ren : Go.Shelf.Ren := ⟨fun | 137 => 81 | 217 => 104 | 266 => 131 | n => n, fun | 9 => 9 | 5 => 5 | 3 => 3 | n => n, fun | n => n⟩
theorem Tryz.lays137 : Go.Proofs.Lays.n137 Tryz.prog Tryz.lays137_ren := {
  mixed := by kernel_rfl
  f137 := Tryz.func81.trans (congrArg some (by kernel_rfl))
  f217 := Tryz.func104.trans (congrArg some (by kernel_rfl))
  f266 := Tryz.func131.trans (congrArg some (by kernel_rfl))
  t3 := Tryz.underlying3
  a3 := Tryz.isAgg3
  z3 := Tryz.sizeOf3
  v3 := Tryz.zeroValue3
  t5 := Tryz.underlying5
  a5 := Tryz.isAgg5
  z5 := Tryz.sizeOf5
  v5 := Tryz.zeroValue5
  t9 := Tryz.underlying9
  a9 := Tryz.isAgg9
  z9 := Tryz.sizeOf9
  v9 := Tryz.zeroValue9 }
open Go.RowKit in
theorem Tryz.strings_IndexByte (s : ByteArray) (c : Int) (w : World) :
    Calls Tryz.prog 81 #[.string s, .int .u8 c] w fun e w' => e = .returned (.int .i64 (Lib.indexByte s.data.toList c.toNat.toUInt8)) ∧ w' = w := Any.strings_IndexByte Tryz.lays137 s c w
def Tryz.lays103_ren : Go.Shelf.Ren := ⟨fun | 103 => 109 | 210 => 139 | 206 => 80 | n => n, fun | 9 => 9 | 4 => 4 | 24 => 175 | 3 => 3 | n => n, fun | n => n⟩
theorem Tryz.lays103 : Go.Proofs.Lays.n103 Tryz.prog Tryz.lays103_ren := {
  mixed := by kernel_rfl
  f103 := Tryz.func109.trans (congrArg some (by kernel_rfl))
  f206 := Tryz.func80.trans (congrArg some (by kernel_rfl))
  f210 := Tryz.func139.trans (congrArg some (by kernel_rfl))
  t3 := Tryz.underlying3
  a3 := Tryz.isAgg3
  z3 := Tryz.sizeOf3
  v3 := Tryz.zeroValue3
  t4 := Tryz.underlying4
  a4 := Tryz.isAgg4
  z4 := Tryz.sizeOf4
  v4 := Tryz.zeroValue4
  t9 := Tryz.underlying9
  a9 := Tryz.isAgg9
  z9 := Tryz.sizeOf9
  v9 := Tryz.zeroValue9
  t24 := Tryz.underlying175
  a24 := Tryz.isAgg175
  z24 := Tryz.sizeOf175
  v24 := Tryz.zeroValue175 }
open Go.RowKit in
theorem Tryz.strings_CutPrefix (s p : ByteArray) (w : World) :
    Calls Tryz.prog 109 #[.string s, .string p] w fun e w' => e = .returned (.tuple #[.string ⟨(Lib.trimPrefix s.data.toList p.data.toList).toArray⟩, .bool (Lib.hasPrefix s.data.toList p.data.toList)]) ∧ w' = w := Any.strings_CutPrefix Tryz.lays103 s p w
def Tryz.laysM316_ren : Go.Shelf.Ren := ⟨fun | 316 => 106 | n => n, fun | 9 => 9 | 3 => 3 | 4 => 4 | 37 => 51 | 0 => 0 | 127 => 107 | 5 => 5 | n => n, fun | n => n⟩
theorem Tryz.laysM316 : Go.Proofs.LaysM.n316 Tryz.prog Tryz.laysM316_ren := {
  mixed := by kernel_rfl
  f316 := Tryz.func106.trans (congrArg some (by kernel_rfl))
  t0 := Tryz.underlying0
  a0 := Tryz.isAgg0
  z0 := Tryz.sizeOf0
  v0 := Tryz.zeroValue0
  t3 := Tryz.underlying3
  a3 := Tryz.isAgg3
  z3 := Tryz.sizeOf3
  v3 := Tryz.zeroValue3
  t4 := Tryz.underlying4
  a4 := Tryz.isAgg4
  z4 := Tryz.sizeOf4
  v4 := Tryz.zeroValue4
  t9 := Tryz.underlying9
  a9 := Tryz.isAgg9
  z9 := Tryz.sizeOf9
  v9 := Tryz.zeroValue9
  t37 := Tryz.underlying51
  a37 := Tryz.isAgg51
  z37 := Tryz.sizeOf51
  v37 := Tryz.zeroValue51
  t127 := Tryz.underlying107
  a127 := Tryz.isAgg107
  z127 := Tryz.sizeOf107
  v127 := Tryz.zeroValue107
  t5 := Tryz.underlying5
  a5 := Tryz.isAgg5
  z5 := Tryz.sizeOf5
  v5 := Tryz.zeroValue5
  i0 := by kernel_rfl
  i3 := by kernel_rfl
  i4 := by kernel_rfl
  i5 := by kernel_rfl
  i9 := by kernel_rfl
  i37 := by kernel_rfl
  i127 := by kernel_rfl }
open Go.RowKit in
theorem Tryz.stringslite_Clone (s : ByteArray) (w : World) (hlim : s.size ≤ 281474976710656) :
    Calls Tryz.prog 106 #[.string s] w fun e w' => e = .returned (.string s) ∧ Below w.heap.size w w' := Any.stringslite_Clone Tryz.laysM316 s w hlim
def Tryz.laysC172_ren : Go.Shelf.Ren := ⟨fun | 172 => 108 | 244 => 137 | 245 => 138 | 247 => 152 | 279 => 153 | 280 => 154 | 281 => 155 | 282 => 156 | 287 => 166 | 316 => 106 | 171 => 146 | 205 => 167 | 321 => 174 | 322 => 175 | 243 => 162 | 246 => 170 | 283 => 178 | 284 => 179 | 285 => 180 | 286 => 181 | 129 => 186 | 317 => 185 | 318 => 187 | 319 => 188 | 320 => 189 | 337 => 190 | 338 => 191 | n => n, fun | 9 => 9 | 3 => 3 | 75 => 167 | 76 => 168 | 4 => 4 | 5 => 5 | 167 => 209 | 37 => 51 | 0 => 0 | 85 => 210 | 2 => 2 | 168 => 212 | 53 => 221 | 175 => 222 | 46 => 194 | 210 => 225 | 127 => 107 | 145 => 234 | 143 => 232 | 21 => 21 | 171 => 235 | 173 => 238 | 212 => 242 | 51 => 206 | 20 => 20 | 213 => 243 | 232 => 247 | 233 => 248 | 80 => 57 | n => n, fun | 15 => 3 | 16 => 4 | 17 => 5 | 18 => 6 | 19 => 7 | n => n⟩
theorem Tryz.laysC172 : Go.Proofs.LaysC.n172 Tryz.prog Tryz.laysC172_ren := {
  mixed := by kernel_rfl
  f129 := Tryz.func186.trans (congrArg some (by kernel_rfl))
  f171 := Tryz.func146.trans (congrArg some (by kernel_rfl))
  f172 := Tryz.func108.trans (congrArg some (by kernel_rfl))
  f205 := Tryz.func167.trans (congrArg some (by kernel_rfl))
  f243 := Tryz.func162.trans (congrArg some (by kernel_rfl))
  f244 := Tryz.func137.trans (congrArg some (by kernel_rfl))
  f245 := Tryz.func138.trans (congrArg some (by kernel_rfl))
  f246 := Tryz.func170.trans (congrArg some (by kernel_rfl))
  f247 := Tryz.func152.trans (congrArg some (by kernel_rfl))
  f279 := Tryz.func153.trans (congrArg some (by kernel_rfl))
  f280 := Tryz.func154.trans (congrArg some (by kernel_rfl))
  f281 := Tryz.func155.trans (congrArg some (by kernel_rfl))
  f282 := Tryz.func156.trans (congrArg some (by kernel_rfl))
  f283 := Tryz.func178.trans (congrArg some (by kernel_rfl))
  f284 := Tryz.func179.trans (congrArg some (by kernel_rfl))
  f285 := Tryz.func180.trans (congrArg some (by kernel_rfl))
  f286 := Tryz.func181.trans (congrArg some (by kernel_rfl))
  f287 := Tryz.func166.trans (congrArg some (by kernel_rfl))
  f316 := Tryz.func106.trans (congrArg some (by kernel_rfl))
  f317 := Tryz.func185.trans (congrArg some (by kernel_rfl))
  f318 := Tryz.func187.trans (congrArg some (by kernel_rfl))
  f319 := Tryz.func188.trans (congrArg some (by kernel_rfl))
  f320 := Tryz.func189.trans (congrArg some (by kernel_rfl))
  f321 := Tryz.func174.trans (congrArg some (by kernel_rfl))
  f322 := Tryz.func175.trans (congrArg some (by kernel_rfl))
  f337 := Tryz.func190.trans (congrArg some (by kernel_rfl))
  f338 := Tryz.func191.trans (congrArg some (by kernel_rfl))
  t0 := Tryz.underlying0
  a0 := Tryz.isAgg0
  z0 := Tryz.sizeOf0
  v0 := Tryz.zeroValue0
  t2 := Tryz.underlying2
  a2 := Tryz.isAgg2
  z2 := Tryz.sizeOf2
  v2 := Tryz.zeroValue2
  t3 := Tryz.underlying3
  a3 := Tryz.isAgg3
  z3 := Tryz.sizeOf3
  v3 := Tryz.zeroValue3
  t4 := Tryz.underlying4
  a4 := Tryz.isAgg4
  z4 := Tryz.sizeOf4
  v4 := Tryz.zeroValue4
  t5 := Tryz.underlying5
  a5 := Tryz.isAgg5
  z5 := Tryz.sizeOf5
  v5 := Tryz.zeroValue5
  t9 := Tryz.underlying9
  a9 := Tryz.isAgg9
  z9 := Tryz.sizeOf9
  v9 := Tryz.zeroValue9
  t20 := Tryz.underlying20
  a20 := Tryz.isAgg20
  z20 := Tryz.sizeOf20
  v20 := Tryz.zeroValue20
  t21 := Tryz.underlying21
  a21 := Tryz.isAgg21
  z21 := Tryz.sizeOf21
  v21 := Tryz.zeroValue21
  t37 := Tryz.underlying51
  a37 := Tryz.isAgg51
  z37 := Tryz.sizeOf51
  v37 := Tryz.zeroValue51
  t46 := Tryz.underlying194
  a46 := Tryz.isAgg194
  z46 := Tryz.sizeOf194
  v46 := Tryz.zeroValue194
  t51 := Tryz.underlying206
  a51 := Tryz.isAgg206
  z51 := Tryz.sizeOf206
  v51 := Tryz.zeroValue206
  t53 := Tryz.underlying221
  a53 := Tryz.isAgg221
  z53 := Tryz.sizeOf221
  v53 := Tryz.zeroValue221
  t75 := Tryz.underlying167
  a75 := Tryz.isAgg167
  z75 := Tryz.sizeOf167
  v75 := Tryz.zeroValue167
  t76 := Tryz.underlying168
  a76 := Tryz.isAgg168
  z76 := Tryz.sizeOf168
  v76 := Tryz.zeroValue168
  t85 := Tryz.underlying210
  a85 := Tryz.isAgg210
  z85 := Tryz.sizeOf210
  v85 := Tryz.zeroValue210
  t127 := Tryz.underlying107
  a127 := Tryz.isAgg107
  z127 := Tryz.sizeOf107
  v127 := Tryz.zeroValue107
  t143 := Tryz.underlying232
  a143 := Tryz.isAgg232
  z143 := Tryz.sizeOf232
  v143 := Tryz.zeroValue232
  t145 := Tryz.underlying234
  a145 := Tryz.isAgg234
  z145 := Tryz.sizeOf234
  v145 := Tryz.zeroValue234
  t167 := Tryz.underlying209
  a167 := Tryz.isAgg209
  z167 := Tryz.sizeOf209
  v167 := Tryz.zeroValue209
  t168 := Tryz.underlying212
  a168 := Tryz.isAgg212
  z168 := Tryz.sizeOf212
  v168 := Tryz.zeroValue212
  t171 := Tryz.underlying235
  a171 := Tryz.isAgg235
  z171 := Tryz.sizeOf235
  v171 := Tryz.zeroValue235
  t173 := Tryz.underlying238
  a173 := Tryz.isAgg238
  z173 := Tryz.sizeOf238
  v173 := Tryz.zeroValue238
  t175 := Tryz.underlying222
  a175 := Tryz.isAgg222
  z175 := Tryz.sizeOf222
  v175 := Tryz.zeroValue222
  t210 := Tryz.underlying225
  a210 := Tryz.isAgg225
  z210 := Tryz.sizeOf225
  v210 := Tryz.zeroValue225
  t212 := Tryz.underlying242
  a212 := Tryz.isAgg242
  z212 := Tryz.sizeOf242
  v212 := Tryz.zeroValue242
  t213 := Tryz.underlying243
  a213 := Tryz.isAgg243
  z213 := Tryz.sizeOf243
  t232 := Tryz.underlying247
  a232 := Tryz.isAgg247
  z232 := Tryz.sizeOf247
  v232 := Tryz.zeroValue247
  t233 := Tryz.underlying248
  a233 := Tryz.isAgg248
  z233 := Tryz.sizeOf248
  v233 := Tryz.zeroValue248
  g15 := by kernel_rfl
  g16 := by kernel_rfl
  g17 := by kernel_rfl
  g18 := by kernel_rfl
  g19 := by kernel_rfl
  t80 := Tryz.underlying57
  a80 := Tryz.isAgg57
  z80 := Tryz.sizeOf57
  v80 := Tryz.zeroValue57
  i0 := by kernel_rfl
  i2 := by kernel_rfl
  i3 := by kernel_rfl
  i4 := by kernel_rfl
  i5 := by kernel_rfl
  i9 := by kernel_rfl
  i20 := by kernel_rfl
  i21 := by kernel_rfl
  i37 := by kernel_rfl
  i46 := by kernel_rfl
  i51 := by kernel_rfl
  i53 := by kernel_rfl
  i75 := by kernel_rfl
  i76 := by kernel_rfl
  i80 := by kernel_rfl
  i85 := by kernel_rfl
  i127 := by kernel_rfl
  i143 := by kernel_rfl
  i145 := by kernel_rfl
  i167 := by kernel_rfl
  i168 := by kernel_rfl
  i171 := by kernel_rfl
  i173 := by kernel_rfl
  i175 := by kernel_rfl
  i210 := by kernel_rfl
  i212 := by kernel_rfl
  i232 := by kernel_rfl
  i233 := by kernel_rfl
  m15 := by kernel_rfl
  m16 := by kernel_rfl
  m17 := by kernel_rfl
  m18 := by kernel_rfl
  m19 := by kernel_rfl
  c0 := by kernel_rfl
  c2 := by kernel_rfl
  c3 := by kernel_rfl
  c4 := by kernel_rfl
  c5 := by kernel_rfl
  c9 := by kernel_rfl
  c20 := by kernel_rfl
  c21 := by kernel_rfl
  c37 := by kernel_rfl
  c46 := by kernel_rfl
  c51 := by kernel_rfl
  c53 := by kernel_rfl
  c75 := by kernel_rfl
  c76 := by kernel_rfl
  c80 := by kernel_rfl
  c85 := by kernel_rfl
  c127 := by kernel_rfl
  c143 := by kernel_rfl
  c145 := by kernel_rfl
  c167 := by kernel_rfl
  c168 := by kernel_rfl
  c171 := by kernel_rfl
  c173 := by kernel_rfl
  c175 := by kernel_rfl
  c210 := by kernel_rfl
  c212 := by kernel_rfl
  c213 := by kernel_rfl
  c232 := by kernel_rfl
  c233 := by kernel_rfl }
def Tryz.lays143_ren : Go.Shelf.Ren := ⟨fun | 143 => 82 | 219 => 105 | 217 => 104 | 225 => 132 | 224 => 133 | 267 => 134 | 266 => 131 | 314 => 150 | n => n, fun | 9 => 9 | 3 => 3 | 4 => 4 | 5 => 5 | 46 => 194 | 146 => 207 | 51 => 206 | n => n, fun | 1 => 2 | n => n⟩
theorem Tryz.lays143 : Go.Proofs.Lays.n143 Tryz.prog Tryz.lays143_ren := {
  mixed := by kernel_rfl
  f143 := Tryz.func82.trans (congrArg some (by kernel_rfl))
  f217 := Tryz.func104.trans (congrArg some (by kernel_rfl))
  f219 := Tryz.func105.trans (congrArg some (by kernel_rfl))
  f224 := Tryz.func133.trans (congrArg some (by kernel_rfl))
  f225 := Tryz.func132.trans (congrArg some (by kernel_rfl))
  f266 := Tryz.func131.trans (congrArg some (by kernel_rfl))
  f267 := Tryz.func134.trans (congrArg some (by kernel_rfl))
  f314 := Tryz.func150.trans (congrArg some (by kernel_rfl))
  t3 := Tryz.underlying3
  a3 := Tryz.isAgg3
  z3 := Tryz.sizeOf3
  v3 := Tryz.zeroValue3
  t4 := Tryz.underlying4
  a4 := Tryz.isAgg4
  z4 := Tryz.sizeOf4
  v4 := Tryz.zeroValue4
  t5 := Tryz.underlying5
  a5 := Tryz.isAgg5
  z5 := Tryz.sizeOf5
  v5 := Tryz.zeroValue5
  t9 := Tryz.underlying9
  a9 := Tryz.isAgg9
  z9 := Tryz.sizeOf9
  v9 := Tryz.zeroValue9
  t46 := Tryz.underlying194
  a46 := Tryz.isAgg194
  z46 := Tryz.sizeOf194
  v46 := Tryz.zeroValue194
  t51 := Tryz.underlying206
  a51 := Tryz.isAgg206
  z51 := Tryz.sizeOf206
  v51 := Tryz.zeroValue206
  t146 := Tryz.underlying207
  a146 := Tryz.isAgg207
  z146 := Tryz.sizeOf207
  v146 := Tryz.zeroValue207
  g1 := by kernel_rfl }
open Go.RowKit Go.Lib in
theorem Tryz.strings_Index (s sub : ByteArray) (m : Int) (w : World) (hs : s.size < 4294967281) (hm : w.cell? ⟨2, 0, none⟩ = some (.int .i64 m)) :
    Calls Tryz.prog 82 #[.string s, .string sub] w fun e w' => e = .returned (.int .i64 (Lib.index s.data.toList sub.data.toList)) ∧ w' = w := Any.strings_Index Tryz.lays143 s sub m w hs hm
def Tryz.lays144_ren : Go.Shelf.Ren := ⟨fun | 144 => 157 | 143 => 82 | 219 => 105 | 217 => 104 | 225 => 132 | 224 => 133 | 267 => 134 | 266 => 131 | 314 => 150 | n => n, fun | 9 => 9 | 4 => 4 | 3 => 3 | 5 => 5 | 46 => 194 | 146 => 207 | 51 => 206 | n => n, fun | 1 => 2 | n => n⟩
theorem Tryz.lays144 : Go.Proofs.Lays.n144 Tryz.prog Tryz.lays144_ren := {
  mixed := by kernel_rfl
  f143 := Tryz.func82.trans (congrArg some (by kernel_rfl))
  f144 := Tryz.func157.trans (congrArg some (by kernel_rfl))
  f217 := Tryz.func104.trans (congrArg some (by kernel_rfl))
  f219 := Tryz.func105.trans (congrArg some (by kernel_rfl))
  f224 := Tryz.func133.trans (congrArg some (by kernel_rfl))
  f225 := Tryz.func132.trans (congrArg some (by kernel_rfl))
  f266 := Tryz.func131.trans (congrArg some (by kernel_rfl))
  f267 := Tryz.func134.trans (congrArg some (by kernel_rfl))
  f314 := Tryz.func150.trans (congrArg some (by kernel_rfl))
  t3 := Tryz.underlying3
  a3 := Tryz.isAgg3
  z3 := Tryz.sizeOf3
  v3 := Tryz.zeroValue3
  t4 := Tryz.underlying4
  a4 := Tryz.isAgg4
  z4 := Tryz.sizeOf4
  v4 := Tryz.zeroValue4
  t5 := Tryz.underlying5
  a5 := Tryz.isAgg5
  z5 := Tryz.sizeOf5
  v5 := Tryz.zeroValue5
  t9 := Tryz.underlying9
  a9 := Tryz.isAgg9
  z9 := Tryz.sizeOf9
  v9 := Tryz.zeroValue9
  t46 := Tryz.underlying194
  a46 := Tryz.isAgg194
  z46 := Tryz.sizeOf194
  v46 := Tryz.zeroValue194
  t51 := Tryz.underlying206
  a51 := Tryz.isAgg206
  z51 := Tryz.sizeOf206
  v51 := Tryz.zeroValue206
  t146 := Tryz.underlying207
  a146 := Tryz.isAgg207
  z146 := Tryz.sizeOf207
  v146 := Tryz.zeroValue207
  g1 := by kernel_rfl }
open Go.RowKit Go.Lib in
theorem Tryz.strings_Contains_one (s : ByteArray) (c : UInt8) (w : World) :
    Calls Tryz.prog 157 #[.string s, .string ⟨#[c]⟩] w fun e w' => e = .returned (.bool (decide (0 ≤ Lib.indexByte s.data.toList c))) ∧ w' = w := Any.strings_Contains_one Tryz.lays144 s c w
def Tryz.laysM143_ren : Go.Shelf.Ren := ⟨fun | 143 => 82 | 219 => 105 | 217 => 104 | 225 => 132 | 224 => 133 | 267 => 134 | 266 => 131 | 314 => 150 | n => n, fun | 9 => 9 | 3 => 3 | 4 => 4 | 5 => 5 | 46 => 194 | 146 => 207 | 51 => 206 | n => n, fun | 1 => 2 | n => n⟩
theorem Tryz.laysM143 : Go.Proofs.LaysM.n143 Tryz.prog Tryz.laysM143_ren := {
  mixed := by kernel_rfl
  f143 := Tryz.func82.trans (congrArg some (by kernel_rfl))
  f217 := Tryz.func104.trans (congrArg some (by kernel_rfl))
  f219 := Tryz.func105.trans (congrArg some (by kernel_rfl))
  f224 := Tryz.func133.trans (congrArg some (by kernel_rfl))
  f225 := Tryz.func132.trans (congrArg some (by kernel_rfl))
  f266 := Tryz.func131.trans (congrArg some (by kernel_rfl))
  f267 := Tryz.func134.trans (congrArg some (by kernel_rfl))
  f314 := Tryz.func150.trans (congrArg some (by kernel_rfl))
  t3 := Tryz.underlying3
  a3 := Tryz.isAgg3
  z3 := Tryz.sizeOf3
  v3 := Tryz.zeroValue3
  t4 := Tryz.underlying4
  a4 := Tryz.isAgg4
  z4 := Tryz.sizeOf4
  v4 := Tryz.zeroValue4
  t5 := Tryz.underlying5
  a5 := Tryz.isAgg5
  z5 := Tryz.sizeOf5
  v5 := Tryz.zeroValue5
  t9 := Tryz.underlying9
  a9 := Tryz.isAgg9
  z9 := Tryz.sizeOf9
  v9 := Tryz.zeroValue9
  t46 := Tryz.underlying194
  a46 := Tryz.isAgg194
  z46 := Tryz.sizeOf194
  v46 := Tryz.zeroValue194
  t51 := Tryz.underlying206
  a51 := Tryz.isAgg206
  z51 := Tryz.sizeOf206
  v51 := Tryz.zeroValue206
  t146 := Tryz.underlying207
  a146 := Tryz.isAgg207
  z146 := Tryz.sizeOf207
  v146 := Tryz.zeroValue207
  g1 := by kernel_rfl
  i3 := by kernel_rfl
  i4 := by kernel_rfl
  i5 := by kernel_rfl
  i9 := by kernel_rfl
  i46 := by kernel_rfl
  i51 := by kernel_rfl
  i146 := by kernel_rfl
  m1 := by kernel_rfl
  s1_3 := fun w h => Go.Proofs.cell_of_shapedOpen_int (zero := #[.int .i64 0]) (t := 3) h (of_decide_eq_true (by kernel_rfl)) (by kernel_rfl) rfl (by kernel_rfl) (by kernel_rfl) Tryz.underlying3 }
def Tryz.lays99_ren : Go.Shelf.Ren := ⟨fun | 99 => 51 | 206 => 80 | n => n, fun | 9 => 9 | 4 => 4 | 3 => 3 | n => n, fun | n => n⟩
theorem Tryz.lays99 : Go.Proofs.Lays.n99 Tryz.prog Tryz.lays99_ren := {
  mixed := by kernel_rfl
  f99 := Tryz.func51.trans (congrArg some (by kernel_rfl))
  f206 := Tryz.func80.trans (congrArg some (by kernel_rfl))
  t3 := Tryz.underlying3
  a3 := Tryz.isAgg3
  z3 := Tryz.sizeOf3
  v3 := Tryz.zeroValue3
  t4 := Tryz.underlying4
  a4 := Tryz.isAgg4
  z4 := Tryz.sizeOf4
  v4 := Tryz.zeroValue4
  t9 := Tryz.underlying9
  a9 := Tryz.isAgg9
  z9 := Tryz.sizeOf9
  v9 := Tryz.zeroValue9 }
open Go.RowKit Go.Lib in
theorem Tryz.strings_HasPrefix (s p : ByteArray) (w : World) :
    Calls Tryz.prog 51 #[.string s, .string p] w fun e w' => e = .returned (.bool (Lib.hasPrefix s.data.toList p.data.toList)) ∧ w' = w := Any.strings_HasPrefix Tryz.lays99 s p w
def Tryz.lays101_ren : Go.Shelf.Ren := ⟨fun | 101 => 135 | 208 => 151 | 206 => 80 | n => n, fun | 9 => 9 | 4 => 4 | 3 => 3 | n => n, fun | n => n⟩
theorem Tryz.lays101 : Go.Proofs.Lays.n101 Tryz.prog Tryz.lays101_ren := {
  mixed := by kernel_rfl
  f101 := Tryz.func135.trans (congrArg some (by kernel_rfl))
  f206 := Tryz.func80.trans (congrArg some (by kernel_rfl))
  f208 := Tryz.func151.trans (congrArg some (by kernel_rfl))
  t3 := Tryz.underlying3
  a3 := Tryz.isAgg3
  z3 := Tryz.sizeOf3
  v3 := Tryz.zeroValue3
  t4 := Tryz.underlying4
  a4 := Tryz.isAgg4
  z4 := Tryz.sizeOf4
  v4 := Tryz.zeroValue4
  t9 := Tryz.underlying9
  a9 := Tryz.isAgg9
  z9 := Tryz.sizeOf9
  v9 := Tryz.zeroValue9 }
open Go.RowKit Go.Lib in
theorem Tryz.strings_TrimPrefix (s p : ByteArray) (w : World) :
    Calls Tryz.prog 135 #[.string s, .string p] w fun e w' => e = .returned (.string ⟨(Lib.trimPrefix s.data.toList p.data.toList).toArray⟩) ∧ w' = w := Any.strings_TrimPrefix Tryz.lays101 s p w
open Go.RowKit in
theorem Tryz.atoi_ok (s : ByteArray) (hmax : s.size ≤ 9223372036854775806) (v : Int) (h : Lib.atoiAll s.data.toList = .ok v) (w : World) :
    Calls Tryz.prog 108 #[.string s] w fun e w' => e = .returned (.tuple #[.int .i64 v, .nilIface]) ∧ Below w.heap.size w w' := by
  refine (Any.strconv_Atoi_ok Tryz.laysC172 s hmax v h w).mono ?_
  rintro e w' ⟨rfl, h⟩
  refine ⟨rfl, ?_⟩
  rcases h with rfl | ⟨t, rfl⟩
  · exact Below.refl _ _
  · exact Lib.bytesWorld_below _ _ _
open Go.RowKit in
theorem Tryz.atoi_range (s : ByteArray) (hlim : s.size ≤ 281474976710656) (h : Lib.atoiAll s.data.toList = .range) (tp : TypeId) (p : Value) (w : World) (hvar : w.var? Tryz.prog "strconv.ErrRange" = some #[.iface tp p]) :
    Calls Tryz.prog 108 #[.string s] w fun e w' => (∃ N, e = .returned (.tuple #[.int .i64 (Lib.atoiSat s.data.toList), .iface 212 (.pointer (some ⟨N, 0, none⟩))])) ∧ Below w.heap.size w w' := by
  refine (Any.strconv_Atoi_range_var Tryz.laysC172 s hlim h tp p w hvar).mono ?_
  rintro e w' ⟨N, rfl, _, _, h⟩
  exact ⟨⟨N, rfl⟩, h⟩
end Go.Proofs
namespace Go.Proofs.YtccehgfecaamoaaGreatDoor
section
open Go.RowKit
def rnm (r : Txt) : Nat := if wdLen r = 0 then 0 else nmLen r
def rnmAt (s : ByteArray) (k n : Nat) : Nat := if n = 0 then 0 else n + nmLen (s.data.toList.drop (k + n))
def RNm (s : ByteArray) (k n : Nat) : Prop := k + n ≤ s.size ∧ rnm (s.data.toList.drop k) = rnmAt s k n ∧ (n = 0 ∨ noW (s.data.toList.drop (k + n)) = true)

def nameP (l : Txt) : Bool := decide (l ≠ []) && decide (l.length ≤ 64) && decide (wdLen l ≠ 0) && decide (nmLen l = l.length)
theorem Qca (s : ByteArray) : s.size = s.data.toList.length := by rw [Array.length_toList]; rfl
theorem Qmg {s : ByteArray} (h : 0 < s.size) : s.data.toList = s[0] :: s.data.toList.drop 1 := by
  have := Qb s 0 h
  rwa [List.drop_zero] at this
theorem Qqn {s : ByteArray} (h : ¬ 0 < s.size) : s = ⟨#[]⟩ := ByteArray.ext (Array.eq_empty_of_size_eq_zero (by have : s.size = s.data.size := rfl; omega))

def wordP (l : Txt) : Bool := decide (l ≠ []) && decide (wdLen l = l.length) && decide (l.length ≤ 64)
end
section
open Go.RowKit
theorem Jcn (c : UInt8) : ∀ l : Txt, -1 ≤ Lib.indexByte l c
 | [] => by simp [Lib.indexByte]
 | d :: m => by
  have ih := Jcn c m
  unfold Lib.indexByte; split
  · decide
  split
  · decide
  · omega
theorem Jcu : ∀ l : Txt, (0 ≤ Lib.indexByte l 10 → (lnLen l : Int) = Lib.indexByte l 10) ∧ (¬ 0 ≤ Lib.indexByte l 10 → lnLen l = l.length)
 | [] => by simp [Lib.indexByte, lnLen]
 | c :: l => by
  have ih := Jcu l
  have hg := Jcn 10 l
  unfold Lib.indexByte lnLen
  by_cases h : c = 10
  · subst h; simp
  rw [if_neg (by simp [h]), if_neg h]
  by_cases hm : Lib.indexByte l 10 = -1
  ·
   rw [if_pos (by simp [hm])]
   have := ih.2 (by omega)
   exact ⟨fun h => absurd h (by decide), fun _ => by rw [this, List.length_cons]⟩
  rw [if_neg (by simp [hm])]
  have := ih.1 (by omega)
  exact ⟨fun _ => by omega, fun h => by omega⟩

theorem Qjh (s : ByteArray) (w : World) :
  Calls Tryz.prog 52 #[.string s] w fun e w' => e = .returned (.int .i64 (lnLen s.data.toList : Int)) ∧ w' = w := by
 obtain ⟨h1, h2⟩ := Jcu s.data.toList
 by_cases h : 0 ≤ Lib.indexByte s.data.toList 10
 ·
  have H := hide (h1 h)
  clear h1 h2
  go_enter Tryz.func52, Tryz.ntmps52
  go_wp2_with (go_at_call 81; refine (Tryz.strings_IndexByte s 10 _).mono ?_; rintro e w' ⟨rfl, rfl⟩; rw [show (10 : Int).toNat.toUInt8 = 10 from rfl])
  go_ret
  exact ⟨Qce (Qa H).symm, rfl⟩
 have H := hide (h2 h)
 clear h1 h2
 go_enter Tryz.func52, Tryz.ntmps52
 go_wp2_with (go_at_call 81; refine (Tryz.strings_IndexByte s 10 _).mono ?_; rintro e w' ⟨rfl, rfl⟩; rw [show (10 : Int).toNat.toUInt8 = 10 from rfl])
 go_ret
 exact ⟨Qce (by rw [Qa H, ← Qca]), rfl⟩

theorem Jc : ∀ l : Txt, (cEnd l = none → Lib.index l [42, 47] = -1) ∧ (∀ n, cEnd l = some n → Lib.index l [42, 47] = (n : Int))
 | [] => ⟨fun _ => rfl, fun n h => by cases h⟩
 | c :: l => by
  have ih := Jc l
  unfold cEnd Lib.index
  have e : pre [42, 47] (c :: l) = ([42, 47] : Txt).isPrefixOf (c :: l) := rfl
  rw [e]
  by_cases hp : ([42, 47] : Txt).isPrefixOf (c :: l) = true
  ·
   rw [if_pos hp, if_pos hp]
   exact ⟨(fun h => by cases h), (fun n h => by cases h; rfl)⟩
  rw [if_neg hp, if_neg hp]
  cases hc : cEnd l with
  | none =>
   rw [ih.1 hc]
   exact ⟨fun _ => rfl, (fun n h => by cases h)⟩
  | some m =>
   rw [ih.2 m hc, if_neg (by rw [beq_iff_eq]; omega)]
   refine ⟨(fun h => by cases h), fun n h => ?_⟩
   have : m + 1 = n := by simpa using h
   omega
def cmV : Option Nat → Value
 | none => .tuple #[.int .i64 0, .bool false]
 | some n => .tuple #[.int .i64 ((n : Int) + 4), .bool true]

theorem Qhm (s : ByteArray) (k : Nat) : (s.extract k s.size).data.toList = s.data.toList.drop k := by
 have : (s.extract k s.size).data = s.data.extract k s.size := by simp
 rw [this, Array.toList_extract]
 show (s.data.toList.drop k).take (s.size - k) = _
 exact List.take_of_length_le (by rw [Qcn]; exact Nat.le_refl _)
theorem Qif (s : ByteArray) (k n : Nat) : (s.extract k (k + n)).data.toList = (s.data.toList.drop k).take n := by
 have : (s.extract k (k + n)).data = s.data.extract k (k + n) := by simp
 rw [this, Array.toList_extract]
 simp [List.take_drop]
theorem Qgh (s : ByteArray) (k : Nat) (a : Int) (ha : a = (k : Int)) (hk : k ≤ s.size) (w : World) :
  (Instr.slice 9 (.string s) (some (.int .i64 a)) none none).run Tryz.prog w = .ok (.string (s.extract k s.size)) w := by
 subst ha
 have := run_slice_string_l (P := Tryz.prog) w 9 s Tryz.underlying9 .i64 (k : Int) (by omega) (by omega)
 rwa [Int.toNat_natCast] at this
theorem Qiv (s : ByteArray) (k n : Nat) (a b : Int) (ha : a = (k : Int)) (hb : b = ((k + n : Nat) : Int)) (hk : k + n ≤ s.size) (w : World) :
  (Instr.slice 9 (.string s) (some (.int .i64 a)) (some (.int .i64 b)) none).run Tryz.prog w = .ok (.string (s.extract k (k + n))) w := by
 subst ha hb
 have := run_slice_string (P := Tryz.prog) w 9 s .i64 .i64 (k : Int) ((k + n : Nat) : Int) Tryz.underlying9 (by omega) (by omega) (by omega)
 rwa [Int.toNat_natCast, Int.toNat_natCast] at this

theorem Qeb (s : ByteArray) (m : Int) (h2 : 2 ≤ s.size) (hs : s.size ≤ 65536) (w : World) (hm : w.cell? ⟨2, 0, none⟩ = some (.int .i64 m)) :
  Calls Tryz.prog 53 #[.string s] w fun e w' => e = .returned (cmV (cEnd (s.data.toList.drop 2))) ∧ w' = w := by
 have hrun := Qgh s 2 2 rfl h2
 obtain ⟨u, hu⟩ : ∃ u, s.extract 2 s.size = u := ⟨_, rfl⟩
 have hul : u.data.toList = s.data.toList.drop 2 := by rw [← hu]; exact Qhm s 2
 have hus : u.size < 4294967281 := by rw [Qca, hul, Qcn]; omega
 rw [hu] at hrun
 obtain ⟨i1, i2⟩ := Jc u.data.toList
 rw [← hul]
 clear hul hu
 have HM := hide hm
 clear hm
 cases hc : cEnd u.data.toList with
 | none =>
  have H := hide (i1 hc)
  clear i1 i2
  go_enter Tryz.func53, Tryz.ntmps53
  go_wp2_with (go_at_call 82; refine (Tryz.strings_Index u ⟨#[42, 47]⟩ m _ hus (Qa HM)).mono ?_; rintro e w' ⟨rfl, rfl⟩; rw [show Lib.index u.data.toList (⟨#[42, 47]⟩ : ByteArray).data.toList = -1 from Qa H])
  go_ret2
  exact ⟨rfl, rfl⟩
 | some n =>
  have H := hide (i2 n hc)
  have hn : n ≤ 65536 := by
   have := ce_le _ _ hc
   rw [← Qca] at this
   have : u.size ≤ s.size := by have := Qgh s 2 2 rfl h2 w; rw [hrun w] at this; injection this with this _; injection this with this; rw [this]; simp
   omega
  clear i1 i2
  go_enter Tryz.func53, Tryz.ntmps53
  go_wp2_with (go_at_call 82; refine (Tryz.strings_Index u ⟨#[42, 47]⟩ m _ hus (Qa HM)).mono ?_; rintro e w' ⟨rfl, rfl⟩; rw [show Lib.index u.data.toList (⟨#[42, 47]⟩ : ByteArray).data.toList = (n : Int) from Qa H])
  go_ret2
  exact ⟨by simp [cmV]; omega, rfl⟩
end
section
open Go.RowKit
theorem Qwi {s : ByteArray} {m : Nat} (h : m < s.size) (hb : isB (bv s[m]) = true) : gapAt (s.data.toList.drop m) = .gap 1 := by
  rw [Qb s m h, Qdp, if_pos hb]
theorem Jam {s : ByteArray} {m : Nat} (h : m < s.size) (hb : isB (bv s[m]) = false) (hp : pre [47, 47] (s.data.toList.drop m) = true) : gapAt (s.data.toList.drop m) = .gap (lnLen (s.data.toList.drop m)) := by
  rw [Qb s m h] at hp ⊢
  rw [Qdp, if_neg (by simp [hb]), if_pos hp]
theorem Jal {s : ByteArray} {m : Nat} (h : m < s.size) (hb : isB (bv s[m]) = false) (hp : pre [47, 47] (s.data.toList.drop m) = false) (hq : pre [47, 42] (s.data.toList.drop m) = true) :
    gapAt (s.data.toList.drop m) = cGap (s.data.toList.drop (m + 2)) := by
  rw [Qb s m h] at hp hq ⊢
  rw [Qdp, if_neg (by simp [hb]), if_neg (by simp [hp]), if_pos hq, List.drop_drop]
theorem gap_not {s : ByteArray} {m : Nat} (h : m < s.size) (hb : isB (bv s[m]) = false) (hp : pre [47, 47] (s.data.toList.drop m) = false) (hq : pre [47, 42] (s.data.toList.drop m) = false) :
    gapAt (s.data.toList.drop m) = .none := by
  rw [Qb s m h] at hp hq ⊢
  rw [Qdp, if_neg (by simp [hb]), if_neg (by simp [hp]), if_neg (by simp [hq])]
theorem pre_two {s : ByteArray} {m : Nat} {a b : UInt8} (h : pre [a, b] (s.data.toList.drop m) = true) : m + 2 ≤ s.size := by
  have := Qls h
  rw [Qcn] at this
  simp only [List.length_cons, List.length_nil] at this
  omega

def Gone (s : ByteArray) (k m : Nat) : Prop := k ≤ m ∧ m ≤ s.size ∧ scan k (s.data.toList.drop k) = scan m (s.data.toList.drop m)
theorem Gone.step {s : ByteArray} {k m n : Nat} (h : Gone s k m) (hg : gapAt (s.data.toList.drop m) = .gap n) : Gone s k (m + n) ∧ 0 < n := by
  have hp := Qfx hg
  rw [Qcn] at hp
  refine ⟨⟨by have := h.1; omega, by have := h.2.1; omega, ?_⟩, hp.1⟩
  rw [h.2.2, Qfq hg, List.drop_drop]
def GapEnd (s : ByteArray) (k : Nat) (e : Ending) : Prop := ∃ m, Gone s k m ∧
  ((gapAt (s.data.toList.drop m) = .never ∧ e = .returned (.tuple #[.int .i64 0, .agg #[.int .i64 7, .int .i64 (m : Int)]])) ∨
   (gapAt (s.data.toList.drop m) = .none ∧ e = .returned (.tuple #[.int .i64 (m : Int), .agg #[.int .i64 0, .int .i64 0]])))

theorem Qig (s : ByteArray) (k : Nat) (ml : Int) (hk : k ≤ s.size) (hs : s.size ≤ 65536) (w : World) (hm : w.cell? ⟨2, 0, none⟩ = some (.int .i64 ml)) :
    Calls Tryz.prog 22 #[.string s, .int .i64 (k : Int)] w fun e w' => GapEnd s k e ∧ Below w.heap.size w w' := by
  have HM := hide (show ∀ o, (w.alloc o).cell? ⟨2, 0, none⟩ = some (.int .i64 ml) from fun o => (((Below.refl w.heap.size w).alloc (Nat.le_refl _) o).cell (World.block_lt_of_cell? w _ hm)).trans hm)
  have HB := hide (show ∀ o, Below w.heap.size w (w.alloc o) from fun o => (Below.refl w.heap.size w).alloc (Nat.le_refl _) o)
  clear hm
  go_enter Tryz.func22, Tryz.ntmps22
  go_wp2
  go_loop [1] (fun i => ∃ m : Nat, i = .int .i64 (m : Int) ∧ Hid (Gone s k m)) (fun i => s.size - (intOf i).toNat)
  case atStart => exact ⟨k, rfl, hide ⟨Nat.le_refl _, hk, rfl⟩⟩
  obtain ⟨m, rfl, HH⟩ := hrel
  have hle := (Qa HH).2.1
  by_cases hlt : m < s.size
  · have hrun := Qgh s m (m : Int) rfl hle
    obtain ⟨u, hu⟩ : ∃ u, s.extract m s.size = u := ⟨_, rfl⟩
    have hul : u.data.toList = s.data.toList.drop m := by rw [← hu]; exact Qhm s m
    rw [hu] at hrun
    have HUL := hide hul
    clear hu hul
    cases hb : isB (s[m].toNat : Int) with
    | true =>
      go_wp2_with (go_at_call 50; refine (Qdj _ _).mono ?_; rintro e w' ⟨rfl, rfl⟩; rw [hb])
      go_round
      case rel => exact ⟨m + 1, by go_num, hide ((Qa HH).step (Qwi hlt hb)).1⟩
      case measure => simp [intOf]; omega
    | false =>
      cases hp : pre [47, 47] (s.data.toList.drop m) with
      | true =>
        have HP := hide (show Lib.hasPrefix u.data.toList (⟨#[47, 47]⟩ : ByteArray).data.toList = true by rw [Qa HUL]; exact hp)
        have HG := hide (Jam hlt hb hp)
        have hst := (Qa HH).step (Qa HG)
        have hln : lnLen u.data.toList = lnLen (s.data.toList.drop m) := by rw [Qa HUL]
        obtain ⟨n, hn⟩ : ∃ n, lnLen (s.data.toList.drop m) = n := ⟨_, rfl⟩
        rw [hn] at hln hst
        have HST := hide hst
        have hbd := hst.1.2.1
        have hpos := hst.2
        clear hp hn hst
        go_wp2_with (first
          | (go_at_call 50; refine (Qdj _ _).mono ?_; rintro e w' ⟨rfl, rfl⟩; rw [hb])
          | (go_at_call 51; refine (Tryz.strings_HasPrefix u ⟨#[47, 47]⟩ _).mono ?_; rintro e w' ⟨rfl, rfl⟩; rw [Qa HP])
          | (go_at_call 52; refine (Qjh u _).mono ?_; rintro e w' ⟨rfl, rfl⟩; rw [hln]))
        go_round
        case rel => exact ⟨m + n, by go_num, hide (Qa HST).1⟩
        case measure => simp [intOf]; omega
      | false =>
        have HP := hide (show Lib.hasPrefix u.data.toList (⟨#[47, 47]⟩ : ByteArray).data.toList = false by rw [Qa HUL]; exact hp)
        cases hq : pre [47, 42] (s.data.toList.drop m) with
        | false =>
          have HQ := hide (show Lib.hasPrefix u.data.toList (⟨#[47, 42]⟩ : ByteArray).data.toList = false by rw [Qa HUL]; exact hq)
          have HG := hide (gap_not hlt hb hp hq)
          clear hp hq
          go_wp2_with (first
            | (go_at_call 50; refine (Qdj _ _).mono ?_; rintro e w' ⟨rfl, rfl⟩; rw [hb])
            | (go_at_call 51; refine (Tryz.strings_HasPrefix u _ _).mono ?_; rintro e w' ⟨rfl, rfl⟩; first | rw [Qa HP] | rw [Qa HQ]))
          refine bodyPost_ret (v := .tuple #[.int .i64 (m : Int), .agg #[.int .i64 0, .int .i64 0]]) (by simp [results, Tryz.results22, go_sem]) rfl ?_
          exact ⟨⟨m, Qa HH, .inr ⟨Qa HG, rfl⟩⟩, Qa HB _⟩
        | true =>
          have HQ := hide (show Lib.hasPrefix u.data.toList (⟨#[47, 42]⟩ : ByteArray).data.toList = true by rw [Qa HUL]; exact hq)
          have HG := hide (Jal hlt hb hp hq)
          have h2 := pre_two hq
          have hus : u.size = s.size - m := by rw [Qca, Qa HUL, Qcn]
          have hd2 : u.data.toList.drop 2 = s.data.toList.drop (m + 2) := by rw [Qa HUL, List.drop_drop]
          have HD2 := hide hd2
          have hu2 : 2 ≤ u.size := by omega
          have hu3 : u.size ≤ 65536 := by omega
          clear hp hq hd2 hus
          cases hc : cEnd (s.data.toList.drop (m + 2)) with
          | none =>
            have HC := hide hc
            clear hc
            go_wp2_with (first
              | (go_at_call 50; refine (Qdj _ _).mono ?_; rintro e w' ⟨rfl, rfl⟩; rw [hb])
              | (go_at_call 51; refine (Tryz.strings_HasPrefix u _ _).mono ?_; rintro e w' ⟨rfl, rfl⟩; first | rw [Qa HP] | rw [Qa HQ])
              | (go_at_call 53; refine (Qeb u ml hu2 hu3 _ (Qa HM _)).mono ?_; rintro e w' ⟨rfl, rfl⟩; rw [Qa HD2, Qa HC]; unfold cmV))
            refine bodyPost_ret (v := .tuple #[.int .i64 0, .agg #[.int .i64 7, .int .i64 (m : Int)]]) (by simp [results, Tryz.results22, go_sem]) rfl ?_
            exact ⟨⟨m, Qa HH, .inl ⟨by rw [Qa HG]; unfold cGap; rw [Qa HC], rfl⟩⟩, Qa HB _⟩
          | some n =>
            have HC := hide hc
            have hg2 : gapAt (s.data.toList.drop m) = .gap (n + 4) := by rw [Qa HG]; unfold cGap; rw [hc]
            have hst := (Qa HH).step hg2
            have HST := hide hst
            have hbd := hst.1.2.1
            clear hc hg2 hst
            go_wp2_with (first
              | (go_at_call 50; refine (Qdj _ _).mono ?_; rintro e w' ⟨rfl, rfl⟩; rw [hb])
              | (go_at_call 51; refine (Tryz.strings_HasPrefix u _ _).mono ?_; rintro e w' ⟨rfl, rfl⟩; first | rw [Qa HP] | rw [Qa HQ])
              | (go_at_call 53; refine (Qeb u ml hu2 hu3 _ (Qa HM _)).mono ?_; rintro e w' ⟨rfl, rfl⟩; rw [Qa HD2, Qa HC]; unfold cmV))
            go_round
            case rel => exact ⟨m + (n + 4), by go_num, hide (Qa HST).1⟩
            case measure => simp [intOf]; omega
  · go_wp2
    refine bodyPost_ret (v := .tuple #[.int .i64 (m : Int), .agg #[.int .i64 0, .int .i64 0]]) (by simp [results, Tryz.results22, go_sem]) rfl ?_
    exact ⟨⟨m, Qa HH, .inr ⟨by rw [Qdn s m (by omega)]; rfl, rfl⟩⟩, Qa HB _⟩
end
end Go.Proofs.YtccehgfecaamoaaGreatDoor
namespace Go.Proofs.YtccehgfecaamoaaGreatDoor.Num
open Go.RowKit

/-- A number of 64 bits. -/
def Fits (n : Int) : Prop := -9223372036854775808 ≤ n ∧ n ≤ 9223372036854775807

def addP (a b : Int) : Int × Int := if -9223372036854775808 ≤ a + b ∧ a + b ≤ 9223372036854775807 then (a + b, 0) else (0, 8)
def subP (a b : Int) : Int × Int := if -9223372036854775808 ≤ a - b ∧ a - b ≤ 9223372036854775807 then (a - b, 0) else (0, 8)
def mulP (a b : Int) : Int × Int := if -9223372036854775808 ≤ a * b ∧ a * b ≤ 9223372036854775807 then (a * b, 0) else (0, 8)
def divP (a b : Int) : Int × Int := if b = 0 then (0, 9) else if a = -9223372036854775808 ∧ b = -1 then (0, 8) else (a.tdiv b, 0)
def remP (a b : Int) : Int × Int := if b = 0 then (0, 9) else (a.tmod b, 0)

theorem ret2 {a b : Int} {p : Int × Int} (h : p = (a, b)) : Ending.returned (.tuple #[.int .i64 a, .int .i64 b]) = .returned (.tuple #[.int .i64 p.1, .int .i64 p.2]) := by
 subst h; rfl

theorem mulP_in {a b : Int} (h : Fits (a * b)) : mulP a b = (a * b, 0) := by unfold mulP; exact if_pos h
theorem zero_mul (b : Int) : mulP 0 b = (0, 0) := by
 rw [mulP_in (by unfold Fits; omega)]; simp
end Go.Proofs.YtccehgfecaamoaaGreatDoor.Num
namespace Go.Proofs.YtccehgfecaamoaaGreatDoor.Num
open Go.RowKit

def dig (c : UInt8) : Bool := decide (48 ≤ c.toNat) && decide (c.toNat ≤ 57)
def valFrom : Nat → List UInt8 → Nat
 | acc, [] => acc
 | acc, c :: r => valFrom (acc * 10 + (c.toNat - 48)) r
def trim (l : List UInt8) : List UInt8 := Lib.trimPrefix l [45]
def isNeg (l : List UInt8) : Bool := l.head? == some 45
def numForm (l : List UInt8) : Bool := l == [48] || (!(trim l).isEmpty && (trim l).head? != some 48 && (trim l).all dig)
def numVal (l : List UInt8) : Int := if isNeg l = true then -(valFrom 0 (trim l) : Int) else (valFrom 0 (trim l) : Int)
def parseP (l : List UInt8) : Int × Int :=
 if numForm l = true then (if -9223372036854775808 ≤ numVal l ∧ numVal l ≤ 9223372036854775807 then (numVal l, 0) else (0, 8)) else (0, 7)

theorem Qon {c : UInt8} : dig c = true ↔ 48 ≤ c.toNat ∧ c.toNat ≤ 57 := by simp [dig]

theorem Qkb : ∀ (l : List UInt8) (acc : Nat), acc ≤ valFrom acc l
 | [], acc => Nat.le_refl _
 | x :: r, acc => by
  have := Qkb r (acc * 10 + (x.toNat - 48))
  have h2 : acc ≤ acc * 10 + (x.toNat - 48) := by omega
  exact Nat.le_trans h2 this

theorem trim_cases (l : List UInt8) : (isNeg l = true ∧ l = 45 :: trim l) ∨ (isNeg l = false ∧ trim l = l) := by
 unfold isNeg trim Lib.trimPrefix Lib.hasPrefix
 cases l with
 | nil => right; simp
 | cons c r =>
  by_cases h : c = 45
  · subst h; left; simp
  right
  have h2 : ¬ 45 = c := fun e => h e.symm
  simp [h, h2]

theorem Qwg : numForm [48] = true := by decide
theorem Qwf {l : List UInt8} (h : numForm l = true) : (trim l).all dig = true ∧ trim l ≠ [] := by
 unfold numForm at h
 simp only [Bool.or_eq_true, Bool.and_eq_true, beq_iff_eq] at h
 rcases h with rfl | ⟨⟨h1, _⟩, h3⟩
 · exact ⟨by decide, by decide⟩
 · exact ⟨h3, fun e => by rw [e] at h1; simp at h1⟩

theorem Qip (l : List UInt8) : ∀ (acc : Nat), l.all dig = true → acc < 18446744073709551616 →
  Lib.parseUint10 acc l = if valFrom acc l < 18446744073709551616 then .ok (valFrom acc l) else .range := by
 induction l with
 | nil =>
  intro acc _ ha
  have e : valFrom acc [] = acc := rfl
  rw [e, if_pos ha]
  rfl
 | cons c r ih =>
  intro acc h ha
  simp only [List.all_cons, Bool.and_eq_true] at h
  have hc := Qon.1 h.1
  have hm := Qkb r (acc * 10 + (c.toNat - 48))
  have e : valFrom acc (c :: r) = valFrom (acc * 10 + (c.toNat - 48)) r := rfl
  rw [e, Lib.parseUint10, if_pos hc]
  by_cases h1 : 1844674407370955162 ≤ acc
  · rw [if_pos h1, if_neg (by omega)]
  rw [if_neg h1]
  by_cases h2 : 18446744073709551616 ≤ acc * 10 + (c.toNat - 48)
  · rw [if_pos h2, if_neg (by omega)]
  rw [if_neg h2]
  exact ih _ h.2 (by omega)

theorem Qmb {l : List UInt8} (h : numForm l = true) :
  (Fits (numVal l) → Lib.atoiAll l = .ok (numVal l)) ∧ (¬ Fits (numVal l) → Lib.atoiAll l = .range) := by
 obtain ⟨hd, hne⟩ := Qwf h
 have hp := Qip (trim l) 0 hd (by omega)
 have hmag : Lib.parseMag (trim l) = if valFrom 0 (trim l) < 18446744073709551616 then .ok (valFrom 0 (trim l)) else .range := by
  unfold Lib.parseMag; rw [if_neg hne]; exact hp
 rcases trim_cases l with ⟨hn, hl⟩ | ⟨hn, hl⟩
 ·
  generalize htd : trim l = d at *
  unfold numVal Fits
  rw [hn, htd, if_pos rfl]
  generalize valFrom 0 d = v at *
  have e : Lib.atoiAll l = match Lib.parseMag d with
   | .ok u => if 9223372036854775808 < u then .range else .ok (-(u : Int))
   | x => x.rec (fun u => .ok (u : Int)) (Lib.atoiAll []) .range := by
   rw [hl]; unfold Lib.atoiAll
   simp
   cases Lib.parseMag d <;> simp
  rw [e, hmag]
  by_cases h1 : v < 18446744073709551616
  ·
   rw [if_pos h1]
   by_cases h2 : 9223372036854775808 < v
   · exact ⟨fun hf => absurd hf (by omega), fun _ => show (if 9223372036854775808 < v then Lib.NumEnd.range else .ok (-(v : Int))) = .range from if_pos h2⟩
   · exact ⟨fun _ => show (if 9223372036854775808 < v then Lib.NumEnd.range else .ok (-(v : Int))) = .ok (-(v : Int)) from if_neg h2, fun hf => absurd hf (by omega)⟩
  rw [if_neg h1]
  exact ⟨fun hf => absurd hf (by omega), fun _ => rfl⟩
 rw [hl] at hd hne hmag
 unfold numVal Fits
 rw [hn, hl, if_neg (by simp)]
 generalize hv : valFrom 0 l = v at *
 cases l with
 | nil => exact absurd rfl hne
 | cons c r =>
  have hc := Qon.1 (by simpa using (List.all_eq_true.1 hd) c (by simp) : dig c = true)
  have h45 : ¬ c.toNat = 45 := by omega
  have h43 : ¬ (c.toNat = 43 ∨ c.toNat = 45) := by omega
  have e : Lib.atoiAll (c :: r) = match Lib.parseMag (c :: r) with
   | .ok u => if 9223372036854775808 ≤ u then .range else .ok (u : Int)
   | x => x.rec (fun u => .ok (u : Int)) (Lib.atoiAll []) .range := by
   unfold Lib.atoiAll
   simp only [if_neg h43]
   cases Lib.parseMag (c :: r) <;> simp [h45]
  rw [e, hmag]
  by_cases h1 : v < 18446744073709551616
  ·
   rw [if_pos h1]
   by_cases h2 : 9223372036854775808 ≤ v
   · exact ⟨fun hf => absurd hf (by omega), fun _ => show (if 9223372036854775808 ≤ v then Lib.NumEnd.range else .ok (v : Int)) = .range from if_pos h2⟩
   · exact ⟨fun _ => show (if 9223372036854775808 ≤ v then Lib.NumEnd.range else .ok (v : Int)) = .ok (v : Int) from if_neg h2, fun hf => absurd hf (by omega)⟩
  rw [if_neg h1]
  exact ⟨fun hf => absurd hf (by omega), fun _ => rfl⟩

theorem Qtm {l : List UInt8} (h : numForm l = false) : parseP l = (0, 7) := by unfold parseP; rw [if_neg (by simp [h])]
theorem parse_in {l : List UInt8} (h : numForm l = true) (hf : Fits (numVal l)) : parseP l = (numVal l, 0) := by unfold parseP; rw [if_pos h]; exact if_pos hf
theorem parse_out {l : List UInt8} (h : numForm l = true) (hf : ¬ Fits (numVal l)) : parseP l = (0, 8) := by unfold parseP; rw [if_pos h]; exact if_neg hf

/-! ### There and back -/
end Go.Proofs.YtccehgfecaamoaaGreatDoor.Num
