/-GTm2-/
import Derived.Shelf.Unicode.ValidAny
import Derived.Shelf.Strings.Builder1
import Derived.Shelf.Strings.Builder2
import Derived.Shelf.Strings.OnBuilder
import Derived.Shelf.Small.Utf8
import Derived.Shelf.Small.Bits
import Derived.Shelf.Small.Strs
import Derived.Shelf.Strings.BuilderF
import Derived.Shelf.Strings.BuilderK
import Derived.Shelf.Utf8.AppendRunePlain
import Derived.Shelf.Strconv.Itoa0
import Derived.Shelf.LaysM
import Derived.Shelf.Strconv.Clone
import Derived.Shelf.Strconv.SyntaxError
import Derived.Shelf.LaysC
import Derived.Shelf.Strconv.ToError
import Derived.Shelf.Strings.Search1
import Derived.Shelf.Strings.Search2
import Derived.Shelf.Strings.Search3
import Derived.Shelf.Strings.Cut
import Derived.Shelf.Strings.Count
import Derived.Shelf.Strings.Shaped
import Derived.Shelf.Strings.Prefix
import Derived.Shelf.Strings.Split
import Derived.Shelf.Unicode.Latin
import Derived.Shelf.Strings.Runes
import Derived.Shelf.Unicode.DecodeSlow
import Derived.Shelf.Unicode.DecodeAny
import Derived.Shelf.Unicode.CaseLookup
import Derived.Shelf.Unicode.CaseConvert
import Derived.Shelf.Unicode.CaseTo
import Derived.Shelf.Unicode.CaseLaid
import Derived.Test.YtjaebndajhppgaaGreatDoorProg
import Derived.WalkKit
import Derived.Test.YtjaebndajhppgaaGreatDoorMnGTm1
import Derived.Deep.RegionLaw
set_option linter.unusedVariables false
set_option linter.unusedSimpArgs false
set_option maxRecDepth 100000
set_option maxRecDepth 200000
set_option maxHeartbeats 1000000
namespace Go.Proofs
open Go.Shelf
def Tryz.lays169_ren:Go.Shelf.Ren:=⟨fun | 169=>111 | n=>n,fun | 70=>172 | 9=>9 | 0=>0 | 72=>174 | 37=>32 | 127=>215 | 3=>3 | 5=>5 | n=>n,fun | n=>n⟩
theorem Tryz.lays169:Go.Proofs.Lays.n169 Tryz.prog Tryz.lays169_ren:={
 mixed:=by kernel_rfl
 f169:=Tryz.func111.trans (congrArg some (by kernel_rfl))
 t0:=Tryz.underlying0
 a0:=Tryz.isAgg0
 z0:=Tryz.sizeOf0
 v0:=Tryz.zeroValue0
 t3:=Tryz.underlying3
 a3:=Tryz.isAgg3
 z3:=Tryz.sizeOf3
 v3:=Tryz.zeroValue3
 t9:=Tryz.underlying9
 a9:=Tryz.isAgg9
 z9:=Tryz.sizeOf9
 v9:=Tryz.zeroValue9
 t37:=Tryz.underlying32
 a37:=Tryz.isAgg32
 z37:=Tryz.sizeOf32
 v37:=Tryz.zeroValue32
 t70:=Tryz.underlying172
 a70:=Tryz.isAgg172
 z70:=Tryz.sizeOf172
 v70:=Tryz.zeroValue172
 t72:=Tryz.underlying174
 a72:=Tryz.isAgg174
 z72:=Tryz.sizeOf174
 v72:=Tryz.zeroValue174
 t127:=Tryz.underlying215
 a127:=Tryz.isAgg215
 z127:=Tryz.sizeOf215
 v127:=Tryz.zeroValue215 }
theorem Tryz.Builder_Extra_169:Builder.Extra Tryz.prog Tryz.lays169_ren:={
 sizeBuilder:=by kernel_rfl
 liesBuilder:=by kernel_rfl
 t5:=Tryz.underlying5
 a5:=Tryz.isAgg5
 z5:=Tryz.sizeOf5
 v5:=Tryz.zeroValue5
 infoByte:=by kernel_rfl
 cellsByte:=by kernel_rfl
 sizeByte:=by kernel_rfl
 neB5:=by decide }
open Go.RowKit in
theorem Tryz.Builder_String (B b:Nat) (l:List UInt8) (w:World) (h:Lib.IsBuilder 174 5 B b (Lib.byteCells l) w) (h0:l≠[]) :
  Calls Tryz.prog 111 #[.pointer (some ⟨b,0,none⟩)] w fun e w'=>e=.returned (.string ⟨l.toArray⟩)∧Below B w w':=Any.Builder_String Tryz.lays169 Tryz.Builder_Extra_169 B b l w h h0
def Tryz.lays159_ren:Go.Shelf.Ren:=⟨fun | 159=>236 | 165=>152 | 166=>109 | 167=>254 | 169=>111 | 230=>255 | 204=>256 | 240=>151 | 241=>193 | 197=>262 | 118=>263 | 168=>264 | 270=>265 | 262=>266 | 276=>192 | 277=>228 | 260=>273 | 242=>235 | 313=>274 | 278=>253 | 274=>284 | 275=>285 | n=>n,fun | 9=>9 | 4=>4 | 3=>3 | 5=>5 | 72=>174 | 0=>0 | 76=>177 | 75=>176 | 107=>295 | 70=>172 | 20=>20 | 37=>32 | 127=>215 | 21=>21 | 105=>301 | 164=>254 | 162=>310 | 203=>281 | 119=>234 | 46=>57 | 139=>237 | 138=>236 | 51=>230 | 160=>317 | 208=>326 | 206=>324 | 80=>45 | n=>n,fun | 13=>3 | 3=>1 | 4=>2 | n=>n⟩
theorem Tryz.lays159:Go.Proofs.Lays.n159 Tryz.prog Tryz.lays159_ren:={
 mixed:=by kernel_rfl
 f118:=Tryz.func263.trans (congrArg some (by kernel_rfl))
 f159:=Tryz.func236.trans (congrArg some (by kernel_rfl))
 f165:=Tryz.func152.trans (congrArg some (by kernel_rfl))
 f166:=Tryz.func109.trans (congrArg some (by kernel_rfl))
 f167:=Tryz.func254.trans (congrArg some (by kernel_rfl))
 f168:=Tryz.func264.trans (congrArg some (by kernel_rfl))
 f169:=Tryz.func111.trans (congrArg some (by kernel_rfl))
 f197:=Tryz.func262.trans (congrArg some (by kernel_rfl))
 f204:=Tryz.func256.trans (congrArg some (by kernel_rfl))
 f230:=Tryz.func255.trans (congrArg some (by kernel_rfl))
 f240:=Tryz.func151.trans (congrArg some (by kernel_rfl))
 f241:=Tryz.func193.trans (congrArg some (by kernel_rfl))
 f242:=Tryz.func235.trans (congrArg some (by kernel_rfl))
 f260:=Tryz.func273.trans (congrArg some (by kernel_rfl))
 f262:=Tryz.func266.trans (congrArg some (by kernel_rfl))
 f270:=Tryz.func265.trans (congrArg some (by kernel_rfl))
 f274:=Tryz.func284.trans (congrArg some (by kernel_rfl))
 f275:=Tryz.func285.trans (congrArg some (by kernel_rfl))
 f276:=Tryz.func192.trans (congrArg some (by kernel_rfl))
 f277:=Tryz.func228.trans (congrArg some (by kernel_rfl))
 f278:=Tryz.func253.trans (congrArg some (by kernel_rfl))
 f313:=Tryz.func274.trans (congrArg some (by kernel_rfl))
 t0:=Tryz.underlying0
 a0:=Tryz.isAgg0
 z0:=Tryz.sizeOf0
 v0:=Tryz.zeroValue0
 t3:=Tryz.underlying3
 a3:=Tryz.isAgg3
 z3:=Tryz.sizeOf3
 v3:=Tryz.zeroValue3
 t4:=Tryz.underlying4
 a4:=Tryz.isAgg4
 z4:=Tryz.sizeOf4
 v4:=Tryz.zeroValue4
 t5:=Tryz.underlying5
 a5:=Tryz.isAgg5
 z5:=Tryz.sizeOf5
 v5:=Tryz.zeroValue5
 t9:=Tryz.underlying9
 a9:=Tryz.isAgg9
 z9:=Tryz.sizeOf9
 v9:=Tryz.zeroValue9
 t20:=Tryz.underlying20
 a20:=Tryz.isAgg20
 z20:=Tryz.sizeOf20
 v20:=Tryz.zeroValue20
 t21:=Tryz.underlying21
 a21:=Tryz.isAgg21
 z21:=Tryz.sizeOf21
 v21:=Tryz.zeroValue21
 t37:=Tryz.underlying32
 a37:=Tryz.isAgg32
 z37:=Tryz.sizeOf32
 v37:=Tryz.zeroValue32
 t46:=Tryz.underlying57
 a46:=Tryz.isAgg57
 z46:=Tryz.sizeOf57
 v46:=Tryz.zeroValue57
 t51:=Tryz.underlying230
 a51:=Tryz.isAgg230
 z51:=Tryz.sizeOf230
 v51:=Tryz.zeroValue230
 t70:=Tryz.underlying172
 a70:=Tryz.isAgg172
 z70:=Tryz.sizeOf172
 v70:=Tryz.zeroValue172
 t72:=Tryz.underlying174
 a72:=Tryz.isAgg174
 z72:=Tryz.sizeOf174
 v72:=Tryz.zeroValue174
 t75:=Tryz.underlying176
 a75:=Tryz.isAgg176
 z75:=Tryz.sizeOf176
 v75:=Tryz.zeroValue176
 t76:=Tryz.underlying177
 a76:=Tryz.isAgg177
 z76:=Tryz.sizeOf177
 v76:=Tryz.zeroValue177
 t105:=Tryz.underlying301
 a105:=Tryz.isAgg301
 z105:=Tryz.sizeOf301
 v105:=Tryz.zeroValue301
 t107:=Tryz.underlying295
 a107:=Tryz.isAgg295
 z107:=Tryz.sizeOf295
 v107:=Tryz.zeroValue295
 t119:=Tryz.underlying234
 a119:=Tryz.isAgg234
 z119:=Tryz.sizeOf234
 t127:=Tryz.underlying215
 a127:=Tryz.isAgg215
 z127:=Tryz.sizeOf215
 v127:=Tryz.zeroValue215
 t138:=Tryz.underlying236
 a138:=Tryz.isAgg236
 z138:=Tryz.sizeOf236
 v138:=Tryz.zeroValue236
 t139:=Tryz.underlying237
 a139:=Tryz.isAgg237
 z139:=Tryz.sizeOf237
 v139:=Tryz.zeroValue237
 t160:=Tryz.underlying317
 a160:=Tryz.isAgg317
 z160:=Tryz.sizeOf317
 v160:=Tryz.zeroValue317
 t162:=Tryz.underlying310
 a162:=Tryz.isAgg310
 z162:=Tryz.sizeOf310
 v162:=Tryz.zeroValue310
 t164:=Tryz.underlying254
 a164:=Tryz.isAgg254
 z164:=Tryz.sizeOf254
 v164:=Tryz.zeroValue254
 t203:=Tryz.underlying281
 a203:=Tryz.isAgg281
 z203:=Tryz.sizeOf281
 v203:=Tryz.zeroValue281
 t206:=Tryz.underlying324
 a206:=Tryz.isAgg324
 z206:=Tryz.sizeOf324
 v206:=Tryz.zeroValue324
 t208:=Tryz.underlying326
 a208:=Tryz.isAgg326
 z208:=Tryz.sizeOf326
 v208:=Tryz.zeroValue326
 g3:=by kernel_rfl
 g4:=by kernel_rfl
 g13:=by kernel_rfl }
theorem Tryz.Builder_Extra_159:Builder.Extra Tryz.prog Tryz.lays159_ren:={
 sizeBuilder:=by kernel_rfl
 liesBuilder:=by kernel_rfl
 t5:=Tryz.underlying5
 a5:=Tryz.isAgg5
 z5:=Tryz.sizeOf5
 v5:=Tryz.zeroValue5
 infoByte:=by kernel_rfl
 cellsByte:=by kernel_rfl
 sizeByte:=by kernel_rfl
 neB5:=by decide }
open Go.RowKit in
theorem Tryz.strings_ToLower_ascii (s:ByteArray) (w:World) (hs:s.size≤140737488355328) (hascii:∀ (j:Nat) (b:UInt8),s.data.toList[j]?=some b→b.toNat<128) :
  Calls Tryz.prog 236 #[.string s] w fun e w'=>e=.returned (.string ⟨(Lib.toLowerA s.data.toList).toArray⟩)∧Below w.heap.size w w':=Any.strings_ToLower_ascii Tryz.lays159 Tryz.Builder_Extra_159 s w hs hascii
def Tryz.lays156_ren:Go.Shelf.Ren:=⟨fun | 156=>110 | 165=>152 | 166=>109 | 169=>111 | 240=>151 | 241=>193 | 276=>192 | 277=>228 | n=>n,fun | 31=>47 | 9=>9 | 3=>3 | 4=>4 | 0=>0 | 20=>20 | 72=>174 | 76=>177 | 70=>172 | 37=>32 | 75=>176 | 127=>215 | 164=>254 | 5=>5 | 80=>45 | n=>n,fun | n=>n⟩
theorem Tryz.lays156:Go.Proofs.Lays.n156 Tryz.prog Tryz.lays156_ren:={
 mixed:=by kernel_rfl
 f156:=Tryz.func110.trans (congrArg some (by kernel_rfl))
 f165:=Tryz.func152.trans (congrArg some (by kernel_rfl))
 f166:=Tryz.func109.trans (congrArg some (by kernel_rfl))
 f169:=Tryz.func111.trans (congrArg some (by kernel_rfl))
 f240:=Tryz.func151.trans (congrArg some (by kernel_rfl))
 f241:=Tryz.func193.trans (congrArg some (by kernel_rfl))
 f276:=Tryz.func192.trans (congrArg some (by kernel_rfl))
 f277:=Tryz.func228.trans (congrArg some (by kernel_rfl))
 t0:=Tryz.underlying0
 a0:=Tryz.isAgg0
 z0:=Tryz.sizeOf0
 v0:=Tryz.zeroValue0
 t3:=Tryz.underlying3
 a3:=Tryz.isAgg3
 z3:=Tryz.sizeOf3
 v3:=Tryz.zeroValue3
 t4:=Tryz.underlying4
 a4:=Tryz.isAgg4
 z4:=Tryz.sizeOf4
 v4:=Tryz.zeroValue4
 t9:=Tryz.underlying9
 a9:=Tryz.isAgg9
 z9:=Tryz.sizeOf9
 v9:=Tryz.zeroValue9
 t20:=Tryz.underlying20
 a20:=Tryz.isAgg20
 z20:=Tryz.sizeOf20
 v20:=Tryz.zeroValue20
 t31:=Tryz.underlying47
 a31:=Tryz.isAgg47
 z31:=Tryz.sizeOf47
 v31:=Tryz.zeroValue47
 t37:=Tryz.underlying32
 a37:=Tryz.isAgg32
 z37:=Tryz.sizeOf32
 v37:=Tryz.zeroValue32
 t70:=Tryz.underlying172
 a70:=Tryz.isAgg172
 z70:=Tryz.sizeOf172
 v70:=Tryz.zeroValue172
 t72:=Tryz.underlying174
 a72:=Tryz.isAgg174
 z72:=Tryz.sizeOf174
 v72:=Tryz.zeroValue174
 t75:=Tryz.underlying176
 a75:=Tryz.isAgg176
 z75:=Tryz.sizeOf176
 v75:=Tryz.zeroValue176
 t76:=Tryz.underlying177
 a76:=Tryz.isAgg177
 z76:=Tryz.sizeOf177
 v76:=Tryz.zeroValue177
 t127:=Tryz.underlying215
 a127:=Tryz.isAgg215
 z127:=Tryz.sizeOf215
 v127:=Tryz.zeroValue215
 t164:=Tryz.underlying254
 a164:=Tryz.isAgg254
 z164:=Tryz.sizeOf254
 v164:=Tryz.zeroValue254 }
theorem Tryz.Builder_Extra_156:Builder.Extra Tryz.prog Tryz.lays156_ren:={
 sizeBuilder:=by kernel_rfl
 liesBuilder:=by kernel_rfl
 t5:=Tryz.underlying5
 a5:=Tryz.isAgg5
 z5:=Tryz.sizeOf5
 v5:=Tryz.zeroValue5
 infoByte:=by kernel_rfl
 cellsByte:=by kernel_rfl
 sizeByte:=by kernel_rfl
 neB5:=by decide }
open Go.RowKit in
theorem Tryz.strings_Join (bk o c:Nat) (xs:List ByteArray) (sep:ByteArray) (w:World) (hcells:∀ (j:Nat) x,xs[j]?=some x→w.cell? ⟨bk,o+j,none⟩=some (.string x)) (hbk:bk<w.heap.size) (hN:xs.length≤140737488355328) (hcap:xs.length≤c) (hlen:(Lib.join (xs.map (·.data.toList)) sep.data.toList).length≤140737488355328) :
  Calls Tryz.prog 110 #[.slice (some ⟨bk,o,none⟩) xs.length c,.string sep] w fun e w'=>e=.returned (.string ⟨(Lib.join (xs.map (·.data.toList)) sep.data.toList).toArray⟩)∧Below w.heap.size w w':=Any.strings_Join Tryz.lays156 Tryz.Builder_Extra_156 bk o c xs sep w hcells hbk hN hcap hlen
def Tryz.lays119_ren:Go.Shelf.Ren:=⟨fun | 119=>261 | n=>n,fun | 21=>21 | 4=>4 | n=>n,fun | n=>n⟩
theorem Tryz.lays119:Go.Proofs.Lays.n119 Tryz.prog Tryz.lays119_ren:={
 mixed:=by kernel_rfl
 f119:=Tryz.func261.trans (congrArg some (by kernel_rfl))
 t4:=Tryz.underlying4
 a4:=Tryz.isAgg4
 z4:=Tryz.sizeOf4
 v4:=Tryz.zeroValue4
 t21:=Tryz.underlying21
 a21:=Tryz.isAgg21
 z21:=Tryz.sizeOf21
 v21:=Tryz.zeroValue21 }
theorem Tryz.utf8_ValidRune (r:Int) (w:World) :
  Calls Tryz.prog 261 #[.int .i32 r] w fun e w'=>e=.returned (.bool (Lib.validRune r))∧w'=w:=Any.utf8_ValidRune Tryz.lays119 r w
def Tryz.lays106_ren:Go.Shelf.Ren:=⟨fun | 106=>75 | 213=>112 | 265=>153 | n=>n,fun | 9=>9 | 3=>3 | n=>n,fun | n=>n⟩
theorem Tryz.lays106:Go.Proofs.Lays.n106 Tryz.prog Tryz.lays106_ren:={
 mixed:=by kernel_rfl
 f106:=Tryz.func75.trans (congrArg some (by kernel_rfl))
 f213:=Tryz.func112.trans (congrArg some (by kernel_rfl))
 f265:=Tryz.func153.trans (congrArg some (by kernel_rfl))
 t3:=Tryz.underlying3
 a3:=Tryz.isAgg3
 z3:=Tryz.sizeOf3
 v3:=Tryz.zeroValue3
 t9:=Tryz.underlying9
 a9:=Tryz.isAgg9
 z9:=Tryz.sizeOf9
 v9:=Tryz.zeroValue9 }
open Go.RowKit in
theorem Tryz.strings_Compare (a b:ByteArray) (w:World) :
  Calls Tryz.prog 75 #[.string a,.string b] w fun e w'=>e=.returned (.int .i64 (Lib.compareBytes a.data.toList b.data.toList))∧w'=w:=Any.strings_Compare Tryz.lays106 a b w
def Tryz.lays242_ren:Go.Shelf.Ren:=⟨fun | 242=>235 | 278=>253 | n=>n,fun | 37=>32 | 21=>21 | 51=>230 | 4=>4 | 5=>5 | 46=>57 | n=>n,fun | n=>n⟩
theorem Tryz.lays242:Go.Proofs.Lays.n242 Tryz.prog Tryz.lays242_ren:={
 mixed:=by kernel_rfl
 f242:=Tryz.func235.trans (congrArg some (by kernel_rfl))
 f278:=Tryz.func253.trans (congrArg some (by kernel_rfl))
 t4:=Tryz.underlying4
 a4:=Tryz.isAgg4
 z4:=Tryz.sizeOf4
 v4:=Tryz.zeroValue4
 t5:=Tryz.underlying5
 a5:=Tryz.isAgg5
 z5:=Tryz.sizeOf5
 v5:=Tryz.zeroValue5
 t21:=Tryz.underlying21
 a21:=Tryz.isAgg21
 z21:=Tryz.sizeOf21
 v21:=Tryz.zeroValue21
 t37:=Tryz.underlying32
 a37:=Tryz.isAgg32
 z37:=Tryz.sizeOf32
 v37:=Tryz.zeroValue32
 t46:=Tryz.underlying57
 a46:=Tryz.isAgg57
 z46:=Tryz.sizeOf57
 v46:=Tryz.zeroValue57
 t51:=Tryz.underlying230
 a51:=Tryz.isAgg230
 z51:=Tryz.sizeOf230
 v51:=Tryz.zeroValue230 }
open Go.RowKit in
theorem Tryz.utf8_AppendRune_plain (B:Nat) (v:Value) (n:Nat) (xs:List Value) (r:Int) (hr0:-2147483648≤r) (hr1:r≤2147483647) (w:World) (hown:w.ownsRow B 5 1 v n xs) (hlen:n+4≤140737488355328) (hBw:B≤w.heap.size) :
  Calls Tryz.prog 235 #[v,.int .i32 r] w fun e w'=>∃ v',e=.returned v'∧w'.ownsRow B 5 1 v' (n+(Lib.runeCells r).length) (xs++Lib.runeCells r)∧∃ o,(w.alloc o).grownBy w' v.ownBlock:=Any.utf8_AppendRune_plain Tryz.lays242 (by kernel_rfl) B v n xs r hr0 hr1 w hown hlen hBw
def Tryz.laysC245_ren:Go.Shelf.Ren:=⟨fun | 245=>272 | 279=>280 | 280=>281 | 281=>282 | 282=>283 | 316=>286 | 171=>288 | 205=>287 | 243=>289 | 246=>290 | 283=>291 | 284=>292 | 285=>293 | 286=>294 | 129=>168 | 317=>295 | 318=>296 | 319=>297 | 320=>298 | 337=>299 | 338=>300 | n=>n,fun | 9=>9 | 3=>3 | 75=>176 | 167=>312 | 4=>4 | 168=>314 | 210=>321 | 37=>32 | 0=>0 | 127=>215 | 145=>329 | 143=>327 | 2=>2 | 171=>331 | 53=>232 | 5=>5 | 173=>333 | 212=>335 | 51=>230 | 20=>20 | 213=>336 | 46=>57 | 232=>337 | 233=>338 | 80=>45 | n=>n,fun | 15=>4 | 16=>5 | 17=>6 | 18=>7 | 19=>8 | n=>n⟩
theorem Tryz.laysC245:Go.Proofs.LaysC.n245 Tryz.prog Tryz.laysC245_ren:={
 mixed:=by kernel_rfl
 f129:=Tryz.func168.trans (congrArg some (by kernel_rfl))
 f171:=Tryz.func288.trans (congrArg some (by kernel_rfl))
 f205:=Tryz.func287.trans (congrArg some (by kernel_rfl))
 f243:=Tryz.func289.trans (congrArg some (by kernel_rfl))
 f245:=Tryz.func272.trans (congrArg some (by kernel_rfl))
 f246:=Tryz.func290.trans (congrArg some (by kernel_rfl))
 f279:=Tryz.func280.trans (congrArg some (by kernel_rfl))
 f280:=Tryz.func281.trans (congrArg some (by kernel_rfl))
 f281:=Tryz.func282.trans (congrArg some (by kernel_rfl))
 f282:=Tryz.func283.trans (congrArg some (by kernel_rfl))
 f283:=Tryz.func291.trans (congrArg some (by kernel_rfl))
 f284:=Tryz.func292.trans (congrArg some (by kernel_rfl))
 f285:=Tryz.func293.trans (congrArg some (by kernel_rfl))
 f286:=Tryz.func294.trans (congrArg some (by kernel_rfl))
 f316:=Tryz.func286.trans (congrArg some (by kernel_rfl))
 f317:=Tryz.func295.trans (congrArg some (by kernel_rfl))
 f318:=Tryz.func296.trans (congrArg some (by kernel_rfl))
 f319:=Tryz.func297.trans (congrArg some (by kernel_rfl))
 f320:=Tryz.func298.trans (congrArg some (by kernel_rfl))
 f337:=Tryz.func299.trans (congrArg some (by kernel_rfl))
 f338:=Tryz.func300.trans (congrArg some (by kernel_rfl))
 t0:=Tryz.underlying0
 a0:=Tryz.isAgg0
 z0:=Tryz.sizeOf0
 v0:=Tryz.zeroValue0
 t2:=Tryz.underlying2
 a2:=Tryz.isAgg2
 z2:=Tryz.sizeOf2
 v2:=Tryz.zeroValue2
 t3:=Tryz.underlying3
 a3:=Tryz.isAgg3
 z3:=Tryz.sizeOf3
 v3:=Tryz.zeroValue3
 t4:=Tryz.underlying4
 a4:=Tryz.isAgg4
 z4:=Tryz.sizeOf4
 v4:=Tryz.zeroValue4
 t5:=Tryz.underlying5
 a5:=Tryz.isAgg5
 z5:=Tryz.sizeOf5
 v5:=Tryz.zeroValue5
 t9:=Tryz.underlying9
 a9:=Tryz.isAgg9
 z9:=Tryz.sizeOf9
 v9:=Tryz.zeroValue9
 t20:=Tryz.underlying20
 a20:=Tryz.isAgg20
 z20:=Tryz.sizeOf20
 v20:=Tryz.zeroValue20
 t37:=Tryz.underlying32
 a37:=Tryz.isAgg32
 z37:=Tryz.sizeOf32
 v37:=Tryz.zeroValue32
 t46:=Tryz.underlying57
 a46:=Tryz.isAgg57
 z46:=Tryz.sizeOf57
 v46:=Tryz.zeroValue57
 t51:=Tryz.underlying230
 a51:=Tryz.isAgg230
 z51:=Tryz.sizeOf230
 v51:=Tryz.zeroValue230
 t53:=Tryz.underlying232
 a53:=Tryz.isAgg232
 z53:=Tryz.sizeOf232
 v53:=Tryz.zeroValue232
 t75:=Tryz.underlying176
 a75:=Tryz.isAgg176
 z75:=Tryz.sizeOf176
 v75:=Tryz.zeroValue176
 t127:=Tryz.underlying215
 a127:=Tryz.isAgg215
 z127:=Tryz.sizeOf215
 v127:=Tryz.zeroValue215
 t143:=Tryz.underlying327
 a143:=Tryz.isAgg327
 z143:=Tryz.sizeOf327
 v143:=Tryz.zeroValue327
 t145:=Tryz.underlying329
 a145:=Tryz.isAgg329
 z145:=Tryz.sizeOf329
 v145:=Tryz.zeroValue329
 t167:=Tryz.underlying312
 a167:=Tryz.isAgg312
 z167:=Tryz.sizeOf312
 v167:=Tryz.zeroValue312
 t168:=Tryz.underlying314
 a168:=Tryz.isAgg314
 z168:=Tryz.sizeOf314
 v168:=Tryz.zeroValue314
 t171:=Tryz.underlying331
 a171:=Tryz.isAgg331
 z171:=Tryz.sizeOf331
 v171:=Tryz.zeroValue331
 t173:=Tryz.underlying333
 a173:=Tryz.isAgg333
 z173:=Tryz.sizeOf333
 v173:=Tryz.zeroValue333
 t210:=Tryz.underlying321
 a210:=Tryz.isAgg321
 z210:=Tryz.sizeOf321
 v210:=Tryz.zeroValue321
 t212:=Tryz.underlying335
 a212:=Tryz.isAgg335
 z212:=Tryz.sizeOf335
 v212:=Tryz.zeroValue335
 t213:=Tryz.underlying336
 a213:=Tryz.isAgg336
 z213:=Tryz.sizeOf336
 t232:=Tryz.underlying337
 a232:=Tryz.isAgg337
 z232:=Tryz.sizeOf337
 v232:=Tryz.zeroValue337
 t233:=Tryz.underlying338
 a233:=Tryz.isAgg338
 z233:=Tryz.sizeOf338
 v233:=Tryz.zeroValue338
 g15:=by kernel_rfl
 g16:=by kernel_rfl
 g17:=by kernel_rfl
 g18:=by kernel_rfl
 g19:=by kernel_rfl
 t80:=Tryz.underlying45
 a80:=Tryz.isAgg45
 z80:=Tryz.sizeOf45
 v80:=Tryz.zeroValue45
 i0:=by kernel_rfl
 i2:=by kernel_rfl
 i3:=by kernel_rfl
 i4:=by kernel_rfl
 i5:=by kernel_rfl
 i9:=by kernel_rfl
 i20:=by kernel_rfl
 i37:=by kernel_rfl
 i46:=by kernel_rfl
 i51:=by kernel_rfl
 i53:=by kernel_rfl
 i75:=by kernel_rfl
 i80:=by kernel_rfl
 i127:=by kernel_rfl
 i143:=by kernel_rfl
 i145:=by kernel_rfl
 i167:=by kernel_rfl
 i168:=by kernel_rfl
 i171:=by kernel_rfl
 i173:=by kernel_rfl
 i210:=by kernel_rfl
 i212:=by kernel_rfl
 i232:=by kernel_rfl
 i233:=by kernel_rfl
 m15:=by kernel_rfl
 m16:=by kernel_rfl
 m17:=by kernel_rfl
 m18:=by kernel_rfl
 m19:=by kernel_rfl
 c0:=by kernel_rfl
 c2:=by kernel_rfl
 c3:=by kernel_rfl
 c4:=by kernel_rfl
 c5:=by kernel_rfl
 c9:=by kernel_rfl
 c20:=by kernel_rfl
 c37:=by kernel_rfl
 c46:=by kernel_rfl
 c51:=by kernel_rfl
 c53:=by kernel_rfl
 c75:=by kernel_rfl
 c80:=by kernel_rfl
 c127:=by kernel_rfl
 c143:=by kernel_rfl
 c145:=by kernel_rfl
 c167:=by kernel_rfl
 c168:=by kernel_rfl
 c171:=by kernel_rfl
 c173:=by kernel_rfl
 c210:=by kernel_rfl
 c212:=by kernel_rfl
 c213:=by kernel_rfl
 c232:=by kernel_rfl
 c233:=by kernel_rfl }
open Go.RowKit in
theorem Tryz.strconv_toError_syntax (fn s:ByteArray) (base bits:Int) (ev:Value) (w:World) (hlim:s.size≤281474976710656) (hv:w.cell? ⟨4,0,none⟩=some ev) (hev:ev=.nilIface∨∃ te pe,ev=.iface te pe) :
  Calls Tryz.prog 272 #[.string fn,.string s,.int .i64 base,.int .i64 bits,.iface 312 (.int .i64 2)] w fun e w'=>∃ N,e=.returned (.iface 314 (.pointer (some ⟨N,0,none⟩)))∧w.heap.size≤N∧w'.heap[N]?=some (.cells #[.string fn,.string s,ev] 321 (0,0))∧Below w.heap.size w w':=Any.strconv_toError_syntax Tryz.laysC245 fn s base bits ev w hlim hv hev
def Tryz.lays145_ren:Go.Shelf.Ren:=⟨fun | 145=>120 | 220=>170 | 219=>204 | 217=>230 | 225=>231 | 224=>232 | 267=>233 | 266=>249 | 314=>250 | n=>n,fun | 9=>9 | 4=>4 | 59=>188 | 3=>3 | 5=>5 | 46=>57 | 146=>289 | 51=>230 | n=>n,fun | 1=>0 | n=>n⟩
theorem Tryz.lays145:Go.Proofs.Lays.n145 Tryz.prog Tryz.lays145_ren:={
 mixed:=by kernel_rfl
 f145:=Tryz.func120.trans (congrArg some (by kernel_rfl))
 f217:=Tryz.func230.trans (congrArg some (by kernel_rfl))
 f219:=Tryz.func204.trans (congrArg some (by kernel_rfl))
 f220:=Tryz.func170.trans (congrArg some (by kernel_rfl))
 f224:=Tryz.func232.trans (congrArg some (by kernel_rfl))
 f225:=Tryz.func231.trans (congrArg some (by kernel_rfl))
 f266:=Tryz.func249.trans (congrArg some (by kernel_rfl))
 f267:=Tryz.func233.trans (congrArg some (by kernel_rfl))
 f314:=Tryz.func250.trans (congrArg some (by kernel_rfl))
 t3:=Tryz.underlying3
 a3:=Tryz.isAgg3
 z3:=Tryz.sizeOf3
 v3:=Tryz.zeroValue3
 t4:=Tryz.underlying4
 a4:=Tryz.isAgg4
 z4:=Tryz.sizeOf4
 v4:=Tryz.zeroValue4
 t5:=Tryz.underlying5
 a5:=Tryz.isAgg5
 z5:=Tryz.sizeOf5
 v5:=Tryz.zeroValue5
 t9:=Tryz.underlying9
 a9:=Tryz.isAgg9
 z9:=Tryz.sizeOf9
 v9:=Tryz.zeroValue9
 t46:=Tryz.underlying57
 a46:=Tryz.isAgg57
 z46:=Tryz.sizeOf57
 v46:=Tryz.zeroValue57
 t51:=Tryz.underlying230
 a51:=Tryz.isAgg230
 z51:=Tryz.sizeOf230
 v51:=Tryz.zeroValue230
 t59:=Tryz.underlying188
 a59:=Tryz.isAgg188
 z59:=Tryz.sizeOf188
 v59:=Tryz.zeroValue188
 t146:=Tryz.underlying289
 a146:=Tryz.isAgg289
 z146:=Tryz.sizeOf289
 v146:=Tryz.zeroValue289
 g1:=by kernel_rfl }
open Go.RowKit Go.Lib in
theorem Tryz.strings_Cut (s sep:ByteArray) (m:Int) (w:World) (hs:s.size<4294967281) (hm:w.cell? ⟨0,0,none⟩=some (.int .i64 m)) :
  Calls Tryz.prog 120 #[.string s,.string sep] w fun e w'=>e=.returned (.tuple #[.string ⟨(Lib.cut s.data.toList sep.data.toList).1.toArray⟩,.string ⟨(Lib.cut s.data.toList sep.data.toList).2.1.toArray⟩,.bool (Lib.cut s.data.toList sep.data.toList).2.2])∧∃ n,w'=w.drewN n:=Any.strings_Cut Tryz.lays145 s sep m w hs hm
def Tryz.lays102_ren:Go.Shelf.Ren:=⟨fun | 102=>121 | 209=>171 | 207=>205 | n=>n,fun | 9=>9 | 4=>4 | 3=>3 | n=>n,fun | n=>n⟩
theorem Tryz.lays102:Go.Proofs.Lays.n102 Tryz.prog Tryz.lays102_ren:={
 mixed:=by kernel_rfl
 f102:=Tryz.func121.trans (congrArg some (by kernel_rfl))
 f207:=Tryz.func205.trans (congrArg some (by kernel_rfl))
 f209:=Tryz.func171.trans (congrArg some (by kernel_rfl))
 t3:=Tryz.underlying3
 a3:=Tryz.isAgg3
 z3:=Tryz.sizeOf3
 v3:=Tryz.zeroValue3
 t4:=Tryz.underlying4
 a4:=Tryz.isAgg4
 z4:=Tryz.sizeOf4
 v4:=Tryz.zeroValue4
 t9:=Tryz.underlying9
 a9:=Tryz.isAgg9
 z9:=Tryz.sizeOf9
 v9:=Tryz.zeroValue9 }
open Go.RowKit Go.Lib in
theorem Tryz.strings_TrimSuffix (s p:ByteArray) (w:World) (hs:s.size≤9223372036854775807) :
  Calls Tryz.prog 121 #[.string s,.string p] w fun e w'=>e=.returned (.string ⟨(Lib.trimSuffix s.data.toList p.data.toList).toArray⟩)∧w'=w:=Any.strings_TrimSuffix Tryz.lays102 s p w hs
def Tryz.lays146_ren:Go.Shelf.Ren:=⟨fun | 146=>242 | 221=>258 | 268=>268 | 138=>269 | 143=>270 | 195=>276 | 197=>262 | 218=>277 | 219=>204 | 260=>273 | 217=>230 | 225=>231 | 224=>232 | 267=>233 | 266=>249 | 314=>250 | n=>n,fun | 9=>9 | 31=>47 | 3=>3 | 4=>4 | 0=>0 | 105=>301 | 21=>21 | 5=>5 | 46=>57 | 119=>234 | 139=>237 | 138=>236 | 146=>289 | 51=>230 | n=>n,fun | 1=>0 | 3=>1 | 4=>2 | n=>n⟩
theorem Tryz.lays146:Go.Proofs.Lays.n146 Tryz.prog Tryz.lays146_ren:={
 mixed:=by kernel_rfl
 f138:=Tryz.func269.trans (congrArg some (by kernel_rfl))
 f143:=Tryz.func270.trans (congrArg some (by kernel_rfl))
 f146:=Tryz.func242.trans (congrArg some (by kernel_rfl))
 f195:=Tryz.func276.trans (congrArg some (by kernel_rfl))
 f197:=Tryz.func262.trans (congrArg some (by kernel_rfl))
 f217:=Tryz.func230.trans (congrArg some (by kernel_rfl))
 f218:=Tryz.func277.trans (congrArg some (by kernel_rfl))
 f219:=Tryz.func204.trans (congrArg some (by kernel_rfl))
 f221:=Tryz.func258.trans (congrArg some (by kernel_rfl))
 f224:=Tryz.func232.trans (congrArg some (by kernel_rfl))
 f225:=Tryz.func231.trans (congrArg some (by kernel_rfl))
 f260:=Tryz.func273.trans (congrArg some (by kernel_rfl))
 f266:=Tryz.func249.trans (congrArg some (by kernel_rfl))
 f267:=Tryz.func233.trans (congrArg some (by kernel_rfl))
 f268:=Tryz.func268.trans (congrArg some (by kernel_rfl))
 f314:=Tryz.func250.trans (congrArg some (by kernel_rfl))
 t0:=Tryz.underlying0
 a0:=Tryz.isAgg0
 z0:=Tryz.sizeOf0
 v0:=Tryz.zeroValue0
 t3:=Tryz.underlying3
 a3:=Tryz.isAgg3
 z3:=Tryz.sizeOf3
 v3:=Tryz.zeroValue3
 t4:=Tryz.underlying4
 a4:=Tryz.isAgg4
 z4:=Tryz.sizeOf4
 v4:=Tryz.zeroValue4
 t5:=Tryz.underlying5
 a5:=Tryz.isAgg5
 z5:=Tryz.sizeOf5
 v5:=Tryz.zeroValue5
 t9:=Tryz.underlying9
 a9:=Tryz.isAgg9
 z9:=Tryz.sizeOf9
 v9:=Tryz.zeroValue9
 t21:=Tryz.underlying21
 a21:=Tryz.isAgg21
 z21:=Tryz.sizeOf21
 v21:=Tryz.zeroValue21
 t31:=Tryz.underlying47
 a31:=Tryz.isAgg47
 z31:=Tryz.sizeOf47
 v31:=Tryz.zeroValue47
 t46:=Tryz.underlying57
 a46:=Tryz.isAgg57
 z46:=Tryz.sizeOf57
 v46:=Tryz.zeroValue57
 t51:=Tryz.underlying230
 a51:=Tryz.isAgg230
 z51:=Tryz.sizeOf230
 v51:=Tryz.zeroValue230
 t105:=Tryz.underlying301
 a105:=Tryz.isAgg301
 z105:=Tryz.sizeOf301
 v105:=Tryz.zeroValue301
 t119:=Tryz.underlying234
 a119:=Tryz.isAgg234
 z119:=Tryz.sizeOf234
 t138:=Tryz.underlying236
 a138:=Tryz.isAgg236
 z138:=Tryz.sizeOf236
 v138:=Tryz.zeroValue236
 t139:=Tryz.underlying237
 a139:=Tryz.isAgg237
 z139:=Tryz.sizeOf237
 v139:=Tryz.zeroValue237
 t146:=Tryz.underlying289
 a146:=Tryz.isAgg289
 z146:=Tryz.sizeOf289
 v146:=Tryz.zeroValue289
 g1:=by kernel_rfl
 g3:=by kernel_rfl
 g4:=by kernel_rfl }
open Go.RowKit Go.Lib in
theorem Tryz.strings_Split (s sep:ByteArray) (m:Int) (w:World) (hs:s.size<4294967281) (hm:w.cell? ⟨0,0,none⟩=some (.int .i64 m)) (h1:1≤sep.size) :
  Calls Tryz.prog 242 #[.string s,.string sep] w fun e w'=>
   e=.returned (.slice (some ⟨w.heap.size,0,none⟩) (Lib.countB s sep+1) (Lib.countB s sep+1))∧w'=w.alloc (.cells ((Lib.splitB sep 0 (Lib.countB s sep) s).map Value.string).toArray 9):=Any.strings_Split Tryz.lays146 (by kernel_rfl) s sep m w hs hm h1
def Tryz.lays151_ren:Go.Shelf.Ren:=⟨fun | 151=>257 | 152=>267 | 137=>275 | 119=>261 | 224=>232 | 225=>231 | 217=>230 | 266=>249 | n=>n,fun | 9=>9 | 21=>21 | 4=>4 | 3=>3 | 5=>5 | 0=>0 | 46=>57 | n=>n,fun | n=>n⟩
theorem Tryz.lays151:Go.Proofs.Lays.n151 Tryz.prog Tryz.lays151_ren:={
 mixed:=by kernel_rfl
 f119:=Tryz.func261.trans (congrArg some (by kernel_rfl))
 f137:=Tryz.func275.trans (congrArg some (by kernel_rfl))
 f151:=Tryz.func257.trans (congrArg some (by kernel_rfl))
 f152:=Tryz.func267.trans (congrArg some (by kernel_rfl))
 f217:=Tryz.func230.trans (congrArg some (by kernel_rfl))
 f224:=Tryz.func232.trans (congrArg some (by kernel_rfl))
 f225:=Tryz.func231.trans (congrArg some (by kernel_rfl))
 f266:=Tryz.func249.trans (congrArg some (by kernel_rfl))
 t0:=Tryz.underlying0
 a0:=Tryz.isAgg0
 z0:=Tryz.sizeOf0
 v0:=Tryz.zeroValue0
 t3:=Tryz.underlying3
 a3:=Tryz.isAgg3
 z3:=Tryz.sizeOf3
 v3:=Tryz.zeroValue3
 t4:=Tryz.underlying4
 a4:=Tryz.isAgg4
 z4:=Tryz.sizeOf4
 v4:=Tryz.zeroValue4
 t5:=Tryz.underlying5
 a5:=Tryz.isAgg5
 z5:=Tryz.sizeOf5
 v5:=Tryz.zeroValue5
 t9:=Tryz.underlying9
 a9:=Tryz.isAgg9
 z9:=Tryz.sizeOf9
 v9:=Tryz.zeroValue9
 t21:=Tryz.underlying21
 a21:=Tryz.isAgg21
 z21:=Tryz.sizeOf21
 v21:=Tryz.zeroValue21
 t46:=Tryz.underlying57
 a46:=Tryz.isAgg57
 z46:=Tryz.sizeOf57
 v46:=Tryz.zeroValue57 }
open Go.RowKit Go.Lib in
theorem Tryz.strings_ContainsRune_ascii (s:ByteArray) (r:Int) (w:World) (h0:0≤r) (h1:r<128) :
  Calls Tryz.prog 257 #[.string s,.int .i32 r] w fun e w'=>e=.returned (.bool (decide (0≤Lib.indexByte s.data.toList r.toNat.toUInt8)))∧w'=w:=Any.strings_ContainsRune_ascii Tryz.lays151 s r w h0 h1
def Tryz.lays196_ren:Go.Shelf.Ren:=⟨fun | 196=>122 | 259=>172 | n=>n,fun | 9=>9 | 4=>4 | 3=>3 | 5=>5 | 12=>12 | 119=>234 | 0=>0 | 46=>57 | 139=>237 | 138=>236 | 53=>232 | n=>n,fun | 3=>1 | 4=>2 | n=>n⟩
theorem Tryz.lays196:Go.Proofs.Lays.n196 Tryz.prog Tryz.lays196_ren:={
 mixed:=by kernel_rfl
 f196:=Tryz.func122.trans (congrArg some (by kernel_rfl))
 f259:=Tryz.func172.trans (congrArg some (by kernel_rfl))
 t0:=Tryz.underlying0
 a0:=Tryz.isAgg0
 z0:=Tryz.sizeOf0
 v0:=Tryz.zeroValue0
 t3:=Tryz.underlying3
 a3:=Tryz.isAgg3
 z3:=Tryz.sizeOf3
 v3:=Tryz.zeroValue3
 t4:=Tryz.underlying4
 a4:=Tryz.isAgg4
 z4:=Tryz.sizeOf4
 v4:=Tryz.zeroValue4
 t5:=Tryz.underlying5
 a5:=Tryz.isAgg5
 z5:=Tryz.sizeOf5
 v5:=Tryz.zeroValue5
 t9:=Tryz.underlying9
 a9:=Tryz.isAgg9
 z9:=Tryz.sizeOf9
 v9:=Tryz.zeroValue9
 t12:=Tryz.underlying12
 a12:=Tryz.isAgg12
 z12:=Tryz.sizeOf12
 v12:=Tryz.zeroValue12
 t46:=Tryz.underlying57
 a46:=Tryz.isAgg57
 z46:=Tryz.sizeOf57
 v46:=Tryz.zeroValue57
 t53:=Tryz.underlying232
 a53:=Tryz.isAgg232
 z53:=Tryz.sizeOf232
 v53:=Tryz.zeroValue232
 t119:=Tryz.underlying234
 a119:=Tryz.isAgg234
 z119:=Tryz.sizeOf234
 t138:=Tryz.underlying236
 a138:=Tryz.isAgg236
 z138:=Tryz.sizeOf236
 v138:=Tryz.zeroValue236
 t139:=Tryz.underlying237
 a139:=Tryz.isAgg237
 z139:=Tryz.sizeOf237
 v139:=Tryz.zeroValue237
 g3:=by kernel_rfl
 g4:=by kernel_rfl }
end Go.Proofs
namespace Go.Proofs.YtjaebndajhppgaaGreatDoor
theorem ask_drawn {α:Type}:∀ (a:Ask α) (w:World),w.drawn≤(w.ask a).2.drawn
 | .done a,w=>Nat.le_refl _
 | .ask what range k,w=>by
  unfold World.ask
  simp only
  split
  · exact ask_drawn _ _
  · exact Nat.le_trans (Nat.le_succ _) (ask_drawn (k _) { w with drawn:=w.drawn+1 })
theorem sys_drawn (w:World) (c:Sys):w.drawn≤(w.sys c).2.drawn:=by
 unfold World.sys
 have h:=ask_drawn (Kernel.perform c w.os) w
 split
 · exact Nat.le_refl _
 · rename_i r os w' hne he
   rw [he] at h;exact h
theorem view_drawn {p:Program} {w w':World} {t a:Addr} {u:TypeId} {v:Value} {b:Bool} {l:List Addr} (h:w.viewStore p t u a v b=.ok (w',l)):w.drawn=w'.drawn:=by
 unfold World.viewStore at h
 simp only [bind,Except.bind,pure,Except.pure] at h
 repeat' (split at h)
 all_goals first
  | cases h;done
  | (cases h;rfl)
  | skip
theorem store_drawn {p:Program} {w w':World} {a:Addr} {v:Value} {b:Bool} {l:List Addr} (h:w.farStore p a v b=.ok (w',l)):w.drawn≤w'.drawn:=by
 unfold World.farStore at h
 split at h
 · split at h
   · rename_i r hr
     cases h
     exact Nat.le_of_eq (view_drawn hr)
   · cases h
 · cases h
theorem sem_drawn {α:Type} (P:Program):∀ (s:Sem α) (w:World) (a:α) (w':World),s.run P w=.ok a w'→w.drawn≤w'.drawn:=by
 intro s
 induction s with
 | pure a=>intro w b w' h;simp only [Sem.run] at h;cases h;exact Nat.le_refl _
 | load m a k ih=>
  intro w b w' h;simp only [Sem.run] at h
  split at h
  · exact ih _ _ _ _ h
  · split at h
    · exact ih _ _ _ _ h
    · cases h
 | store m a v k ih=>
  intro w b w' h
  cases v with
  | agg fs=>simp only [Sem.run] at h;cases h
  | tuple fs=>simp only [Sem.run] at h;cases h
  | _=>
   simp only [Sem.run] at h
   split at h
   · split at h
     · cases h
     · have:=ih _ _ _ h;exact this
   · split at h
     · rename_i hs
       exact Nat.le_trans (store_drawn hs) (ih _ _ _ h)
     · cases h
 | new o k ih=>intro w b w' h;simp only [Sem.run] at h;have:=ih _ _ _ _ h;exact this
 | shape r k ih=>intro w b w' h;simp only [Sem.run] at h;have:=ih _ _ _ _ h;exact this
 | freeze a n k ih=>
  intro w b w' h;simp only [Sem.run] at h
  have:=ih _ _ _ h
  have e:(w.freeze a n).drawn=w.drawn:=by unfold World.freeze;split <;> rfl
  rw [←e];exact this
 | frozen a k ih=>intro w b w' h;simp only [Sem.run] at h;have:=ih _ _ _ _ h;exact this
 | getObj r k ih=>
  intro w b w' h;simp only [Sem.run] at h
  split at h
  · cases h
  · exact ih _ _ _ _ h
  · cases h
 | setObj r o k ih=>
  intro w b w' h;simp only [Sem.run] at h
  split at h
  · cases h
  · have:=ih _ _ _ h;exact this
  · cases h
 | choose q k ih=>
  intro w b w' h;simp only [Sem.run] at h
  split at h
  · exact ih _ _ _ _ h
  · exact Nat.le_trans (Nat.le_succ _) (ih _ _ _ _ h)
 | sys c k ih=>
  intro w b w' h;simp only [Sem.run] at h
  exact Nat.le_trans (sys_drawn w c) (ih _ _ _ _ h)
 | program k ih=>intro w b w' h;simp only [Sem.run] at h;exact ih _ _ _ _ h
 | mark m k ih=>intro w b w' h;simp only [Sem.run] at h;exact ih _ _ _ h
 | halt e=>intro w b w' h;simp only [Sem.run] at h;cases h
open Go.ChangeShapes Go.WideShapes Go.ChangeAt Go.RowKit
theorem Tryz.info5:(Tryz.prog.info? 5).map (fun i=>(i.zero,i.size,i.bytes))=some (some (.int .u8 0),1,1):=by kernel_rfl
def byv (c:UInt8):Value:=.int .u8 (c.toNat:Nat)
theorem wpList_append_manyD {w:World} {P:Program} {ops:Array Oper} {rest:List Oper} {o:Oper} {a:Act} {Q:Exit→Act→World→Prop} (hgd:o.guard=none) (s x:Operand) (t:TypeId)
  (ho:o.op=.call { callee:=.builtin .append,args:=#[s,x],argTypes:=#[t,t] })
  (base:Nat) (e:TypeId) (i:TypeInfo) (z:Value) (bytes:Nat) (ht:P.underlying t=some (.slice e)) (hi:P.info? e=some i) (hz:i.zero=some z)
  (hsize:i.size=1) (hby:i.bytes=bytes) (hzs:z.cells.size=1)
  (v:Value) (n:Nat) (xs:List Value) (us:List Value) (m:Nat) (hm:m=us.length) (W:World) (hw:w=W.alloc (.cells us.toArray e)) (hs:a.eval s=v) (hown:W.ownsRow base e 1 v n xs)
  (H:Nat) (hH:W.heap.size=H) (hx:a.eval x=.slice (some ⟨H,0,none⟩) m m) (h1:∀ u∈us,u.oneCell'=true)
  (h63:n+m≤maxLen) (hbytes:(n+m)*bytes≤140737488355328) (hbase:base≤W.heap.size)
  (h:∀ v' w',w'.ownsRow base e 1 v' (n+m) (xs++us)→W.grownBy w' v.ownBlock→Moved W v v'→W.drawn≤w'.drawn→wpList P ops Q rest (a.put o.dst v') w'):wpList P ops Q (o::rest) a w:=by
 subst hw
 subst hm
 subst hH
 have hs1:(W.alloc (.cells us.toArray e)).heap.size=W.heap.size+1:=by simp
 refine wpList_plain hgd fun K hK=>?_
 obtain ⟨v',w',hr,h2,h3,h4⟩:=run_append_blk (P:=P) (w:=W.alloc (.cells us.toArray e)) base t o.type e i z 1 bytes ht hi hz hsize hby hzs (by decide) v n xs (hown.alloc _) ⟨W.heap.size,0,none⟩ us.length us.length us (by simp) (by
  intro j u' hu
  rw [add_cell rfl,Nat.zero_add,cell_new]
  simpa using hu) h1 h63 hbytes (by omega)
 have hd:=sem_drawn P _ _ _ _ hr
 have hk:=h v' w' h2 ⟨h3.os,h3.tape,h3.output,by have:=h3.size;omega,fun k hk hne=>by rw [h3.block k (by omega) hne,Below.heap_alloc _ _ _ hk]⟩ (by
  rcases h4 with c | ⟨k,c,d⟩
  · exact Or.inl c
  · exact Or.inr ⟨k,c,by omega⟩) hd
 unfold Oper.wp execOp
 simp only [ho,resolve,invoke,builtin,Sem.run_bind,Sem.run_pure,Result.andThen_ok,List.map_toArray,List.map_cons,List.map_nil,hs,hx,hr]
 exact hK _ _ hk
theorem wpList_append_many {w:World} {P:Program} {ops:Array Oper} {rest:List Oper} {o:Oper} {a:Act} {Q:Exit→Act→World→Prop} (hgd:o.guard=none) (s x:Operand) (t:TypeId)
  (ho:o.op=.call { callee:=.builtin .append,args:=#[s,x],argTypes:=#[t,t] })
  (base:Nat) (e:TypeId) (i:TypeInfo) (z:Value) (bytes:Nat) (ht:P.underlying t=some (.slice e)) (hi:P.info? e=some i) (hz:i.zero=some z)
  (hsize:i.size=1) (hby:i.bytes=bytes) (hzs:z.cells.size=1)
  (v:Value) (n:Nat) (xs:List Value) (us:List Value) (m:Nat) (hm:m=us.length) (W:World) (hw:w=W.alloc (.cells us.toArray e)) (hs:a.eval s=v) (hown:W.ownsRow base e 1 v n xs)
  (H:Nat) (hH:W.heap.size=H) (hx:a.eval x=.slice (some ⟨H,0,none⟩) m m) (h1:∀ u∈us,u.oneCell'=true)
  (h63:n+m≤maxLen) (hbytes:(n+m)*bytes≤140737488355328) (hbase:base≤W.heap.size)
  (h:∀ v' w',w'.ownsRow base e 1 v' (n+m) (xs++us)→W.grownBy w' v.ownBlock→Moved W v v'→wpList P ops Q rest (a.put o.dst v') w'):wpList P ops Q (o::rest) a w:=
 wpList_append_manyD hgd s x t ho base e i z bytes ht hi hz hsize hby hzs v n xs us m hm W hw hs hown H hH hx h1 h63 hbytes hbase fun v' w' a b c _=>h v' w' a b c
theorem step_append_manyD {w:World} {P:Program} {ops:Array Oper} {o:Oper} {a:Act} {K:Act→World→Prop} {Q:Exit→Act→World→Prop} {E:Prop} (hgd:o.guard=none) (s x:Operand) (t:TypeId)
  (ho:o.op=.call { callee:=.builtin .append,args:=#[s,x],argTypes:=#[t,t] })
  (base:Nat) (e:TypeId) (i:TypeInfo) (z:Value) (bytes:Nat) (ht:P.underlying t=some (.slice e)) (hi:P.info? e=some i) (hz:i.zero=some z)
  (hsize:i.size=1) (hby:i.bytes=bytes) (hzs:z.cells.size=1)
  (v:Value) (n:Nat) (xs:List Value) (us:List Value) (m:Nat) (hm:m=us.length) (W:World) (hw:w=(W.alloc (.cells us.toArray e)).drew) (hs:a.eval s=v) (hown:W.ownsRow base e 1 v n xs)
  (H:Nat) (hH:W.heap.size=H) (hx:a.eval x=.slice (some ⟨H,0,none⟩) m m) (h1:∀ u∈us,u.oneCell'=true)
  (h63:n+m≤maxLen) (hbytes:(n+m)*bytes≤140737488355328) (hbase:base≤W.heap.size)
  (h:∀ v' w',w'.ownsRow base e 1 v' (n+m) (xs++us)→W.grownBy w' v.ownBlock→Moved W v v'→W.drawn≤w'.drawn→K (a.put o.dst v') w') :
  if Region.wanted o (yielded ops a.tmps)=true then Oper.wp P o a w K Q else E:=by
 have hwd:Region.wanted o (yielded ops a.tmps)=true:=by simp [Region.wanted,hgd]
 rw [if_pos hwd]
 subst hw
 subst hm
 subst hH
 obtain ⟨v',w',hr,h2,h3,h4⟩:=run_append_blk (P:=P) (w:=(W.alloc (.cells us.toArray e)).drew) base t o.type e i z 1 bytes ht hi hz hsize hby hzs (by decide) v n xs (hown.alloc _) ⟨W.heap.size,0,none⟩ us.length us.length us (by simp) (by
  intro j u' hu
  rw [add_cell rfl,Nat.zero_add]
  show (W.alloc (Obj.cells us.toArray e)).cell? ⟨W.heap.size,j,none⟩=some u'
  rw [cell_new]
  simpa using hu) h1 h63 hbytes (by simp;omega)
 have hd:=sem_drawn P _ _ _ _ hr
 have hk:=h v' w' h2 ⟨h3.os,h3.tape,h3.output,by have:=h3.size;simp at this;omega,fun k hk hne=>by rw [h3.block k (by simp;omega) hne];show (W.alloc (Obj.cells us.toArray e)).heap[k]?=_;rw [Below.heap_alloc _ _ _ hk]⟩ (by
  rcases h4 with c | ⟨k,c,d⟩
  · exact Or.inl c
  · exact Or.inr ⟨k,c,by simp at d;omega⟩) (Nat.le_trans (Nat.le_succ _) hd)
 unfold Oper.wp execOp
 simp only [ho,resolve,invoke,builtin,Sem.run_bind,Sem.run_pure,Result.andThen_ok,List.map_toArray,List.map_cons,List.map_nil,hs,hx,hr]
 exact hk
def EscPost (W:World) (base:Nat) (v:Value) (n:Nat) (xs:List Value) (c:UInt8) (e:Ending) (W':World):Prop:=
 ∃ v',e=.returned v'∧W'.ownsRow base 5 1 v' (n+(Tm.esc c).length) (xs++(Tm.esc c).map byv)∧W.grownBy W' v.ownBlock∧Moved W v v'∧W.drawn≤W'.drawn
theorem hex_at (k:Nat) (h:k<16) (p:k<(⟨#[48,49,50,51,52,53,54,55,56,57,65,66,67,68,69,70]⟩:ByteArray).size):(⟨#[48,49,50,51,52,53,54,55,56,57,65,66,67,68,69,70]⟩:ByteArray)[k]=Tm.hexd k:=by
 have:∀ k:Fin 16,(⟨#[48,49,50,51,52,53,54,55,56,57,65,66,67,68,69,70]⟩:ByteArray)[k.val]=Tm.hexd k.val:=by decide
 exact this ⟨k,h⟩
theorem esc_fix (c d:UInt8) (h:(c=34∧d=34)∨(c=92∧d=92)∨(c=10∧d=110)∨(c=13∧d=114)∨(c=9∧d=116)∨(c=8∧d=98)∨(c=12∧d=102)) (a:Option Addr) (n cap:Nat) (xs:List Value) (base:Nat) (W:World) (hown:W.ownsRow base 5 1 (.slice a n cap) n xs) (hn:n+2≤100000000000) (hb:base≤W.heap.size) :
  Calls Tryz.prog 146 #[.slice a n cap,.int .u8 (c.toNat:Nat)] W (EscPost W base (.slice a n cap) n xs c):=by
 obtain ⟨i0,hi,hz0,hz1,hz2⟩:=info_parts Tryz.info5
 have HO:=hid hown
 clear hown
 rcases h with ⟨rfl,rfl⟩ | ⟨rfl,rfl⟩ | ⟨rfl,rfl⟩ | ⟨rfl,rfl⟩ | ⟨rfl,rfl⟩ | ⟨rfl,rfl⟩ | ⟨rfl,rfl⟩
 all_goals
  go_enter Tryz.func146,Tryz.ntmps146
  go_wp2_with (at_builtin;refine wpList_append_manyD rfl _ _ 32 rfl base 5 i0 _ 1 Tryz.underlying32 hi hz0 hz1 hz2 rfl (.slice a n cap) n xs _ 2 (by rfl) W rfl rfl HO.out W.heap.size rfl rfl ?one ?b1 ?b2 hb ?_)
  case one=>intro u hu;simp at hu;rcases hu with rfl | rfl <;> rfl
  case b1=>unfold maxLen;omega
  case b2=>omega
  intro v1 w1 hown hgr hmv hdr
  have O1:=hid hown
  have HMV:=hid (And.intro hmv hdr)
  clear hown hmv hdr
  go_wp2
  go_ret
  exact ⟨_,rfl,O1.out,hgr,HMV.out⟩
def NoFix (c:UInt8):Prop:=c.toNat≠34∧c.toNat≠92∧c.toNat≠10∧c.toNat≠13∧c.toNat≠9∧c.toNat≠8∧c.toNat≠12
theorem esc_six (c:UInt8) (h:NoFix c) (hl:c.toNat<32∨c.toNat=127):Tm.esc c=[92,117,48,48,Tm.hexd (c.toNat / 16),Tm.hexd (c.toNat % 16)]:=by
 obtain ⟨h1,h2,h3,h4,h5,h6,h7⟩:=h
 have e:∀ d:UInt8,c.toNat≠d.toNat→c≠d:=fun d hn he=>hn (by rw [he])
 unfold Tm.esc
 rw [if_neg (by rintro (h | h);exact e 34 h1 h;exact e 92 h2 h),if_neg (e 10 h3),if_neg (e 13 h4),if_neg (e 9 h5),if_neg (e 8 h6),if_neg (e 12 h7),if_pos]
 rcases hl with h | h
 · exact .inl h
 · exact .inr (UInt8.toNat_inj.1 h)
theorem esc_self (c:UInt8) (h:NoFix c) (hl:32≤c.toNat∧c.toNat≠127):Tm.esc c=[c]:=by
 obtain ⟨h1,h2,h3,h4,h5,h6,h7⟩:=h
 have e:∀ d:UInt8,c.toNat≠d.toNat→c≠d:=fun d hn he=>hn (by rw [he])
 exact Tm.esc_plain c hl.1 (e 127 hl.2) (e 34 h1) (e 92 h2)
theorem esc_plain_any (c:UInt8) (h:NoFix c) (hl:32≤c.toNat∧c.toNat≠127) (a:Option Addr) (n cap:Nat) (xs:List Value) (base:Nat) (W:World) (hown:W.ownsRow base 5 1 (.slice a n cap) n xs) (hn:n+2≤100000000000) (hb:base≤W.heap.size) :
  Calls Tryz.prog 146 #[.slice a n cap,.int .u8 (c.toNat:Nat)] W (EscPost W base (.slice a n cap) n xs c):=by
 obtain ⟨i0,hi,hz0,hz1,hz2⟩:=info_parts Tryz.info5
 have HO:=hid hown
 have HS:=hid (esc_self c h hl)
 obtain ⟨h1,h2,h3,h4,h5,h6,h7⟩:=h
 obtain ⟨h8,h9⟩:=hl
 have b1:((c.toNat:Int)==34)=false:=beq_eq_false_iff_ne.2 (by omega)
 have b2:((c.toNat:Int)==92)=false:=beq_eq_false_iff_ne.2 (by omega)
 have b3:((c.toNat:Int)==10)=false:=beq_eq_false_iff_ne.2 (by omega)
 have b4:((c.toNat:Int)==13)=false:=beq_eq_false_iff_ne.2 (by omega)
 have b5:((c.toNat:Int)==9)=false:=beq_eq_false_iff_ne.2 (by omega)
 have b6:((c.toNat:Int)==8)=false:=beq_eq_false_iff_ne.2 (by omega)
 have b7:((c.toNat:Int)==12)=false:=beq_eq_false_iff_ne.2 (by omega)
 have b9:((c.toNat:Int)==127)=false:=beq_eq_false_iff_ne.2 (by omega)
 clear hown h1 h2 h3 h4 h5 h6 h7 h9
 go_enter Tryz.func146,Tryz.ntmps146
 go_wp2_with (at_builtin;refine wpList_append_manyD rfl _ _ 32 rfl base 5 i0 _ 1 Tryz.underlying32 hi hz0 hz1 hz2 rfl (.slice a n cap) n xs [byv c] 1 (by rfl) W rfl rfl HO.out W.heap.size rfl rfl ?one ?b1 ?b2 hb ?_)
 case one=>intro u hu;simp at hu;rw [hu];rfl
 case b1=>unfold maxLen;omega
 case b2=>omega
 intro v1 w1 hown hgr hmv hdr
 have O1:=hid hown
 have HMV:=hid (And.intro hmv hdr)
 clear hown hmv hdr
 go_wp2
 go_ret
 exact ⟨_,rfl,by rw [HS.out];exact O1.out,hgr,HMV.out⟩
theorem esc_hex_any (c:UInt8) (h:NoFix c) (hl:c.toNat<32∨c.toNat=127) (a:Option Addr) (n cap:Nat) (xs:List Value) (base:Nat) (W:World) (hown:W.ownsRow base 5 1 (.slice a n cap) n xs) (hn:n+6≤100000000000) (hb:base≤W.heap.size) :
  Calls Tryz.prog 146 #[.slice a n cap,.int .u8 (c.toNat:Nat)] W (EscPost W base (.slice a n cap) n xs c):=by
 obtain ⟨i0,hi,hz0,hz1,hz2⟩:=info_parts Tryz.info5
 have HO:=hid hown
 have HS:=hid (esc_six c h hl)
 obtain ⟨h1,h2,h3,h4,h5,h6,h7⟩:=h
 have b1:((c.toNat:Int)==34)=false:=beq_eq_false_iff_ne.2 (by omega)
 have b2:((c.toNat:Int)==92)=false:=beq_eq_false_iff_ne.2 (by omega)
 have b3:((c.toNat:Int)==10)=false:=beq_eq_false_iff_ne.2 (by omega)
 have b4:((c.toNat:Int)==13)=false:=beq_eq_false_iff_ne.2 (by omega)
 have b5:((c.toNat:Int)==9)=false:=beq_eq_false_iff_ne.2 (by omega)
 have b6:((c.toNat:Int)==8)=false:=beq_eq_false_iff_ne.2 (by omega)
 have b7:((c.toNat:Int)==12)=false:=beq_eq_false_iff_ne.2 (by omega)
 have hc128:c.toNat<128:=by omega
 clear hown h1 h2 h3 h4 h5 h6 h7
 have hand:bits BinOp.and IntKind.u8 (c.toNat:Int) 15=((c.toNat % 16:Nat):Int):=by
  have:=u8_and_nat c.toNat 15 (by omega) (by omega)
  rw [show (15:Int)=((15:Nat):Int) from rfl,this,show c.toNat &&& 15=c.toNat % 16 from Nat.and_two_pow_sub_one_eq_mod c.toNat 4]
 have hsh:(c.toNat:Int) / 16=((c.toNat / 16:Nat):Int):=by omega
 have hq:c.toNat / 16<16:=by omega
 have hr:c.toNat % 16<16:=by omega
 obtain ⟨k1,hk1⟩:∃ k,k=c.toNat / 16:=⟨_,rfl⟩
 obtain ⟨k2,hk2⟩:∃ k,k=c.toNat % 16:=⟨_,rfl⟩
 rw [←hk1] at hsh hq HS
 rw [←hk2] at hand hr HS
 have hq1:=fun p=>hex_at k1 hq p
 have hr1:=fun p=>hex_at k2 hr p
 have hqz:(k1:Int)<16:=by omega
 have hrz:(k2:Int)<16:=by omega
 have hqz0:(0:Int)≤(k1:Int):=by omega
 have hrz0:(0:Int)≤(k2:Int):=by omega
 clear hk1 hk2
 rcases hl with h8 | h8
 · go_enter Tryz.func146,Tryz.ntmps146
   go_wp2
   go_region_law ((refine step_append_manyD (by rfl) _ _ 32 (by rfl) base 5 i0 _ 1 Tryz.underlying32 hi hz0 hz1 hz2 rfl (.slice a n cap) n xs [.int .u8 92,.int .u8 117,.int .u8 48,.int .u8 48,byv (Tm.hexd k1),byv (Tm.hexd k2)] 6 (by rfl) _ (by rfl) (by rfl) HO.out _ (by rfl) (by rfl) (by intro u hu;simp at hu;rcases hu with rfl | rfl | rfl | rfl | rfl | rfl <;> rfl) (by unfold maxLen;omega) (by omega) hb ?_;intro v1 w1 hown hgr hmv hdr))
   all_goals
    have O1:=hid hown
    have HMV:=hid (And.intro hmv hdr)
    clear hown hmv hdr
    go_wp2
    go_ret
    exact ⟨_,rfl,by rw [HS.out];exact O1.out,hgr,HMV.out⟩
 · have b10:((c.toNat:Int)==127)=true:=beq_iff_eq.2 (by omega)
   have h9:32≤c.toNat:=by omega
   clear h8
   go_enter Tryz.func146,Tryz.ntmps146
   go_wp2
   go_region_law ((refine step_append_manyD (by rfl) _ _ 32 (by rfl) base 5 i0 _ 1 Tryz.underlying32 hi hz0 hz1 hz2 rfl (.slice a n cap) n xs [.int .u8 92,.int .u8 117,.int .u8 48,.int .u8 48,byv (Tm.hexd k1),byv (Tm.hexd k2)] 6 (by rfl) _ (by rfl) (by rfl) HO.out _ (by rfl) (by rfl) (by intro u hu;simp at hu;rcases hu with rfl | rfl | rfl | rfl | rfl | rfl <;> rfl) (by unfold maxLen;omega) (by omega) hb ?_;intro v1 w1 hown hgr hmv hdr))
   all_goals
    have O1:=hid hown
    have HMV:=hid (And.intro hmv hdr)
    clear hown hmv hdr
    go_wp2
    go_ret
    exact ⟨_,rfl,by rw [HS.out];exact O1.out,hgr,HMV.out⟩
theorem esc_any (c:UInt8) (v:Value) (n:Nat) (xs:List Value) (base:Nat) (W:World) (hown:W.ownsRow base 5 1 v n xs) (hn:n+6≤100000000000) (hb:base≤W.heap.size) :
  Calls Tryz.prog 146 #[v,.int .u8 (c.toNat:Nat)] W (EscPost W base v n xs c):=by
 obtain ⟨a,cap,rfl,_,_,_,_⟩:=rowAt_own hown
 by_cases h:NoFix c
 · by_cases hl:c.toNat<32∨c.toNat=127
   · exact esc_hex_any c h hl a n cap xs base W hown hn hb
   · exact esc_plain_any c h (by omega) a n cap xs base W hown (by omega) hb
 · unfold NoFix at h
   have h:c.toNat=34∨c.toNat=92∨c.toNat=10∨c.toNat=13∨c.toNat=9∨c.toNat=8∨c.toNat=12:=by omega
   have e:∀ d:UInt8,c.toNat=d.toNat→c=d:=fun d hd=>UInt8.toNat_inj.1 hd
   rcases h with h | h | h | h | h | h | h
   · obtain rfl:=e 34 h;exact esc_fix 34 34 (by simp) a n cap xs base W hown (by omega) hb
   · obtain rfl:=e 92 h;exact esc_fix 92 92 (by simp) a n cap xs base W hown (by omega) hb
   · obtain rfl:=e 10 h;exact esc_fix 10 110 (by simp) a n cap xs base W hown (by omega) hb
   · obtain rfl:=e 13 h;exact esc_fix 13 114 (by simp) a n cap xs base W hown (by omega) hb
   · obtain rfl:=e 9 h;exact esc_fix 9 116 (by simp) a n cap xs base W hown (by omega) hb
   · obtain rfl:=e 8 h;exact esc_fix 8 98 (by simp) a n cap xs base W hown (by omega) hb
   · obtain rfl:=e 12 h;exact esc_fix 12 102 (by simp) a n cap xs base W hown (by omega) hb
theorem byv_nat (l:List UInt8):l.map byv=(l.map UInt8.toNat).map u8v:=by simp [byv,u8v,List.map_map,Function.comp_def]
theorem strOf_toNat (l:List UInt8):Value.string (strOf (l.map UInt8.toNat))=str l:=by
 simp [strOf,str,List.map_map,Function.comp_def]
theorem conv_own {w:World} {base n:Nat} {v:Value} {l:List UInt8} (h:w.ownsRow base 5 1 v n (l.map byv)) (hn:n=l.length):(convert 32 9 v).run Tryz.prog w=.ok (str l) w:=by
 rw [byv_nat] at h
 have:=conv_row (P:=Tryz.prog) Tryz.underlying32 Tryz.underlying5 Tryz.underlying9 w v (l.map UInt8.toNat) (SlAt.own h (by simpa using hn))
 rw [this,strOf_toNat]
theorem escs_take_succ (s:List UInt8) (k:Nat) (c:UInt8) (h:s[k]?=some c):Tm.escs (s.take (k+1))=Tm.escs (s.take k)++Tm.esc c:=by
 rw [List.take_add_one,h,Tm.escs_append];simp [Tm.escs]
end Go.Proofs.YtjaebndajhppgaaGreatDoor
namespace Go.Proofs.YtjaebndajhppgaaGreatDoor.Tm
open Go
def enc (r:Nat):List UInt8:=(Utf8.encode (r:Int)).data.toList
def okRune (r:Nat):Prop:=r<55296∨(57344≤r∧r≤1114111)
theorem enc_eq (r:Nat) (h:okRune r):enc r =
  if r<128 then [UInt8.ofNat r] else if r<2048 then [UInt8.ofNat (192+r / 64),UInt8.ofNat (128+r % 64)]
  else if r<65536 then [UInt8.ofNat (224+r / 4096),UInt8.ofNat (128+r / 64 % 64),UInt8.ofNat (128+r % 64)]
  else [UInt8.ofNat (240+r / 262144),UInt8.ofNat (128+r / 4096 % 64),UInt8.ofNat (128+r / 64 % 64),UInt8.ofNat (128+r % 64)]:=by
 have hv:Utf8.valid (r:Int)=true:=by
  unfold Utf8.valid;unfold okRune at h
  simp only [Bool.or_eq_true,Bool.and_eq_true,decide_eq_true_eq]
  omega
 unfold enc Utf8.encode
 simp only [hv,if_true,Int.toNat_natCast]
 by_cases h1:r<128
 · rw [if_pos h1,if_pos h1]
 rw [if_neg h1,if_neg h1]
 by_cases h2:r<2048
 · rw [if_pos h2,if_pos h2]
 rw [if_neg h2,if_neg h2]
 by_cases h3:r<65536
 · rw [if_pos h3,if_pos h3]
 rw [if_neg h3,if_neg h3]
theorem nat_of (n:Nat) (h:n<256):(UInt8.ofNat n).toNat=n:=by simp;omega
theorem enc_len (r:Nat) (h:okRune r):1≤(enc r).length∧(enc r).length≤4∧((enc r).length=1→r<128):=by
 rw [enc_eq r h]
 repeat' split
 all_goals simp <;> omega
end Go.Proofs.YtjaebndajhppgaaGreatDoor.Tm
namespace Go.Proofs.YtjaebndajhppgaaGreatDoor
open Go.ChangeShapes Go.WideShapes Go.ChangeAt Go.RowKit
theorem quote_anyD (s:List UInt8) (W:World) (hs:s.length≤1000000000) :
  Calls Tryz.prog 99 #[str s] W fun e W'=>e=.returned (str (34::(Tm.escs s++[34])))∧Below W.heap.size W W'∧W.drawn≤W'.drawn:=by
 obtain ⟨i0,hi,hz0,hz1,hz2⟩:=info_parts Tryz.info5
 have mk1:(Instr.makeSlice 32 (.int .i64 0) (.int .i64 ((s.length:Int)+2))).run Tryz.prog W=.ok (.slice (some ⟨W.heap.size,0,none⟩) 0 (s.length+2)) (W.alloc (.cells (madeCells #[.int .u8 0] (s.length+2)) 5)):=by
  have h:=run_make W 32 5 i0 _ Tryz.underlying32 hi hz0 .i64 .i64 0 ((s.length:Int)+2) (by omega) (by omega) (by rw [hz2];omega) (by omega)
  rw [h,hz1,show ((s.length:Int)+2).toNat=s.length+2 by omega,Nat.mul_one];rfl
 have HM:=hid (show (madeCells #[Value.int .u8 0] (s.length+2)).size=(s.length+2)*1 by rw [size_madeCells,Nat.mul_one])
 go_enter Tryz.func99,Tryz.ntmps99
 go_wp2_with (at_builtin;refine wpList_append_manyD rfl (.tmp 9) (.tmp 10) 32 rfl W.heap.size 5 i0 _ 1 Tryz.underlying32 hi hz0 hz1 hz2 rfl _ 0 [] [byv 34] 1 (by rfl) _ rfl rfl ?own (W.heap.size+1) ?hh rfl ?one ?b1 ?b2 ?base ?_)
 case own=>exact World.ownsRow_made W _ _ (Nat.le_refl _) (by unfold maxLen;omega) HM.out
 case hh=>simp
 case one=>intro u hu;simp at hu;rw [hu];rfl
 case b1=>unfold maxLen;omega
 case b2=>omega
 case base=>simp
 intro v1 w1 hown hgr _ hdr1
 have HD1:=hid (show W.drawn≤w1.drawn from hdr1)
 clear hdr1
 have hb1:Below W.heap.size W w1:=((Below.refl W.heap.size W).alloc (Nat.le_refl _) _).grown hgr (by simp) (fun k hk=>by simp only [Value.ownBlock,Option.some.injEq] at hk;omega)
 have O1:=hid (show w1.ownsRow W.heap.size 5 1 v1 (1+(Tm.escs (s.take 0)).length) ((34::Tm.escs (s.take 0)).map byv) from hown)
 have HB1:=hid hb1
 clear hown hgr hb1 mk1
 go_wp2
 go_loopw [14,3,4] (fun s14 s3 s4 wr=>∃ i:Nat,i≤s.length∧s14=.int .i64 i∧Hid (wr.ownsRow W.heap.size 5 1 s3 (1+(Tm.escs (s.take i)).length) ((34::Tm.escs (s.take i)).map byv))∧Hid (Below W.heap.size W wr)∧Hid (W.drawn≤wr.drawn)) (fun s14 _ _ _=>s.length-(intOf s14).toNat)
 case atStart=>exact ⟨0,by omega,rfl,O1,HB1,HD1⟩
 case round=>
  obtain ⟨i,hi1,rfl,OO,HB,HD⟩:=hrel
  have hzr:=HB.out.size
  have hle:=Tm.escs_len (s.take i)
  rw [List.length_take] at hle
  by_cases hlt:i<s.length
  · obtain ⟨c,hc⟩:∃ c,s[i]?=some c:=⟨_,List.getElem?_eq_getElem hlt⟩
    have hcc:=fun q=>ba_get s i c hc q
    have HS:=hid (escs_take_succ s i c hc)
    have ES:=hid (esc_any c u3 _ _ W.heap.size wr OO.out (by omega) hzr)
    clear hc hle
    go_wp2_with (go_at_call 146;refine ES.out.mono ?_;rintro e w2 ⟨v2,rfl,O2,hgr2,hmv⟩)
    have hb2:Below W.heap.size W w2:=HB.out.grown hgr2 hzr (fun g hg=>(OO.out.lt g hg).1)
    have O3:=hid (show w2.ownsRow W.heap.size 5 1 v2 (1+(Tm.escs (s.take (i+1))).length) ((34::Tm.escs (s.take (i+1))).map byv) by
     rw [HS.out,List.length_append,←Nat.add_assoc,←List.cons_append,List.map_append];exact O2)
    have HB3:=hid hb2
    have HD3:=hid (show W.drawn≤w2.drawn from Nat.le_trans HD.out hmv.2)
    clear O2 hgr2 hmv hb2
    go_roundw
    case rel=>exact ⟨i+1,by omega,by go_num,O3,HB3,HD3⟩
    case measure=>simp [intOf];omega
  · have hnn:i=s.length:=by omega
    have O4:=hid (show wr.ownsRow W.heap.size 5 1 u3 (1+(Tm.escs s).length) ((34::Tm.escs s).map byv) by have h:=OO.out;rw [hnn,List.take_length] at h;exact h)
    have hle2:=Tm.escs_len s
    clear OO
    have CV:=hid (fun (w:World) (v:Value) (h:w.ownsRow W.heap.size 5 1 v (1+(Tm.escs s).length+1) ((34::(Tm.escs s++[34])).map byv))=>conv_own h (by simp;omega))
    go_wp2_with (at_builtin;refine wpList_append_manyD rfl (.tmp 23) (.tmp 24) 32 rfl W.heap.size 5 i0 _ 1 Tryz.underlying32 hi hz0 hz1 hz2 rfl u3 _ _ [byv 34] 1 (by rfl) wr rfl rfl O4.out wr.heap.size rfl rfl ?one ?b1 ?b2 ?base ?_)
    case one=>intro u hu;simp at hu;rw [hu];rfl
    case b1=>unfold maxLen;omega
    case b2=>omega
    case base=>exact hzr
    intro v5 w5 hown hgr5 _ hdr5
    have HD5:=hid (show W.drawn≤w5.drawn from Nat.le_trans HD.out hdr5)
    clear hdr5
    have hb5:Below W.heap.size W w5:=HB.out.grown hgr5 hzr (fun g hg=>(O4.out.lt g hg).1)
    have cv:=CV.out w5 v5 (by simpa using hown)
    have HB5:=hid hb5
    clear hown hgr5 hb5 hle hle2
    go_wp2
    go_ret
    exact ⟨rfl,HB5.out,HD5.out⟩
theorem quote_any (s:List UInt8) (W:World) (hs:s.length≤1000000000) :
  Calls Tryz.prog 99 #[str s] W fun e W'=>e=.returned (str (34::(Tm.escs s++[34])))∧Below W.heap.size W W':=
 (quote_anyD s W hs).mono fun _ _ h=>⟨h.1,h.2.1⟩
end Go.Proofs.YtjaebndajhppgaaGreatDoor
