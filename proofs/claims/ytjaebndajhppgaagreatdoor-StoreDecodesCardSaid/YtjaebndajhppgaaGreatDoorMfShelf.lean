/-Shelf-/
import Derived.Shelf.Unicode.ValidAny
import Derived.Shelf.Strings.Builder1
import Derived.Shelf.Strings.Builder2
import Derived.Shelf.Strings.OnBuilder
import Derived.Shelf.Small.Utf8
import Derived.Shelf.Small.Bits
import Derived.Shelf.Small.Strs
import Derived.Shelf.Strings.BuilderF
import Derived.Shelf.Strings.BuilderK
import Derived.Shelf.Utf8.AppendRunePlain
import Derived.Shelf.Strconv.Itoa0
import Derived.Shelf.LaysM
import Derived.Shelf.Strconv.Clone
import Derived.Shelf.Strconv.SyntaxError
import Derived.Shelf.LaysC
import Derived.Shelf.Strconv.ToError
import Derived.Shelf.Strings.Search1
import Derived.Shelf.Strings.Search2
import Derived.Shelf.Strings.Search3
import Derived.Shelf.Strings.Cut
import Derived.Shelf.Strings.Count
import Derived.Shelf.Strings.Shaped
import Derived.Shelf.Strings.Prefix
import Derived.Shelf.Strings.Split
import Derived.Shelf.Unicode.Latin
import Derived.Shelf.Strings.Runes
import Derived.Shelf.Unicode.DecodeSlow
import Derived.Shelf.Unicode.DecodeAny
import Derived.Shelf.Unicode.CaseLookup
import Derived.Shelf.Unicode.CaseConvert
import Derived.Shelf.Unicode.CaseTo
import Derived.Shelf.Unicode.CaseLaid
import Derived.Ground.SlgnProg
import Derived.Shelf.SlicesE.Clone
import Derived.Test.YtjaebndajhppgaaGreatDoorProg

namespace Go.Proofs
open Go.Shelf
def Tryz.lays169_ren:Go.Shelf.Ren:=⟨fun | 169=>111 | n=>n,fun | 70=>172 | 9=>9 | 0=>0 | 72=>174 | 37=>32 | 127=>215 | 3=>3 | 5=>5 | n=>n,fun | n=>n⟩
theorem Tryz.lays169:Go.Proofs.Lays.n169 prog Tryz.lays169_ren:={
 mixed:=by kernel_rfl
 f169:=func111.trans (congrArg some (by kernel_rfl))
 t0:=underlying0
 a0:=isAgg0
 z0:=sizeOf0
 v0:=zeroValue0
 t3:=underlying3
 a3:=isAgg3
 z3:=sizeOf3
 v3:=zeroValue3
 t9:=underlying9
 a9:=isAgg9
 z9:=sizeOf9
 v9:=zeroValue9
 t37:=underlying32
 a37:=isAgg32
 z37:=sizeOf32
 v37:=zeroValue32
 t70:=underlying172
 a70:=isAgg172
 z70:=sizeOf172
 v70:=zeroValue172
 t72:=underlying174
 a72:=isAgg174
 z72:=sizeOf174
 v72:=zeroValue174
 t127:=underlying215
 a127:=isAgg215
 z127:=sizeOf215
 v127:=zeroValue215 }
theorem Tryz.Builder_Extra_169:Builder.Extra prog Tryz.lays169_ren:={
 sizeBuilder:=by kernel_rfl
 liesBuilder:=by kernel_rfl
 t5:=underlying5
 a5:=isAgg5
 z5:=sizeOf5
 v5:=zeroValue5
 infoByte:=by kernel_rfl
 cellsByte:=by kernel_rfl
 sizeByte:=by kernel_rfl
 neB5:=by decide }
open Go.RowKit in
theorem Tryz.Builder_String (B b:Nat) (l:List UInt8) (w:World) (h:Lib.IsBuilder 174 5 B b (Lib.byteCells l) w) (h0:l≠[]) :
  Calls prog 111 #[.pointer (some ⟨b,0,none⟩)] w fun e w'=>e=.returned (.string ⟨l.toArray⟩)∧Below B w w':=Any.Builder_String Tryz.lays169 Tryz.Builder_Extra_169 B b l w h h0
def Tryz.lays159_ren:Go.Shelf.Ren:=⟨fun | 159=>236 | 165=>152 | 166=>109 | 167=>254 | 169=>111 | 230=>255 | 204=>256 | 240=>151 | 241=>193 | 197=>262 | 118=>263 | 168=>264 | 270=>265 | 262=>266 | 276=>192 | 277=>228 | 260=>273 | 242=>235 | 313=>274 | 278=>253 | 274=>284 | 275=>285 | n=>n,fun | 9=>9 | 4=>4 | 3=>3 | 5=>5 | 72=>174 | 0=>0 | 76=>177 | 75=>176 | 107=>295 | 70=>172 | 20=>20 | 37=>32 | 127=>215 | 21=>21 | 105=>301 | 164=>254 | 162=>310 | 203=>281 | 119=>234 | 46=>57 | 139=>237 | 138=>236 | 51=>230 | 160=>317 | 208=>326 | 206=>324 | 80=>45 | n=>n,fun | 13=>3 | 3=>1 | 4=>2 | n=>n⟩
theorem Tryz.lays159:Go.Proofs.Lays.n159 prog Tryz.lays159_ren:={
 mixed:=by kernel_rfl
 f118:=func263.trans (congrArg some (by kernel_rfl))
 f159:=func236.trans (congrArg some (by kernel_rfl))
 f165:=func152.trans (congrArg some (by kernel_rfl))
 f166:=func109.trans (congrArg some (by kernel_rfl))
 f167:=func254.trans (congrArg some (by kernel_rfl))
 f168:=func264.trans (congrArg some (by kernel_rfl))
 f169:=func111.trans (congrArg some (by kernel_rfl))
 f197:=func262.trans (congrArg some (by kernel_rfl))
 f204:=func256.trans (congrArg some (by kernel_rfl))
 f230:=func255.trans (congrArg some (by kernel_rfl))
 f240:=func151.trans (congrArg some (by kernel_rfl))
 f241:=func193.trans (congrArg some (by kernel_rfl))
 f242:=func235.trans (congrArg some (by kernel_rfl))
 f260:=func273.trans (congrArg some (by kernel_rfl))
 f262:=func266.trans (congrArg some (by kernel_rfl))
 f270:=func265.trans (congrArg some (by kernel_rfl))
 f274:=func284.trans (congrArg some (by kernel_rfl))
 f275:=func285.trans (congrArg some (by kernel_rfl))
 f276:=func192.trans (congrArg some (by kernel_rfl))
 f277:=func228.trans (congrArg some (by kernel_rfl))
 f278:=func253.trans (congrArg some (by kernel_rfl))
 f313:=func274.trans (congrArg some (by kernel_rfl))
 t0:=underlying0
 a0:=isAgg0
 z0:=sizeOf0
 v0:=zeroValue0
 t3:=underlying3
 a3:=isAgg3
 z3:=sizeOf3
 v3:=zeroValue3
 t4:=underlying4
 a4:=isAgg4
 z4:=sizeOf4
 v4:=zeroValue4
 t5:=underlying5
 a5:=isAgg5
 z5:=sizeOf5
 v5:=zeroValue5
 t9:=underlying9
 a9:=isAgg9
 z9:=sizeOf9
 v9:=zeroValue9
 t20:=underlying20
 a20:=isAgg20
 z20:=sizeOf20
 v20:=zeroValue20
 t21:=underlying21
 a21:=isAgg21
 z21:=sizeOf21
 v21:=zeroValue21
 t37:=underlying32
 a37:=isAgg32
 z37:=sizeOf32
 v37:=zeroValue32
 t46:=underlying57
 a46:=isAgg57
 z46:=sizeOf57
 v46:=zeroValue57
 t51:=underlying230
 a51:=isAgg230
 z51:=sizeOf230
 v51:=zeroValue230
 t70:=underlying172
 a70:=isAgg172
 z70:=sizeOf172
 v70:=zeroValue172
 t72:=underlying174
 a72:=isAgg174
 z72:=sizeOf174
 v72:=zeroValue174
 t75:=underlying176
 a75:=isAgg176
 z75:=sizeOf176
 v75:=zeroValue176
 t76:=underlying177
 a76:=isAgg177
 z76:=sizeOf177
 v76:=zeroValue177
 t105:=underlying301
 a105:=isAgg301
 z105:=sizeOf301
 v105:=zeroValue301
 t107:=underlying295
 a107:=isAgg295
 z107:=sizeOf295
 v107:=zeroValue295
 t119:=underlying234
 a119:=isAgg234
 z119:=sizeOf234
 t127:=underlying215
 a127:=isAgg215
 z127:=sizeOf215
 v127:=zeroValue215
 t138:=underlying236
 a138:=isAgg236
 z138:=sizeOf236
 v138:=zeroValue236
 t139:=underlying237
 a139:=isAgg237
 z139:=sizeOf237
 v139:=zeroValue237
 t160:=underlying317
 a160:=isAgg317
 z160:=sizeOf317
 v160:=zeroValue317
 t162:=underlying310
 a162:=isAgg310
 z162:=sizeOf310
 v162:=zeroValue310
 t164:=underlying254
 a164:=isAgg254
 z164:=sizeOf254
 v164:=zeroValue254
 t203:=underlying281
 a203:=isAgg281
 z203:=sizeOf281
 v203:=zeroValue281
 t206:=underlying324
 a206:=isAgg324
 z206:=sizeOf324
 v206:=zeroValue324
 t208:=underlying326
 a208:=isAgg326
 z208:=sizeOf326
 v208:=zeroValue326
 g3:=by kernel_rfl
 g4:=by kernel_rfl
 g13:=by kernel_rfl }
theorem Tryz.Builder_Extra_159:Builder.Extra prog Tryz.lays159_ren:={
 sizeBuilder:=by kernel_rfl
 liesBuilder:=by kernel_rfl
 t5:=underlying5
 a5:=isAgg5
 z5:=sizeOf5
 v5:=zeroValue5
 infoByte:=by kernel_rfl
 cellsByte:=by kernel_rfl
 sizeByte:=by kernel_rfl
 neB5:=by decide }
open Go.RowKit in
theorem Tryz.strings_ToLower_ascii (s:ByteArray) (w:World) (hs:s.size≤140737488355328) (hascii:∀ (j:Nat) (b:UInt8),s.data.toList[j]?=some b→b.toNat<128) :
  Calls prog 236 #[.string s] w fun e w'=>e=.returned (.string ⟨(Lib.toLowerA s.data.toList).toArray⟩)∧Below w.heap.size w w':=Any.strings_ToLower_ascii Tryz.lays159 Tryz.Builder_Extra_159 s w hs hascii
def Tryz.lays156_ren:Go.Shelf.Ren:=⟨fun | 156=>110 | 165=>152 | 166=>109 | 169=>111 | 240=>151 | 241=>193 | 276=>192 | 277=>228 | n=>n,fun | 31=>47 | 9=>9 | 3=>3 | 4=>4 | 0=>0 | 20=>20 | 72=>174 | 76=>177 | 70=>172 | 37=>32 | 75=>176 | 127=>215 | 164=>254 | 5=>5 | 80=>45 | n=>n,fun | n=>n⟩
theorem Tryz.lays156:Go.Proofs.Lays.n156 prog Tryz.lays156_ren:={
 mixed:=by kernel_rfl
 f156:=func110.trans (congrArg some (by kernel_rfl))
 f165:=func152.trans (congrArg some (by kernel_rfl))
 f166:=func109.trans (congrArg some (by kernel_rfl))
 f169:=func111.trans (congrArg some (by kernel_rfl))
 f240:=func151.trans (congrArg some (by kernel_rfl))
 f241:=func193.trans (congrArg some (by kernel_rfl))
 f276:=func192.trans (congrArg some (by kernel_rfl))
 f277:=func228.trans (congrArg some (by kernel_rfl))
 t0:=underlying0
 a0:=isAgg0
 z0:=sizeOf0
 v0:=zeroValue0
 t3:=underlying3
 a3:=isAgg3
 z3:=sizeOf3
 v3:=zeroValue3
 t4:=underlying4
 a4:=isAgg4
 z4:=sizeOf4
 v4:=zeroValue4
 t9:=underlying9
 a9:=isAgg9
 z9:=sizeOf9
 v9:=zeroValue9
 t20:=underlying20
 a20:=isAgg20
 z20:=sizeOf20
 v20:=zeroValue20
 t31:=underlying47
 a31:=isAgg47
 z31:=sizeOf47
 v31:=zeroValue47
 t37:=underlying32
 a37:=isAgg32
 z37:=sizeOf32
 v37:=zeroValue32
 t70:=underlying172
 a70:=isAgg172
 z70:=sizeOf172
 v70:=zeroValue172
 t72:=underlying174
 a72:=isAgg174
 z72:=sizeOf174
 v72:=zeroValue174
 t75:=underlying176
 a75:=isAgg176
 z75:=sizeOf176
 v75:=zeroValue176
 t76:=underlying177
 a76:=isAgg177
 z76:=sizeOf177
 v76:=zeroValue177
 t127:=underlying215
 a127:=isAgg215
 z127:=sizeOf215
 v127:=zeroValue215
 t164:=underlying254
 a164:=isAgg254
 z164:=sizeOf254
 v164:=zeroValue254 }
theorem Tryz.Builder_Extra_156:Builder.Extra prog Tryz.lays156_ren:={
 sizeBuilder:=by kernel_rfl
 liesBuilder:=by kernel_rfl
 t5:=underlying5
 a5:=isAgg5
 z5:=sizeOf5
 v5:=zeroValue5
 infoByte:=by kernel_rfl
 cellsByte:=by kernel_rfl
 sizeByte:=by kernel_rfl
 neB5:=by decide }
open Go.RowKit in
theorem Tryz.strings_Join (bk o c:Nat) (xs:List ByteArray) (sep:ByteArray) (w:World) (hcells:∀ (j:Nat) x,xs[j]?=some x→w.cell? ⟨bk,o+j,none⟩=some (.string x)) (hbk:bk<w.heap.size) (hN:xs.length≤140737488355328) (hcap:xs.length≤c) (hlen:(Lib.join (xs.map (·.data.toList)) sep.data.toList).length≤140737488355328) :
  Calls prog 110 #[.slice (some ⟨bk,o,none⟩) xs.length c,.string sep] w fun e w'=>e=.returned (.string ⟨(Lib.join (xs.map (·.data.toList)) sep.data.toList).toArray⟩)∧Below w.heap.size w w':=Any.strings_Join Tryz.lays156 Tryz.Builder_Extra_156 bk o c xs sep w hcells hbk hN hcap hlen
def Tryz.lays119_ren:Go.Shelf.Ren:=⟨fun | 119=>261 | n=>n,fun | 21=>21 | 4=>4 | n=>n,fun | n=>n⟩
theorem Tryz.lays119:Go.Proofs.Lays.n119 prog Tryz.lays119_ren:={
 mixed:=by kernel_rfl
 f119:=func261.trans (congrArg some (by kernel_rfl))
 t4:=underlying4
 a4:=isAgg4
 z4:=sizeOf4
 v4:=zeroValue4
 t21:=underlying21
 a21:=isAgg21
 z21:=sizeOf21
 v21:=zeroValue21 }
theorem Tryz.utf8_ValidRune (r:Int) (w:World) :
  Calls prog 261 #[.int .i32 r] w fun e w'=>e=.returned (.bool (Lib.validRune r))∧w'=w:=Any.utf8_ValidRune Tryz.lays119 r w
def Tryz.lays106_ren:Go.Shelf.Ren:=⟨fun | 106=>75 | 213=>112 | 265=>153 | n=>n,fun | 9=>9 | 3=>3 | n=>n,fun | n=>n⟩
theorem Tryz.lays106:Go.Proofs.Lays.n106 prog Tryz.lays106_ren:={
 mixed:=by kernel_rfl
 f106:=func75.trans (congrArg some (by kernel_rfl))
 f213:=func112.trans (congrArg some (by kernel_rfl))
 f265:=func153.trans (congrArg some (by kernel_rfl))
 t3:=underlying3
 a3:=isAgg3
 z3:=sizeOf3
 v3:=zeroValue3
 t9:=underlying9
 a9:=isAgg9
 z9:=sizeOf9
 v9:=zeroValue9 }
open Go.RowKit in
theorem Tryz.strings_Compare (a b:ByteArray) (w:World) :
  Calls prog 75 #[.string a,.string b] w fun e w'=>e=.returned (.int .i64 (Lib.compareBytes a.data.toList b.data.toList))∧w'=w:=Any.strings_Compare Tryz.lays106 a b w
def Tryz.lays242_ren:Go.Shelf.Ren:=⟨fun | 242=>235 | 278=>253 | n=>n,fun | 37=>32 | 21=>21 | 51=>230 | 4=>4 | 5=>5 | 46=>57 | n=>n,fun | n=>n⟩
theorem Tryz.lays242:Go.Proofs.Lays.n242 prog Tryz.lays242_ren:={
 mixed:=by kernel_rfl
 f242:=func235.trans (congrArg some (by kernel_rfl))
 f278:=func253.trans (congrArg some (by kernel_rfl))
 t4:=underlying4
 a4:=isAgg4
 z4:=sizeOf4
 v4:=zeroValue4
 t5:=underlying5
 a5:=isAgg5
 z5:=sizeOf5
 v5:=zeroValue5
 t21:=underlying21
 a21:=isAgg21
 z21:=sizeOf21
 v21:=zeroValue21
 t37:=underlying32
 a37:=isAgg32
 z37:=sizeOf32
 v37:=zeroValue32
 t46:=underlying57
 a46:=isAgg57
 z46:=sizeOf57
 v46:=zeroValue57
 t51:=underlying230
 a51:=isAgg230
 z51:=sizeOf230
 v51:=zeroValue230 }
open Go.RowKit in
theorem Tryz.utf8_AppendRune_plain (B:Nat) (v:Value) (n:Nat) (xs:List Value) (r:Int) (hr0:-2147483648≤r) (hr1:r≤2147483647) (w:World) (hown:w.ownsRow B 5 1 v n xs) (hlen:n+4≤140737488355328) (hBw:B≤w.heap.size) :
  Calls prog 235 #[v,.int .i32 r] w fun e w'=>∃ v',e=.returned v'∧w'.ownsRow B 5 1 v' (n+(Lib.runeCells r).length) (xs++Lib.runeCells r)∧∃ o,(w.alloc o).grownBy w' v.ownBlock:=Any.utf8_AppendRune_plain Tryz.lays242 (by kernel_rfl) B v n xs r hr0 hr1 w hown hlen hBw
def Tryz.laysC245_ren:Go.Shelf.Ren:=⟨fun | 245=>272 | 279=>280 | 280=>281 | 281=>282 | 282=>283 | 316=>286 | 171=>288 | 205=>287 | 243=>289 | 246=>290 | 283=>291 | 284=>292 | 285=>293 | 286=>294 | 129=>168 | 317=>295 | 318=>296 | 319=>297 | 320=>298 | 337=>299 | 338=>300 | n=>n,fun | 9=>9 | 3=>3 | 75=>176 | 167=>312 | 4=>4 | 168=>314 | 210=>321 | 37=>32 | 0=>0 | 127=>215 | 145=>329 | 143=>327 | 2=>2 | 171=>331 | 53=>232 | 5=>5 | 173=>333 | 212=>335 | 51=>230 | 20=>20 | 213=>336 | 46=>57 | 232=>337 | 233=>338 | 80=>45 | n=>n,fun | 15=>4 | 16=>5 | 17=>6 | 18=>7 | 19=>8 | n=>n⟩
theorem Tryz.laysC245:Go.Proofs.LaysC.n245 prog Tryz.laysC245_ren:={
 mixed:=by kernel_rfl
 f129:=func168.trans (congrArg some (by kernel_rfl))
 f171:=func288.trans (congrArg some (by kernel_rfl))
 f205:=func287.trans (congrArg some (by kernel_rfl))
 f243:=func289.trans (congrArg some (by kernel_rfl))
 f245:=func272.trans (congrArg some (by kernel_rfl))
 f246:=func290.trans (congrArg some (by kernel_rfl))
 f279:=func280.trans (congrArg some (by kernel_rfl))
 f280:=func281.trans (congrArg some (by kernel_rfl))
 f281:=func282.trans (congrArg some (by kernel_rfl))
 f282:=func283.trans (congrArg some (by kernel_rfl))
 f283:=func291.trans (congrArg some (by kernel_rfl))
 f284:=func292.trans (congrArg some (by kernel_rfl))
 f285:=func293.trans (congrArg some (by kernel_rfl))
 f286:=func294.trans (congrArg some (by kernel_rfl))
 f316:=func286.trans (congrArg some (by kernel_rfl))
 f317:=func295.trans (congrArg some (by kernel_rfl))
 f318:=func296.trans (congrArg some (by kernel_rfl))
 f319:=func297.trans (congrArg some (by kernel_rfl))
 f320:=func298.trans (congrArg some (by kernel_rfl))
 f337:=func299.trans (congrArg some (by kernel_rfl))
 f338:=func300.trans (congrArg some (by kernel_rfl))
 t0:=underlying0
 a0:=isAgg0
 z0:=sizeOf0
 v0:=zeroValue0
 t2:=underlying2
 a2:=isAgg2
 z2:=sizeOf2
 v2:=zeroValue2
 t3:=underlying3
 a3:=isAgg3
 z3:=sizeOf3
 v3:=zeroValue3
 t4:=underlying4
 a4:=isAgg4
 z4:=sizeOf4
 v4:=zeroValue4
 t5:=underlying5
 a5:=isAgg5
 z5:=sizeOf5
 v5:=zeroValue5
 t9:=underlying9
 a9:=isAgg9
 z9:=sizeOf9
 v9:=zeroValue9
 t20:=underlying20
 a20:=isAgg20
 z20:=sizeOf20
 v20:=zeroValue20
 t37:=underlying32
 a37:=isAgg32
 z37:=sizeOf32
 v37:=zeroValue32
 t46:=underlying57
 a46:=isAgg57
 z46:=sizeOf57
 v46:=zeroValue57
 t51:=underlying230
 a51:=isAgg230
 z51:=sizeOf230
 v51:=zeroValue230
 t53:=underlying232
 a53:=isAgg232
 z53:=sizeOf232
 v53:=zeroValue232
 t75:=underlying176
 a75:=isAgg176
 z75:=sizeOf176
 v75:=zeroValue176
 t127:=underlying215
 a127:=isAgg215
 z127:=sizeOf215
 v127:=zeroValue215
 t143:=underlying327
 a143:=isAgg327
 z143:=sizeOf327
 v143:=zeroValue327
 t145:=underlying329
 a145:=isAgg329
 z145:=sizeOf329
 v145:=zeroValue329
 t167:=underlying312
 a167:=isAgg312
 z167:=sizeOf312
 v167:=zeroValue312
 t168:=underlying314
 a168:=isAgg314
 z168:=sizeOf314
 v168:=zeroValue314
 t171:=underlying331
 a171:=isAgg331
 z171:=sizeOf331
 v171:=zeroValue331
 t173:=underlying333
 a173:=isAgg333
 z173:=sizeOf333
 v173:=zeroValue333
 t210:=underlying321
 a210:=isAgg321
 z210:=sizeOf321
 v210:=zeroValue321
 t212:=underlying335
 a212:=isAgg335
 z212:=sizeOf335
 v212:=zeroValue335
 t213:=underlying336
 a213:=isAgg336
 z213:=sizeOf336
 t232:=underlying337
 a232:=isAgg337
 z232:=sizeOf337
 v232:=zeroValue337
 t233:=underlying338
 a233:=isAgg338
 z233:=sizeOf338
 v233:=zeroValue338
 g15:=by kernel_rfl
 g16:=by kernel_rfl
 g17:=by kernel_rfl
 g18:=by kernel_rfl
 g19:=by kernel_rfl
 t80:=underlying45
 a80:=isAgg45
 z80:=sizeOf45
 v80:=zeroValue45
 i0:=by kernel_rfl
 i2:=by kernel_rfl
 i3:=by kernel_rfl
 i4:=by kernel_rfl
 i5:=by kernel_rfl
 i9:=by kernel_rfl
 i20:=by kernel_rfl
 i37:=by kernel_rfl
 i46:=by kernel_rfl
 i51:=by kernel_rfl
 i53:=by kernel_rfl
 i75:=by kernel_rfl
 i80:=by kernel_rfl
 i127:=by kernel_rfl
 i143:=by kernel_rfl
 i145:=by kernel_rfl
 i167:=by kernel_rfl
 i168:=by kernel_rfl
 i171:=by kernel_rfl
 i173:=by kernel_rfl
 i210:=by kernel_rfl
 i212:=by kernel_rfl
 i232:=by kernel_rfl
 i233:=by kernel_rfl
 m15:=by kernel_rfl
 m16:=by kernel_rfl
 m17:=by kernel_rfl
 m18:=by kernel_rfl
 m19:=by kernel_rfl
 c0:=by kernel_rfl
 c2:=by kernel_rfl
 c3:=by kernel_rfl
 c4:=by kernel_rfl
 c5:=by kernel_rfl
 c9:=by kernel_rfl
 c20:=by kernel_rfl
 c37:=by kernel_rfl
 c46:=by kernel_rfl
 c51:=by kernel_rfl
 c53:=by kernel_rfl
 c75:=by kernel_rfl
 c80:=by kernel_rfl
 c127:=by kernel_rfl
 c143:=by kernel_rfl
 c145:=by kernel_rfl
 c167:=by kernel_rfl
 c168:=by kernel_rfl
 c171:=by kernel_rfl
 c173:=by kernel_rfl
 c210:=by kernel_rfl
 c212:=by kernel_rfl
 c213:=by kernel_rfl
 c232:=by kernel_rfl
 c233:=by kernel_rfl }
open Go.RowKit in
theorem Tryz.strconv_toError_syntax (fn s:ByteArray) (base bits:Int) (ev:Value) (w:World) (hlim:s.size≤281474976710656) (hv:w.cell? ⟨4,0,none⟩=some ev) (hev:ev=.nilIface∨∃ te pe,ev=.iface te pe) :
  Calls prog 272 #[.string fn,.string s,.int .i64 base,.int .i64 bits,.iface 312 (.int .i64 2)] w fun e w'=>∃ N,e=.returned (.iface 314 (.pointer (some ⟨N,0,none⟩)))∧w.heap.size≤N∧w'.heap[N]?=some (.cells #[.string fn,.string s,ev] 321 (0,0))∧Below w.heap.size w w':=Any.strconv_toError_syntax Tryz.laysC245 fn s base bits ev w hlim hv hev
def Tryz.lays145_ren:Go.Shelf.Ren:=⟨fun | 145=>120 | 220=>170 | 219=>204 | 217=>230 | 225=>231 | 224=>232 | 267=>233 | 266=>249 | 314=>250 | n=>n,fun | 9=>9 | 4=>4 | 59=>188 | 3=>3 | 5=>5 | 46=>57 | 146=>289 | 51=>230 | n=>n,fun | 1=>0 | n=>n⟩
theorem Tryz.lays145:Go.Proofs.Lays.n145 prog Tryz.lays145_ren:={
 mixed:=by kernel_rfl
 f145:=func120.trans (congrArg some (by kernel_rfl))
 f217:=func230.trans (congrArg some (by kernel_rfl))
 f219:=func204.trans (congrArg some (by kernel_rfl))
 f220:=func170.trans (congrArg some (by kernel_rfl))
 f224:=func232.trans (congrArg some (by kernel_rfl))
 f225:=func231.trans (congrArg some (by kernel_rfl))
 f266:=func249.trans (congrArg some (by kernel_rfl))
 f267:=func233.trans (congrArg some (by kernel_rfl))
 f314:=func250.trans (congrArg some (by kernel_rfl))
 t3:=underlying3
 a3:=isAgg3
 z3:=sizeOf3
 v3:=zeroValue3
 t4:=underlying4
 a4:=isAgg4
 z4:=sizeOf4
 v4:=zeroValue4
 t5:=underlying5
 a5:=isAgg5
 z5:=sizeOf5
 v5:=zeroValue5
 t9:=underlying9
 a9:=isAgg9
 z9:=sizeOf9
 v9:=zeroValue9
 t46:=underlying57
 a46:=isAgg57
 z46:=sizeOf57
 v46:=zeroValue57
 t51:=underlying230
 a51:=isAgg230
 z51:=sizeOf230
 v51:=zeroValue230
 t59:=underlying188
 a59:=isAgg188
 z59:=sizeOf188
 v59:=zeroValue188
 t146:=underlying289
 a146:=isAgg289
 z146:=sizeOf289
 v146:=zeroValue289
 g1:=by kernel_rfl }
open Go.RowKit Go.Lib in
theorem Tryz.strings_Cut (s sep:ByteArray) (m:Int) (w:World) (hs:s.size<4294967281) (hm:w.cell? ⟨0,0,none⟩=some (.int .i64 m)) :
  Calls prog 120 #[.string s,.string sep] w fun e w'=>e=.returned (.tuple #[.string ⟨(Lib.cut s.data.toList sep.data.toList).1.toArray⟩,.string ⟨(Lib.cut s.data.toList sep.data.toList).2.1.toArray⟩,.bool (Lib.cut s.data.toList sep.data.toList).2.2])∧∃ n,w'=w.drewN n:=Any.strings_Cut Tryz.lays145 s sep m w hs hm
def Tryz.lays102_ren:Go.Shelf.Ren:=⟨fun | 102=>121 | 209=>171 | 207=>205 | n=>n,fun | 9=>9 | 4=>4 | 3=>3 | n=>n,fun | n=>n⟩
theorem Tryz.lays102:Go.Proofs.Lays.n102 prog Tryz.lays102_ren:={
 mixed:=by kernel_rfl
 f102:=func121.trans (congrArg some (by kernel_rfl))
 f207:=func205.trans (congrArg some (by kernel_rfl))
 f209:=func171.trans (congrArg some (by kernel_rfl))
 t3:=underlying3
 a3:=isAgg3
 z3:=sizeOf3
 v3:=zeroValue3
 t4:=underlying4
 a4:=isAgg4
 z4:=sizeOf4
 v4:=zeroValue4
 t9:=underlying9
 a9:=isAgg9
 z9:=sizeOf9
 v9:=zeroValue9 }
open Go.RowKit Go.Lib in
theorem Tryz.strings_TrimSuffix (s p:ByteArray) (w:World) (hs:s.size≤9223372036854775807) :
  Calls prog 121 #[.string s,.string p] w fun e w'=>e=.returned (.string ⟨(Lib.trimSuffix s.data.toList p.data.toList).toArray⟩)∧w'=w:=Any.strings_TrimSuffix Tryz.lays102 s p w hs
def Tryz.lays146_ren:Go.Shelf.Ren:=⟨fun | 146=>242 | 221=>258 | 268=>268 | 138=>269 | 143=>270 | 195=>276 | 197=>262 | 218=>277 | 219=>204 | 260=>273 | 217=>230 | 225=>231 | 224=>232 | 267=>233 | 266=>249 | 314=>250 | n=>n,fun | 9=>9 | 31=>47 | 3=>3 | 4=>4 | 0=>0 | 105=>301 | 21=>21 | 5=>5 | 46=>57 | 119=>234 | 139=>237 | 138=>236 | 146=>289 | 51=>230 | n=>n,fun | 1=>0 | 3=>1 | 4=>2 | n=>n⟩
theorem Tryz.lays146:Go.Proofs.Lays.n146 prog Tryz.lays146_ren:={
 mixed:=by kernel_rfl
 f138:=func269.trans (congrArg some (by kernel_rfl))
 f143:=func270.trans (congrArg some (by kernel_rfl))
 f146:=func242.trans (congrArg some (by kernel_rfl))
 f195:=func276.trans (congrArg some (by kernel_rfl))
 f197:=func262.trans (congrArg some (by kernel_rfl))
 f217:=func230.trans (congrArg some (by kernel_rfl))
 f218:=func277.trans (congrArg some (by kernel_rfl))
 f219:=func204.trans (congrArg some (by kernel_rfl))
 f221:=func258.trans (congrArg some (by kernel_rfl))
 f224:=func232.trans (congrArg some (by kernel_rfl))
 f225:=func231.trans (congrArg some (by kernel_rfl))
 f260:=func273.trans (congrArg some (by kernel_rfl))
 f266:=func249.trans (congrArg some (by kernel_rfl))
 f267:=func233.trans (congrArg some (by kernel_rfl))
 f268:=func268.trans (congrArg some (by kernel_rfl))
 f314:=func250.trans (congrArg some (by kernel_rfl))
 t0:=underlying0
 a0:=isAgg0
 z0:=sizeOf0
 v0:=zeroValue0
 t3:=underlying3
 a3:=isAgg3
 z3:=sizeOf3
 v3:=zeroValue3
 t4:=underlying4
 a4:=isAgg4
 z4:=sizeOf4
 v4:=zeroValue4
 t5:=underlying5
 a5:=isAgg5
 z5:=sizeOf5
 v5:=zeroValue5
 t9:=underlying9
 a9:=isAgg9
 z9:=sizeOf9
 v9:=zeroValue9
 t21:=underlying21
 a21:=isAgg21
 z21:=sizeOf21
 v21:=zeroValue21
 t31:=underlying47
 a31:=isAgg47
 z31:=sizeOf47
 v31:=zeroValue47
 t46:=underlying57
 a46:=isAgg57
 z46:=sizeOf57
 v46:=zeroValue57
 t51:=underlying230
 a51:=isAgg230
 z51:=sizeOf230
 v51:=zeroValue230
 t105:=underlying301
 a105:=isAgg301
 z105:=sizeOf301
 v105:=zeroValue301
 t119:=underlying234
 a119:=isAgg234
 z119:=sizeOf234
 t138:=underlying236
 a138:=isAgg236
 z138:=sizeOf236
 v138:=zeroValue236
 t139:=underlying237
 a139:=isAgg237
 z139:=sizeOf237
 v139:=zeroValue237
 t146:=underlying289
 a146:=isAgg289
 z146:=sizeOf289
 v146:=zeroValue289
 g1:=by kernel_rfl
 g3:=by kernel_rfl
 g4:=by kernel_rfl }
open Go.RowKit Go.Lib in
theorem Tryz.strings_Split (s sep:ByteArray) (m:Int) (w:World) (hs:s.size<4294967281) (hm:w.cell? ⟨0,0,none⟩=some (.int .i64 m)) (h1:1≤sep.size) :
  Calls prog 242 #[.string s,.string sep] w fun e w'=>
   e=.returned (.slice (some ⟨w.heap.size,0,none⟩) (Lib.countB s sep+1) (Lib.countB s sep+1))∧w'=w.alloc (.cells ((Lib.splitB sep 0 (Lib.countB s sep) s).map Value.string).toArray 9):=Any.strings_Split Tryz.lays146 (by kernel_rfl) s sep m w hs hm h1
def Tryz.lays151_ren:Go.Shelf.Ren:=⟨fun | 151=>257 | 152=>267 | 137=>275 | 119=>261 | 224=>232 | 225=>231 | 217=>230 | 266=>249 | n=>n,fun | 9=>9 | 21=>21 | 4=>4 | 3=>3 | 5=>5 | 0=>0 | 46=>57 | n=>n,fun | n=>n⟩
theorem Tryz.lays151:Go.Proofs.Lays.n151 prog Tryz.lays151_ren:={
 mixed:=by kernel_rfl
 f119:=func261.trans (congrArg some (by kernel_rfl))
 f137:=func275.trans (congrArg some (by kernel_rfl))
 f151:=func257.trans (congrArg some (by kernel_rfl))
 f152:=func267.trans (congrArg some (by kernel_rfl))
 f217:=func230.trans (congrArg some (by kernel_rfl))
 f224:=func232.trans (congrArg some (by kernel_rfl))
 f225:=func231.trans (congrArg some (by kernel_rfl))
 f266:=func249.trans (congrArg some (by kernel_rfl))
 t0:=underlying0
 a0:=isAgg0
 z0:=sizeOf0
 v0:=zeroValue0
 t3:=underlying3
 a3:=isAgg3
 z3:=sizeOf3
 v3:=zeroValue3
 t4:=underlying4
 a4:=isAgg4
 z4:=sizeOf4
 v4:=zeroValue4
 t5:=underlying5
 a5:=isAgg5
 z5:=sizeOf5
 v5:=zeroValue5
 t9:=underlying9
 a9:=isAgg9
 z9:=sizeOf9
 v9:=zeroValue9
 t21:=underlying21
 a21:=isAgg21
 z21:=sizeOf21
 v21:=zeroValue21
 t46:=underlying57
 a46:=isAgg57
 z46:=sizeOf57
 v46:=zeroValue57 }
open Go.RowKit Go.Lib in
theorem Tryz.strings_ContainsRune_ascii (s:ByteArray) (r:Int) (w:World) (h0:0≤r) (h1:r<128) :
  Calls prog 257 #[.string s,.int .i32 r] w fun e w'=>e=.returned (.bool (decide (0≤Lib.indexByte s.data.toList r.toNat.toUInt8)))∧w'=w:=Any.strings_ContainsRune_ascii Tryz.lays151 s r w h0 h1
def Tryz.lays196_ren:Go.Shelf.Ren:=⟨fun | 196=>122 | 259=>172 | n=>n,fun | 9=>9 | 4=>4 | 3=>3 | 5=>5 | 12=>12 | 119=>234 | 0=>0 | 46=>57 | 139=>237 | 138=>236 | 53=>232 | n=>n,fun | 3=>1 | 4=>2 | n=>n⟩
theorem Tryz.lays196:Go.Proofs.Lays.n196 prog Tryz.lays196_ren:={
 mixed:=by kernel_rfl
 f196:=func122.trans (congrArg some (by kernel_rfl))
 f259:=func172.trans (congrArg some (by kernel_rfl))
 t0:=underlying0
 a0:=isAgg0
 z0:=sizeOf0
 v0:=zeroValue0
 t3:=underlying3
 a3:=isAgg3
 z3:=sizeOf3
 v3:=zeroValue3
 t4:=underlying4
 a4:=isAgg4
 z4:=sizeOf4
 v4:=zeroValue4
 t5:=underlying5
 a5:=isAgg5
 z5:=sizeOf5
 v5:=zeroValue5
 t9:=underlying9
 a9:=isAgg9
 z9:=sizeOf9
 v9:=zeroValue9
 t12:=underlying12
 a12:=isAgg12
 z12:=sizeOf12
 v12:=zeroValue12
 t46:=underlying57
 a46:=isAgg57
 z46:=sizeOf57
 v46:=zeroValue57
 t53:=underlying232
 a53:=isAgg232
 z53:=sizeOf232
 v53:=zeroValue232
 t119:=underlying234
 a119:=isAgg234
 z119:=sizeOf234
 t138:=underlying236
 a138:=isAgg236
 z138:=sizeOf236
 v138:=zeroValue236
 t139:=underlying237
 a139:=isAgg237
 z139:=sizeOf237
 v139:=zeroValue237
 g3:=by kernel_rfl
 g4:=by kernel_rfl }
end Go.Proofs
