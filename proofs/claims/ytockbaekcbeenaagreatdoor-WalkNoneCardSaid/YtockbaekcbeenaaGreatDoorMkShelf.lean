/-Shelf-/
import Derived.Shelf.Unicode.ValidAny
import Derived.Shelf.Strings.Builder1
import Derived.Shelf.Strings.Builder2
import Derived.Shelf.Strings.OnBuilder
import Derived.Shelf.Small.Utf8
import Derived.Shelf.Small.Bits
import Derived.Shelf.Small.Strs
import Derived.Shelf.Strings.BuilderF
import Derived.Shelf.Strings.BuilderK
import Derived.Shelf.Utf8.AppendRunePlain
import Derived.Shelf.Strconv.Itoa0
import Derived.Shelf.LaysM
import Derived.Shelf.Strconv.Clone
import Derived.Shelf.Strconv.SyntaxError
import Derived.Shelf.LaysC
import Derived.Shelf.Strconv.ToError
import Derived.Shelf.Strings.Search1
import Derived.Shelf.Strings.Search2
import Derived.Shelf.Strings.Search3
import Derived.Shelf.Strings.Cut
import Derived.Shelf.Strings.Count
import Derived.Shelf.Strings.Shaped
import Derived.Shelf.Strings.Prefix
import Derived.Shelf.Strings.Split
import Derived.Shelf.Unicode.Latin
import Derived.Shelf.Strings.Runes
import Derived.Shelf.Unicode.DecodeSlow
import Derived.Shelf.Unicode.DecodeAny
import Derived.Shelf.Unicode.CaseLookup
import Derived.Shelf.Unicode.CaseConvert
import Derived.Shelf.Unicode.CaseTo
import Derived.Shelf.Unicode.CaseLaid
import Derived.Test.YtockbaekcbeenaaGreatDoorProg

namespace Go.Proofs
open Go.Shelf
open Go.RowKit in
def Tryz.lays159_ren:Go.Shelf.Ren:=⟨fun | 159=>197 | 165=>233 | 166=>234 | 167=>235 | 169=>236 | 230=>237 | 204=>238 | 240=>251 | 241=>252 | 197=>253 | 118=>254 | 168=>255 | 270=>256 | 262=>257 | 276=>265 | 277=>266 | 260=>267 | 242=>196 | 313=>268 | 278=>232 | 274=>278 | 275=>279 | n=>n,fun | 9=>9 | 4=>4 | 3=>3 | 5=>5 | 72=>296 | 0=>0 | 76=>300 | 75=>299 | 107=>305 | 70=>294 | 20=>20 | 37=>71 | 127=>316 | 21=>21 | 105=>317 | 164=>326 | 162=>330 | 203=>271 | 119=>177 | 46=>181 | 139=>180 | 138=>179 | 51=>160 | 160=>337 | 208=>347 | 206=>345 | 80=>303 | n=>n,fun | 13=>3 | 3=>0 | 4=>1 | n=>n⟩
theorem Tryz.lays159:Go.Proofs.Lays.n159 prog Tryz.lays159_ren:={
 mixed:=by kernel_rfl
 f118:=func254.trans (congrArg some (by kernel_rfl))
 f159:=func197.trans (congrArg some (by kernel_rfl))
 f165:=func233.trans (congrArg some (by kernel_rfl))
 f166:=func234.trans (congrArg some (by kernel_rfl))
 f167:=func235.trans (congrArg some (by kernel_rfl))
 f168:=func255.trans (congrArg some (by kernel_rfl))
 f169:=func236.trans (congrArg some (by kernel_rfl))
 f197:=func253.trans (congrArg some (by kernel_rfl))
 f204:=func238.trans (congrArg some (by kernel_rfl))
 f230:=func237.trans (congrArg some (by kernel_rfl))
 f240:=func251.trans (congrArg some (by kernel_rfl))
 f241:=func252.trans (congrArg some (by kernel_rfl))
 f242:=func196.trans (congrArg some (by kernel_rfl))
 f260:=func267.trans (congrArg some (by kernel_rfl))
 f262:=func257.trans (congrArg some (by kernel_rfl))
 f270:=func256.trans (congrArg some (by kernel_rfl))
 f274:=func278.trans (congrArg some (by kernel_rfl))
 f275:=func279.trans (congrArg some (by kernel_rfl))
 f276:=func265.trans (congrArg some (by kernel_rfl))
 f277:=func266.trans (congrArg some (by kernel_rfl))
 f278:=func232.trans (congrArg some (by kernel_rfl))
 f313:=func268.trans (congrArg some (by kernel_rfl))
 t0:=underlying0
 a0:=isAgg0
 z0:=sizeOf0
 v0:=zeroValue0
 t3:=underlying3
 a3:=isAgg3
 z3:=sizeOf3
 v3:=zeroValue3
 t4:=underlying4
 a4:=isAgg4
 z4:=sizeOf4
 v4:=zeroValue4
 t5:=underlying5
 a5:=isAgg5
 z5:=sizeOf5
 v5:=zeroValue5
 t9:=underlying9
 a9:=isAgg9
 z9:=sizeOf9
 v9:=zeroValue9
 t20:=underlying20
 a20:=isAgg20
 z20:=sizeOf20
 v20:=zeroValue20
 t21:=underlying21
 a21:=isAgg21
 z21:=sizeOf21
 v21:=zeroValue21
 t37:=underlying71
 a37:=isAgg71
 z37:=sizeOf71
 v37:=zeroValue71
 t46:=underlying181
 a46:=isAgg181
 z46:=sizeOf181
 v46:=zeroValue181
 t51:=underlying160
 a51:=isAgg160
 z51:=sizeOf160
 v51:=zeroValue160
 t70:=underlying294
 a70:=isAgg294
 z70:=sizeOf294
 v70:=zeroValue294
 t72:=underlying296
 a72:=isAgg296
 z72:=sizeOf296
 v72:=zeroValue296
 t75:=underlying299
 a75:=isAgg299
 z75:=sizeOf299
 v75:=zeroValue299
 t76:=underlying300
 a76:=isAgg300
 z76:=sizeOf300
 v76:=zeroValue300
 t105:=underlying317
 a105:=isAgg317
 z105:=sizeOf317
 v105:=zeroValue317
 t107:=underlying305
 a107:=isAgg305
 z107:=sizeOf305
 v107:=zeroValue305
 t119:=underlying177
 a119:=isAgg177
 z119:=sizeOf177
 t127:=underlying316
 a127:=isAgg316
 z127:=sizeOf316
 v127:=zeroValue316
 t138:=underlying179
 a138:=isAgg179
 z138:=sizeOf179
 v138:=zeroValue179
 t139:=underlying180
 a139:=isAgg180
 z139:=sizeOf180
 v139:=zeroValue180
 t160:=underlying337
 a160:=isAgg337
 z160:=sizeOf337
 v160:=zeroValue337
 t162:=underlying330
 a162:=isAgg330
 z162:=sizeOf330
 v162:=zeroValue330
 t164:=underlying326
 a164:=isAgg326
 z164:=sizeOf326
 v164:=zeroValue326
 t203:=underlying271
 a203:=isAgg271
 z203:=sizeOf271
 v203:=zeroValue271
 t206:=underlying345
 a206:=isAgg345
 z206:=sizeOf345
 v206:=zeroValue345
 t208:=underlying347
 a208:=isAgg347
 z208:=sizeOf347
 v208:=zeroValue347
 g3:=by kernel_rfl
 g4:=by kernel_rfl
 g13:=by kernel_rfl }
theorem Tryz.Builder_Extra_159:Builder.Extra prog Tryz.lays159_ren:={
 sizeBuilder:=by kernel_rfl
 liesBuilder:=by kernel_rfl
 t5:=underlying5
 a5:=isAgg5
 z5:=sizeOf5
 v5:=zeroValue5
 infoByte:=by kernel_rfl
 cellsByte:=by kernel_rfl
 sizeByte:=by kernel_rfl
 neB5:=by decide }
open Go.RowKit in
theorem Tryz.strings_ToLower_ascii (s:ByteArray) (w:World) (hs:s.size≤140737488355328) (hascii:∀ (j:Nat) (b:UInt8),s.data.toList[j]?=some b→b.toNat<128) :
  Calls prog 197 #[.string s] w fun e w'=>e=.returned (.string ⟨(Lib.toLowerA s.data.toList).toArray⟩)∧Below w.heap.size w w':=Any.strings_ToLower_ascii Tryz.lays159 Tryz.Builder_Extra_159 s w hs hascii
def Tryz.lays119_ren:Go.Shelf.Ren:=⟨fun | 119=>250 | n=>n,fun | 21=>21 | 4=>4 | n=>n,fun | n=>n⟩
theorem Tryz.lays119:Go.Proofs.Lays.n119 prog Tryz.lays119_ren:={
 mixed:=by kernel_rfl
 f119:=func250.trans (congrArg some (by kernel_rfl))
 t4:=underlying4
 a4:=isAgg4
 z4:=sizeOf4
 v4:=zeroValue4
 t21:=underlying21
 a21:=isAgg21
 z21:=sizeOf21
 v21:=zeroValue21 }
theorem Tryz.utf8_ValidRune (r:Int) (w:World) :
  Calls prog 250 #[.int .i32 r] w fun e w'=>e=.returned (.bool (Lib.validRune r))∧w'=w:=Any.utf8_ValidRune Tryz.lays119 r w
def Tryz.lays106_ren:Go.Shelf.Ren:=⟨fun | 106=>134 | 213=>178 | 265=>212 | n=>n,fun | 9=>9 | 3=>3 | n=>n,fun | n=>n⟩
theorem Tryz.lays106:Go.Proofs.Lays.n106 prog Tryz.lays106_ren:={
 mixed:=by kernel_rfl
 f106:=func134.trans (congrArg some (by kernel_rfl))
 f213:=func178.trans (congrArg some (by kernel_rfl))
 f265:=func212.trans (congrArg some (by kernel_rfl))
 t3:=underlying3
 a3:=isAgg3
 z3:=sizeOf3
 v3:=zeroValue3
 t9:=underlying9
 a9:=isAgg9
 z9:=sizeOf9
 v9:=zeroValue9 }
open Go.RowKit in
theorem Tryz.strings_Compare (a b:ByteArray) (w:World) :
  Calls prog 134 #[.string a,.string b] w fun e w'=>e=.returned (.int .i64 (Lib.compareBytes a.data.toList b.data.toList))∧w'=w:=Any.strings_Compare Tryz.lays106 a b w
def Tryz.lays242_ren:Go.Shelf.Ren:=⟨fun | 242=>196 | 278=>232 | n=>n,fun | 37=>71 | 21=>21 | 51=>160 | 4=>4 | 5=>5 | 46=>181 | n=>n,fun | n=>n⟩
theorem Tryz.lays242:Go.Proofs.Lays.n242 prog Tryz.lays242_ren:={
 mixed:=by kernel_rfl
 f242:=func196.trans (congrArg some (by kernel_rfl))
 f278:=func232.trans (congrArg some (by kernel_rfl))
 t4:=underlying4
 a4:=isAgg4
 z4:=sizeOf4
 v4:=zeroValue4
 t5:=underlying5
 a5:=isAgg5
 z5:=sizeOf5
 v5:=zeroValue5
 t21:=underlying21
 a21:=isAgg21
 z21:=sizeOf21
 v21:=zeroValue21
 t37:=underlying71
 a37:=isAgg71
 z37:=sizeOf71
 v37:=zeroValue71
 t46:=underlying181
 a46:=isAgg181
 z46:=sizeOf181
 v46:=zeroValue181
 t51:=underlying160
 a51:=isAgg160
 z51:=sizeOf160
 v51:=zeroValue160 }
open Go.RowKit in
theorem Tryz.utf8_AppendRune_plain (B:Nat) (v:Value) (n:Nat) (xs:List Value) (r:Int) (hr0:-2147483648≤r) (hr1:r≤2147483647) (w:World) (hown:w.ownsRow B 5 1 v n xs) (hlen:n+4≤140737488355328) (hBw:B≤w.heap.size) :
  Calls prog 196 #[v,.int .i32 r] w fun e w'=>∃ v',e=.returned v'∧w'.ownsRow B 5 1 v' (n+(Lib.runeCells r).length) (xs++Lib.runeCells r)∧∃ o,(w.alloc o).grownBy w' v.ownBlock:=Any.utf8_AppendRune_plain Tryz.lays242 (by kernel_rfl) B v n xs r hr0 hr1 w hown hlen hBw
def Tryz.laysC245_ren:Go.Shelf.Ren:=⟨fun | 245=>264 | 279=>274 | 280=>275 | 281=>276 | 282=>277 | 316=>280 | 171=>282 | 205=>281 | 243=>283 | 246=>284 | 283=>285 | 284=>286 | 285=>287 | 286=>288 | 129=>177 | 317=>289 | 318=>290 | 319=>291 | 320=>292 | 337=>293 | 338=>294 | n=>n,fun | 9=>9 | 3=>3 | 75=>299 | 167=>332 | 4=>4 | 168=>334 | 210=>341 | 37=>71 | 0=>0 | 127=>316 | 145=>350 | 143=>348 | 2=>2 | 171=>352 | 53=>216 | 5=>5 | 173=>354 | 212=>356 | 51=>160 | 20=>20 | 213=>357 | 46=>181 | 232=>358 | 233=>359 | 80=>303 | n=>n,fun | 15=>4 | 16=>5 | 17=>6 | 18=>7 | 19=>8 | n=>n⟩
theorem Tryz.laysC245:Go.Proofs.LaysC.n245 prog Tryz.laysC245_ren:={
 mixed:=by kernel_rfl
 f129:=func177.trans (congrArg some (by kernel_rfl))
 f171:=func282.trans (congrArg some (by kernel_rfl))
 f205:=func281.trans (congrArg some (by kernel_rfl))
 f243:=func283.trans (congrArg some (by kernel_rfl))
 f245:=func264.trans (congrArg some (by kernel_rfl))
 f246:=func284.trans (congrArg some (by kernel_rfl))
 f279:=func274.trans (congrArg some (by kernel_rfl))
 f280:=func275.trans (congrArg some (by kernel_rfl))
 f281:=func276.trans (congrArg some (by kernel_rfl))
 f282:=func277.trans (congrArg some (by kernel_rfl))
 f283:=func285.trans (congrArg some (by kernel_rfl))
 f284:=func286.trans (congrArg some (by kernel_rfl))
 f285:=func287.trans (congrArg some (by kernel_rfl))
 f286:=func288.trans (congrArg some (by kernel_rfl))
 f316:=func280.trans (congrArg some (by kernel_rfl))
 f317:=func289.trans (congrArg some (by kernel_rfl))
 f318:=func290.trans (congrArg some (by kernel_rfl))
 f319:=func291.trans (congrArg some (by kernel_rfl))
 f320:=func292.trans (congrArg some (by kernel_rfl))
 f337:=func293.trans (congrArg some (by kernel_rfl))
 f338:=func294.trans (congrArg some (by kernel_rfl))
 t0:=underlying0
 a0:=isAgg0
 z0:=sizeOf0
 v0:=zeroValue0
 t2:=underlying2
 a2:=isAgg2
 z2:=sizeOf2
 v2:=zeroValue2
 t3:=underlying3
 a3:=isAgg3
 z3:=sizeOf3
 v3:=zeroValue3
 t4:=underlying4
 a4:=isAgg4
 z4:=sizeOf4
 v4:=zeroValue4
 t5:=underlying5
 a5:=isAgg5
 z5:=sizeOf5
 v5:=zeroValue5
 t9:=underlying9
 a9:=isAgg9
 z9:=sizeOf9
 v9:=zeroValue9
 t20:=underlying20
 a20:=isAgg20
 z20:=sizeOf20
 v20:=zeroValue20
 t37:=underlying71
 a37:=isAgg71
 z37:=sizeOf71
 v37:=zeroValue71
 t46:=underlying181
 a46:=isAgg181
 z46:=sizeOf181
 v46:=zeroValue181
 t51:=underlying160
 a51:=isAgg160
 z51:=sizeOf160
 v51:=zeroValue160
 t53:=underlying216
 a53:=isAgg216
 z53:=sizeOf216
 v53:=zeroValue216
 t75:=underlying299
 a75:=isAgg299
 z75:=sizeOf299
 v75:=zeroValue299
 t127:=underlying316
 a127:=isAgg316
 z127:=sizeOf316
 v127:=zeroValue316
 t143:=underlying348
 a143:=isAgg348
 z143:=sizeOf348
 v143:=zeroValue348
 t145:=underlying350
 a145:=isAgg350
 z145:=sizeOf350
 v145:=zeroValue350
 t167:=underlying332
 a167:=isAgg332
 z167:=sizeOf332
 v167:=zeroValue332
 t168:=underlying334
 a168:=isAgg334
 z168:=sizeOf334
 v168:=zeroValue334
 t171:=underlying352
 a171:=isAgg352
 z171:=sizeOf352
 v171:=zeroValue352
 t173:=underlying354
 a173:=isAgg354
 z173:=sizeOf354
 v173:=zeroValue354
 t210:=underlying341
 a210:=isAgg341
 z210:=sizeOf341
 v210:=zeroValue341
 t212:=underlying356
 a212:=isAgg356
 z212:=sizeOf356
 v212:=zeroValue356
 t213:=underlying357
 a213:=isAgg357
 z213:=sizeOf357
 t232:=underlying358
 a232:=isAgg358
 z232:=sizeOf358
 v232:=zeroValue358
 t233:=underlying359
 a233:=isAgg359
 z233:=sizeOf359
 v233:=zeroValue359
 g15:=by kernel_rfl
 g16:=by kernel_rfl
 g17:=by kernel_rfl
 g18:=by kernel_rfl
 g19:=by kernel_rfl
 t80:=underlying303
 a80:=isAgg303
 z80:=sizeOf303
 v80:=zeroValue303
 i0:=by kernel_rfl
 i2:=by kernel_rfl
 i3:=by kernel_rfl
 i4:=by kernel_rfl
 i5:=by kernel_rfl
 i9:=by kernel_rfl
 i20:=by kernel_rfl
 i37:=by kernel_rfl
 i46:=by kernel_rfl
 i51:=by kernel_rfl
 i53:=by kernel_rfl
 i75:=by kernel_rfl
 i80:=by kernel_rfl
 i127:=by kernel_rfl
 i143:=by kernel_rfl
 i145:=by kernel_rfl
 i167:=by kernel_rfl
 i168:=by kernel_rfl
 i171:=by kernel_rfl
 i173:=by kernel_rfl
 i210:=by kernel_rfl
 i212:=by kernel_rfl
 i232:=by kernel_rfl
 i233:=by kernel_rfl
 m15:=by kernel_rfl
 m16:=by kernel_rfl
 m17:=by kernel_rfl
 m18:=by kernel_rfl
 m19:=by kernel_rfl
 c0:=by kernel_rfl
 c2:=by kernel_rfl
 c3:=by kernel_rfl
 c4:=by kernel_rfl
 c5:=by kernel_rfl
 c9:=by kernel_rfl
 c20:=by kernel_rfl
 c37:=by kernel_rfl
 c46:=by kernel_rfl
 c51:=by kernel_rfl
 c53:=by kernel_rfl
 c75:=by kernel_rfl
 c80:=by kernel_rfl
 c127:=by kernel_rfl
 c143:=by kernel_rfl
 c145:=by kernel_rfl
 c167:=by kernel_rfl
 c168:=by kernel_rfl
 c171:=by kernel_rfl
 c173:=by kernel_rfl
 c210:=by kernel_rfl
 c212:=by kernel_rfl
 c213:=by kernel_rfl
 c232:=by kernel_rfl
 c233:=by kernel_rfl }
open Go.RowKit in
theorem Tryz.strconv_toError_syntax (fn s:ByteArray) (base bits:Int) (ev:Value) (w:World) (hlim:s.size≤281474976710656) (hv:w.cell? ⟨4,0,none⟩=some ev) (hev:ev=.nilIface∨∃ te pe,ev=.iface te pe) :
  Calls prog 264 #[.string fn,.string s,.int .i64 base,.int .i64 bits,.iface 332 (.int .i64 2)] w fun e w'=>∃ N,e=.returned (.iface 334 (.pointer (some ⟨N,0,none⟩)))∧w.heap.size≤N∧w'.heap[N]?=some (.cells #[.string fn,.string s,ev] 341 (0,0))∧Below w.heap.size w w':=Any.strconv_toError_syntax Tryz.laysC245 fn s base bits ev w hlim hv hev
def Tryz.lays145_ren:Go.Shelf.Ren:=⟨fun | 145=>96 | 220=>124 | 219=>153 | 217=>191 | 225=>192 | 224=>193 | 267=>194 | 266=>228 | 314=>229 | n=>n,fun | 9=>9 | 4=>4 | 59=>183 | 3=>3 | 5=>5 | 46=>181 | 146=>290 | 51=>160 | n=>n,fun | 1=>2 | n=>n⟩
theorem Tryz.lays145:Go.Proofs.Lays.n145 prog Tryz.lays145_ren:={
 mixed:=by kernel_rfl
 f145:=func96.trans (congrArg some (by kernel_rfl))
 f217:=func191.trans (congrArg some (by kernel_rfl))
 f219:=func153.trans (congrArg some (by kernel_rfl))
 f220:=func124.trans (congrArg some (by kernel_rfl))
 f224:=func193.trans (congrArg some (by kernel_rfl))
 f225:=func192.trans (congrArg some (by kernel_rfl))
 f266:=func228.trans (congrArg some (by kernel_rfl))
 f267:=func194.trans (congrArg some (by kernel_rfl))
 f314:=func229.trans (congrArg some (by kernel_rfl))
 t3:=underlying3
 a3:=isAgg3
 z3:=sizeOf3
 v3:=zeroValue3
 t4:=underlying4
 a4:=isAgg4
 z4:=sizeOf4
 v4:=zeroValue4
 t5:=underlying5
 a5:=isAgg5
 z5:=sizeOf5
 v5:=zeroValue5
 t9:=underlying9
 a9:=isAgg9
 z9:=sizeOf9
 v9:=zeroValue9
 t46:=underlying181
 a46:=isAgg181
 z46:=sizeOf181
 v46:=zeroValue181
 t51:=underlying160
 a51:=isAgg160
 z51:=sizeOf160
 v51:=zeroValue160
 t59:=underlying183
 a59:=isAgg183
 z59:=sizeOf183
 v59:=zeroValue183
 t146:=underlying290
 a146:=isAgg290
 z146:=sizeOf290
 v146:=zeroValue290
 g1:=by kernel_rfl }
open Go.RowKit Go.Lib in
theorem Tryz.strings_Cut (s sep:ByteArray) (m:Int) (w:World) (hs:s.size<4294967281) (hm:w.cell? ⟨2,0,none⟩=some (.int .i64 m)) :
  Calls prog 96 #[.string s,.string sep] w fun e w'=>e=.returned (.tuple #[.string ⟨(Lib.cut s.data.toList sep.data.toList).1.toArray⟩,.string ⟨(Lib.cut s.data.toList sep.data.toList).2.1.toArray⟩,.bool (Lib.cut s.data.toList sep.data.toList).2.2])∧∃ n,w'=w.drewN n:=Any.strings_Cut Tryz.lays145 s sep m w hs hm
def Tryz.lays102_ren:Go.Shelf.Ren:=⟨fun | 102=>97 | 209=>125 | 207=>154 | n=>n,fun | 9=>9 | 4=>4 | 3=>3 | n=>n,fun | n=>n⟩
theorem Tryz.lays102:Go.Proofs.Lays.n102 prog Tryz.lays102_ren:={
 mixed:=by kernel_rfl
 f102:=func97.trans (congrArg some (by kernel_rfl))
 f207:=func154.trans (congrArg some (by kernel_rfl))
 f209:=func125.trans (congrArg some (by kernel_rfl))
 t3:=underlying3
 a3:=isAgg3
 z3:=sizeOf3
 v3:=zeroValue3
 t4:=underlying4
 a4:=isAgg4
 z4:=sizeOf4
 v4:=zeroValue4
 t9:=underlying9
 a9:=isAgg9
 z9:=sizeOf9
 v9:=zeroValue9 }
open Go.RowKit Go.Lib in
theorem Tryz.strings_TrimSuffix (s p:ByteArray) (w:World) (hs:s.size≤9223372036854775807) :
  Calls prog 97 #[.string s,.string p] w fun e w'=>e=.returned (.string ⟨(Lib.trimSuffix s.data.toList p.data.toList).toArray⟩)∧w'=w:=Any.strings_TrimSuffix Tryz.lays102 s p w hs
def Tryz.lays146_ren:Go.Shelf.Ren:=⟨fun | 146=>203 | 221=>240 | 268=>259 | 138=>260 | 143=>261 | 195=>270 | 197=>253 | 218=>271 | 219=>153 | 260=>267 | 217=>191 | 225=>192 | 224=>193 | 267=>194 | 266=>228 | 314=>229 | n=>n,fun | 9=>9 | 31=>23 | 3=>3 | 4=>4 | 0=>0 | 105=>317 | 21=>21 | 5=>5 | 46=>181 | 119=>177 | 139=>180 | 138=>179 | 146=>290 | 51=>160 | n=>n,fun | 1=>2 | 3=>0 | 4=>1 | n=>n⟩
theorem Tryz.lays146:Go.Proofs.Lays.n146 prog Tryz.lays146_ren:={
 mixed:=by kernel_rfl
 f138:=func260.trans (congrArg some (by kernel_rfl))
 f143:=func261.trans (congrArg some (by kernel_rfl))
 f146:=func203.trans (congrArg some (by kernel_rfl))
 f195:=func270.trans (congrArg some (by kernel_rfl))
 f197:=func253.trans (congrArg some (by kernel_rfl))
 f217:=func191.trans (congrArg some (by kernel_rfl))
 f218:=func271.trans (congrArg some (by kernel_rfl))
 f219:=func153.trans (congrArg some (by kernel_rfl))
 f221:=func240.trans (congrArg some (by kernel_rfl))
 f224:=func193.trans (congrArg some (by kernel_rfl))
 f225:=func192.trans (congrArg some (by kernel_rfl))
 f260:=func267.trans (congrArg some (by kernel_rfl))
 f266:=func228.trans (congrArg some (by kernel_rfl))
 f267:=func194.trans (congrArg some (by kernel_rfl))
 f268:=func259.trans (congrArg some (by kernel_rfl))
 f314:=func229.trans (congrArg some (by kernel_rfl))
 t0:=underlying0
 a0:=isAgg0
 z0:=sizeOf0
 v0:=zeroValue0
 t3:=underlying3
 a3:=isAgg3
 z3:=sizeOf3
 v3:=zeroValue3
 t4:=underlying4
 a4:=isAgg4
 z4:=sizeOf4
 v4:=zeroValue4
 t5:=underlying5
 a5:=isAgg5
 z5:=sizeOf5
 v5:=zeroValue5
 t9:=underlying9
 a9:=isAgg9
 z9:=sizeOf9
 v9:=zeroValue9
 t21:=underlying21
 a21:=isAgg21
 z21:=sizeOf21
 v21:=zeroValue21
 t31:=underlying23
 a31:=isAgg23
 z31:=sizeOf23
 v31:=zeroValue23
 t46:=underlying181
 a46:=isAgg181
 z46:=sizeOf181
 v46:=zeroValue181
 t51:=underlying160
 a51:=isAgg160
 z51:=sizeOf160
 v51:=zeroValue160
 t105:=underlying317
 a105:=isAgg317
 z105:=sizeOf317
 v105:=zeroValue317
 t119:=underlying177
 a119:=isAgg177
 z119:=sizeOf177
 t138:=underlying179
 a138:=isAgg179
 z138:=sizeOf179
 v138:=zeroValue179
 t139:=underlying180
 a139:=isAgg180
 z139:=sizeOf180
 v139:=zeroValue180
 t146:=underlying290
 a146:=isAgg290
 z146:=sizeOf290
 v146:=zeroValue290
 g1:=by kernel_rfl
 g3:=by kernel_rfl
 g4:=by kernel_rfl }
open Go.RowKit Go.Lib in
theorem Tryz.strings_Split (s sep:ByteArray) (m:Int) (w:World) (hs:s.size<4294967281) (hm:w.cell? ⟨2,0,none⟩=some (.int .i64 m)) (h1:1≤sep.size) :
  Calls prog 203 #[.string s,.string sep] w fun e w'=>
   e=.returned (.slice (some ⟨w.heap.size,0,none⟩) (Lib.countB s sep+1) (Lib.countB s sep+1))∧w'=w.alloc (.cells ((Lib.splitB sep 0 (Lib.countB s sep) s).map Value.string).toArray 9):=Any.strings_Split Tryz.lays146 (by kernel_rfl) s sep m w hs hm h1
def Tryz.lays151_ren:Go.Shelf.Ren:=⟨fun | 151=>239 | 152=>258 | 137=>269 | 119=>250 | 224=>193 | 225=>192 | 217=>191 | 266=>228 | n=>n,fun | 9=>9 | 21=>21 | 4=>4 | 3=>3 | 5=>5 | 0=>0 | 46=>181 | n=>n,fun | n=>n⟩
theorem Tryz.lays151:Go.Proofs.Lays.n151 prog Tryz.lays151_ren:={
 mixed:=by kernel_rfl
 f119:=func250.trans (congrArg some (by kernel_rfl))
 f137:=func269.trans (congrArg some (by kernel_rfl))
 f151:=func239.trans (congrArg some (by kernel_rfl))
 f152:=func258.trans (congrArg some (by kernel_rfl))
 f217:=func191.trans (congrArg some (by kernel_rfl))
 f224:=func193.trans (congrArg some (by kernel_rfl))
 f225:=func192.trans (congrArg some (by kernel_rfl))
 f266:=func228.trans (congrArg some (by kernel_rfl))
 t0:=underlying0
 a0:=isAgg0
 z0:=sizeOf0
 v0:=zeroValue0
 t3:=underlying3
 a3:=isAgg3
 z3:=sizeOf3
 v3:=zeroValue3
 t4:=underlying4
 a4:=isAgg4
 z4:=sizeOf4
 v4:=zeroValue4
 t5:=underlying5
 a5:=isAgg5
 z5:=sizeOf5
 v5:=zeroValue5
 t9:=underlying9
 a9:=isAgg9
 z9:=sizeOf9
 v9:=zeroValue9
 t21:=underlying21
 a21:=isAgg21
 z21:=sizeOf21
 v21:=zeroValue21
 t46:=underlying181
 a46:=isAgg181
 z46:=sizeOf181
 v46:=zeroValue181 }
open Go.RowKit Go.Lib in
theorem Tryz.strings_ContainsRune_ascii (s:ByteArray) (r:Int) (w:World) (h0:0≤r) (h1:r<128) :
  Calls prog 239 #[.string s,.int .i32 r] w fun e w'=>e=.returned (.bool (decide (0≤Lib.indexByte s.data.toList r.toNat.toUInt8)))∧w'=w:=Any.strings_ContainsRune_ascii Tryz.lays151 s r w h0 h1
def Tryz.lays196_ren:Go.Shelf.Ren:=⟨fun | 196=>72 | 259=>94 | n=>n,fun | 9=>9 | 4=>4 | 3=>3 | 5=>5 | 12=>12 | 119=>177 | 0=>0 | 46=>181 | 139=>180 | 138=>179 | 53=>216 | n=>n,fun | 3=>0 | 4=>1 | n=>n⟩
theorem Tryz.lays196:Go.Proofs.Lays.n196 prog Tryz.lays196_ren:={
 mixed:=by kernel_rfl
 f196:=func72.trans (congrArg some (by kernel_rfl))
 f259:=func94.trans (congrArg some (by kernel_rfl))
 t0:=underlying0
 a0:=isAgg0
 z0:=sizeOf0
 v0:=zeroValue0
 t3:=underlying3
 a3:=isAgg3
 z3:=sizeOf3
 v3:=zeroValue3
 t4:=underlying4
 a4:=isAgg4
 z4:=sizeOf4
 v4:=zeroValue4
 t5:=underlying5
 a5:=isAgg5
 z5:=sizeOf5
 v5:=zeroValue5
 t9:=underlying9
 a9:=isAgg9
 z9:=sizeOf9
 v9:=zeroValue9
 t12:=underlying12
 a12:=isAgg12
 z12:=sizeOf12
 v12:=zeroValue12
 t46:=underlying181
 a46:=isAgg181
 z46:=sizeOf181
 v46:=zeroValue181
 t53:=underlying216
 a53:=isAgg216
 z53:=sizeOf216
 v53:=zeroValue216
 t119:=underlying177
 a119:=isAgg177
 z119:=sizeOf177
 t138:=underlying179
 a138:=isAgg179
 z138:=sizeOf179
 v138:=zeroValue179
 t139:=underlying180
 a139:=isAgg180
 z139:=sizeOf180
 v139:=zeroValue180
 g3:=by kernel_rfl
 g4:=by kernel_rfl }
end Go.Proofs
