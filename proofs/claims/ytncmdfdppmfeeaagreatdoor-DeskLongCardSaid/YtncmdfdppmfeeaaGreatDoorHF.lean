import Derived.Shelf.Strings.Builder1
import Derived.Shelf.Strings.Builder2
import Derived.Shelf.Strings.OnBuilder
import Derived.Shelf.Strings.Trim
import Derived.Shelf.Small.Bits
import Derived.Shelf.Small.Wraps
import Derived.Shelf.Strconv.Itoa0
import Derived.Shelf.Strconv.Itoa1
import Derived.Shelf.LaysM
import Derived.Shelf.Strconv.Itoa2
import Derived.Shelf.Strconv.Itoa3
import Derived.Shelf.Strconv.Itoa4
import Derived.Shelf.Strings.Search1
import Derived.Shelf.Strings.Search2
import Derived.Shelf.Strings.Search3
import Derived.Shelf.Strings.Cut
import Derived.Shelf.Strings.Count
import Derived.Shelf.Strings.Shaped
import Derived.Shelf.Strings.Prefix
import Derived.Shelf.Strings.Split
import Derived.Shelf.Bits.Mul64
import Derived.Shelf.Slices.Turned
import Derived.Test.YtncmdfdppmfeeaaGreatDoorProg
import Derived.Lib.AppendIntMem
import Derived.Test.YtncmdfdppmfeeaaGreatDoorGJ
namespace Go.Proofs
open Go.Shelf
def Tryz.lays169_ren:Go.Shelf.Ren:=⟨fun | 169=>15 | n=>n,fun | 70=>38 | 9=>9 | 0=>0 | 72=>41 | 37=>39 | 127=>87 | 3=>3 | 5=>5 | n=>n,fun | n=>n⟩
theorem Tryz.lays169:Go.Proofs.Lays.n169 Tryz.prog Tryz.lays169_ren:={
 mixed:=by kernel_rfl
 f169:=Tryz.func15.trans (congrArg some (by kernel_rfl))
 t0:=Tryz.underlying0
 a0:=Tryz.isAgg0
 z0:=Tryz.sizeOf0
 v0:=Tryz.zeroValue0
 t3:=Tryz.underlying3
 a3:=Tryz.isAgg3
 z3:=Tryz.sizeOf3
 v3:=Tryz.zeroValue3
 t9:=Tryz.underlying9
 a9:=Tryz.isAgg9
 z9:=Tryz.sizeOf9
 v9:=Tryz.zeroValue9
 t37:=Tryz.underlying39
 a37:=Tryz.isAgg39
 z37:=Tryz.sizeOf39
 v37:=Tryz.zeroValue39
 t70:=Tryz.underlying38
 a70:=Tryz.isAgg38
 z70:=Tryz.sizeOf38
 v70:=Tryz.zeroValue38
 t72:=Tryz.underlying41
 a72:=Tryz.isAgg41
 z72:=Tryz.sizeOf41
 v72:=Tryz.zeroValue41
 t127:=Tryz.underlying87
 a127:=Tryz.isAgg87
 z127:=Tryz.sizeOf87
 v127:=Tryz.zeroValue87 }
theorem Tryz.Builder_Extra_169:Builder.Extra Tryz.prog Tryz.lays169_ren:={
 sizeBuilder:=by kernel_rfl
 liesBuilder:=by kernel_rfl
 t5:=Tryz.underlying5
 a5:=Tryz.isAgg5
 z5:=Tryz.sizeOf5
 v5:=Tryz.zeroValue5
 infoByte:=by kernel_rfl
 cellsByte:=by kernel_rfl
 sizeByte:=by kernel_rfl
 neB5:=by decide }
def Tryz.lays156_ren:Go.Shelf.Ren:=⟨fun | 156=>114 | 165=>148 | 166=>13 | 169=>15 | 240=>32 | 241=>172 | 276=>63 | 277=>200 | n=>n,fun | 31=>26 | 9=>9 | 3=>3 | 4=>4 | 0=>0 | 20=>20 | 72=>41 | 76=>45 | 70=>38 | 37=>39 | 75=>44 | 127=>87 | 164=>133 | 5=>5 | 80=>48 | n=>n,fun | n=>n⟩
theorem Tryz.lays156:Go.Proofs.Lays.n156 Tryz.prog Tryz.lays156_ren:={
 mixed:=by kernel_rfl
 f156:=Tryz.func114.trans (congrArg some (by kernel_rfl))
 f165:=Tryz.func148.trans (congrArg some (by kernel_rfl))
 f166:=Tryz.func13.trans (congrArg some (by kernel_rfl))
 f169:=Tryz.func15.trans (congrArg some (by kernel_rfl))
 f240:=Tryz.func32.trans (congrArg some (by kernel_rfl))
 f241:=Tryz.func172.trans (congrArg some (by kernel_rfl))
 f276:=Tryz.func63.trans (congrArg some (by kernel_rfl))
 f277:=Tryz.func200.trans (congrArg some (by kernel_rfl))
 t0:=Tryz.underlying0
 a0:=Tryz.isAgg0
 z0:=Tryz.sizeOf0
 v0:=Tryz.zeroValue0
 t3:=Tryz.underlying3
 a3:=Tryz.isAgg3
 z3:=Tryz.sizeOf3
 v3:=Tryz.zeroValue3
 t4:=Tryz.underlying4
 a4:=Tryz.isAgg4
 z4:=Tryz.sizeOf4
 v4:=Tryz.zeroValue4
 t9:=Tryz.underlying9
 a9:=Tryz.isAgg9
 z9:=Tryz.sizeOf9
 v9:=Tryz.zeroValue9
 t20:=Tryz.underlying20
 a20:=Tryz.isAgg20
 z20:=Tryz.sizeOf20
 v20:=Tryz.zeroValue20
 t31:=Tryz.underlying26
 a31:=Tryz.isAgg26
 z31:=Tryz.sizeOf26
 v31:=Tryz.zeroValue26
 t37:=Tryz.underlying39
 a37:=Tryz.isAgg39
 z37:=Tryz.sizeOf39
 v37:=Tryz.zeroValue39
 t70:=Tryz.underlying38
 a70:=Tryz.isAgg38
 z70:=Tryz.sizeOf38
 v70:=Tryz.zeroValue38
 t72:=Tryz.underlying41
 a72:=Tryz.isAgg41
 z72:=Tryz.sizeOf41
 v72:=Tryz.zeroValue41
 t75:=Tryz.underlying44
 a75:=Tryz.isAgg44
 z75:=Tryz.sizeOf44
 v75:=Tryz.zeroValue44
 t76:=Tryz.underlying45
 a76:=Tryz.isAgg45
 z76:=Tryz.sizeOf45
 v76:=Tryz.zeroValue45
 t127:=Tryz.underlying87
 a127:=Tryz.isAgg87
 z127:=Tryz.sizeOf87
 v127:=Tryz.zeroValue87
 t164:=Tryz.underlying133
 a164:=Tryz.isAgg133
 z164:=Tryz.sizeOf133
 v164:=Tryz.zeroValue133 }
theorem Tryz.Builder_Extra_156:Builder.Extra Tryz.prog Tryz.lays156_ren:={
 sizeBuilder:=by kernel_rfl
 liesBuilder:=by kernel_rfl
 t5:=Tryz.underlying5
 a5:=Tryz.isAgg5
 z5:=Tryz.sizeOf5
 v5:=Tryz.zeroValue5
 infoByte:=by kernel_rfl
 cellsByte:=by kernel_rfl
 sizeByte:=by kernel_rfl
 neB5:=by decide }
def Tryz.lays160_ren:Go.Shelf.Ren:=⟨fun | 160=>18 | 232=>41 | 231=>40 | 227=>42 | 234=>44 | 233=>43 | 236=>46 | 235=>45 | 228=>84 | 271=>87 | 151=>86 | 197=>85 | 120=>122 | 152=>121 | 260=>120 | 137=>152 | 119=>153 | 224=>117 | 225=>116 | 217=>115 | 266=>149 | n=>n,fun | 9=>9 | 4=>4 | 3=>3 | 5=>5 | 117=>96 | 116=>95 | 0=>0 | 124=>99 | 21=>21 | 105=>158 | 46=>22 | 119=>232 | 139=>235 | 138=>234 | n=>n,fun | 3=>2 | 4=>3 | n=>n⟩
theorem Tryz.lays160:Go.Proofs.Lays.n160 Tryz.prog Tryz.lays160_ren:={
 mixed:=by kernel_rfl
 f119:=Tryz.func153.trans (congrArg some (by kernel_rfl))
 f120:=Tryz.func122.trans (congrArg some (by kernel_rfl))
 f137:=Tryz.func152.trans (congrArg some (by kernel_rfl))
 f151:=Tryz.func86.trans (congrArg some (by kernel_rfl))
 f152:=Tryz.func121.trans (congrArg some (by kernel_rfl))
 f160:=Tryz.func18.trans (congrArg some (by kernel_rfl))
 f197:=Tryz.func85.trans (congrArg some (by kernel_rfl))
 f217:=Tryz.func115.trans (congrArg some (by kernel_rfl))
 f224:=Tryz.func117.trans (congrArg some (by kernel_rfl))
 f225:=Tryz.func116.trans (congrArg some (by kernel_rfl))
 f227:=Tryz.func42.trans (congrArg some (by kernel_rfl))
 f228:=Tryz.func84.trans (congrArg some (by kernel_rfl))
 f231:=Tryz.func40.trans (congrArg some (by kernel_rfl))
 f232:=Tryz.func41.trans (congrArg some (by kernel_rfl))
 f233:=Tryz.func43.trans (congrArg some (by kernel_rfl))
 f234:=Tryz.func44.trans (congrArg some (by kernel_rfl))
 f235:=Tryz.func45.trans (congrArg some (by kernel_rfl))
 f236:=Tryz.func46.trans (congrArg some (by kernel_rfl))
 f260:=Tryz.func120.trans (congrArg some (by kernel_rfl))
 f266:=Tryz.func149.trans (congrArg some (by kernel_rfl))
 f271:=Tryz.func87.trans (congrArg some (by kernel_rfl))
 t0:=Tryz.underlying0
 a0:=Tryz.isAgg0
 z0:=Tryz.sizeOf0
 v0:=Tryz.zeroValue0
 t3:=Tryz.underlying3
 a3:=Tryz.isAgg3
 z3:=Tryz.sizeOf3
 v3:=Tryz.zeroValue3
 t4:=Tryz.underlying4
 a4:=Tryz.isAgg4
 z4:=Tryz.sizeOf4
 v4:=Tryz.zeroValue4
 t5:=Tryz.underlying5
 a5:=Tryz.isAgg5
 z5:=Tryz.sizeOf5
 v5:=Tryz.zeroValue5
 t9:=Tryz.underlying9
 a9:=Tryz.isAgg9
 z9:=Tryz.sizeOf9
 v9:=Tryz.zeroValue9
 t21:=Tryz.underlying21
 a21:=Tryz.isAgg21
 z21:=Tryz.sizeOf21
 v21:=Tryz.zeroValue21
 t46:=Tryz.underlying22
 a46:=Tryz.isAgg22
 z46:=Tryz.sizeOf22
 v46:=Tryz.zeroValue22
 t105:=Tryz.underlying158
 a105:=Tryz.isAgg158
 z105:=Tryz.sizeOf158
 v105:=Tryz.zeroValue158
 t116:=Tryz.underlying95
 a116:=Tryz.isAgg95
 z116:=Tryz.sizeOf95
 t117:=Tryz.underlying96
 a117:=Tryz.isAgg96
 z117:=Tryz.sizeOf96
 v117:=Tryz.zeroValue96
 t119:=Tryz.underlying232
 a119:=Tryz.isAgg232
 z119:=Tryz.sizeOf232
 t124:=Tryz.underlying99
 a124:=Tryz.isAgg99
 z124:=Tryz.sizeOf99
 v124:=Tryz.zeroValue99
 t138:=Tryz.underlying234
 a138:=Tryz.isAgg234
 z138:=Tryz.sizeOf234
 v138:=Tryz.zeroValue234
 t139:=Tryz.underlying235
 a139:=Tryz.isAgg235
 z139:=Tryz.sizeOf235
 v139:=Tryz.zeroValue235
 g3:=by kernel_rfl
 g4:=by kernel_rfl }
def Tryz.lays103_ren:Go.Shelf.Ren:=⟨fun | 103=>119 | 210=>151 | 206=>173 | n=>n,fun | 9=>9 | 4=>4 | 24=>197 | 3=>3 | n=>n,fun | n=>n⟩
theorem Tryz.lays103:Go.Proofs.Lays.n103 Tryz.prog Tryz.lays103_ren:={
 mixed:=by kernel_rfl
 f103:=Tryz.func119.trans (congrArg some (by kernel_rfl))
 f206:=Tryz.func173.trans (congrArg some (by kernel_rfl))
 f210:=Tryz.func151.trans (congrArg some (by kernel_rfl))
 t3:=Tryz.underlying3
 a3:=Tryz.isAgg3
 z3:=Tryz.sizeOf3
 v3:=Tryz.zeroValue3
 t4:=Tryz.underlying4
 a4:=Tryz.isAgg4
 z4:=Tryz.sizeOf4
 v4:=Tryz.zeroValue4
 t9:=Tryz.underlying9
 a9:=Tryz.isAgg9
 z9:=Tryz.sizeOf9
 v9:=Tryz.zeroValue9
 t24:=Tryz.underlying197
 a24:=Tryz.isAgg197
 z24:=Tryz.sizeOf197
 v24:=Tryz.zeroValue197 }
def Tryz.laysM171_ren:Go.Shelf.Ren:=⟨fun | 171=>9 | 243=>20 | 246=>48 | 283=>90 | 284=>91 | 285=>92 | 286=>93 | 129=>124 | 317=>123 | 318=>125 | 319=>126 | 320=>127 | 337=>154 | 338=>155 | n=>n,fun | 3=>3 | 9=>9 | 2=>2 | 4=>4 | 171=>163 | 0=>0 | 53=>164 | 37=>39 | 5=>5 | 173=>167 | 212=>201 | 51=>202 | 20=>20 | 213=>203 | 46=>22 | 232=>262 | 233=>263 | n=>n,fun | 17=>1 | 18=>4 | 19=>5 | n=>n⟩
theorem Tryz.laysM171:Go.Proofs.LaysM.n171 Tryz.prog Tryz.laysM171_ren:={
 mixed:=by kernel_rfl
 f129:=Tryz.func124.trans (congrArg some (by kernel_rfl))
 f171:=Tryz.func9.trans (congrArg some (by kernel_rfl))
 f243:=Tryz.func20.trans (congrArg some (by kernel_rfl))
 f246:=Tryz.func48.trans (congrArg some (by kernel_rfl))
 f283:=Tryz.func90.trans (congrArg some (by kernel_rfl))
 f284:=Tryz.func91.trans (congrArg some (by kernel_rfl))
 f285:=Tryz.func92.trans (congrArg some (by kernel_rfl))
 f286:=Tryz.func93.trans (congrArg some (by kernel_rfl))
 f317:=Tryz.func123.trans (congrArg some (by kernel_rfl))
 f318:=Tryz.func125.trans (congrArg some (by kernel_rfl))
 f319:=Tryz.func126.trans (congrArg some (by kernel_rfl))
 f320:=Tryz.func127.trans (congrArg some (by kernel_rfl))
 f337:=Tryz.func154.trans (congrArg some (by kernel_rfl))
 f338:=Tryz.func155.trans (congrArg some (by kernel_rfl))
 t0:=Tryz.underlying0
 a0:=Tryz.isAgg0
 z0:=Tryz.sizeOf0
 v0:=Tryz.zeroValue0
 t2:=Tryz.underlying2
 a2:=Tryz.isAgg2
 z2:=Tryz.sizeOf2
 v2:=Tryz.zeroValue2
 t3:=Tryz.underlying3
 a3:=Tryz.isAgg3
 z3:=Tryz.sizeOf3
 v3:=Tryz.zeroValue3
 t4:=Tryz.underlying4
 a4:=Tryz.isAgg4
 z4:=Tryz.sizeOf4
 v4:=Tryz.zeroValue4
 t5:=Tryz.underlying5
 a5:=Tryz.isAgg5
 z5:=Tryz.sizeOf5
 v5:=Tryz.zeroValue5
 t9:=Tryz.underlying9
 a9:=Tryz.isAgg9
 z9:=Tryz.sizeOf9
 v9:=Tryz.zeroValue9
 t20:=Tryz.underlying20
 a20:=Tryz.isAgg20
 z20:=Tryz.sizeOf20
 v20:=Tryz.zeroValue20
 t37:=Tryz.underlying39
 a37:=Tryz.isAgg39
 z37:=Tryz.sizeOf39
 v37:=Tryz.zeroValue39
 t46:=Tryz.underlying22
 a46:=Tryz.isAgg22
 z46:=Tryz.sizeOf22
 v46:=Tryz.zeroValue22
 t51:=Tryz.underlying202
 a51:=Tryz.isAgg202
 z51:=Tryz.sizeOf202
 v51:=Tryz.zeroValue202
 t53:=Tryz.underlying164
 a53:=Tryz.isAgg164
 z53:=Tryz.sizeOf164
 v53:=Tryz.zeroValue164
 t171:=Tryz.underlying163
 a171:=Tryz.isAgg163
 z171:=Tryz.sizeOf163
 v171:=Tryz.zeroValue163
 t173:=Tryz.underlying167
 a173:=Tryz.isAgg167
 z173:=Tryz.sizeOf167
 v173:=Tryz.zeroValue167
 t212:=Tryz.underlying201
 a212:=Tryz.isAgg201
 z212:=Tryz.sizeOf201
 v212:=Tryz.zeroValue201
 t213:=Tryz.underlying203
 a213:=Tryz.isAgg203
 z213:=Tryz.sizeOf203
 t232:=Tryz.underlying262
 a232:=Tryz.isAgg262
 z232:=Tryz.sizeOf262
 v232:=Tryz.zeroValue262
 t233:=Tryz.underlying263
 a233:=Tryz.isAgg263
 z233:=Tryz.sizeOf263
 v233:=Tryz.zeroValue263
 g17:=by kernel_rfl
 g18:=by kernel_rfl
 g19:=by kernel_rfl
 i0:=by kernel_rfl
 i2:=by kernel_rfl
 i3:=by kernel_rfl
 i4:=by kernel_rfl
 i5:=by kernel_rfl
 i9:=by kernel_rfl
 i20:=by kernel_rfl
 i37:=by kernel_rfl
 i46:=by kernel_rfl
 i51:=by kernel_rfl
 i53:=by kernel_rfl
 i171:=by kernel_rfl
 i173:=by kernel_rfl
 i212:=by kernel_rfl
 i232:=by kernel_rfl
 i233:=by kernel_rfl
 m17:=by kernel_rfl
 m18:=by kernel_rfl
 m19:=by kernel_rfl }
def Tryz.laysM173_ren:Go.Shelf.Ren:=⟨fun | 173=>145 | 246=>48 | 283=>90 | 284=>91 | 285=>92 | 286=>93 | 129=>124 | 317=>123 | 318=>125 | 319=>126 | 320=>127 | 337=>154 | 338=>155 | n=>n,fun | 2=>2 | 3=>3 | 9=>9 | 4=>4 | 171=>163 | 0=>0 | 53=>164 | 37=>39 | 5=>5 | 173=>167 | 212=>201 | 51=>202 | 20=>20 | 213=>203 | 46=>22 | 232=>262 | 233=>263 | n=>n,fun | 17=>1 | 18=>4 | 19=>5 | n=>n⟩
theorem Tryz.laysM173:Go.Proofs.LaysM.n173 Tryz.prog Tryz.laysM173_ren:={
 mixed:=by kernel_rfl
 f129:=Tryz.func124.trans (congrArg some (by kernel_rfl))
 f173:=Tryz.func145.trans (congrArg some (by kernel_rfl))
 f246:=Tryz.func48.trans (congrArg some (by kernel_rfl))
 f283:=Tryz.func90.trans (congrArg some (by kernel_rfl))
 f284:=Tryz.func91.trans (congrArg some (by kernel_rfl))
 f285:=Tryz.func92.trans (congrArg some (by kernel_rfl))
 f286:=Tryz.func93.trans (congrArg some (by kernel_rfl))
 f317:=Tryz.func123.trans (congrArg some (by kernel_rfl))
 f318:=Tryz.func125.trans (congrArg some (by kernel_rfl))
 f319:=Tryz.func126.trans (congrArg some (by kernel_rfl))
 f320:=Tryz.func127.trans (congrArg some (by kernel_rfl))
 f337:=Tryz.func154.trans (congrArg some (by kernel_rfl))
 f338:=Tryz.func155.trans (congrArg some (by kernel_rfl))
 t0:=Tryz.underlying0
 a0:=Tryz.isAgg0
 z0:=Tryz.sizeOf0
 v0:=Tryz.zeroValue0
 t2:=Tryz.underlying2
 a2:=Tryz.isAgg2
 z2:=Tryz.sizeOf2
 v2:=Tryz.zeroValue2
 t3:=Tryz.underlying3
 a3:=Tryz.isAgg3
 z3:=Tryz.sizeOf3
 v3:=Tryz.zeroValue3
 t4:=Tryz.underlying4
 a4:=Tryz.isAgg4
 z4:=Tryz.sizeOf4
 v4:=Tryz.zeroValue4
 t5:=Tryz.underlying5
 a5:=Tryz.isAgg5
 z5:=Tryz.sizeOf5
 v5:=Tryz.zeroValue5
 t9:=Tryz.underlying9
 a9:=Tryz.isAgg9
 z9:=Tryz.sizeOf9
 v9:=Tryz.zeroValue9
 t20:=Tryz.underlying20
 a20:=Tryz.isAgg20
 z20:=Tryz.sizeOf20
 v20:=Tryz.zeroValue20
 t37:=Tryz.underlying39
 a37:=Tryz.isAgg39
 z37:=Tryz.sizeOf39
 v37:=Tryz.zeroValue39
 t46:=Tryz.underlying22
 a46:=Tryz.isAgg22
 z46:=Tryz.sizeOf22
 v46:=Tryz.zeroValue22
 t51:=Tryz.underlying202
 a51:=Tryz.isAgg202
 z51:=Tryz.sizeOf202
 v51:=Tryz.zeroValue202
 t53:=Tryz.underlying164
 a53:=Tryz.isAgg164
 z53:=Tryz.sizeOf164
 v53:=Tryz.zeroValue164
 t171:=Tryz.underlying163
 a171:=Tryz.isAgg163
 z171:=Tryz.sizeOf163
 v171:=Tryz.zeroValue163
 t173:=Tryz.underlying167
 a173:=Tryz.isAgg167
 z173:=Tryz.sizeOf167
 v173:=Tryz.zeroValue167
 t212:=Tryz.underlying201
 a212:=Tryz.isAgg201
 z212:=Tryz.sizeOf201
 v212:=Tryz.zeroValue201
 t213:=Tryz.underlying203
 a213:=Tryz.isAgg203
 z213:=Tryz.sizeOf203
 t232:=Tryz.underlying262
 a232:=Tryz.isAgg262
 z232:=Tryz.sizeOf262
 v232:=Tryz.zeroValue262
 t233:=Tryz.underlying263
 a233:=Tryz.isAgg263
 z233:=Tryz.sizeOf263
 v233:=Tryz.zeroValue263
 g17:=by kernel_rfl
 g18:=by kernel_rfl
 g19:=by kernel_rfl
 i0:=by kernel_rfl
 i2:=by kernel_rfl
 i3:=by kernel_rfl
 i4:=by kernel_rfl
 i5:=by kernel_rfl
 i9:=by kernel_rfl
 i20:=by kernel_rfl
 i37:=by kernel_rfl
 i46:=by kernel_rfl
 i51:=by kernel_rfl
 i53:=by kernel_rfl
 i171:=by kernel_rfl
 i173:=by kernel_rfl
 i212:=by kernel_rfl
 i232:=by kernel_rfl
 i233:=by kernel_rfl
 m17:=by kernel_rfl
 m18:=by kernel_rfl
 m19:=by kernel_rfl }
def Tryz.lays145_ren:Go.Shelf.Ren:=⟨fun | 145=>16 | 220=>36 | 219=>80 | 217=>115 | 225=>116 | 224=>117 | 267=>118 | 266=>149 | 314=>150 | n=>n,fun | 9=>9 | 4=>4 | 59=>51 | 3=>3 | 5=>5 | 46=>22 | 146=>230 | 51=>202 | n=>n,fun | 1=>0 | n=>n⟩
theorem Tryz.lays145:Go.Proofs.Lays.n145 Tryz.prog Tryz.lays145_ren:={
 mixed:=by kernel_rfl
 f145:=Tryz.func16.trans (congrArg some (by kernel_rfl))
 f217:=Tryz.func115.trans (congrArg some (by kernel_rfl))
 f219:=Tryz.func80.trans (congrArg some (by kernel_rfl))
 f220:=Tryz.func36.trans (congrArg some (by kernel_rfl))
 f224:=Tryz.func117.trans (congrArg some (by kernel_rfl))
 f225:=Tryz.func116.trans (congrArg some (by kernel_rfl))
 f266:=Tryz.func149.trans (congrArg some (by kernel_rfl))
 f267:=Tryz.func118.trans (congrArg some (by kernel_rfl))
 f314:=Tryz.func150.trans (congrArg some (by kernel_rfl))
 t3:=Tryz.underlying3
 a3:=Tryz.isAgg3
 z3:=Tryz.sizeOf3
 v3:=Tryz.zeroValue3
 t4:=Tryz.underlying4
 a4:=Tryz.isAgg4
 z4:=Tryz.sizeOf4
 v4:=Tryz.zeroValue4
 t5:=Tryz.underlying5
 a5:=Tryz.isAgg5
 z5:=Tryz.sizeOf5
 v5:=Tryz.zeroValue5
 t9:=Tryz.underlying9
 a9:=Tryz.isAgg9
 z9:=Tryz.sizeOf9
 v9:=Tryz.zeroValue9
 t46:=Tryz.underlying22
 a46:=Tryz.isAgg22
 z46:=Tryz.sizeOf22
 v46:=Tryz.zeroValue22
 t51:=Tryz.underlying202
 a51:=Tryz.isAgg202
 z51:=Tryz.sizeOf202
 v51:=Tryz.zeroValue202
 t59:=Tryz.underlying51
 a59:=Tryz.isAgg51
 z59:=Tryz.sizeOf51
 v59:=Tryz.zeroValue51
 t146:=Tryz.underlying230
 a146:=Tryz.isAgg230
 z146:=Tryz.sizeOf230
 v146:=Tryz.zeroValue230
 g1:=by kernel_rfl }
def Tryz.lays138_ren:Go.Shelf.Ren:=⟨fun | 138=>21 | 195=>49 | 218=>50 | 143=>51 | 219=>80 | 217=>115 | 225=>116 | 224=>117 | 267=>118 | 266=>149 | 314=>150 | n=>n,fun | 9=>9 | 3=>3 | 4=>4 | 5=>5 | 0=>0 | 46=>22 | 146=>230 | 51=>202 | n=>n,fun | 1=>0 | n=>n⟩
theorem Tryz.lays138:Go.Proofs.Lays.n138 Tryz.prog Tryz.lays138_ren:={
 mixed:=by kernel_rfl
 f138:=Tryz.func21.trans (congrArg some (by kernel_rfl))
 f143:=Tryz.func51.trans (congrArg some (by kernel_rfl))
 f195:=Tryz.func49.trans (congrArg some (by kernel_rfl))
 f217:=Tryz.func115.trans (congrArg some (by kernel_rfl))
 f218:=Tryz.func50.trans (congrArg some (by kernel_rfl))
 f219:=Tryz.func80.trans (congrArg some (by kernel_rfl))
 f224:=Tryz.func117.trans (congrArg some (by kernel_rfl))
 f225:=Tryz.func116.trans (congrArg some (by kernel_rfl))
 f266:=Tryz.func149.trans (congrArg some (by kernel_rfl))
 f267:=Tryz.func118.trans (congrArg some (by kernel_rfl))
 f314:=Tryz.func150.trans (congrArg some (by kernel_rfl))
 t0:=Tryz.underlying0
 a0:=Tryz.isAgg0
 z0:=Tryz.sizeOf0
 v0:=Tryz.zeroValue0
 t3:=Tryz.underlying3
 a3:=Tryz.isAgg3
 z3:=Tryz.sizeOf3
 v3:=Tryz.zeroValue3
 t4:=Tryz.underlying4
 a4:=Tryz.isAgg4
 z4:=Tryz.sizeOf4
 v4:=Tryz.zeroValue4
 t5:=Tryz.underlying5
 a5:=Tryz.isAgg5
 z5:=Tryz.sizeOf5
 v5:=Tryz.zeroValue5
 t9:=Tryz.underlying9
 a9:=Tryz.isAgg9
 z9:=Tryz.sizeOf9
 v9:=Tryz.zeroValue9
 t46:=Tryz.underlying22
 a46:=Tryz.isAgg22
 z46:=Tryz.sizeOf22
 v46:=Tryz.zeroValue22
 t51:=Tryz.underlying202
 a51:=Tryz.isAgg202
 z51:=Tryz.sizeOf202
 v51:=Tryz.zeroValue202
 t146:=Tryz.underlying230
 a146:=Tryz.isAgg230
 z146:=Tryz.sizeOf230
 v146:=Tryz.zeroValue230
 g1:=by kernel_rfl }
def Tryz.lays221_ren:Go.Shelf.Ren:=⟨fun | 221=>31 | 268=>62 | 138=>21 | 143=>51 | 195=>49 | 197=>85 | 218=>50 | 219=>80 | 260=>120 | 217=>115 | 225=>116 | 224=>117 | 267=>118 | 266=>149 | 314=>150 | n=>n,fun | 9=>9 | 3=>3 | 31=>26 | 4=>4 | 0=>0 | 105=>158 | 21=>21 | 5=>5 | 46=>22 | 119=>232 | 139=>235 | 138=>234 | 146=>230 | 51=>202 | n=>n,fun | 1=>0 | 3=>2 | 4=>3 | n=>n⟩
def Tryz.lays146_ren:Go.Shelf.Ren:=⟨fun | 146=>12 | 221=>31 | 268=>62 | 138=>21 | 143=>51 | 195=>49 | 197=>85 | 218=>50 | 219=>80 | 260=>120 | 217=>115 | 225=>116 | 224=>117 | 267=>118 | 266=>149 | 314=>150 | n=>n,fun | 9=>9 | 31=>26 | 3=>3 | 4=>4 | 0=>0 | 105=>158 | 21=>21 | 5=>5 | 46=>22 | 119=>232 | 139=>235 | 138=>234 | 146=>230 | 51=>202 | n=>n,fun | 1=>0 | 3=>2 | 4=>3 | n=>n⟩
theorem Tryz.lays146:Go.Proofs.Lays.n146 Tryz.prog Tryz.lays146_ren:={
 mixed:=by kernel_rfl
 f138:=Tryz.func21.trans (congrArg some (by kernel_rfl))
 f143:=Tryz.func51.trans (congrArg some (by kernel_rfl))
 f146:=Tryz.func12.trans (congrArg some (by kernel_rfl))
 f195:=Tryz.func49.trans (congrArg some (by kernel_rfl))
 f197:=Tryz.func85.trans (congrArg some (by kernel_rfl))
 f217:=Tryz.func115.trans (congrArg some (by kernel_rfl))
 f218:=Tryz.func50.trans (congrArg some (by kernel_rfl))
 f219:=Tryz.func80.trans (congrArg some (by kernel_rfl))
 f221:=Tryz.func31.trans (congrArg some (by kernel_rfl))
 f224:=Tryz.func117.trans (congrArg some (by kernel_rfl))
 f225:=Tryz.func116.trans (congrArg some (by kernel_rfl))
 f260:=Tryz.func120.trans (congrArg some (by kernel_rfl))
 f266:=Tryz.func149.trans (congrArg some (by kernel_rfl))
 f267:=Tryz.func118.trans (congrArg some (by kernel_rfl))
 f268:=Tryz.func62.trans (congrArg some (by kernel_rfl))
 f314:=Tryz.func150.trans (congrArg some (by kernel_rfl))
 t0:=Tryz.underlying0
 a0:=Tryz.isAgg0
 z0:=Tryz.sizeOf0
 v0:=Tryz.zeroValue0
 t3:=Tryz.underlying3
 a3:=Tryz.isAgg3
 z3:=Tryz.sizeOf3
 v3:=Tryz.zeroValue3
 t4:=Tryz.underlying4
 a4:=Tryz.isAgg4
 z4:=Tryz.sizeOf4
 v4:=Tryz.zeroValue4
 t5:=Tryz.underlying5
 a5:=Tryz.isAgg5
 z5:=Tryz.sizeOf5
 v5:=Tryz.zeroValue5
 t9:=Tryz.underlying9
 a9:=Tryz.isAgg9
 z9:=Tryz.sizeOf9
 v9:=Tryz.zeroValue9
 t21:=Tryz.underlying21
 a21:=Tryz.isAgg21
 z21:=Tryz.sizeOf21
 v21:=Tryz.zeroValue21
 t31:=Tryz.underlying26
 a31:=Tryz.isAgg26
 z31:=Tryz.sizeOf26
 v31:=Tryz.zeroValue26
 t46:=Tryz.underlying22
 a46:=Tryz.isAgg22
 z46:=Tryz.sizeOf22
 v46:=Tryz.zeroValue22
 t51:=Tryz.underlying202
 a51:=Tryz.isAgg202
 z51:=Tryz.sizeOf202
 v51:=Tryz.zeroValue202
 t105:=Tryz.underlying158
 a105:=Tryz.isAgg158
 z105:=Tryz.sizeOf158
 v105:=Tryz.zeroValue158
 t119:=Tryz.underlying232
 a119:=Tryz.isAgg232
 z119:=Tryz.sizeOf232
 t138:=Tryz.underlying234
 a138:=Tryz.isAgg234
 z138:=Tryz.sizeOf234
 v138:=Tryz.zeroValue234
 t139:=Tryz.underlying235
 a139:=Tryz.isAgg235
 z139:=Tryz.sizeOf235
 v139:=Tryz.zeroValue235
 t146:=Tryz.underlying230
 a146:=Tryz.isAgg230
 z146:=Tryz.sizeOf230
 v146:=Tryz.zeroValue230
 g1:=by kernel_rfl
 g3:=by kernel_rfl
 g4:=by kernel_rfl }
end Go.Proofs
namespace Go.Eng
open Go.RowKit
theorem SpecOk.of_callsG {P:Program} {f:Nat} {fn:Func} {sp:Spec} (hf:P.funcs[f]?=some fn) (hb:fn.body.isSome=true) (hn:(fn.name=="runtime.NumGoroutine")=false)
  (hpl:∀ args v,(sp args).eval=some v->cK args=true/\flat v=true)
  (h:∀ args v w,Glob w->(sp args).eval=some v->Calls P f (aB nu0 args).toArray w fun e w'=>e=.returned (v.den nu0)/\Below w.heap.size w w'):SpecOk P f sp :=
 ⟨⟨fn,hf,hb,hn⟩,fun args v xs w hG hfl hv hfv hh=>by
  obtain ⟨p1,p2⟩:=hpl args v hv
  rw [dX p1 hh]
  refine (h args v w hG hv).mono ?_
  rintro e w' ⟨rfl,hbl⟩
  exact ⟨_,rfl,(cC p2).2 rfl,hbl⟩⟩
end Go.Eng
namespace Go.Proofs.YtncmdfdppmfeeaaGreatDoor.Txt
open Go.Eng Go.RowKit
set_option linter.unusedVariables false
set_option linter.unusedSimpArgs false
set_option maxRecDepth 100000
def decF:Nat->Nat->List UInt8
 | 0,u=>[UInt8.ofNat (48+u % 10)]
 | f+1,u=>if u<10 then [UInt8.ofNat (48+u)] else decF f (u / 10)++[UInt8.ofNat (48+u % 10)]
theorem ug:∀ (f u:Nat),u<10 ^ (f+1)->Lib.decDigits u=decF f u
 | 0,u,h=>by
  rw [Lib.decDigits,dif_pos (by omega)]
  unfold decF
  rw [Nat.mod_eq_of_lt (by omega)]
 | f+1,u,h=>by
  rw [Lib.decDigits]
  unfold decF
  by_cases q:u<10
  ·rw [dif_pos q,if_pos q]
  ·rw [dif_neg q,if_neg q,ug f (u / 10) (by rw [Nat.pow_succ] at h;omega)]
def Ll (n:Int):List UInt8:=if n<0 then 45::decF 19 n.natAbs else decF 19 n.toNat
def EM (n:Int):ByteArray:=⟨(Ll n).toArray⟩
def MO (n:Int):Bool:=decide (-9223372036854775808<=n)&&decide (n<=9223372036854775807)
theorem mg {n:Int} (h:MO n=true) : -9223372036854775808<=n/\n<=9223372036854775807:=by
 unfold MO at h
 rw [Bool.and_eq_true,decide_eq_true_eq,decide_eq_true_eq] at h
 exact h
theorem wG {n:Int} (h:MO n=true):Lib.itoa n=Ll n:=by
 obtain ⟨h0,h1⟩:=mg h
 unfold Lib.itoa Ll
 rw [ug 19 n.natAbs (by omega),ug 19 n.toNat (by omega)]
theorem wS {w:World} (h:Glob w):Lib.TabIs Tryz.prog w "internal/strconv.uint64pow10" .u64 Lib.pow10Tab:=by
 obtain ⟨t,s,ht⟩:=h.tab
 unfold Lib.TabIs World.var?
 have:Tryz.prog.globalNamed "internal/strconv.uint64pow10"=some 1:=by kernel_rfl
 rw [this]
 show (match w.heap[1]? with | some (.cells cs _ _)=>some cs | _=>none)=_
 rw [ht]
theorem l6 {w w':World} (h:∃ k os,w'=Sort.grow (w.drewN k) os):Below w.heap.size w w':=by
 obtain ⟨k,os,rfl⟩:=h
 exact Lib.below_grow _ w (Nat.le_refl _) k os
theorem gA {α:Type} {c:Bool} {x:T α} {r:α} (h:(T.ite none c x .fail).eval=some r):c=true/\x.eval=some r:=by
 cases c with
 | true=>exact ⟨rfl,h⟩
 | false=>cases h
def sR:V->Option Int
 | .n .i64 n=>some n
 | .s (.int .i64 n)=>some n
 | _=>none
theorem hY {v:V} {n:Int} (h:sR v=some n):flat v=true/\v.den nu0=.int .i64 n:=by
 unfold sR at h
 split at h
 ·cases h;exact ⟨rfl,rfl⟩
 ·cases h;exact ⟨rfl,rfl⟩
 ·cases h
def strOf:V->Option ByteArray
 | .s (.str s)=>some s
 | _=>none
def iI:Eng.Spec
 | [a]=>match sR a with
  | some n=>.ite none (MO n) (.ret (.s (.str (EM n)))) .fail
  | none=>.fail
 | _=>.fail
theorem wT {args:List V} {v:V} (h:(iI args).eval=some v):∃ a n,args=[a]/\sR a=some n/\MO n=true/\v=.s (.str (EM n)):=by
 unfold iI at h
 split at h
 ·split at h
  ·rename_i hn
   obtain ⟨h1,h2⟩:=gA h
   exact ⟨_,_,rfl,hn,h1,(Option.some.inj h2).symm⟩
  ·cases h
 ·cases h
theorem cF:SpecOk Tryz.prog 9 iI:=SpecOk.of_callsG Tryz.func9 (by kernel_rfl) (by kernel_rfl)
 (fun args v h=>by
  obtain ⟨a,n,rfl,ha,-,rfl⟩:=wT h
  exact ⟨by simp only [cK,okL,Bool.and_eq_true];exact ⟨(hY ha).1,trivial⟩,rfl⟩)
 (fun args v w hG h=>by
  obtain ⟨a,n,rfl,ha,hn,rfl⟩:=wT h
  have c:=Any.strconv_Itoa Tryz.laysM171 n (mg hn).1 (mg hn).2 w (wS hG)
  rw [wG hn] at c
  simp only [aB,(hY ha).2]
  refine c.mono ?_
  rintro e w' ⟨rfl,hw⟩
  exact ⟨rfl,l6 hw⟩)
def zi:Eng.Spec
 | [a,b]=>match sR a,sR b with
  | some n,some m=>if m=10 then .ite none (MO n) (.ret (.s (.str (EM n)))) .fail else .fail
  | _,_=>.fail
 | _=>.fail
theorem Aw {args:List V} {v:V} (h:(zi args).eval=some v):∃ a b n,args=[a,b]/\sR a=some n/\sR b=some 10/\MO n=true/\v=.s (.str (EM n)):=by
 unfold zi at h
 split at h
 ·split at h
  ·rename_i hn hm
   split at h
   ·rename_i hz
    obtain ⟨h1,h2⟩:=gA h
    exact ⟨_,_,_,rfl,hn,hz ▸ hm,h1,(Option.some.inj h2).symm⟩
   ·cases h
  ·cases h
 ·cases h
theorem fD:SpecOk Tryz.prog 145 zi:=SpecOk.of_callsG Tryz.func145 (by kernel_rfl) (by kernel_rfl)
 (fun args v h=>by
  obtain ⟨a,b,n,rfl,ha,hb,-,rfl⟩:=Aw h
  exact ⟨by simp only [cK,okL,Bool.and_eq_true];exact ⟨(hY ha).1,(hY hb).1,trivial⟩,rfl⟩)
 (fun args v w hG h=>by
  obtain ⟨a,b,n,rfl,ha,hb,hn,rfl⟩:=Aw h
  have c:=Any.strconv_FormatInt_10 Tryz.laysM173 n (mg hn).1 (mg hn).2 w (wS hG)
  rw [wG hn] at c
  simp only [aB,(hY ha).2,(hY hb).2]
  refine c.mono ?_
  rintro e w' ⟨rfl,hw⟩
  exact ⟨rfl,l6 hw⟩)
def Oe:List UInt8->List UInt8->Option Nat
 | [],sub=>if sub.isEmpty then some 0 else none
 | b::l,sub=>if sub.isPrefixOf (b::l) then some 0 else (Oe l sub).map (·+1)
theorem DM:∀ (l sub:List UInt8),Lib.index l sub=match Oe l sub with
  | some k=>(k:Int)
  | none => -1
 | [],sub=>by unfold Lib.index Oe;split<;>rfl
 | b::l,sub=>by
  unfold Lib.index Oe
  split
  ·rfl
  ·rw [DM l sub]
   cases Oe l sub with
   | none=>rfl
   | some k =>
    have:(((k:Nat):Int) == -1)=false:=by rw [beq_eq_false_iff_ne];omega
    simp only [this]
    rfl
def U7 (s sep:List UInt8):List UInt8 × List UInt8 × Bool:=match Oe s sep with
 | some k=>(s.take k,s.drop (k+sep.length),true)
 | none=>(s,[],false)
theorem Jq (s sep:List UInt8):Lib.cut s sep=U7 s sep:=by
 unfold Lib.cut U7
 rw [DM]
 cases Oe s sep with
 | none=>rfl
 | some k =>
  show (if (0:Int)<=(k:Int) then _ else _)=_
  rw [if_pos (by omega)]
  rfl
def byA (l:List UInt8):ByteArray:=⟨l.toArray⟩
def cE (s sep:ByteArray):V:=.tup [.s (.str (byA (U7 s.data.toList sep.data.toList).1)),.s (.str (byA (U7 s.data.toList sep.data.toList).2.1)),.s (.bool (U7 s.data.toList sep.data.toList).2.2)]
def zz:Eng.Spec
 | [.s (.str s),.s (.str sep)]=>.ite none (decide (s.size<4294967281)) (.ret (cE s sep)) .fail
 | _=>.fail
theorem AK {args:List V} {v:V} (h:(zz args).eval=some v):∃ s sep,args=[.s (.str s),.s (.str sep)]/\s.size<4294967281/\v=cE s sep:=by
 unfold zz at h
 split at h
 ·obtain ⟨h1,h2⟩:=gA h
  exact ⟨_,_,rfl,of_decide_eq_true h1,(Option.some.inj h2).symm⟩
 ·cases h
theorem gU:SpecOk Tryz.prog 16 zz:=SpecOk.of_callsG Tryz.func16 (by kernel_rfl) (by kernel_rfl)
 (fun args v h=>by obtain ⟨s,sep,rfl,-,rfl⟩:=AK h;exact ⟨rfl,rfl⟩)
 (fun args v w hG h=>by
  obtain ⟨s,sep,rfl,hs,rfl⟩:=AK h
  obtain ⟨m,hm⟩:=hG.len
  have c:=Any.strings_Cut Tryz.lays145 s sep m w hs hm
  rw [Jq] at c
  refine c.mono ?_
  rintro e w' ⟨rfl,n,rfl⟩
  exact ⟨rfl,rfl,rfl,rfl,Nat.le_refl _,fun _ _=>rfl⟩)
def abC (s p:ByteArray):V:=.tup [.s (.str (byA (Lib.trimPrefix s.data.toList p.data.toList))),.s (.bool (Lib.hasPrefix s.data.toList p.data.toList))]
def Af:Eng.Spec
 | [.s (.str s),.s (.str p)]=>.ret (abC s p)
 | _=>.fail
theorem CN {args:List V} {v:V} (h:(Af args).eval=some v):∃ s p,args=[.s (.str s),.s (.str p)]/\v=abC s p:=by
 unfold Af at h
 split at h
 ·exact ⟨_,_,rfl,(Option.some.inj h).symm⟩
 ·cases h
theorem gM:SpecOk Tryz.prog 119 Af:=SpecOk.of_callsG Tryz.func119 (by kernel_rfl) (by kernel_rfl)
 (fun args v h=>by obtain ⟨s,sep,rfl,rfl⟩:=CN h;exact ⟨rfl,rfl⟩)
 (fun args v w hG h=>by
  obtain ⟨s,p,rfl,rfl⟩:=CN h
  refine (Any.strings_CutPrefix Tryz.lays103 s p w).mono ?_
  rintro e w' ⟨rfl,rfl⟩
  exact ⟨rfl,Below.refl _ _⟩)
def DD (c:UInt8):List UInt8->List UInt8
 | []=>[]
 | b::l=>if b=c then DD c l else b::l
theorem qT (c:UInt8):∀ l:List UInt8,l.dropWhile (·==c)=DD c l
 | []=>rfl
 | b::l=>by
  unfold DD
  rw [List.dropWhile_cons]
  by_cases h:b=c
  ·rw [if_pos h,if_pos (by simpa using h)];exact qT c l
  ·rw [if_neg h,if_neg (by simpa using h)]
def Ux (l a:List UInt8):List UInt8:=match l with
 | []=>a
 | b::l=>Ux l (b::a)
theorem uO:∀ (l a:List UInt8),Ux l a=l.reverse++a
 | [],a=>rfl
 | b::l,a=>by unfold Ux;rw [uO l];simp
def trR (l:List UInt8) (c:UInt8):List UInt8:=Ux (DD c (Ux l [])) []
theorem U3 (l:List UInt8) (c:UInt8):Lib.trimRightB l c=trR l c:=by
 unfold Lib.trimRightB trR
 rw [uO,uO,qT];simp
def oneOf (s:ByteArray):Option UInt8:=match s.data.toList with
 | [c]=>if c.toNat<128 then some c else none
 | _=>none
theorem EG {s:ByteArray} {c:UInt8} (h:oneOf s=some c):s=⟨#[c]⟩/\c.toNat<128:=by
 unfold oneOf at h
 split at h
 ·rename_i x hx
  split at h
  ·rename_i hc
   cases h
   refine ⟨?_,hc⟩
   obtain ⟨d⟩:=s
   have hx:d.toList=[c]:=hx
   congr 1
   apply Array.ext'
   rw [hx]
  ·cases h
 ·cases h
def aaO:Eng.Spec
 | [.s (.str s),.s (.str p)]=>match oneOf p with
  | some c=>.ite none (decide (s.size<=9223372036854775807)) (.ret (.s (.str (byA (trR s.data.toList c))))) .fail
  | none=>.fail
 | _=>.fail
def trB (l:List UInt8) (c:UInt8):List UInt8:=DD c (trR l c)
theorem Su (l:List UInt8) (c:UInt8):Lib.trimB l c=trB l c:=by
 unfold Lib.trimB trB Lib.trimLeftB
 rw [U3,qT]
def nS:Eng.Spec
 | [.s (.str s),.s (.str p)]=>match oneOf p with
  | some c=>.ite none (decide (s.size<=9223372036854775807)) (.ret (.s (.str (byA (trB s.data.toList c))))) .fail
  | none=>.fail
 | _=>.fail
theorem wX {args:List V} {v:V} (h:(nS args).eval=some v):∃ s c,args=[.s (.str s),.s (.str ⟨#[c]⟩)]/\c.toNat<128/\s.size<=9223372036854775807/\v=.s (.str (byA (trB s.data.toList c))):=by
 unfold nS at h
 split at h
 ·split at h
  ·rename_i hc
   obtain ⟨rfl,hc'⟩:=EG hc
   obtain ⟨h1,h2⟩:=gA h
   exact ⟨_,_,rfl,hc',of_decide_eq_true h1,(Option.some.inj h2).symm⟩
  ·cases h
 ·cases h
theorem eN:SpecOk Tryz.prog 18 nS:=SpecOk.of_callsG Tryz.func18 (by kernel_rfl) (by kernel_rfl)
 (fun args v h=>by obtain ⟨s,c,rfl,-,-,rfl⟩:=wX h;exact ⟨rfl,rfl⟩)
 (fun args v w hG h=>by
  obtain ⟨s,c,rfl,hc,hs,rfl⟩:=wX h
  have k:=Any.strings_Trim_one Tryz.lays160 s c hc w hs
  rw [Su] at k
  refine k.mono ?_
  rintro e w' ⟨rfl,hw⟩
  refine ⟨rfl,?_⟩
  rcases hw with rfl | rfl
  ·exact Below.refl _ _
  ·exact (Below.refl _ _).drew)
end Go.Proofs.YtncmdfdppmfeeaaGreatDoor.Txt
namespace Go.Proofs.YtncmdfdppmfeeaaGreatDoor.Txt
open Go.Eng Go.RowKit Go.Shelf
set_option linter.unusedVariables false
set_option linter.unusedSimpArgs false
set_option maxRecDepth 100000
theorem tL:Lays.n240 Tryz.prog Tryz.lays156_ren:={ Tryz.lays156 with }
abbrev TB:TypeId:=41
def ccS:Eng.Obj
 | [.ptr 0 0],[(0,.cells t [.nilPtr,.nilSl])]=>if t=TB then .ret (.tup [],[(0,.cells t [.ptr 0 0,.nilSl])]) else .fail
 | [.ptr 0 0],[(0,.cells t [.ptr 0 0,.nilSl])]=>if t=TB then .ret (.tup [],[(0,.cells t [.ptr 0 0,.nilSl])]) else .fail
 | [.ptr 0 0],[(0,.cells t [.ptr 0 0,.sub 1 1 0 n]),(1,.lst true t' [.int .u8] l)]=>if t=TB then .ret (.tup [],[(0,.cells t [.ptr 0 0,.sub 1 1 0 n]),(1,.lst true t' [.int .u8] l)]) else .fail
 | _,_=>.fail
theorem jr {h:Eng.Heap} {v:V} {h':Eng.Heap} (ho:j7 h v h'=true) {i:Nat} {b:Blk} (e:Eng.look h' i=some b):b.owned=true:=by
 unfold j7 at ho
 rw [Bool.and_eq_true,List.all_eq_true] at ho
 have:=ho.2 _ (ao e)
 simp only [Bool.and_eq_true] at this
 exact this.1.1
theorem heap_setCell {w:World} {b:Nat} {c:Array Value} {t:TypeId} (hb:w.heap[b]?=some (.cells c t (0,0))) (j:Nat) (v:Value):(w.setCell ⟨b,j,none⟩ v).heap[b]?=some (.cells (c.setIfInBounds j v) t (0,0)):=by
 simp [World.setCell,Array.getElem?_modify,hb]
theorem eB {w:World} {b k:Nat} (hk:k≠b) (j:Nat) (v:Value):(w.setCell ⟨b,j,none⟩ v).heap[k]?=w.heap[k]?:=by
 simp [World.setCell,Array.getElem?_modify,Ne.symm hk]
theorem Hz:ObjOk Tryz.prog 32 ccS:=by
 refine ⟨⟨_,Tryz.func32,by kernel_rfl,by kernel_rfl⟩,fun args h v h' ν w hG hgs hok hb hr hv ho => ?_⟩
 have used:∀ (t:TypeId) (r:List V) (hp:Eng.Heap),t=TB->(∀ i b,Eng.look hp i=some b->b.owned=true)->Eng.look hp 0=some (.cells t (.ptr 0 0::r))->Rel ν (Eng.look hp) w->Calls Tryz.prog 32 (aB ν [.ptr 0 0]).toArray w fun e w'=>∃ ν':Eng.Env,e=.returned ((V.tup []).den ν')/\(∀ i,inH hp i=true->(ν' i).core=(ν i).core)/\Rel ν' (Eng.look hp) w' /\
   (∀ i b,Eng.look hp i=some b->∀ k,(ν' i).fp k->dF ν hp k\/w.heap.size<=k)/\Prog w w' (dF ν hp):=by
  intro t r hp ht ho hl hr
  obtain ⟨d0,d1,d2⟩:=hr.den 0 _ hl
  have hc:w.cell? ⟨(ν 0).core.blk,0,none⟩=some (.pointer (some ⟨(ν 0).core.blk,0,none⟩)):=by
   rw [Lib.cell_of_heap d2]
   simp [aB,V.den,d0]
  have ea:(aB ν [.ptr 0 0]).toArray=#[.pointer (some ⟨(ν 0).core.blk,0,none⟩)]:=by simp [aB,V.den,d0]
  rw [ea]
  refine (Any.Builder_copyCheck_used tL Tryz.Builder_Extra_156.toX72 _ w hc).mono ?_
  rintro e w' ⟨rfl,rfl⟩
  exact ⟨ν,rfl,fun _ _=>rfl,hr,fun i b e k hk=>.inl ⟨i,b,e,ho i b e,hk⟩,Prog.refl _ _⟩
 unfold ccS at hv
 split at hv
 ·split at hv
  ·rename_i t ht
   obtain ⟨rfl,rfl⟩:V.tup []=v/\[(0,Blk.cells t [.ptr 0 0,.nilSl])]=h':=by
    have:=Option.some.inj hv
    exact ⟨congrArg Prod.fst this,congrArg Prod.snd this⟩
   obtain ⟨d0,d1,d2⟩:=hr.den 0 _ rfl
   have d2:w.heap[(ν 0).core.blk]?=some (.cells #[.pointer none,.slice none 0 0] t (0,0)):=d2
   have ea:(aB ν [.ptr 0 0]).toArray=#[.pointer (some ⟨(ν 0).core.blk,0,none⟩)]:=by simp [aB,V.den,d0]
   rw [ea]
   have hsh:w.shape? (ν 0).core.blk=some (t,2):=by simp [World.shape?,d2]
   refine (Any.Builder_copyCheck_fresh tL Tryz.Builder_Extra_156.toX72 _ w (by rw [Lib.cell_of_heap d2];rfl) (by rw [hsh,ht];rfl) (Lib.frozen_of_heap d2 0)).mono ?_
   rintro e w' ⟨rfl,rfl⟩
   have one:∀ i b,Eng.look [(0,Blk.cells t [.ptr 0 0,.nilSl])] i=some b->i=0/\b=.cells t [.ptr 0 0,.nilSl]:=by
    intro i b e
    simp only [Eng.look] at e
    split at e
    ·rename_i q
     exact ⟨(by simpa using q:0=i).symm,(Option.some.inj e).symm⟩
    ·cases e
   have own:∀ k,(ν 0).fp k->dF ν [(0,Blk.cells t [.nilPtr,.nilSl])] k:=fun k hk=>⟨0,_,rfl,rfl,hk⟩
   refine ⟨ν,rfl,fun _ _=>rfl,⟨fun i b e => ?_,fun i j bi bj ne ei ej=>absurd ((one i bi ei).1.trans (one j bj ej).1.symm) ne⟩,fun i b e k hk => ?_,rfl,rfl,rfl,?_,fun k hk hn => ?_⟩
   ·obtain ⟨rfl,rfl⟩:=one i b e
    refine ⟨d0,d1,?_⟩
    rw [heap_setCell d2]
    simp [aB,V.den,d0]
   ·obtain ⟨rfl,rfl⟩:=one i b e
    exact .inl (own k hk)
   ·simp [World.setCell]
   ·exact eB (fun q=>hn (own k ((d1 k).2 q))) _ _
  ·cases hv
 ·split at hv
  ·rename_i t ht
   obtain ⟨rfl,rfl⟩:V.tup []=v/\[(0,Blk.cells t [.ptr 0 0,.nilSl])]=h':=by
    have:=Option.some.inj hv
    exact ⟨congrArg Prod.fst this,congrArg Prod.snd this⟩
   exact used t [.nilSl] _ ht (fun i b e=>jr ho e) rfl hr
  ·cases hv
 ·split at hv
  ·rename_i t n t' l ht
   obtain ⟨rfl,rfl⟩:V.tup []=v/\[(0,Blk.cells t [.ptr 0 0,.sub 1 1 0 n]),(1,.lst true t' [.int .u8] l)]=h':=by
    have:=Option.some.inj hv
    exact ⟨congrArg Prod.fst this,congrArg Prod.snd this⟩
   exact used t [.sub 1 1 0 n] _ ht (fun i b e=>jr ho e) rfl hr
  ·cases hv
 ·cases hv
theorem G2 {P:Program} {e:TypeId} (hc:P.cellsOf e=1) (count off n:Nat) (hn:off+n<=count) (h0:0<n):liesAt P P.depth e count off e n=true:=by
 have hd:P.depth=(2*(P.types.size+Made.depth)+1)+1:=rfl
 rw [hd]
 simp only [liesAt,Bool.or_eq_true]
 left
 rw [hd]
 simp [rowAt,hc,sameLayout,hn,Nat.mod_one]
theorem tE {P:Program} (w:World) (pt it ty e:TypeId) (hp:P.underlying pt=some (.pointer e)) (hc:P.cellsOf e=1) (g off cells:Nat) (hsh:w.shape? g=some (e,cells)) (l:List UInt8) (h0:l≠[]) (hn:off+l.length<=cells) (h63:l.length<=9223372036854775807)
  (hcell:∀ (j:Nat) x,l[j]?=some x->w.cell? ((⟨g,off,none⟩:Addr).add j)=some (.int .u8 x.toNat)) :
  (Builtin.unsafeString_ #[pt,it] ty #[.pointer (some ⟨g,off,none⟩),.int .i64 l.length]).run P w=.ok (.string ⟨l.toArray⟩) (w.freeze ⟨g,off,none⟩ l.length):=by
 have hl:l.length≠0:=by simpa using h0
 have hlb:=Lib.run_loadBytes (P:=P) w l ⟨g,off,none⟩ .empty hcell
 have hlies:=G2 (P:=P) hc (cells / P.cellsOf e) off l.length (by rw [hc];simpa using hn) (by omega)
 have h63':¬ (9223372036854775807:Int)<(l.length:Int):=by omega
 have hmax:IntKind.i64.max=9223372036854775807:=rfl
 have hneg:¬ (l.length:Int)<0:=by omega
 conv in (Builtin.unsafeString_ _ _ _)=>whnf
 generalize (IntKind.max .i64).decLt (l.length:Int)=D
 cases D with
 | isTrue h=>exact absurd h h63'
 | isFalse h =>
  dsimp only
  simp [hl,variablesAt,hsh,elemOf,run_underlying hp,hlies,hlb]
set_option maxHeartbeats 2000000 in
theorem Kr {P:Program} {ρ:Go.Shelf.Ren} (L:Lays.n169 P ρ) (X:Builder.Extra P ρ) (b g off cap:Nat) (p:Value) (cur:Array Value) (l:List UInt8) (w:World) (h0:l≠[]) (hb:w.heap[b]?=some (.cells #[p,.slice (some ⟨g,off,none⟩) l.length cap] (ρ.t 72) (0,0)))
  (hg:w.heap[g]?=some (.cells cur (ρ.t 5) (0,0))) (hcap:l.length<=cap) (hm:cap<=maxLen) (hcur:off+cap<=cur.size) (hx:∀ (j:Nat) x,l[j]?=some x->cur[off+j]?=some (.int .u8 x.toNat)) :
  Calls P (ρ.f 169) #[.pointer (some ⟨b,0,none⟩)] w fun e w'=>e=.returned (.string ⟨l.toArray⟩)/\w'=w.drew.freeze ⟨g,off,none⟩ l.length:=by
 have hl0:l.length≠0:=by simpa using h0
 have c1:w.drew.cell? ⟨b,1,none⟩=some (.slice (some ⟨g,off,none⟩) l.length cap):=by
  rw [Lib.cell_of_heap (w:=w.drew) hb];rfl
 have hSD:(Builtin.unsafeSliceData_ #[(ρ.t 37)] (ρ.t 127) #[.slice (some ⟨g,off,none⟩) l.length cap]).run P w.drew=.ok (.pointer (some ⟨g,off,none⟩)) w.drew :=
  Lib.run_unsafeSliceData_row _ _ _ _ _ _ (by omega)
 have hUS:(Builtin.unsafeString_ #[(ρ.t 127),(ρ.t 3)] (ρ.t 9) #[.pointer (some ⟨g,off,none⟩),.int .i64 l.length]).run P w.drew=.ok (.string ⟨l.toArray⟩) (w.drew.freeze ⟨g,off,none⟩ l.length):=by
  refine tE w.drew (ρ.t 127) (ρ.t 3) (ρ.t 9) (ρ.t 5) L.t127 X.cellsByte g off cur.size (by have hg':w.drew.heap[g]?=some (.cells cur (ρ.t 5) (0,0)):=hg;simp [World.shape?,hg']) l h0 (by omega) (by unfold maxLen at hm;omega) ?_
  intro j x hj
  rw [bJ,Lib.cell_of_heap (w:=w.drew) hg]
  exact hx j x hj
 have mixed:=L.mixed
 have t72:=L.t72;have a72:=L.a72;have z72:=L.z72;have v72:=L.v72;have u72:=run_underlying L.t72
 have t70:=L.t70;have a70:=L.a70;have z70:=L.z70;have v70:=L.v70;have u70:=run_underlying L.t70
 have t37:=L.t37;have a37:=L.a37;have z37:=L.z37;have v37:=L.v37;have u37:=run_underlying L.t37
 have t127:=L.t127;have a127:=L.a127;have z127:=L.z127;have v127:=L.v127;have u127:=run_underlying L.t127
 have t3:=L.t3;have a3:=L.a3;have z3:=L.z3;have v3:=L.v3;have u3:=run_underlying L.t3
 have t9:=L.t9;have a9:=L.a9;have z9:=L.z9;have v9:=L.v9;have u9:=run_underlying L.t9
 have t5:=X.t5;have a5:=X.a5;have z5:=X.z5;have v5:=X.v5;have u5:=run_underlying X.t5
 go_enter L.f169,Body.n169_ntmps ρ
 go_wp2
 go_region_o
 all_goals (go_wp2;go_ret;exact ⟨rfl,rfl⟩)
def byB (l:List Int):Bool:=l.all fun x=>decide (0<=x)&&decide (x<256)
def Rt:Eng.Obj
 | [.ptr 0 0],[(0,.cells t [p,.sub 1 1 0 n]),(1,.lst true t' [.int .u8] l)]=>if t=TB/\t'=5 then .ite none (byB l&&(decide (n=List.length l)&&decide (0<n))) (.ret (.s (.str (lV l)),[])) .fail else .fail
 | _,_=>.fail
theorem byte_back {l:List Int} (h:byB l=true) (j:Nat) (x:UInt8) (hx:(l.map fun n=>UInt8.ofNat n.toNat)[j]?=some x):l[j]?=some ((x.toNat:Nat):Int):=by
 rw [List.getElem?_map] at hx
 obtain ⟨n,hn,rfl⟩:=Option.map_eq_some_iff.1 hx
 have:=List.all_eq_true.1 h n (List.mem_of_getElem? hn)
 rw [Bool.and_eq_true,decide_eq_true_eq,decide_eq_true_eq] at this
 rw [hn]
 congr 1
 rw [UInt8.toNat_ofNat']
 omega
theorem Dg {l:List Int} {j:Nat} {n:Int} (h:l[j]?=some n):(aD [.int .u8] (u8 l))[j]?=some (Value.int .u8 n):=by
 rw [lQ,List.getElem?_map,h];rfl
theorem uD:ObjOk Tryz.prog 15 Rt:=by
 refine ⟨⟨_,Tryz.func15,by kernel_rfl,by kernel_rfl⟩,fun args h v h' ν w hG hgs hok hb hr hv ho => ?_⟩
 unfold Rt at hv
 split at hv
 ·rename_i t p n t' l
  split at hv
  ·rename_i ht
   obtain ⟨rfl,rfl⟩:=ht
   obtain ⟨hc,hv⟩:=gA hv
   rw [Bool.and_eq_true,Bool.and_eq_true,decide_eq_true_eq,decide_eq_true_eq] at hc
   obtain ⟨c1,c2,c3⟩:=hc
   obtain ⟨rfl,rfl⟩:V.s (.str (lV l))=v/\([]:Eng.Heap)=h':=by
    have:=Option.some.inj hv
    exact ⟨congrArg Prod.fst this,congrArg Prod.snd this⟩
   obtain ⟨d0,d1,d2⟩:=hr.den 0 _ rfl
   obtain ⟨e0,e1⟩:=hr.den 1 (.lst true 5 [.int .u8] l) rfl
   have rl:(aD [.int .u8] l).length=l.length:=by rw [ax];simp
   rcases e0.2 with ⟨_,q⟩ | ⟨g,off,cap,cur,q1,q2,q3,q4,q5,q6,q7⟩
   ·omega
   ·simp only [Value.slice.injEq,true_and] at q1
    obtain ⟨qa,qc⟩:=q1
    have q6:off+cap<=cur.size:=by simpa using q6
    have q7:(cur.toList.drop off).take l.length=aD [.int .u8] l:=by simpa using q7
    have d2:w.heap[(ν 0).core.blk]?=some (.cells #[p.den ν,.slice (some ⟨g,off,none⟩) n cap] TB (0,0)):=by
     rw [d2]
     congr 2
     simp [aB,V.den,qa,qc,bJ]
    have ea:(aB ν [.ptr 0 0]).toArray=#[.pointer (some ⟨(ν 0).core.blk,0,none⟩)]:=by simp [aB,V.den,d0]
    rw [ea]
    have hb8:(l.map fun n=>UInt8.ofNat n.toNat).length=n:=by rw [List.length_map,c2]
    rw [<- hb8] at d2
    refine (Kr Tryz.lays169 Tryz.Builder_Extra_169 _ g off cap _ cur (l.map fun n=>UInt8.ofNat n.toNat) w (fun q=>by rw [q] at hb8;simp at hb8;omega) d2 q3 (by rw [hb8];omega) q5 q6 (fun j x hx => ?_)).mono ?_
    ·have hj:j<l.length:=by
      have:=(List.getElem?_eq_some_iff.1 hx).1
      simpa using this
     have hl:=byte_back c1 j x hx
     have:(aD [.int .u8] l)[j]?=some (Value.int .u8 ((x.toNat:Nat):Int)):=by
      exact Dg hl
     rw [<- q7,List.getElem?_take_of_lt hj,List.getElem?_drop,Array.getElem?_toList] at this
     exact this
    ·rintro e w' ⟨rfl,rfl⟩
     have gfp:dF ν [(0,.cells TB [p,.sub 1 1 0 n]),(1,.lst true 5 [.int .u8] l)] g:=⟨1,_,rfl,rfl,(e1 g).2 ⟨_,qa,rfl⟩⟩
     refine ⟨ν,rfl,fun _ _=>rfl,⟨fun i b e=>(by cases e),fun i j bi bj ne ei ej=>(by cases ei)⟩,fun i b e=>(by cases e),?_⟩
     refine ⟨?_,?_,?_,?_,fun k hk hn => ?_⟩
     ·unfold World.freeze;split<;>rfl
     ·unfold World.freeze;split<;>rfl
     ·unfold World.freeze;split<;>rfl
     ·unfold World.freeze
      split
      ·exact Nat.le_refl _
      ·show w.heap.size<=(Array.modify w.heap _ _).size
       rw [Array.size_modify];exact Nat.le_refl _
     ·unfold World.freeze
      split
      ·rfl
      ·simp only [Array.getElem?_modify]
       rw [if_neg (fun q=>hn (by rw [<- q];exact gfp))]
       rfl
  ·cases hv
 ·cases hv
end Go.Proofs.YtncmdfdppmfeeaaGreatDoor.Txt
namespace Go.Proofs.YtncmdfdppmfeeaaGreatDoor.Txt
open Go.Eng Go.RowKit
set_option linter.unusedVariables false
set_option linter.unusedSimpArgs false
set_option maxRecDepth 100000
theorem mixed:Tryz.prog.follows .mixedOrders=true:=by kernel_rfl
noncomputable def K0:Cfg:=⟨Tryz.prog,lookG [(16,.val zz),(119,.val Af),(18,.val nS),(9,.val iI),(145,.val zi),(32,.obj ccS),(15,.obj Rt)],[],0⟩
theorem zo:K0.Ok:=Cfg.ok ⟨gU,gM,eN,cF,fD,Hz,uD,trivial⟩ trivial
noncomputable def Zu:Eng.Spec:=aC K0 (rounds K0 11 1) 83
theorem CH:SpecOk Tryz.prog 83 Zu:=bC zo mixed 11 1 Tryz.func83 (by kernel_rfl) (by kernel_rfl)
noncomputable def aaI:Eng.Spec:=aC K0 (rounds K0 9 1) 81
theorem LV:SpecOk Tryz.prog 81 aaI:=bC zo mixed 9 1 Tryz.func81 (by kernel_rfl) (by kernel_rfl)
noncomputable def wrR:Eng.Obj:=ay K0 aa 13
theorem Qi:ObjOk Tryz.prog 13 wrR:=ae zo mixed Tryz.func13 (by kernel_rfl) (by kernel_rfl)
noncomputable def K1:Cfg:=⟨Tryz.prog,lookG [(16,.val zz),(119,.val Af),(18,.val nS),(9,.val iI),(145,.val zi),(83,.val Zu)],[],0⟩
theorem Rc:K1.Ok:=Cfg.ok ⟨gU,gM,eN,cF,fD,CH,trivial⟩ trivial
noncomputable def abg:Eng.Spec:=aC K1 (rounds K1 4 1) 82
theorem MQ:SpecOk Tryz.prog 82 abg:=bC Rc mixed 4 1 Tryz.func82 (by kernel_rfl) (by kernel_rfl)
noncomputable def abW:Eng.Obj:=ay K1 aa 39
theorem L6:ObjOk Tryz.prog 39 abW:=ae Rc mixed Tryz.func39 (by kernel_rfl) (by kernel_rfl)
noncomputable def K2:Cfg:=⟨Tryz.prog,lookG [(16,.val zz),(119,.val Af),(18,.val nS),(9,.val iI),(145,.val zi),(83,.val Zu),(82,.val abg)],[],0⟩
theorem X9:K2.Ok:=Cfg.ok ⟨gU,gM,eN,cF,fD,CH,MQ,trivial⟩ trivial
noncomputable def abw:Eng.Obj:=ay K2 aa 38
theorem Lo:ObjOk Tryz.prog 38 abw:=ae X9 mixed Tryz.func38 (by kernel_rfl) (by kernel_rfl)
noncomputable def K3:Cfg:=⟨Tryz.prog,lookG [(16,.val zz),(119,.val Af),(18,.val nS),(9,.val iI),(145,.val zi),(81,.val aaI)],[],0⟩
theorem ZF:K3.Ok:=Cfg.ok ⟨gU,gM,eN,cF,fD,LV,trivial⟩ trivial
noncomputable def abA:Eng.Spec:=aC K3 aa 37
theorem Oz:SpecOk Tryz.prog 37 abA:=af ZF mixed Tryz.func37 (by kernel_rfl) (by kernel_rfl)
noncomputable def K4:Cfg:=⟨Tryz.prog,lookG [(16,.val zz),(119,.val Af),(18,.val nS),(9,.val iI),(145,.val zi),(37,.val abA),(39,.obj (Eng.Obj.plain abW)),(38,.obj (Eng.Obj.plain abw))],[],0⟩
theorem Zt:K4.Ok:=Cfg.ok ⟨gU,gM,eN,cF,fD,Oz,L6.plain,Lo.plain,trivial⟩ trivial
noncomputable def abZ:Eng.Obj:=ay K4 aa 17
theorem Lf:ObjOk Tryz.prog 17 abZ:=ae Zt mixed Tryz.func17 (by kernel_rfl) (by kernel_rfl)
noncomputable def ab4:Eng.Spec:=aC K0 aa 88
theorem Np:SpecOk Tryz.prog 88 ab4:=af zo mixed Tryz.func88 (by kernel_rfl) (by kernel_rfl)
noncomputable def aax:Eng.Spec:=aC K0 aa 89
theorem LJ:SpecOk Tryz.prog 89 aax:=af zo mixed Tryz.func89 (by kernel_rfl) (by kernel_rfl)
noncomputable def K5:Cfg:=⟨Tryz.prog,lookG [(16,.val zz),(119,.val Af),(18,.val nS),(9,.val iI),(145,.val zi),(88,.val ab4),(89,.val aax)],[],0⟩
theorem Zd:K5.Ok:=Cfg.ok ⟨gU,gM,eN,cF,fD,Np,LJ,trivial⟩ trivial
noncomputable def abG:Eng.Spec:=aC K5 aa 47
theorem L9:SpecOk Tryz.prog 47 abG:=af Zd mixed Tryz.func47 (by kernel_rfl) (by kernel_rfl)
noncomputable def K6:Cfg:=⟨Tryz.prog,lookG [(16,.val zz),(119,.val Af),(18,.val nS),(9,.val iI),(145,.val zi),(47,.val abG)],[],0⟩
theorem XI:K6.Ok:=Cfg.ok ⟨gU,gM,eN,cF,fD,L9,trivial⟩ trivial
noncomputable def CR:Eng.Spec:=aC K6 aa 19
theorem LZ:SpecOk Tryz.prog 19 CR:=af XI mixed Tryz.func19 (by kernel_rfl) (by kernel_rfl)
noncomputable def K7:Cfg:=⟨Tryz.prog,lookG [(16,.val zz),(119,.val Af),(18,.val nS),(9,.val iI),(145,.val zi),(17,.obj (Eng.Obj.plain abZ)),(19,.val CR)],[],0⟩
theorem WX:K7.Ok:=Cfg.ok ⟨gU,gM,eN,cF,fD,Lf.plain,LZ,trivial⟩ trivial
noncomputable def OR:Eng.Spec:=aC K7 (rounds K7 6 1) 7
theorem OP:SpecOk Tryz.prog 7 OR:=bC WX mixed 6 1 Tryz.func7 (by kernel_rfl) (by kernel_rfl)
end Go.Proofs.YtncmdfdppmfeeaaGreatDoor.Txt
