import Derived.Shelf.Strings.Builder1
import Derived.Shelf.Strings.Builder2
import Derived.Shelf.Strings.OnBuilder
import Derived.Shelf.Strings.Trim
import Derived.Shelf.Small.Utf8
import Derived.Shelf.Small.Strs
import Derived.Shelf.Small.Wraps
import Derived.Shelf.Strconv.Itoa0
import Derived.Shelf.Strconv.Itoa1
import Derived.Shelf.LaysM
import Derived.Shelf.Strconv.Itoa2
import Derived.Shelf.Strconv.Itoa3
import Derived.Shelf.Strconv.Itoa4
import Derived.Shelf.Strings.Search1
import Derived.Shelf.Strings.Search2
import Derived.Shelf.Strings.Cut
import Derived.Shelf.Strings.Shaped
import Derived.Shelf.Strings.Prefix
import Derived.Shelf.Strings.Runes
import Derived.Shelf.Strings.AsciiSet
import Derived.Shelf.Unicode.DecodeSlow
import Derived.Shelf.Slices.Turned
import Derived.Test.YtndcealgackgiaaDoorProg
import Derived.Lib.AppendIntMem
import Derived.Test.YtndcealgackgiaaDoorGE
/- The library's functions that this program calls, told to be those that the library's contracts speak of. -/
namespace Go.Proofs
open Go.Shelf
def Tryd.lays169_ren : Go.Shelf.Ren := ⟨fun | 169 => 42 | n => n, fun | 70 => 78 | 9 => 9 | 0 => 0 | 72 => 81 | 37 => 79 | 127 => 105 | 3 => 3 | 5 => 5 | n => n, fun | n => n⟩
theorem Tryd.lays169 : Go.Proofs.Lays.n169 Tryd.prog Tryd.lays169_ren := {
  mixed := by kernel_rfl
  f169 := Tryd.func42.trans (congrArg some (by kernel_rfl))
  t0 := Tryd.underlying0
  a0 := Tryd.isAgg0
  z0 := Tryd.sizeOf0
  v0 := Tryd.zeroValue0
  t3 := Tryd.underlying3
  a3 := Tryd.isAgg3
  z3 := Tryd.sizeOf3
  v3 := Tryd.zeroValue3
  t9 := Tryd.underlying9
  a9 := Tryd.isAgg9
  z9 := Tryd.sizeOf9
  v9 := Tryd.zeroValue9
  t37 := Tryd.underlying79
  a37 := Tryd.isAgg79
  z37 := Tryd.sizeOf79
  v37 := Tryd.zeroValue79
  t70 := Tryd.underlying78
  a70 := Tryd.isAgg78
  z70 := Tryd.sizeOf78
  v70 := Tryd.zeroValue78
  t72 := Tryd.underlying81
  a72 := Tryd.isAgg81
  z72 := Tryd.sizeOf81
  v72 := Tryd.zeroValue81
  t127 := Tryd.underlying105
  a127 := Tryd.isAgg105
  z127 := Tryd.sizeOf105
  v127 := Tryd.zeroValue105 }
theorem Tryd.Builder_Extra_169 : Builder.Extra Tryd.prog Tryd.lays169_ren := {
  sizeBuilder := by kernel_rfl
  liesBuilder := by kernel_rfl
  t5 := Tryd.underlying5
  a5 := Tryd.isAgg5
  z5 := Tryd.sizeOf5
  v5 := Tryd.zeroValue5
  infoByte := by kernel_rfl
  cellsByte := by kernel_rfl
  sizeByte := by kernel_rfl
  neB5 := by decide }
def Tryd.lays156_ren : Go.Shelf.Ren := ⟨fun | 156 => 46 | 165 => 60 | 166 => 40 | 169 => 42 | 240 => 57 | 241 => 75 | 276 => 70 | 277 => 85 | n => n, fun | 31 => 22 | 9 => 9 | 3 => 3 | 4 => 4 | 0 => 0 | 20 => 20 | 72 => 81 | 76 => 85 | 70 => 78 | 37 => 79 | 75 => 84 | 127 => 105 | 164 => 111 | 5 => 5 | 80 => 88 | n => n, fun | n => n⟩
theorem Tryd.lays156 : Go.Proofs.Lays.n156 Tryd.prog Tryd.lays156_ren := {
  mixed := by kernel_rfl
  f156 := Tryd.func46.trans (congrArg some (by kernel_rfl))
  f165 := Tryd.func60.trans (congrArg some (by kernel_rfl))
  f166 := Tryd.func40.trans (congrArg some (by kernel_rfl))
  f169 := Tryd.func42.trans (congrArg some (by kernel_rfl))
  f240 := Tryd.func57.trans (congrArg some (by kernel_rfl))
  f241 := Tryd.func75.trans (congrArg some (by kernel_rfl))
  f276 := Tryd.func70.trans (congrArg some (by kernel_rfl))
  f277 := Tryd.func85.trans (congrArg some (by kernel_rfl))
  t0 := Tryd.underlying0
  a0 := Tryd.isAgg0
  z0 := Tryd.sizeOf0
  v0 := Tryd.zeroValue0
  t3 := Tryd.underlying3
  a3 := Tryd.isAgg3
  z3 := Tryd.sizeOf3
  v3 := Tryd.zeroValue3
  t4 := Tryd.underlying4
  a4 := Tryd.isAgg4
  z4 := Tryd.sizeOf4
  v4 := Tryd.zeroValue4
  t9 := Tryd.underlying9
  a9 := Tryd.isAgg9
  z9 := Tryd.sizeOf9
  v9 := Tryd.zeroValue9
  t20 := Tryd.underlying20
  a20 := Tryd.isAgg20
  z20 := Tryd.sizeOf20
  v20 := Tryd.zeroValue20
  t31 := Tryd.underlying22
  a31 := Tryd.isAgg22
  z31 := Tryd.sizeOf22
  v31 := Tryd.zeroValue22
  t37 := Tryd.underlying79
  a37 := Tryd.isAgg79
  z37 := Tryd.sizeOf79
  v37 := Tryd.zeroValue79
  t70 := Tryd.underlying78
  a70 := Tryd.isAgg78
  z70 := Tryd.sizeOf78
  v70 := Tryd.zeroValue78
  t72 := Tryd.underlying81
  a72 := Tryd.isAgg81
  z72 := Tryd.sizeOf81
  v72 := Tryd.zeroValue81
  t75 := Tryd.underlying84
  a75 := Tryd.isAgg84
  z75 := Tryd.sizeOf84
  v75 := Tryd.zeroValue84
  t76 := Tryd.underlying85
  a76 := Tryd.isAgg85
  z76 := Tryd.sizeOf85
  v76 := Tryd.zeroValue85
  t127 := Tryd.underlying105
  a127 := Tryd.isAgg105
  z127 := Tryd.sizeOf105
  v127 := Tryd.zeroValue105
  t164 := Tryd.underlying111
  a164 := Tryd.isAgg111
  z164 := Tryd.sizeOf111
  v164 := Tryd.zeroValue111 }
theorem Tryd.Builder_Extra_156 : Builder.Extra Tryd.prog Tryd.lays156_ren := {
  sizeBuilder := by kernel_rfl
  liesBuilder := by kernel_rfl
  t5 := Tryd.underlying5
  a5 := Tryd.isAgg5
  z5 := Tryd.sizeOf5
  v5 := Tryd.zeroValue5
  infoByte := by kernel_rfl
  cellsByte := by kernel_rfl
  sizeByte := by kernel_rfl
  neB5 := by decide }
def Tryd.lays162_ren : Go.Shelf.Ren := ⟨fun | 162 => 44 | 232 => 30 | 227 => 31 | 234 => 33 | 236 => 35 | 228 => 50 | 271 => 53 | 151 => 52 | 120 => 68 | 197 => 51 | 152 => 67 | 260 => 66 | 137 => 78 | 119 => 79 | 224 => 64 | 225 => 63 | 217 => 62 | 266 => 76 | n => n, fun | 9 => 9 | 4 => 4 | 3 => 3 | 5 => 5 | 117 => 70 | 116 => 69 | 0 => 0 | 124 => 73 | 21 => 21 | 105 => 100 | 46 => 23 | 119 => 122 | 139 => 125 | 138 => 124 | n => n, fun | 3 => 1 | 4 => 2 | n => n⟩
theorem Tryd.lays162 : Go.Proofs.Lays.n162 Tryd.prog Tryd.lays162_ren := {
  mixed := by kernel_rfl
  f119 := Tryd.func79.trans (congrArg some (by kernel_rfl))
  f120 := Tryd.func68.trans (congrArg some (by kernel_rfl))
  f137 := Tryd.func78.trans (congrArg some (by kernel_rfl))
  f151 := Tryd.func52.trans (congrArg some (by kernel_rfl))
  f152 := Tryd.func67.trans (congrArg some (by kernel_rfl))
  f162 := Tryd.func44.trans (congrArg some (by kernel_rfl))
  f197 := Tryd.func51.trans (congrArg some (by kernel_rfl))
  f217 := Tryd.func62.trans (congrArg some (by kernel_rfl))
  f224 := Tryd.func64.trans (congrArg some (by kernel_rfl))
  f225 := Tryd.func63.trans (congrArg some (by kernel_rfl))
  f227 := Tryd.func31.trans (congrArg some (by kernel_rfl))
  f228 := Tryd.func50.trans (congrArg some (by kernel_rfl))
  f232 := Tryd.func30.trans (congrArg some (by kernel_rfl))
  f234 := Tryd.func33.trans (congrArg some (by kernel_rfl))
  f236 := Tryd.func35.trans (congrArg some (by kernel_rfl))
  f260 := Tryd.func66.trans (congrArg some (by kernel_rfl))
  f266 := Tryd.func76.trans (congrArg some (by kernel_rfl))
  f271 := Tryd.func53.trans (congrArg some (by kernel_rfl))
  t0 := Tryd.underlying0
  a0 := Tryd.isAgg0
  z0 := Tryd.sizeOf0
  v0 := Tryd.zeroValue0
  t3 := Tryd.underlying3
  a3 := Tryd.isAgg3
  z3 := Tryd.sizeOf3
  v3 := Tryd.zeroValue3
  t4 := Tryd.underlying4
  a4 := Tryd.isAgg4
  z4 := Tryd.sizeOf4
  v4 := Tryd.zeroValue4
  t5 := Tryd.underlying5
  a5 := Tryd.isAgg5
  z5 := Tryd.sizeOf5
  v5 := Tryd.zeroValue5
  t9 := Tryd.underlying9
  a9 := Tryd.isAgg9
  z9 := Tryd.sizeOf9
  v9 := Tryd.zeroValue9
  t21 := Tryd.underlying21
  a21 := Tryd.isAgg21
  z21 := Tryd.sizeOf21
  v21 := Tryd.zeroValue21
  t46 := Tryd.underlying23
  a46 := Tryd.isAgg23
  z46 := Tryd.sizeOf23
  v46 := Tryd.zeroValue23
  t105 := Tryd.underlying100
  a105 := Tryd.isAgg100
  z105 := Tryd.sizeOf100
  v105 := Tryd.zeroValue100
  t116 := Tryd.underlying69
  a116 := Tryd.isAgg69
  z116 := Tryd.sizeOf69
  t117 := Tryd.underlying70
  a117 := Tryd.isAgg70
  z117 := Tryd.sizeOf70
  v117 := Tryd.zeroValue70
  t119 := Tryd.underlying122
  a119 := Tryd.isAgg122
  z119 := Tryd.sizeOf122
  t124 := Tryd.underlying73
  a124 := Tryd.isAgg73
  z124 := Tryd.sizeOf73
  v124 := Tryd.zeroValue73
  t138 := Tryd.underlying124
  a138 := Tryd.isAgg124
  z138 := Tryd.sizeOf124
  v138 := Tryd.zeroValue124
  t139 := Tryd.underlying125
  a139 := Tryd.isAgg125
  z139 := Tryd.sizeOf125
  v139 := Tryd.zeroValue125
  g3 := by kernel_rfl
  g4 := by kernel_rfl }
def Tryd.lays160_ren : Go.Shelf.Ren := ⟨fun | 160 => 18 | 232 => 30 | 231 => 29 | 227 => 31 | 234 => 33 | 233 => 32 | 236 => 35 | 235 => 34 | 228 => 50 | 271 => 53 | 151 => 52 | 197 => 51 | 120 => 68 | 152 => 67 | 260 => 66 | 137 => 78 | 119 => 79 | 224 => 64 | 225 => 63 | 217 => 62 | 266 => 76 | n => n, fun | 9 => 9 | 4 => 4 | 3 => 3 | 5 => 5 | 117 => 70 | 116 => 69 | 0 => 0 | 124 => 73 | 21 => 21 | 105 => 100 | 46 => 23 | 119 => 122 | 139 => 125 | 138 => 124 | n => n, fun | 3 => 1 | 4 => 2 | n => n⟩
theorem Tryd.lays160 : Go.Proofs.Lays.n160 Tryd.prog Tryd.lays160_ren := {
  mixed := by kernel_rfl
  f119 := Tryd.func79.trans (congrArg some (by kernel_rfl))
  f120 := Tryd.func68.trans (congrArg some (by kernel_rfl))
  f137 := Tryd.func78.trans (congrArg some (by kernel_rfl))
  f151 := Tryd.func52.trans (congrArg some (by kernel_rfl))
  f152 := Tryd.func67.trans (congrArg some (by kernel_rfl))
  f160 := Tryd.func18.trans (congrArg some (by kernel_rfl))
  f197 := Tryd.func51.trans (congrArg some (by kernel_rfl))
  f217 := Tryd.func62.trans (congrArg some (by kernel_rfl))
  f224 := Tryd.func64.trans (congrArg some (by kernel_rfl))
  f225 := Tryd.func63.trans (congrArg some (by kernel_rfl))
  f227 := Tryd.func31.trans (congrArg some (by kernel_rfl))
  f228 := Tryd.func50.trans (congrArg some (by kernel_rfl))
  f231 := Tryd.func29.trans (congrArg some (by kernel_rfl))
  f232 := Tryd.func30.trans (congrArg some (by kernel_rfl))
  f233 := Tryd.func32.trans (congrArg some (by kernel_rfl))
  f234 := Tryd.func33.trans (congrArg some (by kernel_rfl))
  f235 := Tryd.func34.trans (congrArg some (by kernel_rfl))
  f236 := Tryd.func35.trans (congrArg some (by kernel_rfl))
  f260 := Tryd.func66.trans (congrArg some (by kernel_rfl))
  f266 := Tryd.func76.trans (congrArg some (by kernel_rfl))
  f271 := Tryd.func53.trans (congrArg some (by kernel_rfl))
  t0 := Tryd.underlying0
  a0 := Tryd.isAgg0
  z0 := Tryd.sizeOf0
  v0 := Tryd.zeroValue0
  t3 := Tryd.underlying3
  a3 := Tryd.isAgg3
  z3 := Tryd.sizeOf3
  v3 := Tryd.zeroValue3
  t4 := Tryd.underlying4
  a4 := Tryd.isAgg4
  z4 := Tryd.sizeOf4
  v4 := Tryd.zeroValue4
  t5 := Tryd.underlying5
  a5 := Tryd.isAgg5
  z5 := Tryd.sizeOf5
  v5 := Tryd.zeroValue5
  t9 := Tryd.underlying9
  a9 := Tryd.isAgg9
  z9 := Tryd.sizeOf9
  v9 := Tryd.zeroValue9
  t21 := Tryd.underlying21
  a21 := Tryd.isAgg21
  z21 := Tryd.sizeOf21
  v21 := Tryd.zeroValue21
  t46 := Tryd.underlying23
  a46 := Tryd.isAgg23
  z46 := Tryd.sizeOf23
  v46 := Tryd.zeroValue23
  t105 := Tryd.underlying100
  a105 := Tryd.isAgg100
  z105 := Tryd.sizeOf100
  v105 := Tryd.zeroValue100
  t116 := Tryd.underlying69
  a116 := Tryd.isAgg69
  z116 := Tryd.sizeOf69
  t117 := Tryd.underlying70
  a117 := Tryd.isAgg70
  z117 := Tryd.sizeOf70
  v117 := Tryd.zeroValue70
  t119 := Tryd.underlying122
  a119 := Tryd.isAgg122
  z119 := Tryd.sizeOf122
  t124 := Tryd.underlying73
  a124 := Tryd.isAgg73
  z124 := Tryd.sizeOf73
  v124 := Tryd.zeroValue73
  t138 := Tryd.underlying124
  a138 := Tryd.isAgg124
  z138 := Tryd.sizeOf124
  v138 := Tryd.zeroValue124
  t139 := Tryd.underlying125
  a139 := Tryd.isAgg125
  z139 := Tryd.sizeOf125
  v139 := Tryd.zeroValue125
  g3 := by kernel_rfl
  g4 := by kernel_rfl }
def Tryd.lays103_ren : Go.Shelf.Ren := ⟨fun | 103 => 37 | 210 => 56 | 206 => 69 | n => n, fun | 9 => 9 | 4 => 4 | 24 => 75 | 3 => 3 | n => n, fun | n => n⟩
theorem Tryd.lays103 : Go.Proofs.Lays.n103 Tryd.prog Tryd.lays103_ren := {
  mixed := by kernel_rfl
  f103 := Tryd.func37.trans (congrArg some (by kernel_rfl))
  f206 := Tryd.func69.trans (congrArg some (by kernel_rfl))
  f210 := Tryd.func56.trans (congrArg some (by kernel_rfl))
  t3 := Tryd.underlying3
  a3 := Tryd.isAgg3
  z3 := Tryd.sizeOf3
  v3 := Tryd.zeroValue3
  t4 := Tryd.underlying4
  a4 := Tryd.isAgg4
  z4 := Tryd.sizeOf4
  v4 := Tryd.zeroValue4
  t9 := Tryd.underlying9
  a9 := Tryd.isAgg9
  z9 := Tryd.sizeOf9
  v9 := Tryd.zeroValue9
  t24 := Tryd.underlying75
  a24 := Tryd.isAgg75
  z24 := Tryd.sizeOf75
  v24 := Tryd.zeroValue75 }
def Tryd.laysM171_ren : Go.Shelf.Ren := ⟨fun | 171 => 45 | 243 => 59 | 246 => 58 | 283 => 71 | 284 => 72 | 285 => 73 | 286 => 74 | 129 => 81 | 317 => 80 | 318 => 82 | 319 => 83 | 320 => 84 | 337 => 86 | 338 => 87 | n => n, fun | 3 => 3 | 9 => 9 | 2 => 2 | 4 => 4 | 171 => 113 | 0 => 0 | 53 => 114 | 37 => 79 | 5 => 5 | 173 => 117 | 212 => 128 | 51 => 119 | 20 => 20 | 213 => 129 | 46 => 23 | 232 => 134 | 233 => 135 | n => n, fun | 17 => 3 | 18 => 4 | 19 => 5 | n => n⟩
theorem Tryd.laysM171 : Go.Proofs.LaysM.n171 Tryd.prog Tryd.laysM171_ren := {
  mixed := by kernel_rfl
  f129 := Tryd.func81.trans (congrArg some (by kernel_rfl))
  f171 := Tryd.func45.trans (congrArg some (by kernel_rfl))
  f243 := Tryd.func59.trans (congrArg some (by kernel_rfl))
  f246 := Tryd.func58.trans (congrArg some (by kernel_rfl))
  f283 := Tryd.func71.trans (congrArg some (by kernel_rfl))
  f284 := Tryd.func72.trans (congrArg some (by kernel_rfl))
  f285 := Tryd.func73.trans (congrArg some (by kernel_rfl))
  f286 := Tryd.func74.trans (congrArg some (by kernel_rfl))
  f317 := Tryd.func80.trans (congrArg some (by kernel_rfl))
  f318 := Tryd.func82.trans (congrArg some (by kernel_rfl))
  f319 := Tryd.func83.trans (congrArg some (by kernel_rfl))
  f320 := Tryd.func84.trans (congrArg some (by kernel_rfl))
  f337 := Tryd.func86.trans (congrArg some (by kernel_rfl))
  f338 := Tryd.func87.trans (congrArg some (by kernel_rfl))
  t0 := Tryd.underlying0
  a0 := Tryd.isAgg0
  z0 := Tryd.sizeOf0
  v0 := Tryd.zeroValue0
  t2 := Tryd.underlying2
  a2 := Tryd.isAgg2
  z2 := Tryd.sizeOf2
  v2 := Tryd.zeroValue2
  t3 := Tryd.underlying3
  a3 := Tryd.isAgg3
  z3 := Tryd.sizeOf3
  v3 := Tryd.zeroValue3
  t4 := Tryd.underlying4
  a4 := Tryd.isAgg4
  z4 := Tryd.sizeOf4
  v4 := Tryd.zeroValue4
  t5 := Tryd.underlying5
  a5 := Tryd.isAgg5
  z5 := Tryd.sizeOf5
  v5 := Tryd.zeroValue5
  t9 := Tryd.underlying9
  a9 := Tryd.isAgg9
  z9 := Tryd.sizeOf9
  v9 := Tryd.zeroValue9
  t20 := Tryd.underlying20
  a20 := Tryd.isAgg20
  z20 := Tryd.sizeOf20
  v20 := Tryd.zeroValue20
  t37 := Tryd.underlying79
  a37 := Tryd.isAgg79
  z37 := Tryd.sizeOf79
  v37 := Tryd.zeroValue79
  t46 := Tryd.underlying23
  a46 := Tryd.isAgg23
  z46 := Tryd.sizeOf23
  v46 := Tryd.zeroValue23
  t51 := Tryd.underlying119
  a51 := Tryd.isAgg119
  z51 := Tryd.sizeOf119
  v51 := Tryd.zeroValue119
  t53 := Tryd.underlying114
  a53 := Tryd.isAgg114
  z53 := Tryd.sizeOf114
  v53 := Tryd.zeroValue114
  t171 := Tryd.underlying113
  a171 := Tryd.isAgg113
  z171 := Tryd.sizeOf113
  v171 := Tryd.zeroValue113
  t173 := Tryd.underlying117
  a173 := Tryd.isAgg117
  z173 := Tryd.sizeOf117
  v173 := Tryd.zeroValue117
  t212 := Tryd.underlying128
  a212 := Tryd.isAgg128
  z212 := Tryd.sizeOf128
  v212 := Tryd.zeroValue128
  t213 := Tryd.underlying129
  a213 := Tryd.isAgg129
  z213 := Tryd.sizeOf129
  t232 := Tryd.underlying134
  a232 := Tryd.isAgg134
  z232 := Tryd.sizeOf134
  v232 := Tryd.zeroValue134
  t233 := Tryd.underlying135
  a233 := Tryd.isAgg135
  z233 := Tryd.sizeOf135
  v233 := Tryd.zeroValue135
  g17 := by kernel_rfl
  g18 := by kernel_rfl
  g19 := by kernel_rfl
  i0 := by kernel_rfl
  i2 := by kernel_rfl
  i3 := by kernel_rfl
  i4 := by kernel_rfl
  i5 := by kernel_rfl
  i9 := by kernel_rfl
  i20 := by kernel_rfl
  i37 := by kernel_rfl
  i46 := by kernel_rfl
  i51 := by kernel_rfl
  i53 := by kernel_rfl
  i171 := by kernel_rfl
  i173 := by kernel_rfl
  i212 := by kernel_rfl
  i232 := by kernel_rfl
  i233 := by kernel_rfl
  m17 := by kernel_rfl
  m18 := by kernel_rfl
  m19 := by kernel_rfl }
def Tryd.laysM173_ren : Go.Shelf.Ren := ⟨fun | 173 => 43 | 246 => 58 | 283 => 71 | 284 => 72 | 285 => 73 | 286 => 74 | 129 => 81 | 317 => 80 | 318 => 82 | 319 => 83 | 320 => 84 | 337 => 86 | 338 => 87 | n => n, fun | 2 => 2 | 3 => 3 | 9 => 9 | 4 => 4 | 171 => 113 | 0 => 0 | 53 => 114 | 37 => 79 | 5 => 5 | 173 => 117 | 212 => 128 | 51 => 119 | 20 => 20 | 213 => 129 | 46 => 23 | 232 => 134 | 233 => 135 | n => n, fun | 17 => 3 | 18 => 4 | 19 => 5 | n => n⟩
theorem Tryd.laysM173 : Go.Proofs.LaysM.n173 Tryd.prog Tryd.laysM173_ren := {
  mixed := by kernel_rfl
  f129 := Tryd.func81.trans (congrArg some (by kernel_rfl))
  f173 := Tryd.func43.trans (congrArg some (by kernel_rfl))
  f246 := Tryd.func58.trans (congrArg some (by kernel_rfl))
  f283 := Tryd.func71.trans (congrArg some (by kernel_rfl))
  f284 := Tryd.func72.trans (congrArg some (by kernel_rfl))
  f285 := Tryd.func73.trans (congrArg some (by kernel_rfl))
  f286 := Tryd.func74.trans (congrArg some (by kernel_rfl))
  f317 := Tryd.func80.trans (congrArg some (by kernel_rfl))
  f318 := Tryd.func82.trans (congrArg some (by kernel_rfl))
  f319 := Tryd.func83.trans (congrArg some (by kernel_rfl))
  f320 := Tryd.func84.trans (congrArg some (by kernel_rfl))
  f337 := Tryd.func86.trans (congrArg some (by kernel_rfl))
  f338 := Tryd.func87.trans (congrArg some (by kernel_rfl))
  t0 := Tryd.underlying0
  a0 := Tryd.isAgg0
  z0 := Tryd.sizeOf0
  v0 := Tryd.zeroValue0
  t2 := Tryd.underlying2
  a2 := Tryd.isAgg2
  z2 := Tryd.sizeOf2
  v2 := Tryd.zeroValue2
  t3 := Tryd.underlying3
  a3 := Tryd.isAgg3
  z3 := Tryd.sizeOf3
  v3 := Tryd.zeroValue3
  t4 := Tryd.underlying4
  a4 := Tryd.isAgg4
  z4 := Tryd.sizeOf4
  v4 := Tryd.zeroValue4
  t5 := Tryd.underlying5
  a5 := Tryd.isAgg5
  z5 := Tryd.sizeOf5
  v5 := Tryd.zeroValue5
  t9 := Tryd.underlying9
  a9 := Tryd.isAgg9
  z9 := Tryd.sizeOf9
  v9 := Tryd.zeroValue9
  t20 := Tryd.underlying20
  a20 := Tryd.isAgg20
  z20 := Tryd.sizeOf20
  v20 := Tryd.zeroValue20
  t37 := Tryd.underlying79
  a37 := Tryd.isAgg79
  z37 := Tryd.sizeOf79
  v37 := Tryd.zeroValue79
  t46 := Tryd.underlying23
  a46 := Tryd.isAgg23
  z46 := Tryd.sizeOf23
  v46 := Tryd.zeroValue23
  t51 := Tryd.underlying119
  a51 := Tryd.isAgg119
  z51 := Tryd.sizeOf119
  v51 := Tryd.zeroValue119
  t53 := Tryd.underlying114
  a53 := Tryd.isAgg114
  z53 := Tryd.sizeOf114
  v53 := Tryd.zeroValue114
  t171 := Tryd.underlying113
  a171 := Tryd.isAgg113
  z171 := Tryd.sizeOf113
  v171 := Tryd.zeroValue113
  t173 := Tryd.underlying117
  a173 := Tryd.isAgg117
  z173 := Tryd.sizeOf117
  v173 := Tryd.zeroValue117
  t212 := Tryd.underlying128
  a212 := Tryd.isAgg128
  z212 := Tryd.sizeOf128
  v212 := Tryd.zeroValue128
  t213 := Tryd.underlying129
  a213 := Tryd.isAgg129
  z213 := Tryd.sizeOf129
  t232 := Tryd.underlying134
  a232 := Tryd.isAgg134
  z232 := Tryd.sizeOf134
  v232 := Tryd.zeroValue134
  t233 := Tryd.underlying135
  a233 := Tryd.isAgg135
  z233 := Tryd.sizeOf135
  v233 := Tryd.zeroValue135
  g17 := by kernel_rfl
  g18 := by kernel_rfl
  g19 := by kernel_rfl
  i0 := by kernel_rfl
  i2 := by kernel_rfl
  i3 := by kernel_rfl
  i4 := by kernel_rfl
  i5 := by kernel_rfl
  i9 := by kernel_rfl
  i20 := by kernel_rfl
  i37 := by kernel_rfl
  i46 := by kernel_rfl
  i51 := by kernel_rfl
  i53 := by kernel_rfl
  i171 := by kernel_rfl
  i173 := by kernel_rfl
  i212 := by kernel_rfl
  i232 := by kernel_rfl
  i233 := by kernel_rfl
  m17 := by kernel_rfl
  m18 := by kernel_rfl
  m19 := by kernel_rfl }
def Tryd.lays145_ren : Go.Shelf.Ren := ⟨fun | 145 => 16 | 220 => 25 | 219 => 48 | 217 => 62 | 225 => 63 | 224 => 64 | 267 => 65 | 266 => 76 | 314 => 77 | n => n, fun | 9 => 9 | 4 => 4 | 59 => 45 | 3 => 3 | 5 => 5 | 46 => 23 | 146 => 120 | 51 => 119 | n => n, fun | 1 => 0 | n => n⟩
theorem Tryd.lays145 : Go.Proofs.Lays.n145 Tryd.prog Tryd.lays145_ren := {
  mixed := by kernel_rfl
  f145 := Tryd.func16.trans (congrArg some (by kernel_rfl))
  f217 := Tryd.func62.trans (congrArg some (by kernel_rfl))
  f219 := Tryd.func48.trans (congrArg some (by kernel_rfl))
  f220 := Tryd.func25.trans (congrArg some (by kernel_rfl))
  f224 := Tryd.func64.trans (congrArg some (by kernel_rfl))
  f225 := Tryd.func63.trans (congrArg some (by kernel_rfl))
  f266 := Tryd.func76.trans (congrArg some (by kernel_rfl))
  f267 := Tryd.func65.trans (congrArg some (by kernel_rfl))
  f314 := Tryd.func77.trans (congrArg some (by kernel_rfl))
  t3 := Tryd.underlying3
  a3 := Tryd.isAgg3
  z3 := Tryd.sizeOf3
  v3 := Tryd.zeroValue3
  t4 := Tryd.underlying4
  a4 := Tryd.isAgg4
  z4 := Tryd.sizeOf4
  v4 := Tryd.zeroValue4
  t5 := Tryd.underlying5
  a5 := Tryd.isAgg5
  z5 := Tryd.sizeOf5
  v5 := Tryd.zeroValue5
  t9 := Tryd.underlying9
  a9 := Tryd.isAgg9
  z9 := Tryd.sizeOf9
  v9 := Tryd.zeroValue9
  t46 := Tryd.underlying23
  a46 := Tryd.isAgg23
  z46 := Tryd.sizeOf23
  v46 := Tryd.zeroValue23
  t51 := Tryd.underlying119
  a51 := Tryd.isAgg119
  z51 := Tryd.sizeOf119
  v51 := Tryd.zeroValue119
  t59 := Tryd.underlying45
  a59 := Tryd.isAgg45
  z59 := Tryd.sizeOf45
  v59 := Tryd.zeroValue45
  t146 := Tryd.underlying120
  a146 := Tryd.isAgg120
  z146 := Tryd.sizeOf120
  v146 := Tryd.zeroValue120
  g1 := by kernel_rfl }
def Tryd.lays110_ren : Go.Shelf.Ren := ⟨fun | 110 => 26 | 109 => 49 | n => n, fun | 31 => 22 | 9 => 9 | 4 => 4 | 3 => 3 | 0 => 0 | n => n, fun | n => n⟩
theorem Tryd.lays110 : Go.Proofs.Lays.n110 Tryd.prog Tryd.lays110_ren := {
  mixed := by kernel_rfl
  f109 := Tryd.func49.trans (congrArg some (by kernel_rfl))
  f110 := Tryd.func26.trans (congrArg some (by kernel_rfl))
  t0 := Tryd.underlying0
  a0 := Tryd.isAgg0
  z0 := Tryd.sizeOf0
  v0 := Tryd.zeroValue0
  t3 := Tryd.underlying3
  a3 := Tryd.isAgg3
  z3 := Tryd.sizeOf3
  v3 := Tryd.zeroValue3
  t4 := Tryd.underlying4
  a4 := Tryd.isAgg4
  z4 := Tryd.sizeOf4
  v4 := Tryd.zeroValue4
  t9 := Tryd.underlying9
  a9 := Tryd.isAgg9
  z9 := Tryd.sizeOf9
  v9 := Tryd.zeroValue9
  t31 := Tryd.underlying22
  a31 := Tryd.isAgg22
  z31 := Tryd.sizeOf22
  v31 := Tryd.zeroValue22 }
end Go.Proofs

/- Texts: the library's contracts, as the machine has them. -/
namespace Go.Eng
set_option linter.unusedSectionVars false
variable [Go.Eng.GW]
open Go.RowKit
/-- a contract as the model has it, of what stands in variables, too -/
theorem SpecOk.of_callsG {P : Program} {f : Nat} {fn : Func} {sp : Spec} (hf : P.funcs[f]? = some fn) (hb : fn.body.isSome = true) (hn : (fn.name == "runtime.NumGoroutine") = false)
    (hpl : ∀ args v, (sp args).eval = some v → flatL args = true ∧ flat v = true)
    (h : ∀ args v w, Glob w → (sp args).eval = some v → Calls P f (denL nu0 args).toArray w fun e w' => e = .returned (v.den nu0) ∧ Below w.heap.size w w') : SpecOk P f sp :=
  ⟨⟨fn, hf, hb, hn⟩, fun args v xs w hG hfl hv hfv hh => by
    obtain ⟨p1, p2⟩ := hpl args v hv
    rw [holdsL_den p1 hh]
    refine (h args v w hG hv).mono ?_
    rintro e w' ⟨rfl, hbl⟩
    exact ⟨_, rfl, (holds_flat p2).2 rfl, hbl⟩⟩
end Go.Eng
namespace Go.Proofs.YtndcealgackgiaaDoor.Txt
set_option linter.unusedSectionVars false
variable [Go.Eng.GW]
open Go.Eng Go.RowKit
set_option linter.unusedVariables false
set_option linter.unusedSimpArgs false
set_option maxRecDepth 100000
/-! ### numbers in digits -/
def decF : Nat → Nat → List UInt8
  | 0, u => [UInt8.ofNat (48 + u % 10)]
  | f + 1, u => if u < 10 then [UInt8.ofNat (48 + u)] else decF f (u / 10) ++ [UInt8.ofNat (48 + u % 10)]
theorem decF_is : ∀ (f u : Nat), u < 10 ^ (f + 1) → Lib.decDigits u = decF f u
  | 0, u, h => by
    rw [Lib.decDigits, dif_pos (by omega)]
    unfold decF
    rw [Nat.mod_eq_of_lt (by omega)]
  | f + 1, u, h => by
    rw [Lib.decDigits]
    unfold decF
    by_cases q : u < 10
    · rw [dif_pos q, if_pos q]
    · rw [dif_neg q, if_neg q, decF_is f (u / 10) (by rw [Nat.pow_succ] at h; omega)]
/-- a number's digits, its sign ahead -/
def itoaL (n : Int) : List UInt8 := if n < 0 then 45 :: decF 19 n.natAbs else decF 19 n.toNat
def itoaB (n : Int) : ByteArray := ⟨(itoaL n).toArray⟩
def in64 (n : Int) : Bool := decide (-9223372036854775808 ≤ n) && decide (n ≤ 9223372036854775807)
theorem in64_is {n : Int} (h : in64 n = true) : -9223372036854775808 ≤ n ∧ n ≤ 9223372036854775807 := by
  unfold in64 at h
  rw [Bool.and_eq_true, decide_eq_true_eq, decide_eq_true_eq] at h
  exact h
theorem itoaL_is {n : Int} (h : in64 n = true) : Lib.itoa n = itoaL n := by
  obtain ⟨h0, h1⟩ := in64_is h
  unfold Lib.itoa itoaL
  rw [decF_is 19 n.natAbs (by omega), decF_is 19 n.toNat (by omega)]
theorem glob_tab {w : World} (h : Glob w) : Lib.TabIs Tryd.prog w "internal/strconv.uint64pow10" .u64 Lib.pow10Tab := by
  obtain ⟨t, s, ht⟩ := h.tab
  unfold Lib.TabIs World.var?
  have : Tryd.prog.globalNamed "internal/strconv.uint64pow10" = some 3 := by kernel_rfl
  rw [this]
  show (match w.heap[3]? with | some (.cells cs _ _) => some cs | _ => none) = _
  rw [ht]
theorem below_grow' {w w' : World} (h : ∃ k os, w' = Sort.grow (w.drewN k) os) : Below w.heap.size w w' := by
  obtain ⟨k, os, rfl⟩ := h
  exact Lib.below_grow _ w (Nat.le_refl _) k os
theorem ite_T' {α : Type} {c : Bool} {x : T α} {r : α} (h : (T.ite none c x .fail).eval = some r) : c = true ∧ x.eval = some r := by
  cases c with
  | true => exact ⟨rfl, h⟩
  | false => cases h
def i64Of : V → Option Int
  | .n .i64 n => some n
  | .s (.int .i64 n) => some n
  | _ => none
theorem i64Of_is {v : V} {n : Int} (h : i64Of v = some n) : flat v = true ∧ v.den nu0 = .int .i64 n := by
  unfold i64Of at h
  split at h
  · cases h; exact ⟨rfl, rfl⟩
  · cases h; exact ⟨rfl, rfl⟩
  · cases h
def strOf : V → Option ByteArray
  | .s (.str s) => some s
  | _ => none
theorem strOf_is {v : V} {s : ByteArray} (h : strOf v = some s) : v = .s (.str s) := by
  unfold strOf at h
  split at h
  · cases h; rfl
  · cases h
/-- a contract of one number and, it may be, another -/
def itoaS : Eng.Spec
  | [a] => match i64Of a with
    | some n => .ite none (in64 n) (.ret (.s (.str (itoaB n)))) .fail
    | none => .fail
  | _ => .fail
theorem itoaS_is {args : List V} {v : V} (h : (itoaS args).eval = some v) : ∃ a n, args = [a] ∧ i64Of a = some n ∧ in64 n = true ∧ v = .s (.str (itoaB n)) := by
  unfold itoaS at h
  split at h
  · split at h
    · rename_i hn
      obtain ⟨h1, h2⟩ := ite_T' h
      exact ⟨_, _, rfl, hn, h1, (Option.some.inj h2).symm⟩
    · cases h
  · cases h
theorem itoaS_ok : SpecOk Tryd.prog 45 itoaS := SpecOk.of_callsG Tryd.func45 (by kernel_rfl) (by kernel_rfl)
  (fun args v h => by
    obtain ⟨a, n, rfl, ha, -, rfl⟩ := itoaS_is h
    exact ⟨by simp only [flatL, okL, Bool.and_eq_true]; exact ⟨(i64Of_is ha).1, trivial⟩, rfl⟩)
  (fun args v w hG h => by
    obtain ⟨a, n, rfl, ha, hn, rfl⟩ := itoaS_is h
    have c := Any.strconv_Itoa Tryd.laysM171 n (in64_is hn).1 (in64_is hn).2 w (glob_tab hG)
    rw [itoaL_is hn] at c
    simp only [denL, (i64Of_is ha).2]
    refine c.mono ?_
    rintro e w' ⟨rfl, hw⟩
    exact ⟨rfl, below_grow' hw⟩)
def fmtS : Eng.Spec
  | [a, b] => match i64Of a, i64Of b with
    | some n, some m => if m = 10 then .ite none (in64 n) (.ret (.s (.str (itoaB n)))) .fail else .fail
    | _, _ => .fail
  | _ => .fail
theorem fmtS_is {args : List V} {v : V} (h : (fmtS args).eval = some v) : ∃ a b n, args = [a, b] ∧ i64Of a = some n ∧ i64Of b = some 10 ∧ in64 n = true ∧ v = .s (.str (itoaB n)) := by
  unfold fmtS at h
  split at h
  · split at h
    · rename_i hn hm
      split at h
      · rename_i hz
        obtain ⟨h1, h2⟩ := ite_T' h
        exact ⟨_, _, _, rfl, hn, hz ▸ hm, h1, (Option.some.inj h2).symm⟩
      · cases h
    · cases h
  · cases h
theorem fmtS_ok : SpecOk Tryd.prog 43 fmtS := SpecOk.of_callsG Tryd.func43 (by kernel_rfl) (by kernel_rfl)
  (fun args v h => by
    obtain ⟨a, b, n, rfl, ha, hb, -, rfl⟩ := fmtS_is h
    exact ⟨by simp only [flatL, okL, Bool.and_eq_true]; exact ⟨(i64Of_is ha).1, (i64Of_is hb).1, trivial⟩, rfl⟩)
  (fun args v w hG h => by
    obtain ⟨a, b, n, rfl, ha, hb, hn, rfl⟩ := fmtS_is h
    have c := Any.strconv_FormatInt_10 Tryd.laysM173 n (in64_is hn).1 (in64_is hn).2 w (glob_tab hG)
    rw [itoaL_is hn] at c
    simp only [denL, (i64Of_is ha).2, (i64Of_is hb).2]
    refine c.mono ?_
    rintro e w' ⟨rfl, hw⟩
    exact ⟨rfl, below_grow' hw⟩)
/-! ### texts cut -/
def idxF : List UInt8 → List UInt8 → Option Nat
  | [], sub => if sub.isEmpty then some 0 else none
  | b :: l, sub => if sub.isPrefixOf (b :: l) then some 0 else (idxF l sub).map (· + 1)
theorem idxF_is : ∀ (l sub : List UInt8), Lib.index l sub = match idxF l sub with
    | some k => (k : Int)
    | none => -1
  | [], sub => by unfold Lib.index idxF; split <;> rfl
  | b :: l, sub => by
    unfold Lib.index idxF
    split
    · rfl
    · rw [idxF_is l sub]
      cases idxF l sub with
      | none => rfl
      | some k =>
        have : (((k : Nat) : Int) == -1) = false := by rw [beq_eq_false_iff_ne]; omega
        simp only [this]
        rfl
def cutF (s sep : List UInt8) : List UInt8 × List UInt8 × Bool := match idxF s sep with
  | some k => (s.take k, s.drop (k + sep.length), true)
  | none => (s, [], false)
theorem cutF_is (s sep : List UInt8) : Lib.cut s sep = cutF s sep := by
  unfold Lib.cut cutF
  rw [idxF_is]
  cases idxF s sep with
  | none => rfl
  | some k =>
    show (if (0 : Int) ≤ (k : Int) then _ else _) = _
    rw [if_pos (by omega)]
    rfl
def byA (l : List UInt8) : ByteArray := ⟨l.toArray⟩
def cutV (s sep : ByteArray) : V := .tup [.s (.str (byA (cutF s.data.toList sep.data.toList).1)), .s (.str (byA (cutF s.data.toList sep.data.toList).2.1)), .s (.bool (cutF s.data.toList sep.data.toList).2.2)]
def cutS : Eng.Spec
  | [.s (.str s), .s (.str sep)] => .ite none (decide (s.size < 4294967281)) (.ret (cutV s sep)) .fail
  | _ => .fail
theorem cutS_is {args : List V} {v : V} (h : (cutS args).eval = some v) : ∃ s sep, args = [.s (.str s), .s (.str sep)] ∧ s.size < 4294967281 ∧ v = cutV s sep := by
  unfold cutS at h
  split at h
  · obtain ⟨h1, h2⟩ := ite_T' h
    exact ⟨_, _, rfl, of_decide_eq_true h1, (Option.some.inj h2).symm⟩
  · cases h
theorem cutS_ok : SpecOk Tryd.prog 16 cutS := SpecOk.of_callsG Tryd.func16 (by kernel_rfl) (by kernel_rfl)
  (fun args v h => by obtain ⟨s, sep, rfl, -, rfl⟩ := cutS_is h; exact ⟨rfl, rfl⟩)
  (fun args v w hG h => by
    obtain ⟨s, sep, rfl, hs, rfl⟩ := cutS_is h
    obtain ⟨m, hm⟩ := hG.len
    have c := Any.strings_Cut Tryd.lays145 s sep m w hs hm
    rw [cutF_is] at c
    refine c.mono ?_
    rintro e w' ⟨rfl, n, rfl⟩
    exact ⟨rfl, rfl, rfl, rfl, Nat.le_refl _, fun _ _ => rfl⟩)
def preV (s p : ByteArray) : V := .tup [.s (.str (byA (Lib.trimPrefix s.data.toList p.data.toList))), .s (.bool (Lib.hasPrefix s.data.toList p.data.toList))]
def preS : Eng.Spec
  | [.s (.str s), .s (.str p)] => .ret (preV s p)
  | _ => .fail
theorem preS_is {args : List V} {v : V} (h : (preS args).eval = some v) : ∃ s p, args = [.s (.str s), .s (.str p)] ∧ v = preV s p := by
  unfold preS at h
  split at h
  · exact ⟨_, _, rfl, (Option.some.inj h).symm⟩
  · cases h
theorem preS_ok : SpecOk Tryd.prog 37 preS := SpecOk.of_callsG Tryd.func37 (by kernel_rfl) (by kernel_rfl)
  (fun args v h => by obtain ⟨s, sep, rfl, rfl⟩ := preS_is h; exact ⟨rfl, rfl⟩)
  (fun args v w hG h => by
    obtain ⟨s, p, rfl, rfl⟩ := preS_is h
    refine (Any.strings_CutPrefix Tryd.lays103 s p w).mono ?_
    rintro e w' ⟨rfl, rfl⟩
    exact ⟨rfl, Below.refl _ _⟩)
/-! ### texts trimmed of one letter -/
def dropW (c : UInt8) : List UInt8 → List UInt8
  | [] => []
  | b :: l => if b = c then dropW c l else b :: l
theorem dropW_is (c : UInt8) : ∀ l : List UInt8, l.dropWhile (· == c) = dropW c l
  | [] => rfl
  | b :: l => by
    unfold dropW
    rw [List.dropWhile_cons]
    by_cases h : b = c
    · rw [if_pos h, if_pos (by simpa using h)]; exact dropW_is c l
    · rw [if_neg h, if_neg (by simpa using h)]
def revF (l a : List UInt8) : List UInt8 := match l with
  | [] => a
  | b :: l => revF l (b :: a)
theorem revF_is : ∀ (l a : List UInt8), revF l a = l.reverse ++ a
  | [], a => rfl
  | b :: l, a => by unfold revF; rw [revF_is l]; simp
def trR (l : List UInt8) (c : UInt8) : List UInt8 := revF (dropW c (revF l [])) []
theorem trR_is (l : List UInt8) (c : UInt8) : Lib.trimRightB l c = trR l c := by
  unfold Lib.trimRightB trR
  rw [revF_is, revF_is, dropW_is]; simp
def oneOf (s : ByteArray) : Option UInt8 := match s.data.toList with
  | [c] => if c.toNat < 128 then some c else none
  | _ => none
theorem oneOf_is {s : ByteArray} {c : UInt8} (h : oneOf s = some c) : s = ⟨#[c]⟩ ∧ c.toNat < 128 := by
  unfold oneOf at h
  split at h
  · rename_i x hx
    split at h
    · rename_i hc
      cases h
      refine ⟨?_, hc⟩
      obtain ⟨d⟩ := s
      have hx : d.toList = [c] := hx
      congr 1
      apply Array.ext'
      rw [hx]
    · cases h
  · cases h
def trimRS : Eng.Spec
  | [.s (.str s), .s (.str p)] => match oneOf p with
    | some c => .ite none (decide (s.size ≤ 9223372036854775807)) (.ret (.s (.str (byA (trR s.data.toList c))))) .fail
    | none => .fail
  | _ => .fail
theorem trimRS_is {args : List V} {v : V} (h : (trimRS args).eval = some v) : ∃ s c, args = [.s (.str s), .s (.str ⟨#[c]⟩)] ∧ c.toNat < 128 ∧ s.size ≤ 9223372036854775807 ∧ v = .s (.str (byA (trR s.data.toList c))) := by
  unfold trimRS at h
  split at h
  · split at h
    · rename_i hc
      obtain ⟨rfl, hc'⟩ := oneOf_is hc
      obtain ⟨h1, h2⟩ := ite_T' h
      exact ⟨_, _, rfl, hc', of_decide_eq_true h1, (Option.some.inj h2).symm⟩
    · cases h
  · cases h
theorem trimRS_ok : SpecOk Tryd.prog 44 trimRS := SpecOk.of_callsG Tryd.func44 (by kernel_rfl) (by kernel_rfl)
  (fun args v h => by obtain ⟨s, c, rfl, -, -, rfl⟩ := trimRS_is h; exact ⟨rfl, rfl⟩)
  (fun args v w hG h => by
    obtain ⟨s, c, rfl, hc, hs, rfl⟩ := trimRS_is h
    have k := Any.strings_TrimRight_one Tryd.lays162 s c hc w hs
    rw [trR_is] at k
    refine k.mono ?_
    rintro e w' ⟨rfl, rfl⟩
    exact ⟨rfl, Below.refl _ _⟩)
def trB (l : List UInt8) (c : UInt8) : List UInt8 := dropW c (trR l c)
theorem trB_is (l : List UInt8) (c : UInt8) : Lib.trimB l c = trB l c := by
  unfold Lib.trimB trB Lib.trimLeftB
  rw [trR_is, dropW_is]
def trimS : Eng.Spec
  | [.s (.str s), .s (.str p)] => match oneOf p with
    | some c => .ite none (decide (s.size ≤ 9223372036854775807)) (.ret (.s (.str (byA (trB s.data.toList c))))) .fail
    | none => .fail
  | _ => .fail
theorem trimS_is {args : List V} {v : V} (h : (trimS args).eval = some v) : ∃ s c, args = [.s (.str s), .s (.str ⟨#[c]⟩)] ∧ c.toNat < 128 ∧ s.size ≤ 9223372036854775807 ∧ v = .s (.str (byA (trB s.data.toList c))) := by
  unfold trimS at h
  split at h
  · split at h
    · rename_i hc
      obtain ⟨rfl, hc'⟩ := oneOf_is hc
      obtain ⟨h1, h2⟩ := ite_T' h
      exact ⟨_, _, rfl, hc', of_decide_eq_true h1, (Option.some.inj h2).symm⟩
    · cases h
  · cases h
theorem trimS_ok : SpecOk Tryd.prog 18 trimS := SpecOk.of_callsG Tryd.func18 (by kernel_rfl) (by kernel_rfl)
  (fun args v h => by obtain ⟨s, c, rfl, -, -, rfl⟩ := trimS_is h; exact ⟨rfl, rfl⟩)
  (fun args v w hG h => by
    obtain ⟨s, c, rfl, hc, hs, rfl⟩ := trimS_is h
    have k := Any.strings_Trim_one Tryd.lays160 s c hc w hs
    rw [trB_is] at k
    refine k.mono ?_
    rintro e w' ⟨rfl, hw⟩
    refine ⟨rfl, ?_⟩
    rcases hw with rfl | rfl
    · exact Below.refl _ _
    · exact (Below.refl _ _).drew)
end Go.Proofs.YtndcealgackgiaaDoor.Txt

/- Texts: the library's builder of texts, as the machine has it. -/
namespace Go.Proofs.YtndcealgackgiaaDoor.Txt
set_option linter.unusedSectionVars false
variable [Go.Eng.GW]
open Go.Eng Go.RowKit Go.Shelf
set_option linter.unusedVariables false
set_option linter.unusedSimpArgs false
set_option maxRecDepth 100000
theorem lays240 : Lays.n240 Tryd.prog Tryd.lays156_ren := { Tryd.lays156 with }
abbrev TB : TypeId := 81
def ccS : Eng.Obj
  | [.ptr 0 0], [(0, .cells t [.nilPtr, .nilSl])] => if t = TB then .ret (.tup [], [(0, .cells t [.ptr 0 0, .nilSl])]) else .fail
  | [.ptr 0 0], [(0, .cells t [.ptr 0 0, .nilSl])] => if t = TB then .ret (.tup [], [(0, .cells t [.ptr 0 0, .nilSl])]) else .fail
  | [.ptr 0 0], [(0, .cells t [.ptr 0 0, .sub 1 1 0 n]), (1, .lst true t' [.int .u8] l)] => if t = TB then .ret (.tup [], [(0, .cells t [.ptr 0 0, .sub 1 1 0 n]), (1, .lst true t' [.int .u8] l)]) else .fail
  | _, _ => .fail
theorem owned_of_outO {h : Eng.Heap} {v : V} {h' : Eng.Heap} (ho : outO h v h' = true) {i : Nat} {b : Blk} (e : Eng.look h' i = some b) : b.owned = true := by
  unfold outO at ho
  rw [Bool.and_eq_true, List.all_eq_true] at ho
  have := ho.2 _ (mem_of_look e)
  simp only [Bool.and_eq_true] at this
  exact this.1.1
theorem heap_setCell {w : World} {b : Nat} {c : Array Value} {t : TypeId} (hb : w.heap[b]? = some (.cells c t (0, 0))) (j : Nat) (v : Value) : (w.setCell ⟨b, j, none⟩ v).heap[b]? = some (.cells (c.setIfInBounds j v) t (0, 0)) := by
  simp [World.setCell, Array.getElem?_modify, hb]
theorem heap_setCell_ne {w : World} {b k : Nat} (hk : k ≠ b) (j : Nat) (v : Value) : (w.setCell ⟨b, j, none⟩ v).heap[k]? = w.heap[k]? := by
  simp [World.setCell, Array.getElem?_modify, Ne.symm hk]
theorem ccS_ok : ObjOk Tryd.prog 57 ccS := by
  refine ⟨⟨_, Tryd.func57, by kernel_rfl, by kernel_rfl⟩, fun args h v h' ν w hG hgs hok hb hr hv ho => ?_⟩
  have used : ∀ (t : TypeId) (r : List V) (hp : Eng.Heap), t = TB → (∀ i b, Eng.look hp i = some b → b.owned = true) → Eng.look hp 0 = some (.cells t (.ptr 0 0 :: r)) → Rel ν (Eng.look hp) w → Calls Tryd.prog 57 (denL ν [.ptr 0 0]).toArray w fun e w' => ∃ ν' : Eng.Env, e = .returned ((V.tup []).den ν') ∧ (∀ i, inH hp i = true → (ν' i).core = (ν i).core) ∧ Rel ν' (Eng.look hp) w' ∧
      (∀ i b, Eng.look hp i = some b → ∀ k, (ν' i).fp k → ownFp ν hp k ∨ w.heap.size ≤ k) ∧ Prog w w' (ownFp ν hp) := by
    intro t r hp ht ho hl hr
    obtain ⟨d0, d1, d2⟩ := hr.den 0 _ hl
    have hc : w.cell? ⟨(ν 0).core.blk, 0, none⟩ = some (.pointer (some ⟨(ν 0).core.blk, 0, none⟩)) := by
      rw [Lib.cell_of_heap d2]
      simp [denL, V.den, d0]
    have ea : (denL ν [.ptr 0 0]).toArray = #[.pointer (some ⟨(ν 0).core.blk, 0, none⟩)] := by simp [denL, V.den, d0]
    rw [ea]
    refine (Any.Builder_copyCheck_used lays240 Tryd.Builder_Extra_156.toX72 _ w hc).mono ?_
    rintro e w' ⟨rfl, rfl⟩
    exact ⟨ν, rfl, fun _ _ => rfl, hr, fun i b e k hk => .inl ⟨i, b, e, ho i b e, hk⟩, Prog.refl _ _⟩
  unfold ccS at hv
  split at hv
  · split at hv
    · rename_i t ht
      obtain ⟨rfl, rfl⟩ : V.tup [] = v ∧ [(0, Blk.cells t [.ptr 0 0, .nilSl])] = h' := by
        have := Option.some.inj hv
        exact ⟨congrArg Prod.fst this, congrArg Prod.snd this⟩
      obtain ⟨d0, d1, d2⟩ := hr.den 0 _ rfl
      have d2 : w.heap[(ν 0).core.blk]? = some (.cells #[.pointer none, .slice none 0 0] t (0, 0)) := d2
      have ea : (denL ν [.ptr 0 0]).toArray = #[.pointer (some ⟨(ν 0).core.blk, 0, none⟩)] := by simp [denL, V.den, d0]
      rw [ea]
      have hsh : w.shape? (ν 0).core.blk = some (t, 2) := by simp [World.shape?, d2]
      refine (Any.Builder_copyCheck_fresh lays240 Tryd.Builder_Extra_156.toX72 _ w (by rw [Lib.cell_of_heap d2]; rfl) (by rw [hsh, ht]; rfl) (Lib.frozen_of_heap d2 0)).mono ?_
      rintro e w' ⟨rfl, rfl⟩
      have one : ∀ i b, Eng.look [(0, Blk.cells t [.ptr 0 0, .nilSl])] i = some b → i = 0 ∧ b = .cells t [.ptr 0 0, .nilSl] := by
        intro i b e
        simp only [Eng.look] at e
        split at e
        · rename_i q
          exact ⟨(by simpa using q : 0 = i).symm, (Option.some.inj e).symm⟩
        · cases e
      have own : ∀ k, (ν 0).fp k → ownFp ν [(0, Blk.cells t [.nilPtr, .nilSl])] k := fun k hk => ⟨0, _, rfl, rfl, hk⟩
      refine ⟨ν, rfl, fun _ _ => rfl, ⟨fun i b e => ?_, fun i j bi bj ne ei ej => absurd ((one i bi ei).1.trans (one j bj ej).1.symm) ne⟩, fun i b e k hk => ?_, rfl, rfl, rfl, ?_, fun k hk hn => ?_⟩
      · obtain ⟨rfl, rfl⟩ := one i b e
        refine ⟨d0, d1, ?_⟩
        rw [heap_setCell d2]
        simp [denL, V.den, d0]
      · obtain ⟨rfl, rfl⟩ := one i b e
        exact .inl (own k hk)
      · simp [World.setCell]
      · exact heap_setCell_ne (fun q => hn (own k ((d1 k).2 q))) _ _
    · cases hv
  · split at hv
    · rename_i t ht
      obtain ⟨rfl, rfl⟩ : V.tup [] = v ∧ [(0, Blk.cells t [.ptr 0 0, .nilSl])] = h' := by
        have := Option.some.inj hv
        exact ⟨congrArg Prod.fst this, congrArg Prod.snd this⟩
      exact used t [.nilSl] _ ht (fun i b e => owned_of_outO ho e) rfl hr
    · cases hv
  · split at hv
    · rename_i t n t' l ht
      obtain ⟨rfl, rfl⟩ : V.tup [] = v ∧ [(0, Blk.cells t [.ptr 0 0, .sub 1 1 0 n]), (1, .lst true t' [.int .u8] l)] = h' := by
        have := Option.some.inj hv
        exact ⟨congrArg Prod.fst this, congrArg Prod.snd this⟩
      exact used t [.sub 1 1 0 n] _ ht (fun i b e => owned_of_outO ho e) rfl hr
    · cases hv
  · cases hv
/-! ### the text at the end -/
theorem lies_off {P : Program} {e : TypeId} (hc : P.cellsOf e = 1) (count off n : Nat) (hn : off + n ≤ count) (h0 : 0 < n) : liesAt P P.depth e count off e n = true := by
  have hd : P.depth = (2 * (P.types.size + Made.depth) + 1) + 1 := rfl
  rw [hd]
  simp only [liesAt, Bool.or_eq_true]
  left
  rw [hd]
  simp [rowAt, hc, sameLayout, hn, Nat.mod_one]
theorem unsafe_text {P : Program} (w : World) (pt it ty e : TypeId) (hp : P.underlying pt = some (.pointer e)) (hc : P.cellsOf e = 1) (g off cells : Nat) (hsh : w.shape? g = some (e, cells)) (l : List UInt8) (h0 : l ≠ []) (hn : off + l.length ≤ cells) (h63 : l.length ≤ 9223372036854775807)
    (hcell : ∀ (j : Nat) x, l[j]? = some x → w.cell? ((⟨g, off, none⟩ : Addr).add j) = some (.int .u8 x.toNat)) :
    (Builtin.unsafeString_ #[pt, it] ty #[.pointer (some ⟨g, off, none⟩), .int .i64 l.length]).run P w = .ok (.string ⟨l.toArray⟩) (w.freeze ⟨g, off, none⟩ l.length) := by
  have hl : l.length ≠ 0 := by simpa using h0
  have hlb := Lib.run_loadBytes (P := P) w l ⟨g, off, none⟩ .empty hcell
  have hlies := lies_off (P := P) hc (cells / P.cellsOf e) off l.length (by rw [hc]; simpa using hn) (by omega)
  have h63' : ¬ (9223372036854775807 : Int) < (l.length : Int) := by omega
  have hmax : IntKind.i64.max = 9223372036854775807 := rfl
  have hneg : ¬ (l.length : Int) < 0 := by omega
  conv in (Builtin.unsafeString_ _ _ _) => whnf
  generalize (IntKind.max .i64).decLt (l.length : Int) = D
  cases D with
  | isTrue h => exact absurd h h63'
  | isFalse h =>
    dsimp only
    simp [hl, variablesAt, hsh, elemOf, run_underlying hp, hlies, hlb]
set_option maxHeartbeats 2000000 in
theorem text_at {P : Program} {ρ : Go.Shelf.Ren} (L : Lays.n169 P ρ) (X : Builder.Extra P ρ) (b g off cap : Nat) (p : Value) (cur : Array Value) (l : List UInt8) (w : World) (h0 : l ≠ []) (hb : w.heap[b]? = some (.cells #[p, .slice (some ⟨g, off, none⟩) l.length cap] (ρ.t 72) (0, 0)))
    (hg : w.heap[g]? = some (.cells cur (ρ.t 5) (0, 0))) (hcap : l.length ≤ cap) (hm : cap ≤ maxLen) (hcur : off + cap ≤ cur.size) (hx : ∀ (j : Nat) x, l[j]? = some x → cur[off + j]? = some (.int .u8 x.toNat)) :
    Calls P (ρ.f 169) #[.pointer (some ⟨b, 0, none⟩)] w fun e w' => e = .returned (.string ⟨l.toArray⟩) ∧ w' = w.drew.freeze ⟨g, off, none⟩ l.length := by
  have hl0 : l.length ≠ 0 := by simpa using h0
  have c1 : w.drew.cell? ⟨b, 1, none⟩ = some (.slice (some ⟨g, off, none⟩) l.length cap) := by
    rw [Lib.cell_of_heap (w := w.drew) hb]; rfl
  have hSD : (Builtin.unsafeSliceData_ #[(ρ.t 37)] (ρ.t 127) #[.slice (some ⟨g, off, none⟩) l.length cap]).run P w.drew = .ok (.pointer (some ⟨g, off, none⟩)) w.drew :=
    Lib.run_unsafeSliceData_row _ _ _ _ _ _ (by omega)
  have hUS : (Builtin.unsafeString_ #[(ρ.t 127), (ρ.t 3)] (ρ.t 9) #[.pointer (some ⟨g, off, none⟩), .int .i64 l.length]).run P w.drew = .ok (.string ⟨l.toArray⟩) (w.drew.freeze ⟨g, off, none⟩ l.length) := by
    refine unsafe_text w.drew (ρ.t 127) (ρ.t 3) (ρ.t 9) (ρ.t 5) L.t127 X.cellsByte g off cur.size (by have hg' : w.drew.heap[g]? = some (.cells cur (ρ.t 5) (0, 0)) := hg; simp [World.shape?, hg']) l h0 (by omega) (by unfold maxLen at hm; omega) ?_
    intro j x hj
    rw [addr_add, Lib.cell_of_heap (w := w.drew) hg]
    exact hx j x hj
  have mixed := L.mixed
  have t72 := L.t72; have a72 := L.a72; have z72 := L.z72; have v72 := L.v72; have u72 := run_underlying L.t72
  have t70 := L.t70; have a70 := L.a70; have z70 := L.z70; have v70 := L.v70; have u70 := run_underlying L.t70
  have t37 := L.t37; have a37 := L.a37; have z37 := L.z37; have v37 := L.v37; have u37 := run_underlying L.t37
  have t127 := L.t127; have a127 := L.a127; have z127 := L.z127; have v127 := L.v127; have u127 := run_underlying L.t127
  have t3 := L.t3; have a3 := L.a3; have z3 := L.z3; have v3 := L.v3; have u3 := run_underlying L.t3
  have t9 := L.t9; have a9 := L.a9; have z9 := L.z9; have v9 := L.v9; have u9 := run_underlying L.t9
  have t5 := X.t5; have a5 := X.a5; have z5 := X.z5; have v5 := X.v5; have u5 := run_underlying X.t5
  go_enter L.f169, Body.n169_ntmps ρ
  go_wp2
  go_region_o
  all_goals (go_wp2; go_ret; exact ⟨rfl, rfl⟩)
def byB (l : List Int) : Bool := l.all fun x => decide (0 ≤ x) && decide (x < 256)
def txtS : Eng.Obj
  | [.ptr 0 0], [(0, .cells t [p, .sub 1 1 0 n]), (1, .lst true t' [.int .u8] l)] => if t = TB ∧ t' = 5 then .ite none (byB l && (decide (n = List.length l) && decide (0 < n))) (.ret (.s (.str (rowStr l)), [])) .fail else .fail
  | _, _ => .fail
theorem byte_back {l : List Int} (h : byB l = true) (j : Nat) (x : UInt8) (hx : (l.map fun n => UInt8.ofNat n.toNat)[j]? = some x) : l[j]? = some ((x.toNat : Nat) : Int) := by
  rw [List.getElem?_map] at hx
  obtain ⟨n, hn, rfl⟩ := Option.map_eq_some_iff.1 hx
  have := List.all_eq_true.1 h n (List.mem_of_getElem? hn)
  rw [Bool.and_eq_true, decide_eq_true_eq, decide_eq_true_eq] at this
  rw [hn]
  congr 1
  rw [UInt8.toNat_ofNat']
  omega
theorem byte_cell {l : List Int} {j : Nat} {n : Int} (h : l[j]? = some n) : (rowsV [.int .u8] (u8 l))[j]? = some (Value.int .u8 n) := by
  rw [rowsV_u8, List.getElem?_map, h]; rfl
theorem txtS_ok : ObjOk Tryd.prog 42 txtS := by
  refine ⟨⟨_, Tryd.func42, by kernel_rfl, by kernel_rfl⟩, fun args h v h' ν w hG hgs hok hb hr hv ho => ?_⟩
  unfold txtS at hv
  split at hv
  · rename_i t p n t' l
    split at hv
    · rename_i ht
      obtain ⟨rfl, rfl⟩ := ht
      obtain ⟨hc, hv⟩ := ite_T' hv
      rw [Bool.and_eq_true, Bool.and_eq_true, decide_eq_true_eq, decide_eq_true_eq] at hc
      obtain ⟨c1, c2, c3⟩ := hc
      obtain ⟨rfl, rfl⟩ : V.s (.str (rowStr l)) = v ∧ ([] : Eng.Heap) = h' := by
        have := Option.some.inj hv
        exact ⟨congrArg Prod.fst this, congrArg Prod.snd this⟩
      obtain ⟨d0, d1, d2⟩ := hr.den 0 _ rfl
      obtain ⟨e0, e1⟩ := hr.den 1 (.lst true 5 [.int .u8] l) rfl
      have rl : (rowsV [.int .u8] l).length = l.length := by rw [rowsV_length]; simp
      rcases e0.2 with ⟨_, q⟩ | ⟨g, off, cap, cur, q1, q2, q3, q4, q5, q6, q7⟩
      · omega
      · simp only [Value.slice.injEq, true_and] at q1
        obtain ⟨qa, qc⟩ := q1
        have q6 : off + cap ≤ cur.size := by simpa using q6
        have q7 : (cur.toList.drop off).take l.length = rowsV [.int .u8] l := by simpa using q7
        have d2 : w.heap[(ν 0).core.blk]? = some (.cells #[p.den ν, .slice (some ⟨g, off, none⟩) n cap] TB (0, 0)) := by
          rw [d2]
          congr 2
          simp [denL, V.den, qa, qc, addr_add]
        have ea : (denL ν [.ptr 0 0]).toArray = #[.pointer (some ⟨(ν 0).core.blk, 0, none⟩)] := by simp [denL, V.den, d0]
        rw [ea]
        have hb8 : (l.map fun n => UInt8.ofNat n.toNat).length = n := by rw [List.length_map, c2]
        rw [← hb8] at d2
        refine (text_at Tryd.lays169 Tryd.Builder_Extra_169 _ g off cap _ cur (l.map fun n => UInt8.ofNat n.toNat) w (fun q => by rw [q] at hb8; simp at hb8; omega) d2 q3 (by rw [hb8]; omega) q5 q6 (fun j x hx => ?_)).mono ?_
        · have hj : j < l.length := by
            have := (List.getElem?_eq_some_iff.1 hx).1
            simpa using this
          have hl := byte_back c1 j x hx
          have : (rowsV [.int .u8] l)[j]? = some (Value.int .u8 ((x.toNat : Nat) : Int)) := by
            exact byte_cell hl
          rw [← q7, List.getElem?_take_of_lt hj, List.getElem?_drop, Array.getElem?_toList] at this
          exact this
        · rintro e w' ⟨rfl, rfl⟩
          have gfp : ownFp ν [(0, .cells TB [p, .sub 1 1 0 n]), (1, .lst true 5 [.int .u8] l)] g := ⟨1, _, rfl, rfl, (e1 g).2 ⟨_, qa, rfl⟩⟩
          refine ⟨ν, rfl, fun _ _ => rfl, ⟨fun i b e => (by cases e), fun i j bi bj ne ei ej => (by cases ei)⟩, fun i b e => (by cases e), ?_⟩
          refine ⟨?_, ?_, ?_, ?_, fun k hk hn => ?_⟩
          · unfold World.freeze; split <;> rfl
          · unfold World.freeze; split <;> rfl
          · unfold World.freeze; split <;> rfl
          · unfold World.freeze
            split
            · exact Nat.le_refl _
            · show w.heap.size ≤ (Array.modify w.heap _ _).size
              rw [Array.size_modify]; exact Nat.le_refl _
          · unfold World.freeze
            split
            · rfl
            · simp only [Array.getElem?_modify]
              rw [if_neg (fun q => hn (by rw [← q]; exact gfp))]
              rfl
    · cases hv
  · cases hv
end Go.Proofs.YtndcealgackgiaaDoor.Txt

/- Layer 4: what is told of a few: closed runs. -/
namespace Go.Proofs.YtndcealgackgiaaDoor.Txt
set_option linter.unusedSectionVars false
variable [Go.Eng.GW]
open Go.Eng Go.RowKit
set_option linter.unusedVariables false
set_option linter.unusedSimpArgs false
set_option maxRecDepth 100000
theorem mixed : Tryd.prog.follows .mixedOrders = true := by kernel_rfl
noncomputable def K0 : Cfg := ⟨Tryd.prog, lookG [(16, .val cutS), (37, .val preS), (18, .val trimS), (44, .val trimRS), (45, .val itoaS), (43, .val fmtS), (57, .obj ccS), (42, .obj txtS)], [], 0⟩
theorem K0_ok : K0.Ok := Cfg.ok ⟨cutS_ok, preS_ok, trimS_ok, trimRS_ok, itoaS_ok, fmtS_ok, ccS_ok, txtS_ok, trivial⟩ trivial
noncomputable def natR : Eng.Spec := execS K0 (rounds K0 11 1) 38
theorem natR_ok : SpecOk Tryd.prog 38 natR := execS_rounds K0_ok mixed 11 1 Tryd.func38 (by kernel_rfl) (by kernel_rfl)
noncomputable def idxR : Eng.Spec := execS K0 (rounds K0 9 1) 49
theorem idxR_ok : SpecOk Tryd.prog 49 idxR := execS_rounds K0_ok mixed 9 1 Tryd.func49 (by kernel_rfl) (by kernel_rfl)
noncomputable def wrR : Eng.Obj := execO K0 noLoops 40
theorem wrR_ok : ObjOk Tryd.prog 40 wrR := execO_plain K0_ok mixed Tryd.func40 (by kernel_rfl) (by kernel_rfl)
noncomputable def K1 : Cfg := ⟨Tryd.prog, lookG [(16, .val cutS), (37, .val preS), (18, .val trimS), (44, .val trimRS), (45, .val itoaS), (43, .val fmtS), (38, .val natR)], [], 0⟩
theorem K1_ok : K1.Ok := Cfg.ok ⟨cutS_ok, preS_ok, trimS_ok, trimRS_ok, itoaS_ok, fmtS_ok, natR_ok, trivial⟩ trivial
noncomputable def numR : Eng.Spec := execS K1 (rounds K1 4 1) 20
theorem numR_ok : SpecOk Tryd.prog 20 numR := execS_rounds K1_ok mixed 4 1 Tryd.func20 (by kernel_rfl) (by kernel_rfl)
noncomputable def shoR : Eng.Spec := execS K1 noLoops 22
theorem shoR_ok : SpecOk Tryd.prog 22 shoR := execS_plain K1_ok mixed Tryd.func22 (by kernel_rfl) (by kernel_rfl)
noncomputable def plcR : Eng.Obj := execO K1 noLoops 28
theorem plcR_ok : ObjOk Tryd.prog 28 plcR := execO_plain K1_ok mixed Tryd.func28 (by kernel_rfl) (by kernel_rfl)
noncomputable def K2 : Cfg := ⟨Tryd.prog, lookG [(16, .val cutS), (37, .val preS), (18, .val trimS), (44, .val trimRS), (45, .val itoaS), (43, .val fmtS), (38, .val natR), (20, .val numR), (22, .val shoR)], [], 0⟩
theorem K2_ok : K2.Ok := Cfg.ok ⟨cutS_ok, preS_ok, trimS_ok, trimRS_ok, itoaS_ok, fmtS_ok, natR_ok, numR_ok, shoR_ok, trivial⟩ trivial
noncomputable def putR : Eng.Obj := execO K2 noLoops 27
theorem putR_ok : ObjOk Tryd.prog 27 putR := execO_plain K2_ok mixed Tryd.func27 (by kernel_rfl) (by kernel_rfl)
noncomputable def tlpR : Eng.Obj := execO K2 noLoops 41
theorem tlpR_ok : ObjOk Tryd.prog 41 tlpR := execO_plain K2_ok mixed Tryd.func41 (by kernel_rfl) (by kernel_rfl)
noncomputable def K3 : Cfg := ⟨Tryd.prog, lookG [(16, .val cutS), (37, .val preS), (18, .val trimS), (44, .val trimRS), (45, .val itoaS), (43, .val fmtS), (49, .val idxR)], [], 0⟩
theorem K3_ok : K3.Ok := Cfg.ok ⟨cutS_ok, preS_ok, trimS_ok, trimRS_ok, itoaS_ok, fmtS_ok, idxR_ok, trivial⟩ trivial
noncomputable def conR : Eng.Spec := execS K3 noLoops 26
theorem conR_ok : SpecOk Tryd.prog 26 conR := execS_plain K3_ok mixed Tryd.func26 (by kernel_rfl) (by kernel_rfl)
noncomputable def K4 : Cfg := ⟨Tryd.prog, lookG [(16, .val cutS), (37, .val preS), (18, .val trimS), (44, .val trimRS), (45, .val itoaS), (43, .val fmtS), (26, .val conR), (28, .obj (Eng.Obj.plain plcR)), (27, .obj (Eng.Obj.plain putR))], [], 0⟩
theorem K4_ok : K4.Ok := Cfg.ok ⟨cutS_ok, preS_ok, trimS_ok, trimRS_ok, itoaS_ok, fmtS_ok, conR_ok, plcR_ok.plain, putR_ok.plain, trivial⟩ trivial
noncomputable def takR : Eng.Obj := execO K4 noLoops 17
theorem takR_ok : ObjOk Tryd.prog 17 takR := execO_plain K4_ok mixed Tryd.func17 (by kernel_rfl) (by kernel_rfl)
noncomputable def outR : Eng.Spec := execS K0 noLoops 54
theorem outR_ok : SpecOk Tryd.prog 54 outR := execS_plain K0_ok mixed Tryd.func54 (by kernel_rfl) (by kernel_rfl)
noncomputable def mosR : Eng.Spec := execS K0 noLoops 55
theorem mosR_ok : SpecOk Tryd.prog 55 mosR := execS_plain K0_ok mixed Tryd.func55 (by kernel_rfl) (by kernel_rfl)
noncomputable def K5 : Cfg := ⟨Tryd.prog, lookG [(16, .val cutS), (37, .val preS), (18, .val trimS), (44, .val trimRS), (45, .val itoaS), (43, .val fmtS), (54, .val outR), (55, .val mosR)], [], 0⟩
theorem K5_ok : K5.Ok := Cfg.ok ⟨cutS_ok, preS_ok, trimS_ok, trimRS_ok, itoaS_ok, fmtS_ok, outR_ok, mosR_ok, trivial⟩ trivial
noncomputable def wroR : Eng.Spec := execS K5 noLoops 36
theorem wroR_ok : SpecOk Tryd.prog 36 wroR := execS_plain K5_ok mixed Tryd.func36 (by kernel_rfl) (by kernel_rfl)
noncomputable def K6 : Cfg := ⟨Tryd.prog, lookG [(16, .val cutS), (37, .val preS), (18, .val trimS), (44, .val trimRS), (45, .val itoaS), (43, .val fmtS), (36, .val wroR)], [], 0⟩
theorem K6_ok : K6.Ok := Cfg.ok ⟨cutS_ok, preS_ok, trimS_ok, trimRS_ok, itoaS_ok, fmtS_ok, wroR_ok, trivial⟩ trivial
noncomputable def mayR : Eng.Spec := execS K6 noLoops 19
theorem mayR_ok : SpecOk Tryd.prog 19 mayR := execS_plain K6_ok mixed Tryd.func19 (by kernel_rfl) (by kernel_rfl)
noncomputable def K7 : Cfg := ⟨Tryd.prog, lookG [(16, .val cutS), (37, .val preS), (18, .val trimS), (44, .val trimRS), (45, .val itoaS), (43, .val fmtS), (17, .obj (Eng.Obj.plain takR)), (19, .val mayR)], [], 0⟩
theorem K7_ok : K7.Ok := Cfg.ok ⟨cutS_ok, preS_ok, trimS_ok, trimRS_ok, itoaS_ok, fmtS_ok, takR_ok.plain, mayR_ok, trivial⟩ trivial
noncomputable def parR : Eng.Spec := execS K7 (rounds K7 6 1) 5
theorem parR_ok : SpecOk Tryd.prog 5 parR := execS_rounds K7_ok mixed 6 1 Tryd.func5 (by kernel_rfl) (by kernel_rfl)
noncomputable def namR : Eng.Spec := execS K0 noLoops 39
theorem namR_ok : SpecOk Tryd.prog 39 namR := execS_plain K0_ok mixed Tryd.func39 (by kernel_rfl) (by kernel_rfl)
noncomputable def K8 : Cfg := ⟨Tryd.prog, lookG [(16, .val cutS), (37, .val preS), (18, .val trimS), (44, .val trimRS), (45, .val itoaS), (43, .val fmtS), (19, .val mayR), (40, .obj (Eng.Obj.plain wrR)), (42, .obj txtS), (28, .obj (Eng.Obj.plain plcR)), (41, .obj (Eng.Obj.plain tlpR)), (39, .val namR)], [], 0⟩
theorem K8_ok : K8.Ok := Cfg.ok ⟨cutS_ok, preS_ok, trimS_ok, trimRS_ok, itoaS_ok, fmtS_ok, mayR_ok, wrR_ok.plain, txtS_ok, plcR_ok.plain, tlpR_ok.plain, namR_ok, trivial⟩ trivial
noncomputable def priR : Eng.Spec := execS K8 (rounds K8 21 1) 21
theorem priR_ok : SpecOk Tryd.prog 21 priR := execS_rounds K8_ok mixed 21 1 Tryd.func21 (by kernel_rfl) (by kernel_rfl)
noncomputable def dfl : Eng.Spec := execS K0 noLoops 6
theorem dfl_ok : SpecOk Tryd.prog 6 dfl := execS_plain K0_ok mixed Tryd.func6 (by kernel_rfl) (by kernel_rfl)
noncomputable def K9 : Cfg := ⟨Tryd.prog, lookG [(16, .val cutS), (37, .val preS), (18, .val trimS), (44, .val trimRS), (45, .val itoaS), (43, .val fmtS), (5, .val parR), (20, .val numR), (22, .val shoR), (21, .val priR), (6, .val dfl)], [25], 0⟩
theorem K9_ok : K9.Ok := Cfg.ok ⟨cutS_ok, preS_ok, trimS_ok, trimRS_ok, itoaS_ok, fmtS_ok, parR_ok, numR_ok, shoR_ok, priR_ok, dfl_ok, trivial⟩ ⟨⟨by kernel_rfl, by kernel_rfl⟩, trivial⟩
noncomputable def tldX : Eng.Spec := execS K9 noLoops 7
theorem tldX_ok : SpecOk Tryd.prog 7 tldX := execS_plain K9_ok mixed Tryd.func7 (by kernel_rfl) (by kernel_rfl)
end Go.Proofs.YtndcealgackgiaaDoor.Txt

/- Layer 4: numbers: loops. -/
namespace Go.Proofs.YtndcealgackgiaaDoor.Txt
set_option linter.unusedSectionVars false
variable [Go.Eng.GW]
open Go.Eng Go.RowKit
set_option linter.unusedVariables false
set_option linter.unusedSimpArgs false
set_option maxRecDepth 100000
noncomputable def lpNa : Code := loopAt Tryd.prog 38 0
structure PNa where (s : ByteArray) (z : Int)
structure ANa where (n : Int) (i : Int)
abbrev SNa : List (Nat × Src) := []
def vsNa (p : PNa) (a : ANa) : List V := [.s (.str p.s), iv a.n, iv p.z, iv a.i]
def bsNa (p : PNa) (a : ANa) : List Blk := []
noncomputable def FNa (p : PNa) (a : ANa) : St := mkSt [0,6,18,19] (keysR SNa) 3000 42 (vsNa p a) (bsNa p a)
abbrev SNax : List (Nat × Src) := []
noncomputable def rdNa (p : PNa) (a : ANa) : T (Ex × St) := T.anon (roundX K0 noLoops lpNa [0,6,18,19] SNa [4,5,6] SNax 3000 3000 (mkSt [0,6,18,19] (keysR SNa) 3000 42 (vsNa p a) (bsNa p a)))
def decNa_v0 : V → Option ((ByteArray))
  | .s (.str s) => some (s)
  | _ => none
theorem decNa_v0_ok (b : V) (x0 : (ByteArray)) (h : decNa_v0 b = some x0) : b = .s (.str (x0)) := by
  unfold decNa_v0 at h
  split at h
  · cases h
    rfl
  · cases h
def decNa_v1 : V → Option ((Int))
  | .s (.int .i64 n) => some (n)
  | _ => none
theorem decNa_v1_ok (b : V) (x1 : (Int)) (h : decNa_v1 b = some x1) : b = iv (x1) := by
  unfold decNa_v1 at h
  split at h
  · cases h
    rfl
  · cases h
def decNa_v2 : V → Option ((Int))
  | .s (.int .i64 z) => some (z)
  | _ => none
theorem decNa_v2_ok (b : V) (x2 : (Int)) (h : decNa_v2 b = some x2) : b = iv (x2) := by
  unfold decNa_v2 at h
  split at h
  · cases h
    rfl
  · cases h
def decNa_v3 : V → Option ((Int))
  | .s (.int .i64 i) => some (i)
  | _ => none
theorem decNa_v3_ok (b : V) (x3 : (Int)) (h : decNa_v3 b = some x3) : b = iv (x3) := by
  unfold decNa_v3 at h
  split at h
  · cases h
    rfl
  · cases h
def decNa : List V → List Blk → Option (PNa × ANa)
  | [v0, v1, v2, v3], [] => (decNa_v0 v0).bind fun x0 => (decNa_v1 v1).bind fun x1 => (decNa_v2 v2).bind fun x2 => (decNa_v3 v3).bind fun x3 => some (⟨(x0), (x2)⟩, ⟨(x1), (x3)⟩)
  | _, _ => none
theorem decNa_ok (l : List V) (b : List Blk) (d : PNa × ANa) (h : decNa l b = some d) : l = vsNa d.1 d.2 ∧ b = bsNa d.1 d.2 := by
  unfold decNa at h
  split at h
  · obtain ⟨x0, hx0, h⟩ := Option.bind_eq_some_iff.1 h
    obtain ⟨x1, hx1, h⟩ := Option.bind_eq_some_iff.1 h
    obtain ⟨x2, hx2, h⟩ := Option.bind_eq_some_iff.1 h
    obtain ⟨x3, hx3, h⟩ := Option.bind_eq_some_iff.1 h
    have ex0 := decNa_v0_ok _ _ hx0
    have ex1 := decNa_v1_ok _ _ hx1
    have ex2 := decNa_v2_ok _ _ hx2
    have ex3 := decNa_v3_ok _ _ hx3
    cases h
    subst ex0 ex1 ex2 ex3
    exact ⟨rfl, rfl⟩
  · cases h
noncomputable def rgNa : Nat := (firstReg lpNa).getD 0
theorem rgNa_is : firstReg lpNa = some rgNa := by kernel_rfl
noncomputable def lpDe : Code := loopAt Tryd.prog 61 0
structure PDe where 
structure ADe where (n : Int) (s : ByteArray)
abbrev SDe : List (Nat × Src) := []
def vsDe (p : PDe) (a : ADe) : List V := [iv a.n, .s (.str a.s)]
def bsDe (p : PDe) (a : ADe) : List Blk := []
noncomputable def FDe (p : PDe) (a : ADe) : St := mkSt [0,3] (keysR SDe) 3000 22 (vsDe p a) (bsDe p a)
noncomputable def rdDe (p : PDe) (a : ADe) : T (Ex × St) := T.anon (roundN K0 noLoops lpDe [0,3] SDe 3000 3000 (mkSt [0,3] (keysR SDe) 3000 22 (vsDe p a) (bsDe p a)))
def decDe : List V → List Blk → Option (PDe × ADe)
  | [.s (.int .i64 n), .s (.str s)], [] =>
    some (⟨⟩, ⟨n, s⟩)
  | _, _ => none
theorem decDe_ok (l : List V) (b : List Blk) (d : PDe × ADe) (h : decDe l b = some d) : l = vsDe d.1 d.2 ∧ b = bsDe d.1 d.2 := by
  unfold decDe at h
  split at h
  · cases h
    exact ⟨rfl, rfl⟩
  · cases h
noncomputable def rgDe : Nat := (firstReg lpDe).getD 0
theorem rgDe_is : firstReg lpDe = some rgDe := by kernel_rfl
/-! ### a whole number of digits -/
def dig (b : UInt8) : Bool := decide (48 ≤ b.toNat) && decide (b.toNat ≤ 57)
def natL (l : List UInt8) : Int := l.foldl (fun a b => a * 10 + (((b.toNat : Nat) : Int) - 48)) 0
theorem natL_snoc (l : List UInt8) (b : UInt8) : natL (l ++ [b]) = natL l * 10 + (((b.toNat : Nat) : Int) - 48) := by
  unfold natL; rw [List.foldl_append]; rfl
theorem natL_in : ∀ (n : Nat) (l : List UInt8), l.length = n → (∀ b ∈ l, dig b = true) → 0 ≤ natL l ∧ natL l < 10 ^ n
  | 0, l, h, _ => by
    have := List.eq_nil_of_length_eq_zero h
    subst this
    exact ⟨Int.le_refl _, by decide⟩
  | n + 1, l, h, hd => by
    have hne : l ≠ [] := fun q => by rw [q] at h; cases h
    rw [← List.dropLast_concat_getLast hne, natL_snoc]
    have hb := hd _ (List.getLast_mem hne)
    unfold dig at hb
    rw [Bool.and_eq_true, decide_eq_true_eq, decide_eq_true_eq] at hb
    have ih := natL_in n l.dropLast (by rw [List.length_dropLast]; omega) (fun b hb => hd b (List.dropLast_subset l hb))
    have e : (10 : Int) ^ (n + 1) = 10 ^ n * 10 := Int.pow_succ 10 n
    omega
def L8 (s : ByteArray) : List UInt8 := s.data.toList
theorem L8_len (s : ByteArray) : (L8 s).length = s.size := Array.length_toList
def xNa (p : PNa) (a : ANa) : UInt8 := (L8 p.s).getD a.i.toNat 0
theorem byteAt_L8 (s : ByteArray) (i : Int) : byteAt s i = ((((L8 s).getD i.toNat 0).toNat : Nat) : Int) := by
  unfold byteAt L8
  rw [List.getD_eq_getElem?_getD, Array.getElem?_toList, Array.getD_eq_getD_getElem?]
def bN (p : PNa) (a : ANa) : Int := byteAt p.s a.i
def inN (p : PNa) (a : ANa) : Bool := decide (0 ≤ a.i) && decide (a.i < (p.s.size : Int))
def hdN (p : PNa) (a : ANa) (c : Bool) : List (Bool × Bool) := [(decide (a.i < p.z), true), (inN p a, true), (bif decide (bN p a < 48) == false && true then inN p a else true, true), (bif decide (bN p a < 48) then true else decide (57 < bN p a), c)]
def stN (p : PNa) (a : ANa) (x y z : V) : St := mkSt [4, 5, 6] [] 3000 42 [x, y, z] (bsNa p a)
theorem na_n (p : PNa) (a : ANa) : T.path [true, true, true, false, true] (rdNa p a) = some (hdN p a false ++ [(inN p a, true)], (.normal, FNa p ⟨IntKind.wrap .i64 (IntKind.wrap .i64 (a.n * 10) + IntKind.wrap .i64 (IntKind.wrap .u8 (bN p a - 48))), IntKind.wrap .i64 (a.i + 1)⟩)) := by kernel_rfl
theorem na_f (p : PNa) (a : ANa) : T.path [true, true, true, true] (rdNa p a) = some (hdN p a true, (.ret, stN p a (iv 0) (.s (.bool false)) (iv a.n))) := by kernel_rfl
theorem na_x (p : PNa) (a : ANa) : T.path [false] (rdNa p a) = some ([(decide (a.i < p.z), false)], (.exit 0, stN p a .junk .junk (iv a.n))) := by kernel_rfl
theorem wrap64 {n : Int} (h0 : -9223372036854775808 ≤ n) (h1 : n ≤ 9223372036854775807) : IntKind.wrap .i64 n = n := wrap64_in h0 h1
structure okNa (p : PNa) (a : ANa) : Prop where
  z : p.z = (p.s.size : Int)
  z9 : p.z ≤ 9
  i0 : 0 ≤ a.i
  i1 : a.i ≤ p.z
  d : ∀ b ∈ (L8 p.s).take a.i.toNat, dig b = true
  n : a.n = natL ((L8 p.s).take a.i.toNat)
def goNa (p : PNa) (a : ANa) : Bool := decide (a.i < p.z) && dig (xNa p a)
def muNa (p : PNa) (a : ANa) : Nat := (p.z - a.i).toNat
theorem na_hd {p : PNa} {a : ANa} (h : okNa p a) (hi : a.i < p.z) {c : Bool} (hc : (!dig (xNa p a)) = c) : allSay (hdN p a c) := by
  have hin : inN p a = true := by unfold inN; rw [decide_eq_true h.i0, decide_eq_true (show a.i < (p.s.size : Int) by have := h.z; omega)]; rfl
  refine ⟨decide_eq_true hi, hin, by rw [hin]; cases decide (bN p a < 48) <;> rfl, ?_, trivial⟩
  have e : bN p a = (((xNa p a).toNat : Nat) : Int) := byteAt_L8 _ _
  rw [← hc, e]
  unfold dig
  by_cases q : 48 ≤ (xNa p a).toNat
  · rw [decide_eq_true q, decide_eq_false (show ¬ (((xNa p a).toNat : Nat) : Int) < 48 by omega)]
    by_cases r : (xNa p a).toNat ≤ 57
    · rw [decide_eq_true r, decide_eq_false (show ¬ (57 : Int) < (((xNa p a).toNat : Nat) : Int) by omega)]; rfl
    · rw [decide_eq_false r, decide_eq_true (show (57 : Int) < (((xNa p a).toNat : Nat) : Int) by omega)]; rfl
  · rw [decide_eq_false q, decide_eq_true (show (((xNa p a).toNat : Nat) : Int) < 48 by omega)]; rfl
theorem take_nextT {α : Type} {l : List α} {i : Int} (h0 : 0 ≤ i) (hl : i.toNat < l.length) : l.take (i + 1).toNat = l.take i.toNat ++ [l[i.toNat]] := by
  rw [show (i + 1).toNat = i.toNat + 1 by omega, List.take_succ_eq_append_getElem hl]
theorem stepNa (p : PNa) (a : ANa) (h : okNa p a) (hg : goNa p a = true) : ∃ b, stepC okNa rdNa FNa muNa p a b := by
  unfold goNa at hg
  rw [Bool.and_eq_true, decide_eq_true_eq] at hg
  obtain ⟨hi, hd⟩ := hg
  have hh := na_hd h hi (c := false) (by rw [hd]; rfl)
  have hin : inN p a = true := hh.2.1
  obtain ⟨h1, h2, h3, h4, h5, h6⟩ := h
  have hl : a.i.toNat < (L8 p.s).length := by rw [L8_len]; omega
  have ex : xNa p a = (L8 p.s)[a.i.toNat] := by
    unfold xNa
    rw [List.getD_eq_getElem?_getD, List.getElem?_eq_getElem hl]; rfl
  have e : bN p a = (((xNa p a).toNat : Nat) : Int) := byteAt_L8 _ _
  obtain ⟨q0, q1⟩ := natL_in a.i.toNat ((L8 p.s).take a.i.toNat) (by rw [List.length_take]; omega) h5
  have hq : (10 : Int) ^ a.i.toNat ≤ 10 ^ 9 := by
    have : (10 : Nat) ^ a.i.toNat ≤ 10 ^ 9 := Nat.pow_le_pow_right (by decide) (by omega)
    exact_mod_cast this
  have hq9 : (10 : Int) ^ 9 = 1000000000 := by decide
  rw [← h6] at q0 q1
  have hd' := hd
  unfold dig at hd'
  rw [Bool.and_eq_true, decide_eq_true_eq, decide_eq_true_eq] at hd'
  have way := na_n p a
  rw [wrap64 (n := a.i + 1) (by omega) (by omega), show IntKind.wrap .u8 (bN p a - 48) = (((xNa p a).toNat : Nat) : Int) - 48 by rw [IntKind.wrap_u8, e]; omega, wrap64 (n := a.n * 10) (by omega) (by omega), wrap64 (n := (((xNa p a).toNat : Nat) : Int) - 48) (by omega) (by omega), wrap64 (n := a.n * 10 + ((((xNa p a).toNat : Nat) : Int) - 48)) (by omega) (by omega)] at way
  refine ⟨_, T.path_eval way (allSay_append hh ⟨hin, trivial⟩), ⟨h1, h2, by show 0 ≤ a.i + 1; omega, by show a.i + 1 ≤ p.z; omega, ?_, ?_⟩, by show (p.z - (a.i + 1)).toNat < (p.z - a.i).toNat; omega⟩
  · show ∀ b ∈ (L8 p.s).take (a.i + 1).toNat, dig b = true
    rw [take_nextT h3 hl]
    intro b hb
    rcases List.mem_append.1 hb with q | q
    · exact h5 b q
    · rw [List.mem_singleton.1 q, ← ex]; exact hd
  · show a.n * 10 + ((((xNa p a).toNat : Nat) : Int) - 48) = natL ((L8 p.s).take (a.i + 1).toNat)
    rw [take_nextT h3 hl, natL_snoc, ← h6, ← ex]
noncomputable def outNa (p : PNa) (a : ANa) : T (Ex × St) := .ite none (decide (a.i < p.z)) (.ret (.ret, stN p a (iv 0) (.s (.bool false)) (iv a.n))) (.ret (.exit 0, stN p a .junk .junk (iv a.n)))
theorem exNa (p : PNa) (a : ANa) (h : okNa p a) (hg : goNa p a = false) (r : Ex × St) (hr : (outNa p a).eval = some r) : r.1 ≠ .normal ∧ (rdNa p a).eval = some r := by
  unfold outNa at hr
  by_cases hi : a.i < p.z
  · have hd : dig (xNa p a) = false := by
      unfold goNa at hg
      rw [decide_eq_true hi, Bool.true_and] at hg
      exact hg
    rw [decide_eq_true hi] at hr
    obtain rfl := Option.some.inj hr
    exact ⟨by simp, T.path_eval (na_f p a) (na_hd h hi (by rw [hd]; rfl))⟩
  · rw [decide_eq_false hi] at hr
    obtain rfl := Option.some.inj hr
    exact ⟨by simp, T.path_eval (na_x p a) ⟨decide_eq_false hi, trivial⟩⟩
noncomputable def famNa : LSpec := famE [0,6,18,19] SNa SNax 3000 3000 42 decNa okNa goNa rdNa FNa muNa outNa
theorem lpNa_ok : LoopOk K0 lpNa famNa := famE_ok (vs := vsNa) (bs := bsNa) K0_ok mixed (noLoops_ok _) decNa_ok (fun _ _ => rfl) (fun _ _ => rfl) stepNa exNa
noncomputable def natX : Eng.Spec := execS K0 (byReg [(rgNa, famNa)]) 38
theorem natX_ok : SpecOk Tryd.prog 38 natX := execS_loops K0_ok mixed Tryd.func38 (by kernel_rfl) (by kernel_rfl) (one_lp (by kernel_rfl) rgNa_is lpNa_ok)
noncomputable def eNa (s : ByteArray) : ANa := endW (nxtC okNa goNa rdNa FNa muNa ⟨s, (s.size : Int)⟩) ⟨0, 0⟩
def shK (s : ByteArray) (k : Int) : Bool := bif decide ((s.size : Int) < 1) then true else decide (k < (s.size : Int))
def kV (e : Bool) (k : Int) : V := match e with
  | true => .n .i64 k
  | false => iv k
theorem nat_t (e : Bool) (s : ByteArray) (k : Int) : T.path [true] (T.anon (natX [.s (.str s), kV e k])) = some ([(shK s k, true)], .tup [iv 0, .ff]) := by cases e <;> kernel_rfl
theorem nat_f (e : Bool) (s : ByteArray) (k : Int) : T.path [false, true, true] (T.anon (natX [.s (.str s), kV e k])) = some ([(shK s k, false), (invC okNa ⟨s, (s.size : Int)⟩ ⟨0, 0⟩, true), (decide ((eNa s).i < (s.size : Int)), true)], .tup [iv 0, .s (.bool false)]) := by cases e <;> kernel_rfl
theorem nat_n (e : Bool) (s : ByteArray) (k : Int) : T.path [false, true, false] (T.anon (natX [.s (.str s), kV e k])) = some ([(shK s k, false), (invC okNa ⟨s, (s.size : Int)⟩ ⟨0, 0⟩, true), (decide ((eNa s).i < (s.size : Int)), false)], .tup [iv (eNa s).n, .tt]) := by cases e <;> kernel_rfl
def natO (l : List UInt8) (k : Int) : Bool := decide (1 ≤ l.length) && (decide ((l.length : Int) ≤ k) && l.all dig)
def natI (l : List UInt8) (k : Int) : Int := bif natO l k then natL l else 0
def natV (s : ByteArray) (k : Int) : V := .tup [iv (natI (L8 s) k), .s (.bool (natO (L8 s) k))]
theorem nat_run (e : Bool) (s : ByteArray) {k : Int} (hk : k ≤ 9) : ∃ v, (natX [.s (.str s), kV e k]).eval = some v ∧ flat v = true ∧ v.den nu0 = (natV s k).den nu0 := by
  rw [← T.eval_anon (t := natX _)]
  unfold natV natI
  cases hs : shK s k with
  | true =>
    refine ⟨_, T.path_eval (nat_t e s k) ⟨hs, trivial⟩, rfl, ?_⟩
    have : natO (L8 s) k = false := by
      unfold natO; rw [L8_len]
      unfold shK at hs
      by_cases q : (s.size : Int) < 1
      · rw [decide_eq_false (show ¬ 1 ≤ s.size by omega)]; rfl
      · rw [decide_eq_false q] at hs
        have hs : k < (s.size : Int) := of_decide_eq_true hs
        rw [decide_eq_false (show ¬ (s.size : Int) ≤ k by omega)]; simp
    rw [this]; rfl
  | false =>
    have h1 : 1 ≤ s.size ∧ (s.size : Int) ≤ k := by
      unfold shK at hs
      by_cases q : (s.size : Int) < 1
      · rw [decide_eq_true q] at hs; cases hs
      · rw [decide_eq_false q] at hs
        have hs : ¬ k < (s.size : Int) := of_decide_eq_false hs
        omega
    have h0 : okNa ⟨s, (s.size : Int)⟩ ⟨0, 0⟩ := ⟨rfl, by show (s.size : Int) ≤ 9; omega, Int.le_refl _, by show (0 : Int) ≤ (s.size : Int); omega, fun b hb => by
      have hb : b ∈ (L8 s).take 0 := hb
      simp at hb, by show (0 : Int) = natL ((L8 s).take 0); rfl⟩
    obtain ⟨k1, k2⟩ := endC stepNa h0
    have k1 : okNa ⟨s, (s.size : Int)⟩ (eNa s) := k1
    have k2 : goNa ⟨s, (s.size : Int)⟩ (eNa s) = false := k2
    obtain ⟨-, -, i0, i1, hd, hn⟩ := k1
    have i1 : (eNa s).i ≤ (s.size : Int) := i1
    have hd : ∀ b ∈ (L8 s).take (eNa s).i.toNat, dig b = true := hd
    have hn : (eNa s).n = natL ((L8 s).take (eNa s).i.toNat) := hn
    by_cases hi : (eNa s).i < (s.size : Int)
    · refine ⟨_, T.path_eval (nat_f e s k) ⟨hs, invC_is h0, decide_eq_true hi, trivial⟩, rfl, ?_⟩
      have hx : dig (xNa ⟨s, (s.size : Int)⟩ (eNa s)) = false := by
        unfold goNa at k2
        rw [decide_eq_true (show (eNa s).i < PNa.z ⟨s, (s.size : Int)⟩ from hi), Bool.true_and] at k2
        exact k2
      have hl : (eNa s).i.toNat < (L8 s).length := by rw [L8_len]; omega
      have ex : xNa ⟨s, (s.size : Int)⟩ (eNa s) = (L8 s)[(eNa s).i.toNat] := by
        unfold xNa
        rw [List.getD_eq_getElem?_getD]
        show ((L8 s)[(eNa s).i.toNat]?).getD 0 = _
        rw [List.getElem?_eq_getElem hl]; rfl
      have : (L8 s).all dig = false := by
        rw [List.all_eq_false]
        exact ⟨_, List.getElem_mem hl, by rw [← ex, hx]; simp⟩
      have : natO (L8 s) k = false := by unfold natO; rw [this]; simp
      rw [this]; rfl
    · refine ⟨_, T.path_eval (nat_n e s k) ⟨hs, invC_is h0, decide_eq_false hi, trivial⟩, rfl, ?_⟩
      rw [show (eNa s).i.toNat = (L8 s).length by rw [L8_len]; omega, List.take_length] at hd hn
      have : natO (L8 s) k = true := by
        unfold natO
        rw [List.all_eq_true.2 hd, L8_len, decide_eq_true h1.1, decide_eq_true h1.2]; rfl
      rw [this, hn]; rfl
def natS : Eng.Spec
  | [.s (.str s), .n .i64 k] => .ite none (decide (k ≤ 9)) (.ret (natV s k)) .fail
  | [.s (.str s), .s (.int .i64 k)] => .ite none (decide (k ≤ 9)) (.ret (natV s k)) .fail
  | _ => .fail
theorem natS_ok : SpecOk Tryd.prog 38 natS := natX_ok.of_den fun args v hfl h => by
  clear hfl
  unfold natS at h
  split at h
  · rename_i s k
    obtain ⟨hb, h⟩ := ite_T' h
    obtain rfl := Option.some.inj h
    obtain ⟨v, h1, h2, h3⟩ := nat_run true s (of_decide_eq_true hb)
    exact ⟨v, h1, ⟨h2, rfl⟩, h3⟩
  · rename_i s k
    obtain ⟨hb, h⟩ := ite_T' h
    obtain rfl := Option.some.inj h
    obtain ⟨v, h1, h2, h3⟩ := nat_run false s (of_decide_eq_true hb)
    exact ⟨v, h1, ⟨h2, rfl⟩, h3⟩
  · cases h
/-! ### the document's digits -/
abbrev ten : ByteArray := ⟨#[48, 49, 50, 51, 52, 53, 54, 55, 56, 57]⟩
theorem ten_at : ∀ i : Nat, i < 10 → ten.extract i (i + 1) = ⟨#[UInt8.ofNat (48 + i)]⟩
  | 0, _ => rfl
  | 1, _ => rfl
  | 2, _ => rfl
  | 3, _ => rfl
  | 4, _ => rfl
  | 5, _ => rfl
  | 6, _ => rfl
  | 7, _ => rfl
  | 8, _ => rfl
  | 9, _ => rfl
  | n + 10, h => by omega
def dgB (i : Int) : ByteArray := ten.extract i.toNat (IntKind.wrap .i64 (i + 1)).toNat
theorem dgB_is {i : Int} (h0 : 0 ≤ i) (h1 : i < 10) : dgB i = ⟨#[UInt8.ofNat (48 + i.toNat)]⟩ := by
  unfold dgB
  rw [wrap64 (by omega) (by omega), show (i + 1).toNat = i.toNat + 1 by omega]
  exact ten_at _ (by omega)
def cutC (i : Int) : Bool := decide (0 ≤ i) && (decide (i ≤ IntKind.wrap .i64 (i + 1)) && decide (IntKind.wrap .i64 (i + 1) ≤ (ten.size : Int)))
theorem cutC_is {i : Int} (h0 : 0 ≤ i) (h1 : i < 10) : cutC i = true := by
  unfold cutC
  rw [wrap64 (by omega) (by omega), decide_eq_true h0, decide_eq_true (show i ≤ i + 1 by omega), decide_eq_true (show i + 1 ≤ (ten.size : Int) by show i + 1 ≤ 10; omega)]; rfl
def over (n : Nat) : Bool := decide ((n : Int) > IntKind.max .i64)
theorem over_no {n : Nat} (h : n ≤ 9000000000) : over n = false := by
  have : IntKind.max .i64 = 9223372036854775807 := by decide
  unfold over; rw [this]; exact decide_eq_false (by omega)
theorem de_n (p : PDe) (a : ADe) : T.path [true, false, false, true, false, false] (rdDe p a) = some ([(decide ((9 : Int) < a.n), true), ((10 : Int) == 0, false), ((10 : Int) == 0, false), (cutC (Int.tmod a.n 10), true), (over ((dgB (Int.tmod a.n 10)).size + a.s.size), false), ((10 : Int) == 0, false)], (.normal, FDe p ⟨IntKind.wrap .i64 (Int.tdiv a.n 10), dgB (Int.tmod a.n 10) ++ a.s⟩)) := by kernel_rfl
theorem de_x (p : PDe) (a : ADe) : T.path [false] (rdDe p a) = some ([(decide ((9 : Int) < a.n), false)], (.exit 0, FDe p a)) := by kernel_rfl
structure okDe (p : PDe) (a : ADe) : Prop where
  n0 : 0 ≤ a.n
  k : ∃ k : Nat, k + a.s.size = 19 ∧ a.n < 10 ^ k
def goDe (p : PDe) (a : ADe) : Bool := decide ((9 : Int) < a.n)
def muDe (p : PDe) (a : ADe) : Nat := a.n.toNat
def nxDe (a : ADe) : ADe := ⟨a.n / 10, ⟨#[UInt8.ofNat (48 + (a.n % 10).toNat)]⟩ ++ a.s⟩
theorem de_on {p : PDe} {a : ADe} (h : okDe p a) (hg : goDe p a = true) : (rdDe p a).eval = some (.normal, FDe p (nxDe a)) ∧ okDe p (nxDe a) := by
  have hn : 9 < a.n := of_decide_eq_true hg
  obtain ⟨h0, k, h1, h2⟩ := h
  have e1 : Int.tmod a.n 10 = a.n % 10 := Int.tmod_eq_emod_of_nonneg h0
  have e2 : Int.tdiv a.n 10 = a.n / 10 := Int.tdiv_eq_ediv_of_nonneg h0
  obtain ⟨m, rfl⟩ : ∃ m, k = m + 1 := by
    cases k with
    | zero => simp at h2; omega
    | succ m => exact ⟨m, rfl⟩
  have e3 : (10 : Int) ^ (m + 1) = 10 ^ m * 10 := Int.pow_succ 10 m
  have hb : (10 : Int) ^ (m + 1) ≤ 10 ^ 19 := by
    have : (10 : Nat) ^ (m + 1) ≤ 10 ^ 19 := Nat.pow_le_pow_right (by decide) (by omega)
    exact_mod_cast this
  have hb9 : (10 : Int) ^ 19 = 10000000000000000000 := by decide
  have way := de_n p a
  rw [e1, e2, dgB_is (show 0 ≤ a.n % 10 by omega) (by omega), wrap64 (n := a.n / 10) (by omega) (by omega)] at way
  have sz1 : (⟨#[UInt8.ofNat (48 + (a.n % 10).toNat)]⟩ : ByteArray).size = 1 := rfl
  refine ⟨T.path_eval way ⟨hg, rfl, rfl, cutC_is (by omega) (by omega), over_no (by rw [sz1]; omega), rfl, trivial⟩, by show 0 ≤ a.n / 10; omega, m, ?_, ?_⟩
  · show m + (⟨#[UInt8.ofNat (48 + (a.n % 10).toNat)]⟩ ++ a.s : ByteArray).size = 19
    rw [ByteArray.size_append, sz1]; omega
  · show a.n / 10 < 10 ^ m
    omega
theorem stepDe (p : PDe) (a : ADe) (h : okDe p a) (hg : goDe p a = true) : ∃ b, stepC okDe rdDe FDe muDe p a b := by
  obtain ⟨r1, r2⟩ := de_on h hg
  have hn : 9 < a.n := of_decide_eq_true hg
  exact ⟨_, r1, r2, by show (a.n / 10).toNat < a.n.toNat; omega⟩
theorem exDe (p : PDe) (a : ADe) (h : okDe p a) (hg : goDe p a = false) : (rdDe p a).eval = some (.exit 0, FDe p a) := T.path_eval (de_x p a) ⟨hg, trivial⟩
noncomputable def famDe : LSpec := famC [0,3] SDe 3000 3000 22 decDe okDe goDe rdDe FDe muDe (.exit 0)
theorem lpDe_ok : LoopOk K0 lpDe famDe := famC_ok (vs := vsDe) (bs := bsDe) K0_ok mixed (noLoops_ok _) decDe_ok (by simp) (fun _ _ => rfl) (fun _ _ => rfl) stepDe exDe
noncomputable def decX : Eng.Spec := execS K0 (byReg [(rgDe, famDe)]) 61
theorem decX_ok : SpecOk Tryd.prog 61 decX := execS_loops K0_ok mixed Tryd.func61 (by kernel_rfl) (by kernel_rfl) (one_lp (by kernel_rfl) rgDe_is lpDe_ok)
theorem FDe_inj {p : PDe} {a b : ADe} (h : FDe p a = FDe p b) : a = b := by
  have h : (mkSt [0, 3] (keysR SDe) 3000 22 (vsDe p a) (bsDe p a)).tmps = (mkSt [0, 3] (keysR SDe) 3000 22 (vsDe p b) (bsDe p b)).tmps := congrArg St.tmps h
  have h : [(0, iv a.n), (3, V.s (.str a.s))] = [(0, iv b.n), (3, V.s (.str b.s))] := h
  obtain ⟨n, s⟩ := a
  obtain ⟨m, t⟩ := b
  unfold iv at h
  simp only [List.cons.injEq, Prod.mk.injEq, V.s.injEq, S.int.injEq, S.str.injEq, true_and, and_true] at h
  obtain ⟨rfl, rfl⟩ := h
  rfl
noncomputable def eDe (n : Int) : ADe := endW (nxtC okDe goDe rdDe FDe muDe ⟨⟩) ⟨n, ⟨#[]⟩⟩
theorem dec_w (n : Int) : T.path [true, true, false] (T.anon (decX [.s (.int .i64 n)])) = some ([(invC okDe ⟨⟩ ⟨n, ⟨#[]⟩⟩, true), (cutC (eDe n).n, true), (over ((dgB (eDe n).n).size + (eDe n).s.size), false)], .s (.str (dgB (eDe n).n ++ (eDe n).s))) := by kernel_rfl
theorem L8_append (a b : ByteArray) : L8 (a ++ b) = L8 a ++ L8 b := by
  unfold L8
  rw [ByteArray.data_append, Array.toList_append]
theorem of_L8 {a b : ByteArray} (h : L8 a = L8 b) : a = b := ByteArray.ext (Array.ext' h)
theorem dec_end {n : Int} (h0 : 0 ≤ n) (h1 : n ≤ 9223372036854775807) : okDe ⟨⟩ (eDe n) ∧ (eDe n).n ≤ 9 ∧ Lib.decDigits (eDe n).n.toNat ++ L8 (eDe n).s = Lib.decDigits n.toNat ∧ invC okDe ⟨⟩ ⟨n, ⟨#[]⟩⟩ = true := by
  have h0' : okDe ⟨⟩ ⟨n, ⟨#[]⟩⟩ := ⟨h0, 19, rfl, by
    have : (10 : Int) ^ 19 = 10000000000000000000 := by decide
    show n < 10 ^ 19
    omega⟩
  obtain ⟨k1, k2, k3⟩ := endW_says (nxt := nxtC okDe goDe rdDe FDe muDe ⟨⟩) (I := fun a => okDe ⟨⟩ a) (μ := muDe ⟨⟩) (fun a b _ e => (nxtC_some e).2.2) h0'
  have k1 : okDe ⟨⟩ (eDe n) := k1
  have g : goDe ⟨⟩ (eDe n) = false := nxtC_none stepDe k1 k2
  refine ⟨k1, by have := of_decide_eq_false g; omega, ?_, invC_is h0'⟩
  refine k3 (fun a => Lib.decDigits a.n.toNat ++ L8 a.s = Lib.decDigits n.toNat) (by show Lib.decDigits n.toNat ++ [] = _; rw [List.append_nil]) ?_
  intro a b ha hq e
  obtain ⟨eg, es⟩ := nxtC_some e
  obtain ⟨r1, -⟩ := de_on ha eg
  have hn : 9 < a.n := of_decide_eq_true eg
  have : b = nxDe a := by
    have := es.1.symm.trans r1
    exact FDe_inj (by
      have := Option.some.inj this
      exact congrArg Prod.snd this)
  subst this
  show Lib.decDigits (a.n / 10).toNat ++ L8 (⟨#[UInt8.ofNat (48 + (a.n % 10).toNat)]⟩ ++ a.s) = _
  rw [← hq, L8_append]
  conv => rhs; rw [Lib.decDigits, dif_neg (show ¬ a.n.toNat < 10 by omega)]
  rw [show (a.n / 10).toNat = a.n.toNat / 10 by omega, show (a.n % 10).toNat = a.n.toNat % 10 by omega, List.append_assoc]
  rfl
theorem dec_run {n : Int} (h0 : 0 ≤ n) (h1 : n ≤ 9223372036854775807) : (decX [.s (.int .i64 n)]).eval = some (.s (.str (itoaB n))) := by
  rw [← T.eval_anon (t := decX _)]
  obtain ⟨k1, k2, k3, k4⟩ := dec_end h0 h1
  have e := dgB_is k1.n0 (by omega)
  have sz1 : (dgB (eDe n).n).size = 1 := by rw [e]; rfl
  rw [T.path_eval (dec_w n) ⟨k4, cutC_is k1.n0 (by omega), over_no (by obtain ⟨_, k, hk, _⟩ := k1; rw [sz1]; omega), trivial⟩]
  congr 3
  refine of_L8 ?_
  rw [L8_append, e]
  have : L8 (itoaB n) = itoaL n := rfl
  rw [this, ← itoaL_is (by unfold in64; rw [decide_eq_true (show -9223372036854775808 ≤ n by omega), decide_eq_true h1]; rfl)]
  unfold Lib.itoa
  rw [if_neg (by omega), ← k3]
  conv => rhs; rw [Lib.decDigits, dif_pos (show (eDe n).n.toNat < 10 by omega)]
  rfl
def decS : Eng.Spec
  | [.s (.int .i64 n)] => .ite none (decide (0 ≤ n) && decide (n ≤ 9223372036854775807)) (.ret (.s (.str (itoaB n)))) .fail
  | _ => .fail
theorem decS_ok : SpecOk Tryd.prog 61 decS := decX_ok.of_den fun args v hfl h => by
  clear hfl
  unfold decS at h
  split at h
  · rename_i n
    obtain ⟨hb, h⟩ := ite_T' h
    rw [Bool.and_eq_true, decide_eq_true_eq, decide_eq_true_eq] at hb
    obtain rfl := Option.some.inj h
    exact ⟨_, dec_run hb.1 hb.2, ⟨rfl, rfl⟩, rfl⟩
  · cases h
end Go.Proofs.YtndcealgackgiaaDoor.Txt

/- Layer 27: the library's Join; what is told of a few: closed runs. -/
namespace Go.Proofs.YtndcealgackgiaaDoor.Rep
set_option linter.unusedSectionVars false
variable [Go.Eng.GW]
open Go.Eng Go.RowKit Go.Proofs.YtndcealgackgiaaDoor.Txt
set_option linter.unusedVariables false
set_option linter.unusedSimpArgs false
set_option maxRecDepth 100000
/-- texts, one behind the other, with another between -/
def joinF : List (List UInt8) → List UInt8 → List UInt8
  | [], _ => []
  | [x], _ => x
  | x :: y :: r, s => x ++ (s ++ joinF (y :: r) s)
theorem joinF_is : ∀ (xs : List (List UInt8)) (s : List UInt8), Lib.join xs s = joinF xs s
  | [], s => rfl
  | [x], s => Lib.join_one x s
  | x :: y :: r, s => by
    show _ = x ++ (s ++ joinF (y :: r) s)
    rw [← joinF_is (y :: r) s, Lib.join_cons, Lib.join_cons]
    simp [Lib.joinTail]
def joV (l : List ByteArray) (s : ByteArray) : ByteArray := byA (joinF (l.map fun x => x.data.toList) s.data.toList)
def joinS : Eng.Spec
  | [.orow t [.str] l, .s (.str s)] => if t = 9 then .ite none (decide (List.length l ≤ 100000) && decide ((joinF (List.map (fun x : ByteArray => x.data.toList) l) s.data.toList).length ≤ 140737488355328)) (.ret (.s (.str (joV l s)))) .fail else .fail
  | _ => .fail
theorem rowsV_str : ∀ (l : List (Row [.str])) (j : Nat) (x : ByteArray), l[j]? = some x → (rowsV [.str] l)[j]? = some (.string x)
  | [], j, x, h => by simp at h
  | a :: r, 0, x, h => by
    rw [rowsV_cons]
    have h : some a = some x := h
    obtain rfl := Option.some.inj h
    rfl
  | a :: r, j + 1, x, h => by
    rw [rowsV_cons]
    exact rowsV_str r j x (by simpa using h)
theorem joinS_ok : SpecOk Tryd.prog 46 joinS := by
  refine ⟨⟨_, Tryd.func46, by kernel_rfl, by kernel_rfl⟩, fun args v xs w hG hrow hv hrv hh => ?_⟩
  unfold joinS at hv
  split at hv
  · rename_i t l s
    split at hv
    · rename_i ht
      subst ht
      obtain ⟨hb, hv⟩ := ite_T' hv
      rw [Bool.and_eq_true, decide_eq_true_eq, decide_eq_true_eq] at hb
      obtain ⟨h1, h2⟩ := hb
      obtain rfl := Option.some.inj hv
      obtain ⟨x, rfl, hx⟩ : ∃ x, xs = [x, .string s] ∧ holdsP 0 w (.orow 9 [.str] l) x := by
        match xs, hh with
        | [], hh => exact hh.elim
        | [x], hh => exact hh.2.elim
        | [x, y], hh => exact ⟨x, by rw [show y = .string s from (holdsP_flat (v := .s (.str s)) rfl).1 hh.2.1], hh.1⟩
        | _ :: _ :: _ :: _, hh => exact hh.2.2.elim
      obtain ⟨at_, cap, rfl, ⟨hc, hc0⟩, hr⟩ := hx
      have key : Calls Tryd.prog 46 #[.slice at_ l.length cap, .string s] w fun e w' => e = .returned (.string (joV l s)) ∧ Below w.heap.size w w' := by
        cases l with
        | nil =>
          refine (Any.strings_Join_none Tryd.lays156 Tryd.Builder_Extra_156 at_ cap s w).mono ?_
          rintro e w' ⟨rfl, rfl⟩
          exact ⟨rfl, Below.refl _ _⟩
        | cons a r =>
          obtain ⟨b0, hb0, hcell⟩ := hr 0 _ (rowsV_str (a :: r) 0 a rfl)
          obtain ⟨bk, o, sp⟩ := b0
          have hlt := cell_lt hcell
          rw [add_block] at hlt
          have hsp : sp = none := by
            cases sp with
            | none => rfl
            | some q =>
              exfalso
              have e0 : (Addr.mk bk o (some q)).add 0 = ⟨bk, o, some q⟩ := by unfold Addr.add; simp
              rw [e0] at hcell
              unfold World.cell? at hcell
              split at hcell
              · simp at hcell
              · cases hcell
          subst hsp
          subst hb0
          have cj := Any.strings_Join Tryd.lays156 Tryd.Builder_Extra_156 bk o cap (a :: r) s w (fun j x hj => by
            obtain ⟨b1, hb1, hc1⟩ := hr j _ (rowsV_str (a :: r) j x hj)
            cases hb1
            rw [addr_add] at hc1; exact hc1) hlt (Nat.le_trans h1 (by decide)) hc (by rw [joinF_is]; exact h2)
          refine cj.mono ?_
          rintro e w' ⟨rfl, hw⟩
          refine ⟨?_, hw⟩
          rw [joinF_is]; rfl
      refine key.mono ?_
      rintro e w' ⟨rfl, hw⟩
      exact ⟨_, rfl, (holds_flat (v := .s (.str (joV l s))) rfl).2 rfl, hw⟩
    · cases hv
  · cases hv
theorem mixed : Tryd.prog.follows .mixedOrders = true := by kernel_rfl
theorem eA : EOk Tryd.prog [anyK] := ⟨⟨by kernel_rfl, by kernel_rfl⟩, trivial⟩
noncomputable def R0 : Cfg := ⟨Tryd.prog, lookG [(45, .val itoaS), (43, .val fmtS), (46, .val joinS)], [anyK], 0⟩
theorem R0_ok : R0.Ok := Cfg.ok ⟨itoaS_ok, fmtS_ok, joinS_ok, trivial⟩ eA
noncomputable def jnX : Eng.Spec := execS R0 (rounds R0 9 1) 23
theorem jnX_ok : SpecOk Tryd.prog 23 jnX := execS_rounds R0_ok mixed 9 1 Tryd.func23 (by kernel_rfl) (by kernel_rfl)
noncomputable def R1 : Cfg := ⟨Tryd.prog, lookG [(23, .val jnX)], [anyK], 0⟩
theorem R1_ok : R1.Ok := Cfg.ok ⟨jnX_ok, trivial⟩ eA
noncomputable def lnE : Eng.Obj := execO R1 (rounds R1 4 1) 10
theorem lnE_ok : ObjOk Tryd.prog 10 lnE := execO_rounds R1_ok mixed 4 1 Tryd.func10 (by kernel_rfl) (by kernel_rfl)
noncomputable def smE : Eng.Obj := execO R1 (rounds R1 4 1) 12
theorem smE_ok : ObjOk Tryd.prog 12 smE := execO_rounds R1_ok mixed 4 1 Tryd.func12 (by kernel_rfl) (by kernel_rfl)
noncomputable def enE : Eng.Obj := execO R1 (rounds R1 4 1) 14
theorem enE_ok : ObjOk Tryd.prog 14 enE := execO_rounds R1_ok mixed 4 1 Tryd.func14 (by kernel_rfl) (by kernel_rfl)
noncomputable def R2 : Cfg := ⟨Tryd.prog, lookG [(10, .obj (Eng.Obj.plain lnE)), (12, .obj (Eng.Obj.plain smE)), (14, .obj (Eng.Obj.plain enE))], [anyK], 0⟩
theorem R2_ok : R2.Ok := Cfg.ok ⟨lnE_ok.plain, smE_ok.plain, enE_ok.plain, trivial⟩ eA
noncomputable def rtX : Eng.Spec := execS R2 noLoops 9
theorem rtX_ok : SpecOk Tryd.prog 9 rtX := execS_plain R2_ok mixed Tryd.func9 (by kernel_rfl) (by kernel_rfl)
end Go.Proofs.YtndcealgackgiaaDoor.Rep

/- Layer 27: what is told of a few, run. -/
namespace Go.Proofs.YtndcealgackgiaaDoor.Rep
set_option linter.unusedSectionVars false
variable [Go.Eng.GW]
open Go.Eng Go.RowKit Go.Proofs.YtndcealgackgiaaDoor.Txt
set_option linter.unusedVariables false
set_option linter.unusedSimpArgs false
set_option maxRecDepth 100000
theorem rt_run : (rtX []).eval = some (.s (.bool true)) := by kernel_rfl
def rtS : Eng.Spec
  | [] => .ret (.s (.bool true))
  | _ => .fail
theorem rtS_ok : SpecOk Tryd.prog 9 rtS := rtX_ok.of_den fun args v hfl h => by
  clear hfl
  unfold rtS at h
  split at h
  · obtain rfl := Option.some.inj h
    exact ⟨_, rt_run, ⟨rfl, rfl⟩, rfl⟩
  · cases h
end Go.Proofs.YtndcealgackgiaaDoor.Rep

