import Derived.Shelf.Strings.Builder1
import Derived.Shelf.Strings.Builder2
import Derived.Shelf.Strings.OnBuilder
import Derived.Shelf.Strings.Trim
import Derived.Shelf.Small.Utf8
import Derived.Shelf.Small.Strs
import Derived.Shelf.Small.Wraps
import Derived.Shelf.Strconv.Itoa0
import Derived.Shelf.Strconv.Itoa1
import Derived.Shelf.LaysM
import Derived.Shelf.Strconv.Itoa2
import Derived.Shelf.Strconv.Itoa3
import Derived.Shelf.Strconv.Itoa4
import Derived.Shelf.Strings.Search1
import Derived.Shelf.Strings.Search2
import Derived.Shelf.Strings.Cut
import Derived.Shelf.Strings.Shaped
import Derived.Shelf.Strings.Prefix
import Derived.Shelf.Strings.Runes
import Derived.Shelf.Strings.AsciiSet
import Derived.Shelf.Unicode.DecodeSlow
import Derived.Shelf.Slices.Turned
import Derived.Test.YtndcealgackgiaaDoorProg
import Derived.Lib.AppendIntMem
import Derived.Laws.Strings
import Derived.Test.YtndcealgackgiaaDoorGJ
/- The library's functions that this program calls, told to be those that the library's contracts speak of. -/
namespace Go.Proofs
open Go.Shelf
def Tryd.lays169_ren : Go.Shelf.Ren := ⟨fun | 169 => 42 | n => n, fun | 70 => 78 | 9 => 9 | 0 => 0 | 72 => 81 | 37 => 79 | 127 => 105 | 3 => 3 | 5 => 5 | n => n, fun | n => n⟩
theorem Tryd.lays169 : Go.Proofs.Lays.n169 Tryd.prog Tryd.lays169_ren := {
  mixed := by kernel_rfl
  f169 := Tryd.func42.trans (congrArg some (by kernel_rfl))
  t0 := Tryd.underlying0
  a0 := Tryd.isAgg0
  z0 := Tryd.sizeOf0
  v0 := Tryd.zeroValue0
  t3 := Tryd.underlying3
  a3 := Tryd.isAgg3
  z3 := Tryd.sizeOf3
  v3 := Tryd.zeroValue3
  t9 := Tryd.underlying9
  a9 := Tryd.isAgg9
  z9 := Tryd.sizeOf9
  v9 := Tryd.zeroValue9
  t37 := Tryd.underlying79
  a37 := Tryd.isAgg79
  z37 := Tryd.sizeOf79
  v37 := Tryd.zeroValue79
  t70 := Tryd.underlying78
  a70 := Tryd.isAgg78
  z70 := Tryd.sizeOf78
  v70 := Tryd.zeroValue78
  t72 := Tryd.underlying81
  a72 := Tryd.isAgg81
  z72 := Tryd.sizeOf81
  v72 := Tryd.zeroValue81
  t127 := Tryd.underlying105
  a127 := Tryd.isAgg105
  z127 := Tryd.sizeOf105
  v127 := Tryd.zeroValue105 }
theorem Tryd.Builder_Extra_169 : Builder.Extra Tryd.prog Tryd.lays169_ren := {
  sizeBuilder := by kernel_rfl
  liesBuilder := by kernel_rfl
  t5 := Tryd.underlying5
  a5 := Tryd.isAgg5
  z5 := Tryd.sizeOf5
  v5 := Tryd.zeroValue5
  infoByte := by kernel_rfl
  cellsByte := by kernel_rfl
  sizeByte := by kernel_rfl
  neB5 := by decide }
def Tryd.lays156_ren : Go.Shelf.Ren := ⟨fun | 156 => 46 | 165 => 60 | 166 => 40 | 169 => 42 | 240 => 57 | 241 => 75 | 276 => 70 | 277 => 85 | n => n, fun | 31 => 22 | 9 => 9 | 3 => 3 | 4 => 4 | 0 => 0 | 20 => 20 | 72 => 81 | 76 => 85 | 70 => 78 | 37 => 79 | 75 => 84 | 127 => 105 | 164 => 111 | 5 => 5 | 80 => 88 | n => n, fun | n => n⟩
theorem Tryd.lays156 : Go.Proofs.Lays.n156 Tryd.prog Tryd.lays156_ren := {
  mixed := by kernel_rfl
  f156 := Tryd.func46.trans (congrArg some (by kernel_rfl))
  f165 := Tryd.func60.trans (congrArg some (by kernel_rfl))
  f166 := Tryd.func40.trans (congrArg some (by kernel_rfl))
  f169 := Tryd.func42.trans (congrArg some (by kernel_rfl))
  f240 := Tryd.func57.trans (congrArg some (by kernel_rfl))
  f241 := Tryd.func75.trans (congrArg some (by kernel_rfl))
  f276 := Tryd.func70.trans (congrArg some (by kernel_rfl))
  f277 := Tryd.func85.trans (congrArg some (by kernel_rfl))
  t0 := Tryd.underlying0
  a0 := Tryd.isAgg0
  z0 := Tryd.sizeOf0
  v0 := Tryd.zeroValue0
  t3 := Tryd.underlying3
  a3 := Tryd.isAgg3
  z3 := Tryd.sizeOf3
  v3 := Tryd.zeroValue3
  t4 := Tryd.underlying4
  a4 := Tryd.isAgg4
  z4 := Tryd.sizeOf4
  v4 := Tryd.zeroValue4
  t9 := Tryd.underlying9
  a9 := Tryd.isAgg9
  z9 := Tryd.sizeOf9
  v9 := Tryd.zeroValue9
  t20 := Tryd.underlying20
  a20 := Tryd.isAgg20
  z20 := Tryd.sizeOf20
  v20 := Tryd.zeroValue20
  t31 := Tryd.underlying22
  a31 := Tryd.isAgg22
  z31 := Tryd.sizeOf22
  v31 := Tryd.zeroValue22
  t37 := Tryd.underlying79
  a37 := Tryd.isAgg79
  z37 := Tryd.sizeOf79
  v37 := Tryd.zeroValue79
  t70 := Tryd.underlying78
  a70 := Tryd.isAgg78
  z70 := Tryd.sizeOf78
  v70 := Tryd.zeroValue78
  t72 := Tryd.underlying81
  a72 := Tryd.isAgg81
  z72 := Tryd.sizeOf81
  v72 := Tryd.zeroValue81
  t75 := Tryd.underlying84
  a75 := Tryd.isAgg84
  z75 := Tryd.sizeOf84
  v75 := Tryd.zeroValue84
  t76 := Tryd.underlying85
  a76 := Tryd.isAgg85
  z76 := Tryd.sizeOf85
  v76 := Tryd.zeroValue85
  t127 := Tryd.underlying105
  a127 := Tryd.isAgg105
  z127 := Tryd.sizeOf105
  v127 := Tryd.zeroValue105
  t164 := Tryd.underlying111
  a164 := Tryd.isAgg111
  z164 := Tryd.sizeOf111
  v164 := Tryd.zeroValue111 }
theorem Tryd.Builder_Extra_156 : Builder.Extra Tryd.prog Tryd.lays156_ren := {
  sizeBuilder := by kernel_rfl
  liesBuilder := by kernel_rfl
  t5 := Tryd.underlying5
  a5 := Tryd.isAgg5
  z5 := Tryd.sizeOf5
  v5 := Tryd.zeroValue5
  infoByte := by kernel_rfl
  cellsByte := by kernel_rfl
  sizeByte := by kernel_rfl
  neB5 := by decide }
def Tryd.lays162_ren : Go.Shelf.Ren := ⟨fun | 162 => 44 | 232 => 30 | 227 => 31 | 234 => 33 | 236 => 35 | 228 => 50 | 271 => 53 | 151 => 52 | 120 => 68 | 197 => 51 | 152 => 67 | 260 => 66 | 137 => 78 | 119 => 79 | 224 => 64 | 225 => 63 | 217 => 62 | 266 => 76 | n => n, fun | 9 => 9 | 4 => 4 | 3 => 3 | 5 => 5 | 117 => 70 | 116 => 69 | 0 => 0 | 124 => 73 | 21 => 21 | 105 => 100 | 46 => 23 | 119 => 122 | 139 => 125 | 138 => 124 | n => n, fun | 3 => 1 | 4 => 2 | n => n⟩
theorem Tryd.lays162 : Go.Proofs.Lays.n162 Tryd.prog Tryd.lays162_ren := {
  mixed := by kernel_rfl
  f119 := Tryd.func79.trans (congrArg some (by kernel_rfl))
  f120 := Tryd.func68.trans (congrArg some (by kernel_rfl))
  f137 := Tryd.func78.trans (congrArg some (by kernel_rfl))
  f151 := Tryd.func52.trans (congrArg some (by kernel_rfl))
  f152 := Tryd.func67.trans (congrArg some (by kernel_rfl))
  f162 := Tryd.func44.trans (congrArg some (by kernel_rfl))
  f197 := Tryd.func51.trans (congrArg some (by kernel_rfl))
  f217 := Tryd.func62.trans (congrArg some (by kernel_rfl))
  f224 := Tryd.func64.trans (congrArg some (by kernel_rfl))
  f225 := Tryd.func63.trans (congrArg some (by kernel_rfl))
  f227 := Tryd.func31.trans (congrArg some (by kernel_rfl))
  f228 := Tryd.func50.trans (congrArg some (by kernel_rfl))
  f232 := Tryd.func30.trans (congrArg some (by kernel_rfl))
  f234 := Tryd.func33.trans (congrArg some (by kernel_rfl))
  f236 := Tryd.func35.trans (congrArg some (by kernel_rfl))
  f260 := Tryd.func66.trans (congrArg some (by kernel_rfl))
  f266 := Tryd.func76.trans (congrArg some (by kernel_rfl))
  f271 := Tryd.func53.trans (congrArg some (by kernel_rfl))
  t0 := Tryd.underlying0
  a0 := Tryd.isAgg0
  z0 := Tryd.sizeOf0
  v0 := Tryd.zeroValue0
  t3 := Tryd.underlying3
  a3 := Tryd.isAgg3
  z3 := Tryd.sizeOf3
  v3 := Tryd.zeroValue3
  t4 := Tryd.underlying4
  a4 := Tryd.isAgg4
  z4 := Tryd.sizeOf4
  v4 := Tryd.zeroValue4
  t5 := Tryd.underlying5
  a5 := Tryd.isAgg5
  z5 := Tryd.sizeOf5
  v5 := Tryd.zeroValue5
  t9 := Tryd.underlying9
  a9 := Tryd.isAgg9
  z9 := Tryd.sizeOf9
  v9 := Tryd.zeroValue9
  t21 := Tryd.underlying21
  a21 := Tryd.isAgg21
  z21 := Tryd.sizeOf21
  v21 := Tryd.zeroValue21
  t46 := Tryd.underlying23
  a46 := Tryd.isAgg23
  z46 := Tryd.sizeOf23
  v46 := Tryd.zeroValue23
  t105 := Tryd.underlying100
  a105 := Tryd.isAgg100
  z105 := Tryd.sizeOf100
  v105 := Tryd.zeroValue100
  t116 := Tryd.underlying69
  a116 := Tryd.isAgg69
  z116 := Tryd.sizeOf69
  t117 := Tryd.underlying70
  a117 := Tryd.isAgg70
  z117 := Tryd.sizeOf70
  v117 := Tryd.zeroValue70
  t119 := Tryd.underlying122
  a119 := Tryd.isAgg122
  z119 := Tryd.sizeOf122
  t124 := Tryd.underlying73
  a124 := Tryd.isAgg73
  z124 := Tryd.sizeOf73
  v124 := Tryd.zeroValue73
  t138 := Tryd.underlying124
  a138 := Tryd.isAgg124
  z138 := Tryd.sizeOf124
  v138 := Tryd.zeroValue124
  t139 := Tryd.underlying125
  a139 := Tryd.isAgg125
  z139 := Tryd.sizeOf125
  v139 := Tryd.zeroValue125
  g3 := by kernel_rfl
  g4 := by kernel_rfl }
def Tryd.lays160_ren : Go.Shelf.Ren := ⟨fun | 160 => 18 | 232 => 30 | 231 => 29 | 227 => 31 | 234 => 33 | 233 => 32 | 236 => 35 | 235 => 34 | 228 => 50 | 271 => 53 | 151 => 52 | 197 => 51 | 120 => 68 | 152 => 67 | 260 => 66 | 137 => 78 | 119 => 79 | 224 => 64 | 225 => 63 | 217 => 62 | 266 => 76 | n => n, fun | 9 => 9 | 4 => 4 | 3 => 3 | 5 => 5 | 117 => 70 | 116 => 69 | 0 => 0 | 124 => 73 | 21 => 21 | 105 => 100 | 46 => 23 | 119 => 122 | 139 => 125 | 138 => 124 | n => n, fun | 3 => 1 | 4 => 2 | n => n⟩
theorem Tryd.lays160 : Go.Proofs.Lays.n160 Tryd.prog Tryd.lays160_ren := {
  mixed := by kernel_rfl
  f119 := Tryd.func79.trans (congrArg some (by kernel_rfl))
  f120 := Tryd.func68.trans (congrArg some (by kernel_rfl))
  f137 := Tryd.func78.trans (congrArg some (by kernel_rfl))
  f151 := Tryd.func52.trans (congrArg some (by kernel_rfl))
  f152 := Tryd.func67.trans (congrArg some (by kernel_rfl))
  f160 := Tryd.func18.trans (congrArg some (by kernel_rfl))
  f197 := Tryd.func51.trans (congrArg some (by kernel_rfl))
  f217 := Tryd.func62.trans (congrArg some (by kernel_rfl))
  f224 := Tryd.func64.trans (congrArg some (by kernel_rfl))
  f225 := Tryd.func63.trans (congrArg some (by kernel_rfl))
  f227 := Tryd.func31.trans (congrArg some (by kernel_rfl))
  f228 := Tryd.func50.trans (congrArg some (by kernel_rfl))
  f231 := Tryd.func29.trans (congrArg some (by kernel_rfl))
  f232 := Tryd.func30.trans (congrArg some (by kernel_rfl))
  f233 := Tryd.func32.trans (congrArg some (by kernel_rfl))
  f234 := Tryd.func33.trans (congrArg some (by kernel_rfl))
  f235 := Tryd.func34.trans (congrArg some (by kernel_rfl))
  f236 := Tryd.func35.trans (congrArg some (by kernel_rfl))
  f260 := Tryd.func66.trans (congrArg some (by kernel_rfl))
  f266 := Tryd.func76.trans (congrArg some (by kernel_rfl))
  f271 := Tryd.func53.trans (congrArg some (by kernel_rfl))
  t0 := Tryd.underlying0
  a0 := Tryd.isAgg0
  z0 := Tryd.sizeOf0
  v0 := Tryd.zeroValue0
  t3 := Tryd.underlying3
  a3 := Tryd.isAgg3
  z3 := Tryd.sizeOf3
  v3 := Tryd.zeroValue3
  t4 := Tryd.underlying4
  a4 := Tryd.isAgg4
  z4 := Tryd.sizeOf4
  v4 := Tryd.zeroValue4
  t5 := Tryd.underlying5
  a5 := Tryd.isAgg5
  z5 := Tryd.sizeOf5
  v5 := Tryd.zeroValue5
  t9 := Tryd.underlying9
  a9 := Tryd.isAgg9
  z9 := Tryd.sizeOf9
  v9 := Tryd.zeroValue9
  t21 := Tryd.underlying21
  a21 := Tryd.isAgg21
  z21 := Tryd.sizeOf21
  v21 := Tryd.zeroValue21
  t46 := Tryd.underlying23
  a46 := Tryd.isAgg23
  z46 := Tryd.sizeOf23
  v46 := Tryd.zeroValue23
  t105 := Tryd.underlying100
  a105 := Tryd.isAgg100
  z105 := Tryd.sizeOf100
  v105 := Tryd.zeroValue100
  t116 := Tryd.underlying69
  a116 := Tryd.isAgg69
  z116 := Tryd.sizeOf69
  t117 := Tryd.underlying70
  a117 := Tryd.isAgg70
  z117 := Tryd.sizeOf70
  v117 := Tryd.zeroValue70
  t119 := Tryd.underlying122
  a119 := Tryd.isAgg122
  z119 := Tryd.sizeOf122
  t124 := Tryd.underlying73
  a124 := Tryd.isAgg73
  z124 := Tryd.sizeOf73
  v124 := Tryd.zeroValue73
  t138 := Tryd.underlying124
  a138 := Tryd.isAgg124
  z138 := Tryd.sizeOf124
  v138 := Tryd.zeroValue124
  t139 := Tryd.underlying125
  a139 := Tryd.isAgg125
  z139 := Tryd.sizeOf125
  v139 := Tryd.zeroValue125
  g3 := by kernel_rfl
  g4 := by kernel_rfl }
def Tryd.lays103_ren : Go.Shelf.Ren := ⟨fun | 103 => 37 | 210 => 56 | 206 => 69 | n => n, fun | 9 => 9 | 4 => 4 | 24 => 75 | 3 => 3 | n => n, fun | n => n⟩
theorem Tryd.lays103 : Go.Proofs.Lays.n103 Tryd.prog Tryd.lays103_ren := {
  mixed := by kernel_rfl
  f103 := Tryd.func37.trans (congrArg some (by kernel_rfl))
  f206 := Tryd.func69.trans (congrArg some (by kernel_rfl))
  f210 := Tryd.func56.trans (congrArg some (by kernel_rfl))
  t3 := Tryd.underlying3
  a3 := Tryd.isAgg3
  z3 := Tryd.sizeOf3
  v3 := Tryd.zeroValue3
  t4 := Tryd.underlying4
  a4 := Tryd.isAgg4
  z4 := Tryd.sizeOf4
  v4 := Tryd.zeroValue4
  t9 := Tryd.underlying9
  a9 := Tryd.isAgg9
  z9 := Tryd.sizeOf9
  v9 := Tryd.zeroValue9
  t24 := Tryd.underlying75
  a24 := Tryd.isAgg75
  z24 := Tryd.sizeOf75
  v24 := Tryd.zeroValue75 }
def Tryd.laysM171_ren : Go.Shelf.Ren := ⟨fun | 171 => 45 | 243 => 59 | 246 => 58 | 283 => 71 | 284 => 72 | 285 => 73 | 286 => 74 | 129 => 81 | 317 => 80 | 318 => 82 | 319 => 83 | 320 => 84 | 337 => 86 | 338 => 87 | n => n, fun | 3 => 3 | 9 => 9 | 2 => 2 | 4 => 4 | 171 => 113 | 0 => 0 | 53 => 114 | 37 => 79 | 5 => 5 | 173 => 117 | 212 => 128 | 51 => 119 | 20 => 20 | 213 => 129 | 46 => 23 | 232 => 134 | 233 => 135 | n => n, fun | 17 => 3 | 18 => 4 | 19 => 5 | n => n⟩
theorem Tryd.laysM171 : Go.Proofs.LaysM.n171 Tryd.prog Tryd.laysM171_ren := {
  mixed := by kernel_rfl
  f129 := Tryd.func81.trans (congrArg some (by kernel_rfl))
  f171 := Tryd.func45.trans (congrArg some (by kernel_rfl))
  f243 := Tryd.func59.trans (congrArg some (by kernel_rfl))
  f246 := Tryd.func58.trans (congrArg some (by kernel_rfl))
  f283 := Tryd.func71.trans (congrArg some (by kernel_rfl))
  f284 := Tryd.func72.trans (congrArg some (by kernel_rfl))
  f285 := Tryd.func73.trans (congrArg some (by kernel_rfl))
  f286 := Tryd.func74.trans (congrArg some (by kernel_rfl))
  f317 := Tryd.func80.trans (congrArg some (by kernel_rfl))
  f318 := Tryd.func82.trans (congrArg some (by kernel_rfl))
  f319 := Tryd.func83.trans (congrArg some (by kernel_rfl))
  f320 := Tryd.func84.trans (congrArg some (by kernel_rfl))
  f337 := Tryd.func86.trans (congrArg some (by kernel_rfl))
  f338 := Tryd.func87.trans (congrArg some (by kernel_rfl))
  t0 := Tryd.underlying0
  a0 := Tryd.isAgg0
  z0 := Tryd.sizeOf0
  v0 := Tryd.zeroValue0
  t2 := Tryd.underlying2
  a2 := Tryd.isAgg2
  z2 := Tryd.sizeOf2
  v2 := Tryd.zeroValue2
  t3 := Tryd.underlying3
  a3 := Tryd.isAgg3
  z3 := Tryd.sizeOf3
  v3 := Tryd.zeroValue3
  t4 := Tryd.underlying4
  a4 := Tryd.isAgg4
  z4 := Tryd.sizeOf4
  v4 := Tryd.zeroValue4
  t5 := Tryd.underlying5
  a5 := Tryd.isAgg5
  z5 := Tryd.sizeOf5
  v5 := Tryd.zeroValue5
  t9 := Tryd.underlying9
  a9 := Tryd.isAgg9
  z9 := Tryd.sizeOf9
  v9 := Tryd.zeroValue9
  t20 := Tryd.underlying20
  a20 := Tryd.isAgg20
  z20 := Tryd.sizeOf20
  v20 := Tryd.zeroValue20
  t37 := Tryd.underlying79
  a37 := Tryd.isAgg79
  z37 := Tryd.sizeOf79
  v37 := Tryd.zeroValue79
  t46 := Tryd.underlying23
  a46 := Tryd.isAgg23
  z46 := Tryd.sizeOf23
  v46 := Tryd.zeroValue23
  t51 := Tryd.underlying119
  a51 := Tryd.isAgg119
  z51 := Tryd.sizeOf119
  v51 := Tryd.zeroValue119
  t53 := Tryd.underlying114
  a53 := Tryd.isAgg114
  z53 := Tryd.sizeOf114
  v53 := Tryd.zeroValue114
  t171 := Tryd.underlying113
  a171 := Tryd.isAgg113
  z171 := Tryd.sizeOf113
  v171 := Tryd.zeroValue113
  t173 := Tryd.underlying117
  a173 := Tryd.isAgg117
  z173 := Tryd.sizeOf117
  v173 := Tryd.zeroValue117
  t212 := Tryd.underlying128
  a212 := Tryd.isAgg128
  z212 := Tryd.sizeOf128
  v212 := Tryd.zeroValue128
  t213 := Tryd.underlying129
  a213 := Tryd.isAgg129
  z213 := Tryd.sizeOf129
  t232 := Tryd.underlying134
  a232 := Tryd.isAgg134
  z232 := Tryd.sizeOf134
  v232 := Tryd.zeroValue134
  t233 := Tryd.underlying135
  a233 := Tryd.isAgg135
  z233 := Tryd.sizeOf135
  v233 := Tryd.zeroValue135
  g17 := by kernel_rfl
  g18 := by kernel_rfl
  g19 := by kernel_rfl
  i0 := by kernel_rfl
  i2 := by kernel_rfl
  i3 := by kernel_rfl
  i4 := by kernel_rfl
  i5 := by kernel_rfl
  i9 := by kernel_rfl
  i20 := by kernel_rfl
  i37 := by kernel_rfl
  i46 := by kernel_rfl
  i51 := by kernel_rfl
  i53 := by kernel_rfl
  i171 := by kernel_rfl
  i173 := by kernel_rfl
  i212 := by kernel_rfl
  i232 := by kernel_rfl
  i233 := by kernel_rfl
  m17 := by kernel_rfl
  m18 := by kernel_rfl
  m19 := by kernel_rfl }
def Tryd.laysM173_ren : Go.Shelf.Ren := ⟨fun | 173 => 43 | 246 => 58 | 283 => 71 | 284 => 72 | 285 => 73 | 286 => 74 | 129 => 81 | 317 => 80 | 318 => 82 | 319 => 83 | 320 => 84 | 337 => 86 | 338 => 87 | n => n, fun | 2 => 2 | 3 => 3 | 9 => 9 | 4 => 4 | 171 => 113 | 0 => 0 | 53 => 114 | 37 => 79 | 5 => 5 | 173 => 117 | 212 => 128 | 51 => 119 | 20 => 20 | 213 => 129 | 46 => 23 | 232 => 134 | 233 => 135 | n => n, fun | 17 => 3 | 18 => 4 | 19 => 5 | n => n⟩
theorem Tryd.laysM173 : Go.Proofs.LaysM.n173 Tryd.prog Tryd.laysM173_ren := {
  mixed := by kernel_rfl
  f129 := Tryd.func81.trans (congrArg some (by kernel_rfl))
  f173 := Tryd.func43.trans (congrArg some (by kernel_rfl))
  f246 := Tryd.func58.trans (congrArg some (by kernel_rfl))
  f283 := Tryd.func71.trans (congrArg some (by kernel_rfl))
  f284 := Tryd.func72.trans (congrArg some (by kernel_rfl))
  f285 := Tryd.func73.trans (congrArg some (by kernel_rfl))
  f286 := Tryd.func74.trans (congrArg some (by kernel_rfl))
  f317 := Tryd.func80.trans (congrArg some (by kernel_rfl))
  f318 := Tryd.func82.trans (congrArg some (by kernel_rfl))
  f319 := Tryd.func83.trans (congrArg some (by kernel_rfl))
  f320 := Tryd.func84.trans (congrArg some (by kernel_rfl))
  f337 := Tryd.func86.trans (congrArg some (by kernel_rfl))
  f338 := Tryd.func87.trans (congrArg some (by kernel_rfl))
  t0 := Tryd.underlying0
  a0 := Tryd.isAgg0
  z0 := Tryd.sizeOf0
  v0 := Tryd.zeroValue0
  t2 := Tryd.underlying2
  a2 := Tryd.isAgg2
  z2 := Tryd.sizeOf2
  v2 := Tryd.zeroValue2
  t3 := Tryd.underlying3
  a3 := Tryd.isAgg3
  z3 := Tryd.sizeOf3
  v3 := Tryd.zeroValue3
  t4 := Tryd.underlying4
  a4 := Tryd.isAgg4
  z4 := Tryd.sizeOf4
  v4 := Tryd.zeroValue4
  t5 := Tryd.underlying5
  a5 := Tryd.isAgg5
  z5 := Tryd.sizeOf5
  v5 := Tryd.zeroValue5
  t9 := Tryd.underlying9
  a9 := Tryd.isAgg9
  z9 := Tryd.sizeOf9
  v9 := Tryd.zeroValue9
  t20 := Tryd.underlying20
  a20 := Tryd.isAgg20
  z20 := Tryd.sizeOf20
  v20 := Tryd.zeroValue20
  t37 := Tryd.underlying79
  a37 := Tryd.isAgg79
  z37 := Tryd.sizeOf79
  v37 := Tryd.zeroValue79
  t46 := Tryd.underlying23
  a46 := Tryd.isAgg23
  z46 := Tryd.sizeOf23
  v46 := Tryd.zeroValue23
  t51 := Tryd.underlying119
  a51 := Tryd.isAgg119
  z51 := Tryd.sizeOf119
  v51 := Tryd.zeroValue119
  t53 := Tryd.underlying114
  a53 := Tryd.isAgg114
  z53 := Tryd.sizeOf114
  v53 := Tryd.zeroValue114
  t171 := Tryd.underlying113
  a171 := Tryd.isAgg113
  z171 := Tryd.sizeOf113
  v171 := Tryd.zeroValue113
  t173 := Tryd.underlying117
  a173 := Tryd.isAgg117
  z173 := Tryd.sizeOf117
  v173 := Tryd.zeroValue117
  t212 := Tryd.underlying128
  a212 := Tryd.isAgg128
  z212 := Tryd.sizeOf128
  v212 := Tryd.zeroValue128
  t213 := Tryd.underlying129
  a213 := Tryd.isAgg129
  z213 := Tryd.sizeOf129
  t232 := Tryd.underlying134
  a232 := Tryd.isAgg134
  z232 := Tryd.sizeOf134
  v232 := Tryd.zeroValue134
  t233 := Tryd.underlying135
  a233 := Tryd.isAgg135
  z233 := Tryd.sizeOf135
  v233 := Tryd.zeroValue135
  g17 := by kernel_rfl
  g18 := by kernel_rfl
  g19 := by kernel_rfl
  i0 := by kernel_rfl
  i2 := by kernel_rfl
  i3 := by kernel_rfl
  i4 := by kernel_rfl
  i5 := by kernel_rfl
  i9 := by kernel_rfl
  i20 := by kernel_rfl
  i37 := by kernel_rfl
  i46 := by kernel_rfl
  i51 := by kernel_rfl
  i53 := by kernel_rfl
  i171 := by kernel_rfl
  i173 := by kernel_rfl
  i212 := by kernel_rfl
  i232 := by kernel_rfl
  i233 := by kernel_rfl
  m17 := by kernel_rfl
  m18 := by kernel_rfl
  m19 := by kernel_rfl }
def Tryd.lays145_ren : Go.Shelf.Ren := ⟨fun | 145 => 16 | 220 => 25 | 219 => 48 | 217 => 62 | 225 => 63 | 224 => 64 | 267 => 65 | 266 => 76 | 314 => 77 | n => n, fun | 9 => 9 | 4 => 4 | 59 => 45 | 3 => 3 | 5 => 5 | 46 => 23 | 146 => 120 | 51 => 119 | n => n, fun | 1 => 0 | n => n⟩
theorem Tryd.lays145 : Go.Proofs.Lays.n145 Tryd.prog Tryd.lays145_ren := {
  mixed := by kernel_rfl
  f145 := Tryd.func16.trans (congrArg some (by kernel_rfl))
  f217 := Tryd.func62.trans (congrArg some (by kernel_rfl))
  f219 := Tryd.func48.trans (congrArg some (by kernel_rfl))
  f220 := Tryd.func25.trans (congrArg some (by kernel_rfl))
  f224 := Tryd.func64.trans (congrArg some (by kernel_rfl))
  f225 := Tryd.func63.trans (congrArg some (by kernel_rfl))
  f266 := Tryd.func76.trans (congrArg some (by kernel_rfl))
  f267 := Tryd.func65.trans (congrArg some (by kernel_rfl))
  f314 := Tryd.func77.trans (congrArg some (by kernel_rfl))
  t3 := Tryd.underlying3
  a3 := Tryd.isAgg3
  z3 := Tryd.sizeOf3
  v3 := Tryd.zeroValue3
  t4 := Tryd.underlying4
  a4 := Tryd.isAgg4
  z4 := Tryd.sizeOf4
  v4 := Tryd.zeroValue4
  t5 := Tryd.underlying5
  a5 := Tryd.isAgg5
  z5 := Tryd.sizeOf5
  v5 := Tryd.zeroValue5
  t9 := Tryd.underlying9
  a9 := Tryd.isAgg9
  z9 := Tryd.sizeOf9
  v9 := Tryd.zeroValue9
  t46 := Tryd.underlying23
  a46 := Tryd.isAgg23
  z46 := Tryd.sizeOf23
  v46 := Tryd.zeroValue23
  t51 := Tryd.underlying119
  a51 := Tryd.isAgg119
  z51 := Tryd.sizeOf119
  v51 := Tryd.zeroValue119
  t59 := Tryd.underlying45
  a59 := Tryd.isAgg45
  z59 := Tryd.sizeOf45
  v59 := Tryd.zeroValue45
  t146 := Tryd.underlying120
  a146 := Tryd.isAgg120
  z146 := Tryd.sizeOf120
  v146 := Tryd.zeroValue120
  g1 := by kernel_rfl }
def Tryd.lays110_ren : Go.Shelf.Ren := ⟨fun | 110 => 26 | 109 => 49 | n => n, fun | 31 => 22 | 9 => 9 | 4 => 4 | 3 => 3 | 0 => 0 | n => n, fun | n => n⟩
theorem Tryd.lays110 : Go.Proofs.Lays.n110 Tryd.prog Tryd.lays110_ren := {
  mixed := by kernel_rfl
  f109 := Tryd.func49.trans (congrArg some (by kernel_rfl))
  f110 := Tryd.func26.trans (congrArg some (by kernel_rfl))
  t0 := Tryd.underlying0
  a0 := Tryd.isAgg0
  z0 := Tryd.sizeOf0
  v0 := Tryd.zeroValue0
  t3 := Tryd.underlying3
  a3 := Tryd.isAgg3
  z3 := Tryd.sizeOf3
  v3 := Tryd.zeroValue3
  t4 := Tryd.underlying4
  a4 := Tryd.isAgg4
  z4 := Tryd.sizeOf4
  v4 := Tryd.zeroValue4
  t9 := Tryd.underlying9
  a9 := Tryd.isAgg9
  z9 := Tryd.sizeOf9
  v9 := Tryd.zeroValue9
  t31 := Tryd.underlying22
  a31 := Tryd.isAgg22
  z31 := Tryd.sizeOf22
  v31 := Tryd.zeroValue22 }
end Go.Proofs

/- Texts: the library's contracts, as the machine has them. -/
namespace Go.Eng
open Go.RowKit
/-- a contract as the model has it, of what stands in variables, too -/
theorem SpecOk.of_callsG {P : Program} {f : Nat} {fn : Func} {sp : Spec} (hf : P.funcs[f]? = some fn) (hb : fn.body.isSome = true) (hn : (fn.name == "runtime.NumGoroutine") = false)
    (hpl : ∀ args v, (sp args).eval = some v → flatL args = true ∧ flat v = true)
    (h : ∀ args v w, Glob w → (sp args).eval = some v → Calls P f (denL nu0 args).toArray w fun e w' => e = .returned (v.den nu0) ∧ Below w.heap.size w w') : SpecOk P f sp :=
  ⟨⟨fn, hf, hb, hn⟩, fun args v xs w hG hfl hv hfv hh => by
    obtain ⟨p1, p2⟩ := hpl args v hv
    rw [holdsL_den p1 hh]
    refine (h args v w hG hv).mono ?_
    rintro e w' ⟨rfl, hbl⟩
    exact ⟨_, rfl, (holds_flat p2).2 rfl, hbl⟩⟩
end Go.Eng
namespace Go.Proofs.YtndcealgackgiaaDoor.Txt
open Go.Eng Go.RowKit
set_option linter.unusedVariables false
set_option linter.unusedSimpArgs false
set_option maxRecDepth 100000
/-! ### numbers in digits -/
def decF : Nat → Nat → List UInt8
  | 0, u => [UInt8.ofNat (48 + u % 10)]
  | f + 1, u => if u < 10 then [UInt8.ofNat (48 + u)] else decF f (u / 10) ++ [UInt8.ofNat (48 + u % 10)]
theorem decF_is : ∀ (f u : Nat), u < 10 ^ (f + 1) → Lib.decDigits u = decF f u
  | 0, u, h => by
    rw [Lib.decDigits, dif_pos (by omega)]
    unfold decF
    rw [Nat.mod_eq_of_lt (by omega)]
  | f + 1, u, h => by
    rw [Lib.decDigits]
    unfold decF
    by_cases q : u < 10
    · rw [dif_pos q, if_pos q]
    · rw [dif_neg q, if_neg q, decF_is f (u / 10) (by rw [Nat.pow_succ] at h; omega)]
/-- a number's digits, its sign ahead -/
def itoaL (n : Int) : List UInt8 := if n < 0 then 45 :: decF 19 n.natAbs else decF 19 n.toNat
def itoaB (n : Int) : ByteArray := ⟨(itoaL n).toArray⟩
def in64 (n : Int) : Bool := decide (-9223372036854775808 ≤ n) && decide (n ≤ 9223372036854775807)
theorem in64_is {n : Int} (h : in64 n = true) : -9223372036854775808 ≤ n ∧ n ≤ 9223372036854775807 := by
  unfold in64 at h
  rw [Bool.and_eq_true, decide_eq_true_eq, decide_eq_true_eq] at h
  exact h
theorem itoaL_is {n : Int} (h : in64 n = true) : Lib.itoa n = itoaL n := by
  obtain ⟨h0, h1⟩ := in64_is h
  unfold Lib.itoa itoaL
  rw [decF_is 19 n.natAbs (by omega), decF_is 19 n.toNat (by omega)]
theorem glob_tab {w : World} (h : Glob w) : Lib.TabIs Tryd.prog w "internal/strconv.uint64pow10" .u64 Lib.pow10Tab := by
  obtain ⟨t, s, ht⟩ := h.tab
  unfold Lib.TabIs World.var?
  have : Tryd.prog.globalNamed "internal/strconv.uint64pow10" = some 3 := by kernel_rfl
  rw [this]
  show (match w.heap[3]? with | some (.cells cs _ _) => some cs | _ => none) = _
  rw [ht]
theorem below_grow' {w w' : World} (h : ∃ k os, w' = Sort.grow (w.drewN k) os) : Below w.heap.size w w' := by
  obtain ⟨k, os, rfl⟩ := h
  exact Lib.below_grow _ w (Nat.le_refl _) k os
theorem ite_T' {α : Type} {c : Bool} {x : T α} {r : α} (h : (T.ite none c x .fail).eval = some r) : c = true ∧ x.eval = some r := by
  cases c with
  | true => exact ⟨rfl, h⟩
  | false => cases h
def i64Of : V → Option Int
  | .n .i64 n => some n
  | .s (.int .i64 n) => some n
  | _ => none
theorem i64Of_is {v : V} {n : Int} (h : i64Of v = some n) : flat v = true ∧ v.den nu0 = .int .i64 n := by
  unfold i64Of at h
  split at h
  · cases h; exact ⟨rfl, rfl⟩
  · cases h; exact ⟨rfl, rfl⟩
  · cases h
def strOf : V → Option ByteArray
  | .s (.str s) => some s
  | _ => none
theorem strOf_is {v : V} {s : ByteArray} (h : strOf v = some s) : v = .s (.str s) := by
  unfold strOf at h
  split at h
  · cases h; rfl
  · cases h
/-- a contract of one number and, it may be, another -/
def itoaS : Eng.Spec
  | [a] => match i64Of a with
    | some n => .ite none (in64 n) (.ret (.s (.str (itoaB n)))) .fail
    | none => .fail
  | _ => .fail
theorem itoaS_is {args : List V} {v : V} (h : (itoaS args).eval = some v) : ∃ a n, args = [a] ∧ i64Of a = some n ∧ in64 n = true ∧ v = .s (.str (itoaB n)) := by
  unfold itoaS at h
  split at h
  · split at h
    · rename_i hn
      obtain ⟨h1, h2⟩ := ite_T' h
      exact ⟨_, _, rfl, hn, h1, (Option.some.inj h2).symm⟩
    · cases h
  · cases h
theorem itoaS_ok : SpecOk Tryd.prog 45 itoaS := SpecOk.of_callsG Tryd.func45 (by kernel_rfl) (by kernel_rfl)
  (fun args v h => by
    obtain ⟨a, n, rfl, ha, -, rfl⟩ := itoaS_is h
    exact ⟨by simp only [flatL, okL, Bool.and_eq_true]; exact ⟨(i64Of_is ha).1, trivial⟩, rfl⟩)
  (fun args v w hG h => by
    obtain ⟨a, n, rfl, ha, hn, rfl⟩ := itoaS_is h
    have c := Any.strconv_Itoa Tryd.laysM171 n (in64_is hn).1 (in64_is hn).2 w (glob_tab hG)
    rw [itoaL_is hn] at c
    simp only [denL, (i64Of_is ha).2]
    refine c.mono ?_
    rintro e w' ⟨rfl, hw⟩
    exact ⟨rfl, below_grow' hw⟩)
def fmtS : Eng.Spec
  | [a, b] => match i64Of a, i64Of b with
    | some n, some m => if m = 10 then .ite none (in64 n) (.ret (.s (.str (itoaB n)))) .fail else .fail
    | _, _ => .fail
  | _ => .fail
theorem fmtS_is {args : List V} {v : V} (h : (fmtS args).eval = some v) : ∃ a b n, args = [a, b] ∧ i64Of a = some n ∧ i64Of b = some 10 ∧ in64 n = true ∧ v = .s (.str (itoaB n)) := by
  unfold fmtS at h
  split at h
  · split at h
    · rename_i hn hm
      split at h
      · rename_i hz
        obtain ⟨h1, h2⟩ := ite_T' h
        exact ⟨_, _, _, rfl, hn, hz ▸ hm, h1, (Option.some.inj h2).symm⟩
      · cases h
    · cases h
  · cases h
theorem fmtS_ok : SpecOk Tryd.prog 43 fmtS := SpecOk.of_callsG Tryd.func43 (by kernel_rfl) (by kernel_rfl)
  (fun args v h => by
    obtain ⟨a, b, n, rfl, ha, hb, -, rfl⟩ := fmtS_is h
    exact ⟨by simp only [flatL, okL, Bool.and_eq_true]; exact ⟨(i64Of_is ha).1, (i64Of_is hb).1, trivial⟩, rfl⟩)
  (fun args v w hG h => by
    obtain ⟨a, b, n, rfl, ha, hb, hn, rfl⟩ := fmtS_is h
    have c := Any.strconv_FormatInt_10 Tryd.laysM173 n (in64_is hn).1 (in64_is hn).2 w (glob_tab hG)
    rw [itoaL_is hn] at c
    simp only [denL, (i64Of_is ha).2, (i64Of_is hb).2]
    refine c.mono ?_
    rintro e w' ⟨rfl, hw⟩
    exact ⟨rfl, below_grow' hw⟩)
/-! ### texts cut -/
def idxF : List UInt8 → List UInt8 → Option Nat
  | [], sub => if sub.isEmpty then some 0 else none
  | b :: l, sub => if sub.isPrefixOf (b :: l) then some 0 else (idxF l sub).map (· + 1)
theorem idxF_is : ∀ (l sub : List UInt8), Lib.index l sub = match idxF l sub with
    | some k => (k : Int)
    | none => -1
  | [], sub => by unfold Lib.index idxF; split <;> rfl
  | b :: l, sub => by
    unfold Lib.index idxF
    split
    · rfl
    · rw [idxF_is l sub]
      cases idxF l sub with
      | none => rfl
      | some k =>
        have : (((k : Nat) : Int) == -1) = false := by rw [beq_eq_false_iff_ne]; omega
        simp only [this]
        rfl
def cutF (s sep : List UInt8) : List UInt8 × List UInt8 × Bool := match idxF s sep with
  | some k => (s.take k, s.drop (k + sep.length), true)
  | none => (s, [], false)
theorem cutF_is (s sep : List UInt8) : Lib.cut s sep = cutF s sep := by
  unfold Lib.cut cutF
  rw [idxF_is]
  cases idxF s sep with
  | none => rfl
  | some k =>
    show (if (0 : Int) ≤ (k : Int) then _ else _) = _
    rw [if_pos (by omega)]
    rfl
def byA (l : List UInt8) : ByteArray := ⟨l.toArray⟩
def cutV (s sep : ByteArray) : V := .tup [.s (.str (byA (cutF s.data.toList sep.data.toList).1)), .s (.str (byA (cutF s.data.toList sep.data.toList).2.1)), .s (.bool (cutF s.data.toList sep.data.toList).2.2)]
def cutS : Eng.Spec
  | [.s (.str s), .s (.str sep)] => .ite none (decide (s.size < 4294967281)) (.ret (cutV s sep)) .fail
  | _ => .fail
theorem cutS_is {args : List V} {v : V} (h : (cutS args).eval = some v) : ∃ s sep, args = [.s (.str s), .s (.str sep)] ∧ s.size < 4294967281 ∧ v = cutV s sep := by
  unfold cutS at h
  split at h
  · obtain ⟨h1, h2⟩ := ite_T' h
    exact ⟨_, _, rfl, of_decide_eq_true h1, (Option.some.inj h2).symm⟩
  · cases h
theorem cutS_ok : SpecOk Tryd.prog 16 cutS := SpecOk.of_callsG Tryd.func16 (by kernel_rfl) (by kernel_rfl)
  (fun args v h => by obtain ⟨s, sep, rfl, -, rfl⟩ := cutS_is h; exact ⟨rfl, rfl⟩)
  (fun args v w hG h => by
    obtain ⟨s, sep, rfl, hs, rfl⟩ := cutS_is h
    obtain ⟨m, hm⟩ := hG.len
    have c := Any.strings_Cut Tryd.lays145 s sep m w hs hm
    rw [cutF_is] at c
    refine c.mono ?_
    rintro e w' ⟨rfl, n, rfl⟩
    exact ⟨rfl, rfl, rfl, rfl, Nat.le_refl _, fun _ _ => rfl⟩)
def preV (s p : ByteArray) : V := .tup [.s (.str (byA (Lib.trimPrefix s.data.toList p.data.toList))), .s (.bool (Lib.hasPrefix s.data.toList p.data.toList))]
def preS : Eng.Spec
  | [.s (.str s), .s (.str p)] => .ret (preV s p)
  | _ => .fail
theorem preS_is {args : List V} {v : V} (h : (preS args).eval = some v) : ∃ s p, args = [.s (.str s), .s (.str p)] ∧ v = preV s p := by
  unfold preS at h
  split at h
  · exact ⟨_, _, rfl, (Option.some.inj h).symm⟩
  · cases h
theorem preS_ok : SpecOk Tryd.prog 37 preS := SpecOk.of_callsG Tryd.func37 (by kernel_rfl) (by kernel_rfl)
  (fun args v h => by obtain ⟨s, sep, rfl, rfl⟩ := preS_is h; exact ⟨rfl, rfl⟩)
  (fun args v w hG h => by
    obtain ⟨s, p, rfl, rfl⟩ := preS_is h
    refine (Any.strings_CutPrefix Tryd.lays103 s p w).mono ?_
    rintro e w' ⟨rfl, rfl⟩
    exact ⟨rfl, Below.refl _ _⟩)
/-! ### texts trimmed of one letter -/
def dropW (c : UInt8) : List UInt8 → List UInt8
  | [] => []
  | b :: l => if b = c then dropW c l else b :: l
theorem dropW_is (c : UInt8) : ∀ l : List UInt8, l.dropWhile (· == c) = dropW c l
  | [] => rfl
  | b :: l => by
    unfold dropW
    rw [List.dropWhile_cons]
    by_cases h : b = c
    · rw [if_pos h, if_pos (by simpa using h)]; exact dropW_is c l
    · rw [if_neg h, if_neg (by simpa using h)]
def revF (l a : List UInt8) : List UInt8 := match l with
  | [] => a
  | b :: l => revF l (b :: a)
theorem revF_is : ∀ (l a : List UInt8), revF l a = l.reverse ++ a
  | [], a => rfl
  | b :: l, a => by unfold revF; rw [revF_is l]; simp
def trR (l : List UInt8) (c : UInt8) : List UInt8 := revF (dropW c (revF l [])) []
theorem trR_is (l : List UInt8) (c : UInt8) : Lib.trimRightB l c = trR l c := by
  unfold Lib.trimRightB trR
  rw [revF_is, revF_is, dropW_is]; simp
def oneOf (s : ByteArray) : Option UInt8 := match s.data.toList with
  | [c] => if c.toNat < 128 then some c else none
  | _ => none
theorem oneOf_is {s : ByteArray} {c : UInt8} (h : oneOf s = some c) : s = ⟨#[c]⟩ ∧ c.toNat < 128 := by
  unfold oneOf at h
  split at h
  · rename_i x hx
    split at h
    · rename_i hc
      cases h
      refine ⟨?_, hc⟩
      obtain ⟨d⟩ := s
      have hx : d.toList = [c] := hx
      congr 1
      apply Array.ext'
      rw [hx]
    · cases h
  · cases h
def trimRS : Eng.Spec
  | [.s (.str s), .s (.str p)] => match oneOf p with
    | some c => .ite none (decide (s.size ≤ 9223372036854775807)) (.ret (.s (.str (byA (trR s.data.toList c))))) .fail
    | none => .fail
  | _ => .fail
theorem trimRS_is {args : List V} {v : V} (h : (trimRS args).eval = some v) : ∃ s c, args = [.s (.str s), .s (.str ⟨#[c]⟩)] ∧ c.toNat < 128 ∧ s.size ≤ 9223372036854775807 ∧ v = .s (.str (byA (trR s.data.toList c))) := by
  unfold trimRS at h
  split at h
  · split at h
    · rename_i hc
      obtain ⟨rfl, hc'⟩ := oneOf_is hc
      obtain ⟨h1, h2⟩ := ite_T' h
      exact ⟨_, _, rfl, hc', of_decide_eq_true h1, (Option.some.inj h2).symm⟩
    · cases h
  · cases h
theorem trimRS_ok : SpecOk Tryd.prog 44 trimRS := SpecOk.of_callsG Tryd.func44 (by kernel_rfl) (by kernel_rfl)
  (fun args v h => by obtain ⟨s, c, rfl, -, -, rfl⟩ := trimRS_is h; exact ⟨rfl, rfl⟩)
  (fun args v w hG h => by
    obtain ⟨s, c, rfl, hc, hs, rfl⟩ := trimRS_is h
    have k := Any.strings_TrimRight_one Tryd.lays162 s c hc w hs
    rw [trR_is] at k
    refine k.mono ?_
    rintro e w' ⟨rfl, rfl⟩
    exact ⟨rfl, Below.refl _ _⟩)
def trB (l : List UInt8) (c : UInt8) : List UInt8 := dropW c (trR l c)
theorem trB_is (l : List UInt8) (c : UInt8) : Lib.trimB l c = trB l c := by
  unfold Lib.trimB trB Lib.trimLeftB
  rw [trR_is, dropW_is]
def trimS : Eng.Spec
  | [.s (.str s), .s (.str p)] => match oneOf p with
    | some c => .ite none (decide (s.size ≤ 9223372036854775807)) (.ret (.s (.str (byA (trB s.data.toList c))))) .fail
    | none => .fail
  | _ => .fail
theorem trimS_is {args : List V} {v : V} (h : (trimS args).eval = some v) : ∃ s c, args = [.s (.str s), .s (.str ⟨#[c]⟩)] ∧ c.toNat < 128 ∧ s.size ≤ 9223372036854775807 ∧ v = .s (.str (byA (trB s.data.toList c))) := by
  unfold trimS at h
  split at h
  · split at h
    · rename_i hc
      obtain ⟨rfl, hc'⟩ := oneOf_is hc
      obtain ⟨h1, h2⟩ := ite_T' h
      exact ⟨_, _, rfl, hc', of_decide_eq_true h1, (Option.some.inj h2).symm⟩
    · cases h
  · cases h
theorem trimS_ok : SpecOk Tryd.prog 18 trimS := SpecOk.of_callsG Tryd.func18 (by kernel_rfl) (by kernel_rfl)
  (fun args v h => by obtain ⟨s, c, rfl, -, -, rfl⟩ := trimS_is h; exact ⟨rfl, rfl⟩)
  (fun args v w hG h => by
    obtain ⟨s, c, rfl, hc, hs, rfl⟩ := trimS_is h
    have k := Any.strings_Trim_one Tryd.lays160 s c hc w hs
    rw [trB_is] at k
    refine k.mono ?_
    rintro e w' ⟨rfl, hw⟩
    refine ⟨rfl, ?_⟩
    rcases hw with rfl | rfl
    · exact Below.refl _ _
    · exact (Below.refl _ _).drew)
end Go.Proofs.YtndcealgackgiaaDoor.Txt

/- Texts: the library's builder of texts, as the machine has it. -/
namespace Go.Proofs.YtndcealgackgiaaDoor.Txt
open Go.Eng Go.RowKit Go.Shelf
set_option linter.unusedVariables false
set_option linter.unusedSimpArgs false
set_option maxRecDepth 100000
theorem lays240 : Lays.n240 Tryd.prog Tryd.lays156_ren := { Tryd.lays156 with }
abbrev TB : TypeId := 81
def ccS : Eng.Obj
  | [.ptr 0 0], [(0, .cells t [.nilPtr, .nilSl])] => if t = TB then .ret (.tup [], [(0, .cells t [.ptr 0 0, .nilSl])]) else .fail
  | [.ptr 0 0], [(0, .cells t [.ptr 0 0, .nilSl])] => if t = TB then .ret (.tup [], [(0, .cells t [.ptr 0 0, .nilSl])]) else .fail
  | [.ptr 0 0], [(0, .cells t [.ptr 0 0, .sub 1 1 0 n]), (1, .lst true t' [.int .u8] l)] => if t = TB then .ret (.tup [], [(0, .cells t [.ptr 0 0, .sub 1 1 0 n]), (1, .lst true t' [.int .u8] l)]) else .fail
  | _, _ => .fail
theorem owned_of_outO {h : Eng.Heap} {v : V} {h' : Eng.Heap} (ho : outO h v h' = true) {i : Nat} {b : Blk} (e : Eng.look h' i = some b) : b.owned = true := by
  unfold outO at ho
  rw [Bool.and_eq_true, List.all_eq_true] at ho
  have := ho.2 _ (mem_of_look e)
  simp only [Bool.and_eq_true] at this
  exact this.1.1
theorem heap_setCell {w : World} {b : Nat} {c : Array Value} {t : TypeId} (hb : w.heap[b]? = some (.cells c t (0, 0))) (j : Nat) (v : Value) : (w.setCell ⟨b, j, none⟩ v).heap[b]? = some (.cells (c.setIfInBounds j v) t (0, 0)) := by
  simp [World.setCell, Array.getElem?_modify, hb]
theorem heap_setCell_ne {w : World} {b k : Nat} (hk : k ≠ b) (j : Nat) (v : Value) : (w.setCell ⟨b, j, none⟩ v).heap[k]? = w.heap[k]? := by
  simp [World.setCell, Array.getElem?_modify, Ne.symm hk]
theorem ccS_ok : ObjOk Tryd.prog 57 ccS := by
  refine ⟨⟨_, Tryd.func57, by kernel_rfl, by kernel_rfl⟩, fun args h v h' ν w hG hgs hok hb hr hv ho => ?_⟩
  have used : ∀ (t : TypeId) (r : List V) (hp : Eng.Heap), t = TB → (∀ i b, Eng.look hp i = some b → b.owned = true) → Eng.look hp 0 = some (.cells t (.ptr 0 0 :: r)) → Rel ν (Eng.look hp) w → Calls Tryd.prog 57 (denL ν [.ptr 0 0]).toArray w fun e w' => ∃ ν' : Eng.Env, e = .returned ((V.tup []).den ν') ∧ (∀ i, inH hp i = true → (ν' i).core = (ν i).core) ∧ Rel ν' (Eng.look hp) w' ∧
      (∀ i b, Eng.look hp i = some b → ∀ k, (ν' i).fp k → ownFp ν hp k ∨ w.heap.size ≤ k) ∧ Prog w w' (ownFp ν hp) := by
    intro t r hp ht ho hl hr
    obtain ⟨d0, d1, d2⟩ := hr.den 0 _ hl
    have hc : w.cell? ⟨(ν 0).core.blk, 0, none⟩ = some (.pointer (some ⟨(ν 0).core.blk, 0, none⟩)) := by
      rw [Lib.cell_of_heap d2]
      simp [denL, V.den, d0]
    have ea : (denL ν [.ptr 0 0]).toArray = #[.pointer (some ⟨(ν 0).core.blk, 0, none⟩)] := by simp [denL, V.den, d0]
    rw [ea]
    refine (Any.Builder_copyCheck_used lays240 Tryd.Builder_Extra_156.toX72 _ w hc).mono ?_
    rintro e w' ⟨rfl, rfl⟩
    exact ⟨ν, rfl, fun _ _ => rfl, hr, fun i b e k hk => .inl ⟨i, b, e, ho i b e, hk⟩, Prog.refl _ _⟩
  unfold ccS at hv
  split at hv
  · split at hv
    · rename_i t ht
      obtain ⟨rfl, rfl⟩ : V.tup [] = v ∧ [(0, Blk.cells t [.ptr 0 0, .nilSl])] = h' := by
        have := Option.some.inj hv
        exact ⟨congrArg Prod.fst this, congrArg Prod.snd this⟩
      obtain ⟨d0, d1, d2⟩ := hr.den 0 _ rfl
      have d2 : w.heap[(ν 0).core.blk]? = some (.cells #[.pointer none, .slice none 0 0] t (0, 0)) := d2
      have ea : (denL ν [.ptr 0 0]).toArray = #[.pointer (some ⟨(ν 0).core.blk, 0, none⟩)] := by simp [denL, V.den, d0]
      rw [ea]
      have hsh : w.shape? (ν 0).core.blk = some (t, 2) := by simp [World.shape?, d2]
      refine (Any.Builder_copyCheck_fresh lays240 Tryd.Builder_Extra_156.toX72 _ w (by rw [Lib.cell_of_heap d2]; rfl) (by rw [hsh, ht]; rfl) (Lib.frozen_of_heap d2 0)).mono ?_
      rintro e w' ⟨rfl, rfl⟩
      have one : ∀ i b, Eng.look [(0, Blk.cells t [.ptr 0 0, .nilSl])] i = some b → i = 0 ∧ b = .cells t [.ptr 0 0, .nilSl] := by
        intro i b e
        simp only [Eng.look] at e
        split at e
        · rename_i q
          exact ⟨(by simpa using q : 0 = i).symm, (Option.some.inj e).symm⟩
        · cases e
      have own : ∀ k, (ν 0).fp k → ownFp ν [(0, Blk.cells t [.nilPtr, .nilSl])] k := fun k hk => ⟨0, _, rfl, rfl, hk⟩
      refine ⟨ν, rfl, fun _ _ => rfl, ⟨fun i b e => ?_, fun i j bi bj ne ei ej => absurd ((one i bi ei).1.trans (one j bj ej).1.symm) ne⟩, fun i b e k hk => ?_, rfl, rfl, rfl, ?_, fun k hk hn => ?_⟩
      · obtain ⟨rfl, rfl⟩ := one i b e
        refine ⟨d0, d1, ?_⟩
        rw [heap_setCell d2]
        simp [denL, V.den, d0]
      · obtain ⟨rfl, rfl⟩ := one i b e
        exact .inl (own k hk)
      · simp [World.setCell]
      · exact heap_setCell_ne (fun q => hn (own k ((d1 k).2 q))) _ _
    · cases hv
  · split at hv
    · rename_i t ht
      obtain ⟨rfl, rfl⟩ : V.tup [] = v ∧ [(0, Blk.cells t [.ptr 0 0, .nilSl])] = h' := by
        have := Option.some.inj hv
        exact ⟨congrArg Prod.fst this, congrArg Prod.snd this⟩
      exact used t [.nilSl] _ ht (fun i b e => owned_of_outO ho e) rfl hr
    · cases hv
  · split at hv
    · rename_i t n t' l ht
      obtain ⟨rfl, rfl⟩ : V.tup [] = v ∧ [(0, Blk.cells t [.ptr 0 0, .sub 1 1 0 n]), (1, .lst true t' [.int .u8] l)] = h' := by
        have := Option.some.inj hv
        exact ⟨congrArg Prod.fst this, congrArg Prod.snd this⟩
      exact used t [.sub 1 1 0 n] _ ht (fun i b e => owned_of_outO ho e) rfl hr
    · cases hv
  · cases hv
/-! ### the text at the end -/
theorem lies_off {P : Program} {e : TypeId} (hc : P.cellsOf e = 1) (count off n : Nat) (hn : off + n ≤ count) (h0 : 0 < n) : liesAt P P.depth e count off e n = true := by
  have hd : P.depth = (2 * (P.types.size + Made.depth) + 1) + 1 := rfl
  rw [hd]
  simp only [liesAt, Bool.or_eq_true]
  left
  rw [hd]
  simp [rowAt, hc, sameLayout, hn, Nat.mod_one]
theorem unsafe_text {P : Program} (w : World) (pt it ty e : TypeId) (hp : P.underlying pt = some (.pointer e)) (hc : P.cellsOf e = 1) (g off cells : Nat) (hsh : w.shape? g = some (e, cells)) (l : List UInt8) (h0 : l ≠ []) (hn : off + l.length ≤ cells) (h63 : l.length ≤ 9223372036854775807)
    (hcell : ∀ (j : Nat) x, l[j]? = some x → w.cell? ((⟨g, off, none⟩ : Addr).add j) = some (.int .u8 x.toNat)) :
    (Builtin.unsafeString_ #[pt, it] ty #[.pointer (some ⟨g, off, none⟩), .int .i64 l.length]).run P w = .ok (.string ⟨l.toArray⟩) (w.freeze ⟨g, off, none⟩ l.length) := by
  have hl : l.length ≠ 0 := by simpa using h0
  have hlb := Lib.run_loadBytes (P := P) w l ⟨g, off, none⟩ .empty hcell
  have hlies := lies_off (P := P) hc (cells / P.cellsOf e) off l.length (by rw [hc]; simpa using hn) (by omega)
  have h63' : ¬ (9223372036854775807 : Int) < (l.length : Int) := by omega
  have hmax : IntKind.i64.max = 9223372036854775807 := rfl
  have hneg : ¬ (l.length : Int) < 0 := by omega
  conv in (Builtin.unsafeString_ _ _ _) => whnf
  generalize (IntKind.max .i64).decLt (l.length : Int) = D
  cases D with
  | isTrue h => exact absurd h h63'
  | isFalse h =>
    dsimp only
    simp [hl, variablesAt, hsh, elemOf, run_underlying hp, hlies, hlb]
set_option maxHeartbeats 2000000 in
theorem text_at {P : Program} {ρ : Go.Shelf.Ren} (L : Lays.n169 P ρ) (X : Builder.Extra P ρ) (b g off cap : Nat) (p : Value) (cur : Array Value) (l : List UInt8) (w : World) (h0 : l ≠ []) (hb : w.heap[b]? = some (.cells #[p, .slice (some ⟨g, off, none⟩) l.length cap] (ρ.t 72) (0, 0)))
    (hg : w.heap[g]? = some (.cells cur (ρ.t 5) (0, 0))) (hcap : l.length ≤ cap) (hm : cap ≤ maxLen) (hcur : off + cap ≤ cur.size) (hx : ∀ (j : Nat) x, l[j]? = some x → cur[off + j]? = some (.int .u8 x.toNat)) :
    Calls P (ρ.f 169) #[.pointer (some ⟨b, 0, none⟩)] w fun e w' => e = .returned (.string ⟨l.toArray⟩) ∧ w' = w.drew.freeze ⟨g, off, none⟩ l.length := by
  have hl0 : l.length ≠ 0 := by simpa using h0
  have c1 : w.drew.cell? ⟨b, 1, none⟩ = some (.slice (some ⟨g, off, none⟩) l.length cap) := by
    rw [Lib.cell_of_heap (w := w.drew) hb]; rfl
  have hSD : (Builtin.unsafeSliceData_ #[(ρ.t 37)] (ρ.t 127) #[.slice (some ⟨g, off, none⟩) l.length cap]).run P w.drew = .ok (.pointer (some ⟨g, off, none⟩)) w.drew :=
    Lib.run_unsafeSliceData_row _ _ _ _ _ _ (by omega)
  have hUS : (Builtin.unsafeString_ #[(ρ.t 127), (ρ.t 3)] (ρ.t 9) #[.pointer (some ⟨g, off, none⟩), .int .i64 l.length]).run P w.drew = .ok (.string ⟨l.toArray⟩) (w.drew.freeze ⟨g, off, none⟩ l.length) := by
    refine unsafe_text w.drew (ρ.t 127) (ρ.t 3) (ρ.t 9) (ρ.t 5) L.t127 X.cellsByte g off cur.size (by have hg' : w.drew.heap[g]? = some (.cells cur (ρ.t 5) (0, 0)) := hg; simp [World.shape?, hg']) l h0 (by omega) (by unfold maxLen at hm; omega) ?_
    intro j x hj
    rw [addr_add, Lib.cell_of_heap (w := w.drew) hg]
    exact hx j x hj
  have mixed := L.mixed
  have t72 := L.t72; have a72 := L.a72; have z72 := L.z72; have v72 := L.v72; have u72 := run_underlying L.t72
  have t70 := L.t70; have a70 := L.a70; have z70 := L.z70; have v70 := L.v70; have u70 := run_underlying L.t70
  have t37 := L.t37; have a37 := L.a37; have z37 := L.z37; have v37 := L.v37; have u37 := run_underlying L.t37
  have t127 := L.t127; have a127 := L.a127; have z127 := L.z127; have v127 := L.v127; have u127 := run_underlying L.t127
  have t3 := L.t3; have a3 := L.a3; have z3 := L.z3; have v3 := L.v3; have u3 := run_underlying L.t3
  have t9 := L.t9; have a9 := L.a9; have z9 := L.z9; have v9 := L.v9; have u9 := run_underlying L.t9
  have t5 := X.t5; have a5 := X.a5; have z5 := X.z5; have v5 := X.v5; have u5 := run_underlying X.t5
  go_enter L.f169, Body.n169_ntmps ρ
  go_wp2
  go_region_o
  all_goals (go_wp2; go_ret; exact ⟨rfl, rfl⟩)
def byB (l : List Int) : Bool := l.all fun x => decide (0 ≤ x) && decide (x < 256)
def txtS : Eng.Obj
  | [.ptr 0 0], [(0, .cells t [p, .sub 1 1 0 n]), (1, .lst true t' [.int .u8] l)] => if t = TB ∧ t' = 5 then .ite none (byB l && (decide (n = List.length l) && decide (0 < n))) (.ret (.s (.str (rowStr l)), [])) .fail else .fail
  | _, _ => .fail
theorem byte_back {l : List Int} (h : byB l = true) (j : Nat) (x : UInt8) (hx : (l.map fun n => UInt8.ofNat n.toNat)[j]? = some x) : l[j]? = some ((x.toNat : Nat) : Int) := by
  rw [List.getElem?_map] at hx
  obtain ⟨n, hn, rfl⟩ := Option.map_eq_some_iff.1 hx
  have := List.all_eq_true.1 h n (List.mem_of_getElem? hn)
  rw [Bool.and_eq_true, decide_eq_true_eq, decide_eq_true_eq] at this
  rw [hn]
  congr 1
  rw [UInt8.toNat_ofNat']
  omega
theorem byte_cell {l : List Int} {j : Nat} {n : Int} (h : l[j]? = some n) : (rowsV [.int .u8] (u8 l))[j]? = some (Value.int .u8 n) := by
  rw [rowsV_u8, List.getElem?_map, h]; rfl
theorem txtS_ok : ObjOk Tryd.prog 42 txtS := by
  refine ⟨⟨_, Tryd.func42, by kernel_rfl, by kernel_rfl⟩, fun args h v h' ν w hG hgs hok hb hr hv ho => ?_⟩
  unfold txtS at hv
  split at hv
  · rename_i t p n t' l
    split at hv
    · rename_i ht
      obtain ⟨rfl, rfl⟩ := ht
      obtain ⟨hc, hv⟩ := ite_T' hv
      rw [Bool.and_eq_true, Bool.and_eq_true, decide_eq_true_eq, decide_eq_true_eq] at hc
      obtain ⟨c1, c2, c3⟩ := hc
      obtain ⟨rfl, rfl⟩ : V.s (.str (rowStr l)) = v ∧ ([] : Eng.Heap) = h' := by
        have := Option.some.inj hv
        exact ⟨congrArg Prod.fst this, congrArg Prod.snd this⟩
      obtain ⟨d0, d1, d2⟩ := hr.den 0 _ rfl
      obtain ⟨e0, e1⟩ := hr.den 1 (.lst true 5 [.int .u8] l) rfl
      have rl : (rowsV [.int .u8] l).length = l.length := by rw [rowsV_length]; simp
      rcases e0.2 with ⟨_, q⟩ | ⟨g, off, cap, cur, q1, q2, q3, q4, q5, q6, q7⟩
      · omega
      · simp only [Value.slice.injEq, true_and] at q1
        obtain ⟨qa, qc⟩ := q1
        have q6 : off + cap ≤ cur.size := by simpa using q6
        have q7 : (cur.toList.drop off).take l.length = rowsV [.int .u8] l := by simpa using q7
        have d2 : w.heap[(ν 0).core.blk]? = some (.cells #[p.den ν, .slice (some ⟨g, off, none⟩) n cap] TB (0, 0)) := by
          rw [d2]
          congr 2
          simp [denL, V.den, qa, qc, addr_add]
        have ea : (denL ν [.ptr 0 0]).toArray = #[.pointer (some ⟨(ν 0).core.blk, 0, none⟩)] := by simp [denL, V.den, d0]
        rw [ea]
        have hb8 : (l.map fun n => UInt8.ofNat n.toNat).length = n := by rw [List.length_map, c2]
        rw [← hb8] at d2
        refine (text_at Tryd.lays169 Tryd.Builder_Extra_169 _ g off cap _ cur (l.map fun n => UInt8.ofNat n.toNat) w (fun q => by rw [q] at hb8; simp at hb8; omega) d2 q3 (by rw [hb8]; omega) q5 q6 (fun j x hx => ?_)).mono ?_
        · have hj : j < l.length := by
            have := (List.getElem?_eq_some_iff.1 hx).1
            simpa using this
          have hl := byte_back c1 j x hx
          have : (rowsV [.int .u8] l)[j]? = some (Value.int .u8 ((x.toNat : Nat) : Int)) := by
            exact byte_cell hl
          rw [← q7, List.getElem?_take_of_lt hj, List.getElem?_drop, Array.getElem?_toList] at this
          exact this
        · rintro e w' ⟨rfl, rfl⟩
          have gfp : ownFp ν [(0, .cells TB [p, .sub 1 1 0 n]), (1, .lst true 5 [.int .u8] l)] g := ⟨1, _, rfl, rfl, (e1 g).2 ⟨_, qa, rfl⟩⟩
          refine ⟨ν, rfl, fun _ _ => rfl, ⟨fun i b e => (by cases e), fun i j bi bj ne ei ej => (by cases ei)⟩, fun i b e => (by cases e), ?_⟩
          refine ⟨?_, ?_, ?_, ?_, fun k hk hn => ?_⟩
          · unfold World.freeze; split <;> rfl
          · unfold World.freeze; split <;> rfl
          · unfold World.freeze; split <;> rfl
          · unfold World.freeze
            split
            · exact Nat.le_refl _
            · show w.heap.size ≤ (Array.modify w.heap _ _).size
              rw [Array.size_modify]; exact Nat.le_refl _
          · unfold World.freeze
            split
            · rfl
            · simp only [Array.getElem?_modify]
              rw [if_neg (fun q => hn (by rw [← q]; exact gfp))]
              rfl
    · cases hv
  · cases hv
end Go.Proofs.YtndcealgackgiaaDoor.Txt

/- Layer 4: what is told of a few: closed runs. -/
namespace Go.Proofs.YtndcealgackgiaaDoor.Txt
open Go.Eng Go.RowKit
set_option linter.unusedVariables false
set_option linter.unusedSimpArgs false
set_option maxRecDepth 100000
theorem mixed : Tryd.prog.follows .mixedOrders = true := by kernel_rfl
noncomputable def K0 : Cfg := ⟨Tryd.prog, lookG [(16, .val cutS), (37, .val preS), (18, .val trimS), (44, .val trimRS), (45, .val itoaS), (43, .val fmtS), (57, .obj ccS), (42, .obj txtS)], [], 0⟩
theorem K0_ok : K0.Ok := Cfg.ok ⟨cutS_ok, preS_ok, trimS_ok, trimRS_ok, itoaS_ok, fmtS_ok, ccS_ok, txtS_ok, trivial⟩ trivial
noncomputable def natR : Eng.Spec := execS K0 (rounds K0 11 1) 38
theorem natR_ok : SpecOk Tryd.prog 38 natR := execS_rounds K0_ok mixed 11 1 Tryd.func38 (by kernel_rfl) (by kernel_rfl)
noncomputable def idxR : Eng.Spec := execS K0 (rounds K0 9 1) 49
theorem idxR_ok : SpecOk Tryd.prog 49 idxR := execS_rounds K0_ok mixed 9 1 Tryd.func49 (by kernel_rfl) (by kernel_rfl)
noncomputable def wrR : Eng.Obj := execO K0 noLoops 40
theorem wrR_ok : ObjOk Tryd.prog 40 wrR := execO_plain K0_ok mixed Tryd.func40 (by kernel_rfl) (by kernel_rfl)
noncomputable def K1 : Cfg := ⟨Tryd.prog, lookG [(16, .val cutS), (37, .val preS), (18, .val trimS), (44, .val trimRS), (45, .val itoaS), (43, .val fmtS), (38, .val natR)], [], 0⟩
theorem K1_ok : K1.Ok := Cfg.ok ⟨cutS_ok, preS_ok, trimS_ok, trimRS_ok, itoaS_ok, fmtS_ok, natR_ok, trivial⟩ trivial
noncomputable def numR : Eng.Spec := execS K1 (rounds K1 4 1) 20
theorem numR_ok : SpecOk Tryd.prog 20 numR := execS_rounds K1_ok mixed 4 1 Tryd.func20 (by kernel_rfl) (by kernel_rfl)
noncomputable def shoR : Eng.Spec := execS K1 noLoops 22
theorem shoR_ok : SpecOk Tryd.prog 22 shoR := execS_plain K1_ok mixed Tryd.func22 (by kernel_rfl) (by kernel_rfl)
noncomputable def plcR : Eng.Obj := execO K1 noLoops 28
theorem plcR_ok : ObjOk Tryd.prog 28 plcR := execO_plain K1_ok mixed Tryd.func28 (by kernel_rfl) (by kernel_rfl)
noncomputable def K2 : Cfg := ⟨Tryd.prog, lookG [(16, .val cutS), (37, .val preS), (18, .val trimS), (44, .val trimRS), (45, .val itoaS), (43, .val fmtS), (38, .val natR), (20, .val numR), (22, .val shoR)], [], 0⟩
theorem K2_ok : K2.Ok := Cfg.ok ⟨cutS_ok, preS_ok, trimS_ok, trimRS_ok, itoaS_ok, fmtS_ok, natR_ok, numR_ok, shoR_ok, trivial⟩ trivial
noncomputable def putR : Eng.Obj := execO K2 noLoops 27
theorem putR_ok : ObjOk Tryd.prog 27 putR := execO_plain K2_ok mixed Tryd.func27 (by kernel_rfl) (by kernel_rfl)
noncomputable def tlpR : Eng.Obj := execO K2 noLoops 41
theorem tlpR_ok : ObjOk Tryd.prog 41 tlpR := execO_plain K2_ok mixed Tryd.func41 (by kernel_rfl) (by kernel_rfl)
noncomputable def K3 : Cfg := ⟨Tryd.prog, lookG [(16, .val cutS), (37, .val preS), (18, .val trimS), (44, .val trimRS), (45, .val itoaS), (43, .val fmtS), (49, .val idxR)], [], 0⟩
theorem K3_ok : K3.Ok := Cfg.ok ⟨cutS_ok, preS_ok, trimS_ok, trimRS_ok, itoaS_ok, fmtS_ok, idxR_ok, trivial⟩ trivial
noncomputable def conR : Eng.Spec := execS K3 noLoops 26
theorem conR_ok : SpecOk Tryd.prog 26 conR := execS_plain K3_ok mixed Tryd.func26 (by kernel_rfl) (by kernel_rfl)
noncomputable def K4 : Cfg := ⟨Tryd.prog, lookG [(16, .val cutS), (37, .val preS), (18, .val trimS), (44, .val trimRS), (45, .val itoaS), (43, .val fmtS), (26, .val conR), (28, .obj (Eng.Obj.plain plcR)), (27, .obj (Eng.Obj.plain putR))], [], 0⟩
theorem K4_ok : K4.Ok := Cfg.ok ⟨cutS_ok, preS_ok, trimS_ok, trimRS_ok, itoaS_ok, fmtS_ok, conR_ok, plcR_ok.plain, putR_ok.plain, trivial⟩ trivial
noncomputable def takR : Eng.Obj := execO K4 noLoops 17
theorem takR_ok : ObjOk Tryd.prog 17 takR := execO_plain K4_ok mixed Tryd.func17 (by kernel_rfl) (by kernel_rfl)
noncomputable def outR : Eng.Spec := execS K0 noLoops 54
theorem outR_ok : SpecOk Tryd.prog 54 outR := execS_plain K0_ok mixed Tryd.func54 (by kernel_rfl) (by kernel_rfl)
noncomputable def mosR : Eng.Spec := execS K0 noLoops 55
theorem mosR_ok : SpecOk Tryd.prog 55 mosR := execS_plain K0_ok mixed Tryd.func55 (by kernel_rfl) (by kernel_rfl)
noncomputable def K5 : Cfg := ⟨Tryd.prog, lookG [(16, .val cutS), (37, .val preS), (18, .val trimS), (44, .val trimRS), (45, .val itoaS), (43, .val fmtS), (54, .val outR), (55, .val mosR)], [], 0⟩
theorem K5_ok : K5.Ok := Cfg.ok ⟨cutS_ok, preS_ok, trimS_ok, trimRS_ok, itoaS_ok, fmtS_ok, outR_ok, mosR_ok, trivial⟩ trivial
noncomputable def wroR : Eng.Spec := execS K5 noLoops 36
theorem wroR_ok : SpecOk Tryd.prog 36 wroR := execS_plain K5_ok mixed Tryd.func36 (by kernel_rfl) (by kernel_rfl)
noncomputable def K6 : Cfg := ⟨Tryd.prog, lookG [(16, .val cutS), (37, .val preS), (18, .val trimS), (44, .val trimRS), (45, .val itoaS), (43, .val fmtS), (36, .val wroR)], [], 0⟩
theorem K6_ok : K6.Ok := Cfg.ok ⟨cutS_ok, preS_ok, trimS_ok, trimRS_ok, itoaS_ok, fmtS_ok, wroR_ok, trivial⟩ trivial
noncomputable def mayR : Eng.Spec := execS K6 noLoops 19
theorem mayR_ok : SpecOk Tryd.prog 19 mayR := execS_plain K6_ok mixed Tryd.func19 (by kernel_rfl) (by kernel_rfl)
noncomputable def K7 : Cfg := ⟨Tryd.prog, lookG [(16, .val cutS), (37, .val preS), (18, .val trimS), (44, .val trimRS), (45, .val itoaS), (43, .val fmtS), (17, .obj (Eng.Obj.plain takR)), (19, .val mayR)], [], 0⟩
theorem K7_ok : K7.Ok := Cfg.ok ⟨cutS_ok, preS_ok, trimS_ok, trimRS_ok, itoaS_ok, fmtS_ok, takR_ok.plain, mayR_ok, trivial⟩ trivial
noncomputable def parR : Eng.Spec := execS K7 (rounds K7 6 1) 5
theorem parR_ok : SpecOk Tryd.prog 5 parR := execS_rounds K7_ok mixed 6 1 Tryd.func5 (by kernel_rfl) (by kernel_rfl)
noncomputable def namR : Eng.Spec := execS K0 noLoops 39
theorem namR_ok : SpecOk Tryd.prog 39 namR := execS_plain K0_ok mixed Tryd.func39 (by kernel_rfl) (by kernel_rfl)
noncomputable def K8 : Cfg := ⟨Tryd.prog, lookG [(16, .val cutS), (37, .val preS), (18, .val trimS), (44, .val trimRS), (45, .val itoaS), (43, .val fmtS), (19, .val mayR), (40, .obj (Eng.Obj.plain wrR)), (42, .obj txtS), (28, .obj (Eng.Obj.plain plcR)), (41, .obj (Eng.Obj.plain tlpR)), (39, .val namR)], [], 0⟩
theorem K8_ok : K8.Ok := Cfg.ok ⟨cutS_ok, preS_ok, trimS_ok, trimRS_ok, itoaS_ok, fmtS_ok, mayR_ok, wrR_ok.plain, txtS_ok, plcR_ok.plain, tlpR_ok.plain, namR_ok, trivial⟩ trivial
noncomputable def priR : Eng.Spec := execS K8 (rounds K8 21 1) 21
theorem priR_ok : SpecOk Tryd.prog 21 priR := execS_rounds K8_ok mixed 21 1 Tryd.func21 (by kernel_rfl) (by kernel_rfl)
noncomputable def dfl : Eng.Spec := execS K0 noLoops 6
theorem dfl_ok : SpecOk Tryd.prog 6 dfl := execS_plain K0_ok mixed Tryd.func6 (by kernel_rfl) (by kernel_rfl)
noncomputable def K9 : Cfg := ⟨Tryd.prog, lookG [(16, .val cutS), (37, .val preS), (18, .val trimS), (44, .val trimRS), (45, .val itoaS), (43, .val fmtS), (5, .val parR), (20, .val numR), (22, .val shoR), (21, .val priR), (6, .val dfl)], [25], 0⟩
theorem K9_ok : K9.Ok := Cfg.ok ⟨cutS_ok, preS_ok, trimS_ok, trimRS_ok, itoaS_ok, fmtS_ok, parR_ok, numR_ok, shoR_ok, priR_ok, dfl_ok, trivial⟩ ⟨⟨by kernel_rfl, by kernel_rfl⟩, trivial⟩
noncomputable def tldX : Eng.Spec := execS K9 noLoops 7
theorem tldX_ok : SpecOk Tryd.prog 7 tldX := execS_plain K9_ok mixed Tryd.func7 (by kernel_rfl) (by kernel_rfl)
end Go.Proofs.YtndcealgackgiaaDoor.Txt

/- Layer 4: numbers: loops. -/
namespace Go.Proofs.YtndcealgackgiaaDoor.Txt
open Go.Eng Go.RowKit
set_option linter.unusedVariables false
set_option linter.unusedSimpArgs false
set_option maxRecDepth 100000
noncomputable def lpNa : Code := loopAt Tryd.prog 38 0
structure PNa where (s : ByteArray) (z : Int)
structure ANa where (n : Int) (i : Int)
abbrev SNa : List (Nat × Src) := []
def vsNa (p : PNa) (a : ANa) : List V := [.s (.str p.s), iv a.n, iv p.z, iv a.i]
def bsNa (p : PNa) (a : ANa) : List Blk := []
noncomputable def FNa (p : PNa) (a : ANa) : St := mkSt [0,6,18,19] (keysR SNa) 3000 42 (vsNa p a) (bsNa p a)
abbrev SNax : List (Nat × Src) := []
noncomputable def rdNa (p : PNa) (a : ANa) : T (Ex × St) := T.anon (roundX K0 noLoops lpNa [0,6,18,19] SNa [4,5,6] SNax 3000 3000 (mkSt [0,6,18,19] (keysR SNa) 3000 42 (vsNa p a) (bsNa p a)))
def decNa_v0 : V → Option ((ByteArray))
  | .s (.str s) => some (s)
  | _ => none
theorem decNa_v0_ok (b : V) (x0 : (ByteArray)) (h : decNa_v0 b = some x0) : b = .s (.str (x0)) := by
  unfold decNa_v0 at h
  split at h
  · cases h
    rfl
  · cases h
def decNa_v1 : V → Option ((Int))
  | .s (.int .i64 n) => some (n)
  | _ => none
theorem decNa_v1_ok (b : V) (x1 : (Int)) (h : decNa_v1 b = some x1) : b = iv (x1) := by
  unfold decNa_v1 at h
  split at h
  · cases h
    rfl
  · cases h
def decNa_v2 : V → Option ((Int))
  | .s (.int .i64 z) => some (z)
  | _ => none
theorem decNa_v2_ok (b : V) (x2 : (Int)) (h : decNa_v2 b = some x2) : b = iv (x2) := by
  unfold decNa_v2 at h
  split at h
  · cases h
    rfl
  · cases h
def decNa_v3 : V → Option ((Int))
  | .s (.int .i64 i) => some (i)
  | _ => none
theorem decNa_v3_ok (b : V) (x3 : (Int)) (h : decNa_v3 b = some x3) : b = iv (x3) := by
  unfold decNa_v3 at h
  split at h
  · cases h
    rfl
  · cases h
def decNa : List V → List Blk → Option (PNa × ANa)
  | [v0, v1, v2, v3], [] => (decNa_v0 v0).bind fun x0 => (decNa_v1 v1).bind fun x1 => (decNa_v2 v2).bind fun x2 => (decNa_v3 v3).bind fun x3 => some (⟨(x0), (x2)⟩, ⟨(x1), (x3)⟩)
  | _, _ => none
theorem decNa_ok (l : List V) (b : List Blk) (d : PNa × ANa) (h : decNa l b = some d) : l = vsNa d.1 d.2 ∧ b = bsNa d.1 d.2 := by
  unfold decNa at h
  split at h
  · obtain ⟨x0, hx0, h⟩ := Option.bind_eq_some_iff.1 h
    obtain ⟨x1, hx1, h⟩ := Option.bind_eq_some_iff.1 h
    obtain ⟨x2, hx2, h⟩ := Option.bind_eq_some_iff.1 h
    obtain ⟨x3, hx3, h⟩ := Option.bind_eq_some_iff.1 h
    have ex0 := decNa_v0_ok _ _ hx0
    have ex1 := decNa_v1_ok _ _ hx1
    have ex2 := decNa_v2_ok _ _ hx2
    have ex3 := decNa_v3_ok _ _ hx3
    cases h
    subst ex0 ex1 ex2 ex3
    exact ⟨rfl, rfl⟩
  · cases h
noncomputable def rgNa : Nat := (firstReg lpNa).getD 0
theorem rgNa_is : firstReg lpNa = some rgNa := by kernel_rfl
noncomputable def lpDe : Code := loopAt Tryd.prog 61 0
structure PDe where 
structure ADe where (n : Int) (s : ByteArray)
abbrev SDe : List (Nat × Src) := []
def vsDe (p : PDe) (a : ADe) : List V := [iv a.n, .s (.str a.s)]
def bsDe (p : PDe) (a : ADe) : List Blk := []
noncomputable def FDe (p : PDe) (a : ADe) : St := mkSt [0,3] (keysR SDe) 3000 22 (vsDe p a) (bsDe p a)
noncomputable def rdDe (p : PDe) (a : ADe) : T (Ex × St) := T.anon (roundN K0 noLoops lpDe [0,3] SDe 3000 3000 (mkSt [0,3] (keysR SDe) 3000 22 (vsDe p a) (bsDe p a)))
def decDe : List V → List Blk → Option (PDe × ADe)
  | [.s (.int .i64 n), .s (.str s)], [] =>
    some (⟨⟩, ⟨n, s⟩)
  | _, _ => none
theorem decDe_ok (l : List V) (b : List Blk) (d : PDe × ADe) (h : decDe l b = some d) : l = vsDe d.1 d.2 ∧ b = bsDe d.1 d.2 := by
  unfold decDe at h
  split at h
  · cases h
    exact ⟨rfl, rfl⟩
  · cases h
noncomputable def rgDe : Nat := (firstReg lpDe).getD 0
theorem rgDe_is : firstReg lpDe = some rgDe := by kernel_rfl
/-! ### a whole number of digits -/
def dig (b : UInt8) : Bool := decide (48 ≤ b.toNat) && decide (b.toNat ≤ 57)
def natL (l : List UInt8) : Int := l.foldl (fun a b => a * 10 + (((b.toNat : Nat) : Int) - 48)) 0
theorem natL_snoc (l : List UInt8) (b : UInt8) : natL (l ++ [b]) = natL l * 10 + (((b.toNat : Nat) : Int) - 48) := by
  unfold natL; rw [List.foldl_append]; rfl
theorem natL_in : ∀ (n : Nat) (l : List UInt8), l.length = n → (∀ b ∈ l, dig b = true) → 0 ≤ natL l ∧ natL l < 10 ^ n
  | 0, l, h, _ => by
    have := List.eq_nil_of_length_eq_zero h
    subst this
    exact ⟨Int.le_refl _, by decide⟩
  | n + 1, l, h, hd => by
    have hne : l ≠ [] := fun q => by rw [q] at h; cases h
    rw [← List.dropLast_concat_getLast hne, natL_snoc]
    have hb := hd _ (List.getLast_mem hne)
    unfold dig at hb
    rw [Bool.and_eq_true, decide_eq_true_eq, decide_eq_true_eq] at hb
    have ih := natL_in n l.dropLast (by rw [List.length_dropLast]; omega) (fun b hb => hd b (List.dropLast_subset l hb))
    have e : (10 : Int) ^ (n + 1) = 10 ^ n * 10 := Int.pow_succ 10 n
    omega
def L8 (s : ByteArray) : List UInt8 := s.data.toList
theorem L8_len (s : ByteArray) : (L8 s).length = s.size := Array.length_toList
def xNa (p : PNa) (a : ANa) : UInt8 := (L8 p.s).getD a.i.toNat 0
theorem byteAt_L8 (s : ByteArray) (i : Int) : byteAt s i = ((((L8 s).getD i.toNat 0).toNat : Nat) : Int) := by
  unfold byteAt L8
  rw [List.getD_eq_getElem?_getD, Array.getElem?_toList, Array.getD_eq_getD_getElem?]
def bN (p : PNa) (a : ANa) : Int := byteAt p.s a.i
def inN (p : PNa) (a : ANa) : Bool := decide (0 ≤ a.i) && decide (a.i < (p.s.size : Int))
def hdN (p : PNa) (a : ANa) (c : Bool) : List (Bool × Bool) := [(decide (a.i < p.z), true), (inN p a, true), (bif decide (bN p a < 48) == false && true then inN p a else true, true), (bif decide (bN p a < 48) then true else decide (57 < bN p a), c)]
def stN (p : PNa) (a : ANa) (x y z : V) : St := mkSt [4, 5, 6] [] 3000 42 [x, y, z] (bsNa p a)
theorem na_n (p : PNa) (a : ANa) : T.path [true, true, true, false, true] (rdNa p a) = some (hdN p a false ++ [(inN p a, true)], (.normal, FNa p ⟨IntKind.wrap .i64 (IntKind.wrap .i64 (a.n * 10) + IntKind.wrap .i64 (IntKind.wrap .u8 (bN p a - 48))), IntKind.wrap .i64 (a.i + 1)⟩)) := by kernel_rfl
theorem na_f (p : PNa) (a : ANa) : T.path [true, true, true, true] (rdNa p a) = some (hdN p a true, (.ret, stN p a (iv 0) (.s (.bool false)) (iv a.n))) := by kernel_rfl
theorem na_x (p : PNa) (a : ANa) : T.path [false] (rdNa p a) = some ([(decide (a.i < p.z), false)], (.exit 0, stN p a .junk .junk (iv a.n))) := by kernel_rfl
theorem wrap64 {n : Int} (h0 : -9223372036854775808 ≤ n) (h1 : n ≤ 9223372036854775807) : IntKind.wrap .i64 n = n := wrap64_in h0 h1
structure okNa (p : PNa) (a : ANa) : Prop where
  z : p.z = (p.s.size : Int)
  z9 : p.z ≤ 9
  i0 : 0 ≤ a.i
  i1 : a.i ≤ p.z
  d : ∀ b ∈ (L8 p.s).take a.i.toNat, dig b = true
  n : a.n = natL ((L8 p.s).take a.i.toNat)
def goNa (p : PNa) (a : ANa) : Bool := decide (a.i < p.z) && dig (xNa p a)
def muNa (p : PNa) (a : ANa) : Nat := (p.z - a.i).toNat
theorem na_hd {p : PNa} {a : ANa} (h : okNa p a) (hi : a.i < p.z) {c : Bool} (hc : (!dig (xNa p a)) = c) : allSay (hdN p a c) := by
  have hin : inN p a = true := by unfold inN; rw [decide_eq_true h.i0, decide_eq_true (show a.i < (p.s.size : Int) by have := h.z; omega)]; rfl
  refine ⟨decide_eq_true hi, hin, by rw [hin]; cases decide (bN p a < 48) <;> rfl, ?_, trivial⟩
  have e : bN p a = (((xNa p a).toNat : Nat) : Int) := byteAt_L8 _ _
  rw [← hc, e]
  unfold dig
  by_cases q : 48 ≤ (xNa p a).toNat
  · rw [decide_eq_true q, decide_eq_false (show ¬ (((xNa p a).toNat : Nat) : Int) < 48 by omega)]
    by_cases r : (xNa p a).toNat ≤ 57
    · rw [decide_eq_true r, decide_eq_false (show ¬ (57 : Int) < (((xNa p a).toNat : Nat) : Int) by omega)]; rfl
    · rw [decide_eq_false r, decide_eq_true (show (57 : Int) < (((xNa p a).toNat : Nat) : Int) by omega)]; rfl
  · rw [decide_eq_false q, decide_eq_true (show (((xNa p a).toNat : Nat) : Int) < 48 by omega)]; rfl
theorem take_nextT {α : Type} {l : List α} {i : Int} (h0 : 0 ≤ i) (hl : i.toNat < l.length) : l.take (i + 1).toNat = l.take i.toNat ++ [l[i.toNat]] := by
  rw [show (i + 1).toNat = i.toNat + 1 by omega, List.take_succ_eq_append_getElem hl]
theorem stepNa (p : PNa) (a : ANa) (h : okNa p a) (hg : goNa p a = true) : ∃ b, stepC okNa rdNa FNa muNa p a b := by
  unfold goNa at hg
  rw [Bool.and_eq_true, decide_eq_true_eq] at hg
  obtain ⟨hi, hd⟩ := hg
  have hh := na_hd h hi (c := false) (by rw [hd]; rfl)
  have hin : inN p a = true := hh.2.1
  obtain ⟨h1, h2, h3, h4, h5, h6⟩ := h
  have hl : a.i.toNat < (L8 p.s).length := by rw [L8_len]; omega
  have ex : xNa p a = (L8 p.s)[a.i.toNat] := by
    unfold xNa
    rw [List.getD_eq_getElem?_getD, List.getElem?_eq_getElem hl]; rfl
  have e : bN p a = (((xNa p a).toNat : Nat) : Int) := byteAt_L8 _ _
  obtain ⟨q0, q1⟩ := natL_in a.i.toNat ((L8 p.s).take a.i.toNat) (by rw [List.length_take]; omega) h5
  have hq : (10 : Int) ^ a.i.toNat ≤ 10 ^ 9 := by
    have : (10 : Nat) ^ a.i.toNat ≤ 10 ^ 9 := Nat.pow_le_pow_right (by decide) (by omega)
    exact_mod_cast this
  have hq9 : (10 : Int) ^ 9 = 1000000000 := by decide
  rw [← h6] at q0 q1
  have hd' := hd
  unfold dig at hd'
  rw [Bool.and_eq_true, decide_eq_true_eq, decide_eq_true_eq] at hd'
  have way := na_n p a
  rw [wrap64 (n := a.i + 1) (by omega) (by omega), show IntKind.wrap .u8 (bN p a - 48) = (((xNa p a).toNat : Nat) : Int) - 48 by rw [IntKind.wrap_u8, e]; omega, wrap64 (n := a.n * 10) (by omega) (by omega), wrap64 (n := (((xNa p a).toNat : Nat) : Int) - 48) (by omega) (by omega), wrap64 (n := a.n * 10 + ((((xNa p a).toNat : Nat) : Int) - 48)) (by omega) (by omega)] at way
  refine ⟨_, T.path_eval way (allSay_append hh ⟨hin, trivial⟩), ⟨h1, h2, by show 0 ≤ a.i + 1; omega, by show a.i + 1 ≤ p.z; omega, ?_, ?_⟩, by show (p.z - (a.i + 1)).toNat < (p.z - a.i).toNat; omega⟩
  · show ∀ b ∈ (L8 p.s).take (a.i + 1).toNat, dig b = true
    rw [take_nextT h3 hl]
    intro b hb
    rcases List.mem_append.1 hb with q | q
    · exact h5 b q
    · rw [List.mem_singleton.1 q, ← ex]; exact hd
  · show a.n * 10 + ((((xNa p a).toNat : Nat) : Int) - 48) = natL ((L8 p.s).take (a.i + 1).toNat)
    rw [take_nextT h3 hl, natL_snoc, ← h6, ← ex]
noncomputable def outNa (p : PNa) (a : ANa) : T (Ex × St) := .ite none (decide (a.i < p.z)) (.ret (.ret, stN p a (iv 0) (.s (.bool false)) (iv a.n))) (.ret (.exit 0, stN p a .junk .junk (iv a.n)))
theorem exNa (p : PNa) (a : ANa) (h : okNa p a) (hg : goNa p a = false) (r : Ex × St) (hr : (outNa p a).eval = some r) : r.1 ≠ .normal ∧ (rdNa p a).eval = some r := by
  unfold outNa at hr
  by_cases hi : a.i < p.z
  · have hd : dig (xNa p a) = false := by
      unfold goNa at hg
      rw [decide_eq_true hi, Bool.true_and] at hg
      exact hg
    rw [decide_eq_true hi] at hr
    obtain rfl := Option.some.inj hr
    exact ⟨by simp, T.path_eval (na_f p a) (na_hd h hi (by rw [hd]; rfl))⟩
  · rw [decide_eq_false hi] at hr
    obtain rfl := Option.some.inj hr
    exact ⟨by simp, T.path_eval (na_x p a) ⟨decide_eq_false hi, trivial⟩⟩
noncomputable def famNa : LSpec := famE [0,6,18,19] SNa SNax 3000 3000 42 decNa okNa goNa rdNa FNa muNa outNa
theorem lpNa_ok : LoopOk K0 lpNa famNa := famE_ok (vs := vsNa) (bs := bsNa) K0_ok mixed (noLoops_ok _) decNa_ok (fun _ _ => rfl) (fun _ _ => rfl) stepNa exNa
noncomputable def natX : Eng.Spec := execS K0 (byReg [(rgNa, famNa)]) 38
theorem natX_ok : SpecOk Tryd.prog 38 natX := execS_loops K0_ok mixed Tryd.func38 (by kernel_rfl) (by kernel_rfl) (one_lp (by kernel_rfl) rgNa_is lpNa_ok)
noncomputable def eNa (s : ByteArray) : ANa := endW (nxtC okNa goNa rdNa FNa muNa ⟨s, (s.size : Int)⟩) ⟨0, 0⟩
def shK (s : ByteArray) (k : Int) : Bool := bif decide ((s.size : Int) < 1) then true else decide (k < (s.size : Int))
def kV (e : Bool) (k : Int) : V := match e with
  | true => .n .i64 k
  | false => iv k
theorem nat_t (e : Bool) (s : ByteArray) (k : Int) : T.path [true] (T.anon (natX [.s (.str s), kV e k])) = some ([(shK s k, true)], .tup [iv 0, .ff]) := by cases e <;> kernel_rfl
theorem nat_f (e : Bool) (s : ByteArray) (k : Int) : T.path [false, true, true] (T.anon (natX [.s (.str s), kV e k])) = some ([(shK s k, false), (invC okNa ⟨s, (s.size : Int)⟩ ⟨0, 0⟩, true), (decide ((eNa s).i < (s.size : Int)), true)], .tup [iv 0, .s (.bool false)]) := by cases e <;> kernel_rfl
theorem nat_n (e : Bool) (s : ByteArray) (k : Int) : T.path [false, true, false] (T.anon (natX [.s (.str s), kV e k])) = some ([(shK s k, false), (invC okNa ⟨s, (s.size : Int)⟩ ⟨0, 0⟩, true), (decide ((eNa s).i < (s.size : Int)), false)], .tup [iv (eNa s).n, .tt]) := by cases e <;> kernel_rfl
def natO (l : List UInt8) (k : Int) : Bool := decide (1 ≤ l.length) && (decide ((l.length : Int) ≤ k) && l.all dig)
def natI (l : List UInt8) (k : Int) : Int := bif natO l k then natL l else 0
def natV (s : ByteArray) (k : Int) : V := .tup [iv (natI (L8 s) k), .s (.bool (natO (L8 s) k))]
theorem nat_run (e : Bool) (s : ByteArray) {k : Int} (hk : k ≤ 9) : ∃ v, (natX [.s (.str s), kV e k]).eval = some v ∧ flat v = true ∧ v.den nu0 = (natV s k).den nu0 := by
  rw [← T.eval_anon (t := natX _)]
  unfold natV natI
  cases hs : shK s k with
  | true =>
    refine ⟨_, T.path_eval (nat_t e s k) ⟨hs, trivial⟩, rfl, ?_⟩
    have : natO (L8 s) k = false := by
      unfold natO; rw [L8_len]
      unfold shK at hs
      by_cases q : (s.size : Int) < 1
      · rw [decide_eq_false (show ¬ 1 ≤ s.size by omega)]; rfl
      · rw [decide_eq_false q] at hs
        have hs : k < (s.size : Int) := of_decide_eq_true hs
        rw [decide_eq_false (show ¬ (s.size : Int) ≤ k by omega)]; simp
    rw [this]; rfl
  | false =>
    have h1 : 1 ≤ s.size ∧ (s.size : Int) ≤ k := by
      unfold shK at hs
      by_cases q : (s.size : Int) < 1
      · rw [decide_eq_true q] at hs; cases hs
      · rw [decide_eq_false q] at hs
        have hs : ¬ k < (s.size : Int) := of_decide_eq_false hs
        omega
    have h0 : okNa ⟨s, (s.size : Int)⟩ ⟨0, 0⟩ := ⟨rfl, by show (s.size : Int) ≤ 9; omega, Int.le_refl _, by show (0 : Int) ≤ (s.size : Int); omega, fun b hb => by
      have hb : b ∈ (L8 s).take 0 := hb
      simp at hb, by show (0 : Int) = natL ((L8 s).take 0); rfl⟩
    obtain ⟨k1, k2⟩ := endC stepNa h0
    have k1 : okNa ⟨s, (s.size : Int)⟩ (eNa s) := k1
    have k2 : goNa ⟨s, (s.size : Int)⟩ (eNa s) = false := k2
    obtain ⟨-, -, i0, i1, hd, hn⟩ := k1
    have i1 : (eNa s).i ≤ (s.size : Int) := i1
    have hd : ∀ b ∈ (L8 s).take (eNa s).i.toNat, dig b = true := hd
    have hn : (eNa s).n = natL ((L8 s).take (eNa s).i.toNat) := hn
    by_cases hi : (eNa s).i < (s.size : Int)
    · refine ⟨_, T.path_eval (nat_f e s k) ⟨hs, invC_is h0, decide_eq_true hi, trivial⟩, rfl, ?_⟩
      have hx : dig (xNa ⟨s, (s.size : Int)⟩ (eNa s)) = false := by
        unfold goNa at k2
        rw [decide_eq_true (show (eNa s).i < PNa.z ⟨s, (s.size : Int)⟩ from hi), Bool.true_and] at k2
        exact k2
      have hl : (eNa s).i.toNat < (L8 s).length := by rw [L8_len]; omega
      have ex : xNa ⟨s, (s.size : Int)⟩ (eNa s) = (L8 s)[(eNa s).i.toNat] := by
        unfold xNa
        rw [List.getD_eq_getElem?_getD]
        show ((L8 s)[(eNa s).i.toNat]?).getD 0 = _
        rw [List.getElem?_eq_getElem hl]; rfl
      have : (L8 s).all dig = false := by
        rw [List.all_eq_false]
        exact ⟨_, List.getElem_mem hl, by rw [← ex, hx]; simp⟩
      have : natO (L8 s) k = false := by unfold natO; rw [this]; simp
      rw [this]; rfl
    · refine ⟨_, T.path_eval (nat_n e s k) ⟨hs, invC_is h0, decide_eq_false hi, trivial⟩, rfl, ?_⟩
      rw [show (eNa s).i.toNat = (L8 s).length by rw [L8_len]; omega, List.take_length] at hd hn
      have : natO (L8 s) k = true := by
        unfold natO
        rw [List.all_eq_true.2 hd, L8_len, decide_eq_true h1.1, decide_eq_true h1.2]; rfl
      rw [this, hn]; rfl
def natS : Eng.Spec
  | [.s (.str s), .n .i64 k] => .ite none (decide (k ≤ 9)) (.ret (natV s k)) .fail
  | [.s (.str s), .s (.int .i64 k)] => .ite none (decide (k ≤ 9)) (.ret (natV s k)) .fail
  | _ => .fail
theorem natS_ok : SpecOk Tryd.prog 38 natS := natX_ok.of_den fun args v hfl h => by
  clear hfl
  unfold natS at h
  split at h
  · rename_i s k
    obtain ⟨hb, h⟩ := ite_T' h
    obtain rfl := Option.some.inj h
    obtain ⟨v, h1, h2, h3⟩ := nat_run true s (of_decide_eq_true hb)
    exact ⟨v, h1, ⟨h2, rfl⟩, h3⟩
  · rename_i s k
    obtain ⟨hb, h⟩ := ite_T' h
    obtain rfl := Option.some.inj h
    obtain ⟨v, h1, h2, h3⟩ := nat_run false s (of_decide_eq_true hb)
    exact ⟨v, h1, ⟨h2, rfl⟩, h3⟩
  · cases h
/-! ### the document's digits -/
abbrev ten : ByteArray := ⟨#[48, 49, 50, 51, 52, 53, 54, 55, 56, 57]⟩
theorem ten_at : ∀ i : Nat, i < 10 → ten.extract i (i + 1) = ⟨#[UInt8.ofNat (48 + i)]⟩
  | 0, _ => rfl
  | 1, _ => rfl
  | 2, _ => rfl
  | 3, _ => rfl
  | 4, _ => rfl
  | 5, _ => rfl
  | 6, _ => rfl
  | 7, _ => rfl
  | 8, _ => rfl
  | 9, _ => rfl
  | n + 10, h => by omega
def dgB (i : Int) : ByteArray := ten.extract i.toNat (IntKind.wrap .i64 (i + 1)).toNat
theorem dgB_is {i : Int} (h0 : 0 ≤ i) (h1 : i < 10) : dgB i = ⟨#[UInt8.ofNat (48 + i.toNat)]⟩ := by
  unfold dgB
  rw [wrap64 (by omega) (by omega), show (i + 1).toNat = i.toNat + 1 by omega]
  exact ten_at _ (by omega)
def cutC (i : Int) : Bool := decide (0 ≤ i) && (decide (i ≤ IntKind.wrap .i64 (i + 1)) && decide (IntKind.wrap .i64 (i + 1) ≤ (ten.size : Int)))
theorem cutC_is {i : Int} (h0 : 0 ≤ i) (h1 : i < 10) : cutC i = true := by
  unfold cutC
  rw [wrap64 (by omega) (by omega), decide_eq_true h0, decide_eq_true (show i ≤ i + 1 by omega), decide_eq_true (show i + 1 ≤ (ten.size : Int) by show i + 1 ≤ 10; omega)]; rfl
def over (n : Nat) : Bool := decide ((n : Int) > IntKind.max .i64)
theorem over_no {n : Nat} (h : n ≤ 9000000000) : over n = false := by
  have : IntKind.max .i64 = 9223372036854775807 := by decide
  unfold over; rw [this]; exact decide_eq_false (by omega)
theorem de_n (p : PDe) (a : ADe) : T.path [true, false, false, true, false, false] (rdDe p a) = some ([(decide ((9 : Int) < a.n), true), ((10 : Int) == 0, false), ((10 : Int) == 0, false), (cutC (Int.tmod a.n 10), true), (over ((dgB (Int.tmod a.n 10)).size + a.s.size), false), ((10 : Int) == 0, false)], (.normal, FDe p ⟨IntKind.wrap .i64 (Int.tdiv a.n 10), dgB (Int.tmod a.n 10) ++ a.s⟩)) := by kernel_rfl
theorem de_x (p : PDe) (a : ADe) : T.path [false] (rdDe p a) = some ([(decide ((9 : Int) < a.n), false)], (.exit 0, FDe p a)) := by kernel_rfl
structure okDe (p : PDe) (a : ADe) : Prop where
  n0 : 0 ≤ a.n
  k : ∃ k : Nat, k + a.s.size = 19 ∧ a.n < 10 ^ k
def goDe (p : PDe) (a : ADe) : Bool := decide ((9 : Int) < a.n)
def muDe (p : PDe) (a : ADe) : Nat := a.n.toNat
def nxDe (a : ADe) : ADe := ⟨a.n / 10, ⟨#[UInt8.ofNat (48 + (a.n % 10).toNat)]⟩ ++ a.s⟩
theorem de_on {p : PDe} {a : ADe} (h : okDe p a) (hg : goDe p a = true) : (rdDe p a).eval = some (.normal, FDe p (nxDe a)) ∧ okDe p (nxDe a) := by
  have hn : 9 < a.n := of_decide_eq_true hg
  obtain ⟨h0, k, h1, h2⟩ := h
  have e1 : Int.tmod a.n 10 = a.n % 10 := Int.tmod_eq_emod_of_nonneg h0
  have e2 : Int.tdiv a.n 10 = a.n / 10 := Int.tdiv_eq_ediv_of_nonneg h0
  obtain ⟨m, rfl⟩ : ∃ m, k = m + 1 := by
    cases k with
    | zero => simp at h2; omega
    | succ m => exact ⟨m, rfl⟩
  have e3 : (10 : Int) ^ (m + 1) = 10 ^ m * 10 := Int.pow_succ 10 m
  have hb : (10 : Int) ^ (m + 1) ≤ 10 ^ 19 := by
    have : (10 : Nat) ^ (m + 1) ≤ 10 ^ 19 := Nat.pow_le_pow_right (by decide) (by omega)
    exact_mod_cast this
  have hb9 : (10 : Int) ^ 19 = 10000000000000000000 := by decide
  have way := de_n p a
  rw [e1, e2, dgB_is (show 0 ≤ a.n % 10 by omega) (by omega), wrap64 (n := a.n / 10) (by omega) (by omega)] at way
  have sz1 : (⟨#[UInt8.ofNat (48 + (a.n % 10).toNat)]⟩ : ByteArray).size = 1 := rfl
  refine ⟨T.path_eval way ⟨hg, rfl, rfl, cutC_is (by omega) (by omega), over_no (by rw [sz1]; omega), rfl, trivial⟩, by show 0 ≤ a.n / 10; omega, m, ?_, ?_⟩
  · show m + (⟨#[UInt8.ofNat (48 + (a.n % 10).toNat)]⟩ ++ a.s : ByteArray).size = 19
    rw [ByteArray.size_append, sz1]; omega
  · show a.n / 10 < 10 ^ m
    omega
theorem stepDe (p : PDe) (a : ADe) (h : okDe p a) (hg : goDe p a = true) : ∃ b, stepC okDe rdDe FDe muDe p a b := by
  obtain ⟨r1, r2⟩ := de_on h hg
  have hn : 9 < a.n := of_decide_eq_true hg
  exact ⟨_, r1, r2, by show (a.n / 10).toNat < a.n.toNat; omega⟩
theorem exDe (p : PDe) (a : ADe) (h : okDe p a) (hg : goDe p a = false) : (rdDe p a).eval = some (.exit 0, FDe p a) := T.path_eval (de_x p a) ⟨hg, trivial⟩
noncomputable def famDe : LSpec := famC [0,3] SDe 3000 3000 22 decDe okDe goDe rdDe FDe muDe (.exit 0)
theorem lpDe_ok : LoopOk K0 lpDe famDe := famC_ok (vs := vsDe) (bs := bsDe) K0_ok mixed (noLoops_ok _) decDe_ok (by simp) (fun _ _ => rfl) (fun _ _ => rfl) stepDe exDe
noncomputable def decX : Eng.Spec := execS K0 (byReg [(rgDe, famDe)]) 61
theorem decX_ok : SpecOk Tryd.prog 61 decX := execS_loops K0_ok mixed Tryd.func61 (by kernel_rfl) (by kernel_rfl) (one_lp (by kernel_rfl) rgDe_is lpDe_ok)
theorem FDe_inj {p : PDe} {a b : ADe} (h : FDe p a = FDe p b) : a = b := by
  have h : (mkSt [0, 3] (keysR SDe) 3000 22 (vsDe p a) (bsDe p a)).tmps = (mkSt [0, 3] (keysR SDe) 3000 22 (vsDe p b) (bsDe p b)).tmps := congrArg St.tmps h
  have h : [(0, iv a.n), (3, V.s (.str a.s))] = [(0, iv b.n), (3, V.s (.str b.s))] := h
  obtain ⟨n, s⟩ := a
  obtain ⟨m, t⟩ := b
  unfold iv at h
  simp only [List.cons.injEq, Prod.mk.injEq, V.s.injEq, S.int.injEq, S.str.injEq, true_and, and_true] at h
  obtain ⟨rfl, rfl⟩ := h
  rfl
noncomputable def eDe (n : Int) : ADe := endW (nxtC okDe goDe rdDe FDe muDe ⟨⟩) ⟨n, ⟨#[]⟩⟩
theorem dec_w (n : Int) : T.path [true, true, false] (T.anon (decX [.s (.int .i64 n)])) = some ([(invC okDe ⟨⟩ ⟨n, ⟨#[]⟩⟩, true), (cutC (eDe n).n, true), (over ((dgB (eDe n).n).size + (eDe n).s.size), false)], .s (.str (dgB (eDe n).n ++ (eDe n).s))) := by kernel_rfl
theorem L8_append (a b : ByteArray) : L8 (a ++ b) = L8 a ++ L8 b := by
  unfold L8
  rw [ByteArray.data_append, Array.toList_append]
theorem of_L8 {a b : ByteArray} (h : L8 a = L8 b) : a = b := ByteArray.ext (Array.ext' h)
theorem dec_end {n : Int} (h0 : 0 ≤ n) (h1 : n ≤ 9223372036854775807) : okDe ⟨⟩ (eDe n) ∧ (eDe n).n ≤ 9 ∧ Lib.decDigits (eDe n).n.toNat ++ L8 (eDe n).s = Lib.decDigits n.toNat ∧ invC okDe ⟨⟩ ⟨n, ⟨#[]⟩⟩ = true := by
  have h0' : okDe ⟨⟩ ⟨n, ⟨#[]⟩⟩ := ⟨h0, 19, rfl, by
    have : (10 : Int) ^ 19 = 10000000000000000000 := by decide
    show n < 10 ^ 19
    omega⟩
  obtain ⟨k1, k2, k3⟩ := endW_says (nxt := nxtC okDe goDe rdDe FDe muDe ⟨⟩) (I := fun a => okDe ⟨⟩ a) (μ := muDe ⟨⟩) (fun a b _ e => (nxtC_some e).2.2) h0'
  have k1 : okDe ⟨⟩ (eDe n) := k1
  have g : goDe ⟨⟩ (eDe n) = false := nxtC_none stepDe k1 k2
  refine ⟨k1, by have := of_decide_eq_false g; omega, ?_, invC_is h0'⟩
  refine k3 (fun a => Lib.decDigits a.n.toNat ++ L8 a.s = Lib.decDigits n.toNat) (by show Lib.decDigits n.toNat ++ [] = _; rw [List.append_nil]) ?_
  intro a b ha hq e
  obtain ⟨eg, es⟩ := nxtC_some e
  obtain ⟨r1, -⟩ := de_on ha eg
  have hn : 9 < a.n := of_decide_eq_true eg
  have : b = nxDe a := by
    have := es.1.symm.trans r1
    exact FDe_inj (by
      have := Option.some.inj this
      exact congrArg Prod.snd this)
  subst this
  show Lib.decDigits (a.n / 10).toNat ++ L8 (⟨#[UInt8.ofNat (48 + (a.n % 10).toNat)]⟩ ++ a.s) = _
  rw [← hq, L8_append]
  conv => rhs; rw [Lib.decDigits, dif_neg (show ¬ a.n.toNat < 10 by omega)]
  rw [show (a.n / 10).toNat = a.n.toNat / 10 by omega, show (a.n % 10).toNat = a.n.toNat % 10 by omega, List.append_assoc]
  rfl
theorem dec_run {n : Int} (h0 : 0 ≤ n) (h1 : n ≤ 9223372036854775807) : (decX [.s (.int .i64 n)]).eval = some (.s (.str (itoaB n))) := by
  rw [← T.eval_anon (t := decX _)]
  obtain ⟨k1, k2, k3, k4⟩ := dec_end h0 h1
  have e := dgB_is k1.n0 (by omega)
  have sz1 : (dgB (eDe n).n).size = 1 := by rw [e]; rfl
  rw [T.path_eval (dec_w n) ⟨k4, cutC_is k1.n0 (by omega), over_no (by obtain ⟨_, k, hk, _⟩ := k1; rw [sz1]; omega), trivial⟩]
  congr 3
  refine of_L8 ?_
  rw [L8_append, e]
  have : L8 (itoaB n) = itoaL n := rfl
  rw [this, ← itoaL_is (by unfold in64; rw [decide_eq_true (show -9223372036854775808 ≤ n by omega), decide_eq_true h1]; rfl)]
  unfold Lib.itoa
  rw [if_neg (by omega), ← k3]
  conv => rhs; rw [Lib.decDigits, dif_pos (show (eDe n).n.toNat < 10 by omega)]
  rfl
def decS : Eng.Spec
  | [.s (.int .i64 n)] => .ite none (decide (0 ≤ n) && decide (n ≤ 9223372036854775807)) (.ret (.s (.str (itoaB n)))) .fail
  | _ => .fail
theorem decS_ok : SpecOk Tryd.prog 61 decS := decX_ok.of_den fun args v hfl h => by
  clear hfl
  unfold decS at h
  split at h
  · rename_i n
    obtain ⟨hb, h⟩ := ite_T' h
    rw [Bool.and_eq_true, decide_eq_true_eq, decide_eq_true_eq] at hb
    obtain rfl := Option.some.inj h
    exact ⟨_, dec_run hb.1 hb.2, ⟨rfl, rfl⟩, rfl⟩
  · cases h
end Go.Proofs.YtndcealgackgiaaDoor.Txt

/- Layer 4: numbers: contracts. -/
namespace Go.Proofs.YtndcealgackgiaaDoor.Txt
open Go.Eng Go.RowKit
set_option linter.unusedVariables false
set_option linter.unusedSimpArgs false
set_option maxRecDepth 100000
noncomputable def N1 : Cfg := ⟨Tryd.prog, lookG [(16, .val cutS), (37, .val preS), (44, .val trimRS), (43, .val fmtS), (38, .val natS)], [], 0⟩
theorem N1_ok : N1.Ok := Cfg.ok ⟨cutS_ok, preS_ok, trimRS_ok, fmtS_ok, natS_ok, trivial⟩ trivial
noncomputable def numX : Eng.Spec := execS N1 (rounds N1 4 1) 20
theorem numX_ok : SpecOk Tryd.prog 20 numX := execS_rounds N1_ok mixed 4 1 Tryd.func20 (by kernel_rfl) (by kernel_rfl)
noncomputable def shoX : Eng.Spec := execS N1 noLoops 22
theorem shoX_ok : SpecOk Tryd.prog 22 shoX := execS_plain N1_ok mixed Tryd.func22 (by kernel_rfl) (by kernel_rfl)
/-! ### a number of thousandths, read -/
def DD (s : ByteArray) : ByteArray := byA (Lib.trimPrefix (L8 s) [45])
def FR (s : ByteArray) : List UInt8 := (cutF (L8 (DD s)) [46]).1
def BK (s : ByteArray) : List UInt8 := (cutF (L8 (DD s)) [46]).2.1
def PT (s : ByteArray) : Bool := (cutF (L8 (DD s)) [46]).2.2
def W (n : Int) : Int := IntKind.wrap .i64 n
def sgW (g : Bool) (n : Int) : Int := bif g then W (0 - n) else n
theorem L8_byA (l : List UInt8) : L8 (byA l) = l := rfl
def lf (s : ByteArray) : Int := natI (L8 (byA (FR s))) 9
def lb (s : ByteArray) : Int := natI (L8 (byA (BK s))) 3
def of (s : ByteArray) : Bool := natO (L8 (byA (FR s))) 9
def ob (s : ByteArray) : Bool := natO (L8 (byA (BK s))) 3
def lsW (s : ByteArray) : Int := W (3 - ((byA (BK s)).size : Int))
def hM (s : ByteArray) (c : Bool) : List (Bool × Bool) := [(decide ((DD s).size < 4294967281), true), (decide ((9 : Int) ≤ 9), true), (!of s, c)]
def hP (s : ByteArray) (c : Bool) : List (Bool × Bool) := hM s false ++ [(PT s, true), (decide ((3 : Int) ≤ 9), true), (!ob s, c)]
theorem num_a (s : ByteArray) : T.path [true, true, true] (T.anon (numX [.s (.str s)])) = some (hM s true, .tup [iv 0, .ff]) := by kernel_rfl
theorem num_b (s : ByteArray) : T.path [true, true, false, true, true, true] (T.anon (numX [.s (.str s)])) = some (hP s true, .tup [iv 0, .ff]) := by kernel_rfl
theorem num_0 (g : Bool) (s : ByteArray) : T.path [true, true, false, false, g] (T.anon (numX [.s (.str s)])) = some (hM s false ++ [(PT s, false), (Lib.hasPrefix (L8 s) [45], g)], .tup [iv (sgW g (W (lf s * 1000))), .tt]) := by cases g <;> kernel_rfl
theorem num_3 (g : Bool) (s : ByteArray) : T.path [true, true, false, true, true, false, false, g] (T.anon (numX [.s (.str s)])) = some (hP s false ++ [(decide (0 < lsW s), false), (Lib.hasPrefix (L8 s) [45], g)], .tup [iv (sgW g (W (W (lf s * 1000) + lb s))), .tt]) := by cases g <;> kernel_rfl
theorem num_2 (g : Bool) (s : ByteArray) : T.path [true, true, false, true, true, false, true, false, g] (T.anon (numX [.s (.str s)])) = some (hP s false ++ [(decide (0 < lsW s), true), (decide (W (0 + 1) < lsW s), false), (Lib.hasPrefix (L8 s) [45], g)], .tup [iv (sgW g (W (W (lf s * 1000) + W (lb s * 10)))), .tt]) := by cases g <;> kernel_rfl
theorem num_1 (g : Bool) (s : ByteArray) : T.path [true, true, false, true, true, false, true, true, false, g] (T.anon (numX [.s (.str s)])) = some (hP s false ++ [(decide (0 < lsW s), true), (decide (W (0 + 1) < lsW s), true), (decide (W (W (0 + 1) + 1) < lsW s), false), (Lib.hasPrefix (L8 s) [45], g)], .tup [iv (sgW g (W (W (lf s * 1000) + W (W (lb s * 10) * 10)))), .tt]) := by cases g <;> kernel_rfl
/-- what a text says in thousandths -/
def numF (l : List UInt8) : Option Int :=
  let r := cutF (Lib.trimPrefix l [45]) [46]
  if natO r.1 9 then
    if r.2.2 then (if natO r.2.1 3 then some (bif Lib.hasPrefix l [45] then -(natL r.1 * 1000 + natL r.2.1 * 10 ^ (3 - r.2.1.length)) else natL r.1 * 1000 + natL r.2.1 * 10 ^ (3 - r.2.1.length)) else none)
    else some (bif Lib.hasPrefix l [45] then -(natL r.1 * 1000) else natL r.1 * 1000)
  else none
def numV (l : List UInt8) : V := .tup [iv ((numF l).getD 0), .s (.bool (numF l).isSome)]
theorem natO_is {l : List UInt8} {k : Nat} (h : natO l k = true) : 1 ≤ l.length ∧ l.length ≤ k ∧ 0 ≤ natL l ∧ natL l < 10 ^ l.length ∧ ∀ b ∈ l, dig b = true := by
  unfold natO at h
  rw [Bool.and_eq_true, Bool.and_eq_true, decide_eq_true_eq, decide_eq_true_eq, List.all_eq_true] at h
  obtain ⟨h1, h2, h3⟩ := h
  obtain ⟨q0, q1⟩ := natL_in l.length l rfl h3
  exact ⟨h1, by omega, q0, q1, h3⟩
theorem pow_le {a b : Nat} (h : a ≤ b) : (10 : Int) ^ a ≤ 10 ^ b := by
  have : (10 : Nat) ^ a ≤ 10 ^ b := Nat.pow_le_pow_right (by decide) h
  exact_mod_cast this
theorem Wi {n : Int} (h0 : -9223372036854775808 ≤ n) (h1 : n ≤ 9223372036854775807) : W n = n := wrap64 h0 h1
theorem trimPrefix_len (l p : List UInt8) : (Lib.trimPrefix l p).length ≤ l.length := by
  unfold Lib.trimPrefix
  split
  · rw [List.length_drop]; omega
  · exact Nat.le_refl _
theorem num_run {s : ByteArray} (hs : s.size < 4294967281) : ∃ v, (numX [.s (.str s)]).eval = some v ∧ flat v = true ∧ v.den nu0 = (numV (L8 s)).den nu0 := by
  rw [← T.eval_anon (t := numX _)]
  have hD : (DD s).size < 4294967281 := by
    rw [← L8_len]
    have := trimPrefix_len (L8 s) [45]
    have e : L8 (DD s) = Lib.trimPrefix (L8 s) [45] := rfl
    rw [e]
    rw [L8_len] at this
    omega
  have e1 : of s = natO (FR s) 9 := rfl
  have e2 : ob s = natO (BK s) 3 := rfl
  have hM' : ∀ c, (!of s) = c → allSay (hM s c) := fun c hc => ⟨decide_eq_true hD, rfl, hc, trivial⟩
  have p9 : (10 : Int) ^ 9 = 1000000000 := by decide
  have p3 : (10 : Int) ^ 3 = 1000 := by decide
  unfold numV
  cases ho : of s with
  | false =>
    refine ⟨_, T.path_eval (num_a s) (hM' true (by rw [ho]; rfl)), rfl, ?_⟩
    have : numF (L8 s) = none := by
      show (if natO (FR s) 9 = true then _ else none) = none
      rw [← e1, ho]; rfl
    rw [this]; rfl
  | true =>
    have ho' : natO (FR s) 9 = true := by rw [← e1]; exact ho
    obtain ⟨f1, f2, f3, f4, -⟩ := natO_is (k := 9) ho'
    have f5 := pow_le f2
    have hlf : lf s = natL (FR s) := by unfold lf natI; rw [L8_byA, ho']; rfl
    have w1 : W (lf s * 1000) = natL (FR s) * 1000 := by rw [hlf]; exact Wi (by omega) (by omega)
    cases hp : PT s with
    | false =>
      refine ⟨_, T.path_eval (num_0 (Lib.hasPrefix (L8 s) [45]) s) (allSay_append (hM' false (by rw [ho]; rfl)) ⟨hp, rfl, trivial⟩), rfl, ?_⟩
      have : numF (L8 s) = some (bif Lib.hasPrefix (L8 s) [45] then -(natL (FR s) * 1000) else natL (FR s) * 1000) := by
        show (if natO (FR s) 9 = true then (if PT s = true then _ else _) else none) = _
        rw [if_pos ho', hp]; rfl
      rw [this, w1]
      unfold sgW
      cases Lib.hasPrefix (L8 s) [45]
      · rfl
      · show (V.tup [iv (W (0 - natL (FR s) * 1000)), .tt]).den nu0 = _
        rw [Wi (by omega) (by omega), Int.zero_sub]; rfl
    | true =>
      cases hb : ob s with
      | false =>
        refine ⟨_, T.path_eval (num_b s) (allSay_append (hM' false (by rw [ho]; rfl)) ⟨hp, rfl, by rw [hb]; rfl, trivial⟩), rfl, ?_⟩
        have : numF (L8 s) = none := by
          show (if natO (FR s) 9 = true then (if PT s = true then (if natO (BK s) 3 = true then _ else none) else _) else none) = none
          rw [if_pos ho', if_pos hp, ← e2, hb]; rfl
        rw [this]; rfl
      | true =>
        have hb' : natO (BK s) 3 = true := by rw [← e2]; exact hb
        obtain ⟨b1, b2, b3, b4, -⟩ := natO_is (k := 3) hb'
        have hlb : lb s = natL (BK s) := by unfold lb natI; rw [L8_byA, hb']; rfl
        have hls : lsW s = 3 - ((BK s).length : Int) := by
          unfold lsW
          rw [← L8_len, L8_byA, Wi (by omega) (by omega)]
        have hP' : allSay (hP s false) := allSay_append (hM' false (by rw [ho]; rfl)) ⟨hp, rfl, by rw [hb]; rfl, trivial⟩
        have r : numF (L8 s) = some (bif Lib.hasPrefix (L8 s) [45] then -(natL (FR s) * 1000 + natL (BK s) * 10 ^ (3 - (BK s).length)) else natL (FR s) * 1000 + natL (BK s) * 10 ^ (3 - (BK s).length)) := by
          show (if natO (FR s) 9 = true then (if PT s = true then (if natO (BK s) 3 = true then _ else none) else _) else none) = _
          rw [if_pos ho', if_pos hp, if_pos hb']; rfl
        have W01 : W (0 + 1) = 1 := by decide
        have W11 : W (W (0 + 1) + 1) = 2 := by decide
        have fin : ∀ x : Int, 0 ≤ x → x < 1000 → x = natL (BK s) * 10 ^ (3 - (BK s).length) → (V.tup [iv (sgW (Lib.hasPrefix (L8 s) [45]) (W (W (lf s * 1000) + x))), .tt]).den nu0 = (V.tup [iv ((numF (L8 s)).getD 0), .s (.bool (numF (L8 s)).isSome)]).den nu0 := by
          intro x x0 x1 hx
          rw [r, ← hx, w1, Wi (n := natL (FR s) * 1000 + x) (by omega) (by omega)]
          unfold sgW
          cases Lib.hasPrefix (L8 s) [45]
          · rfl
          · show (V.tup [iv (W (0 - (natL (FR s) * 1000 + x))), .tt]).den nu0 = _
            rw [Wi (by omega) (by omega), Int.zero_sub]; rfl
        have hk : (BK s).length = 1 ∨ (BK s).length = 2 ∨ (BK s).length = 3 := by omega
        rcases hk with q | q | q
        · rw [q] at b4
          refine ⟨_, T.path_eval (num_1 (Lib.hasPrefix (L8 s) [45]) s) (allSay_append hP' ⟨decide_eq_true (by omega), decide_eq_true (by omega), decide_eq_false (by omega), rfl, trivial⟩), rfl, ?_⟩
          have b4 : natL (BK s) < 10 := by simpa using b4
          rw [hlb, Wi (n := natL (BK s) * 10) (by omega) (by omega), Wi (n := natL (BK s) * 10 * 10) (by omega) (by omega)]
          exact fin _ (by omega) (by omega) (by rw [q]; show _ = natL (BK s) * 10 ^ 2; omega)
        · rw [q] at b4
          refine ⟨_, T.path_eval (num_2 (Lib.hasPrefix (L8 s) [45]) s) (allSay_append hP' ⟨decide_eq_true (by omega), decide_eq_false (by omega), rfl, trivial⟩), rfl, ?_⟩
          have b4 : natL (BK s) < 100 := by simpa using b4
          rw [hlb, Wi (n := natL (BK s) * 10) (by omega) (by omega)]
          exact fin _ (by omega) (by omega) (by rw [q]; show _ = natL (BK s) * 10 ^ 1; omega)
        · rw [q] at b4
          refine ⟨_, T.path_eval (num_3 (Lib.hasPrefix (L8 s) [45]) s) (allSay_append hP' ⟨decide_eq_false (by omega), rfl, trivial⟩), rfl, ?_⟩
          have b4 : natL (BK s) < 1000 := by simpa using b4
          rw [hlb]
          exact fin _ (by omega) (by omega) (by rw [q]; show _ = natL (BK s) * 10 ^ 0; omega)
def numS : Eng.Spec
  | [.s (.str s)] => .ite none (decide (s.size < 4294967281)) (.ret (numV (L8 s))) .fail
  | _ => .fail
theorem numS_ok : SpecOk Tryd.prog 20 numS := numX_ok.of_den fun args v hfl h => by
  clear hfl
  unfold numS at h
  split at h
  · rename_i s
    obtain ⟨hb, h⟩ := ite_T' h
    obtain rfl := Option.some.inj h
    obtain ⟨v, h1, h2, h3⟩ := num_run (of_decide_eq_true hb)
    exact ⟨v, h1, ⟨h2, rfl⟩, h3⟩
  · cases h
/-! ### a number of thousandths, shown -/
def MX (n : Int) : Int := if -9223372036854775807 > n then -9223372036854775807 else n
def uS (g : Bool) (n : Int) : Int := bif g then W (0 - MX n) else MX n
def sG (g : Bool) : ByteArray := bif g then ⟨#[45]⟩ else ⟨#[]⟩
def hdW (g : Bool) (n : Int) : ByteArray := itoaB (W (Int.tdiv (uS g n) 1000))
def rsS (g : Bool) (n : Int) : Int := Int.tmod (uS g n) 1000
def dgS (g : Bool) (n : Int) : ByteArray := itoaB (W (1000 + rsS g n))
def exS (g : Bool) (n : Int) : ByteArray := (dgS g n).extract (Int.toNat 1) (Int.toNat ((dgS g n).size : Int))
def trS (g : Bool) (n : Int) : ByteArray := byA (trR (L8 (exS g n)) 48)
def hS (g : Bool) (n : Int) (c : Bool) : List (Bool × Bool) := [(decide (MX n < 0), g), ((1000 : Int) == 0, false), (in64 (W (Int.tdiv (uS g n) 1000)), true), (over ((sG g).size + (hdW g n).size), false), ((1000 : Int) == 0, false), (rsS g n == 0, c)]
theorem sho_0 (g : Bool) (n : Int) : T.path [g, false, true, false, false, true] (T.anon (shoX [.s (.int .i64 n)])) = some (hS g n true, .s (.str (sG g ++ hdW g n))) := by cases g <;> kernel_rfl
def cS (g : Bool) (n : Int) : List (Bool × Bool) := [(in64 (W (1000 + rsS g n)), true), (decide ((0 : Int) ≤ 1) && (decide ((1 : Int) ≤ ((dgS g n).size : Int)) && decide (((dgS g n).size : Int) ≤ ((dgS g n).size : Int))), true), (over ((sG g ++ hdW g n).size + (⟨#[46]⟩ : ByteArray).size), false), (decide ((exS g n).size ≤ 9223372036854775807), true), (over ((sG g ++ hdW g n ++ ⟨#[46]⟩).size + (trS g n).size), false)]
theorem cS_say {g : Bool} {n : Int} (a1 : in64 (W (1000 + rsS g n)) = true) (a2 : (decide ((0 : Int) ≤ 1) && (decide ((1 : Int) ≤ ((dgS g n).size : Int)) && decide (((dgS g n).size : Int) ≤ ((dgS g n).size : Int)))) = true) (a3 : over ((sG g ++ hdW g n).size + (⟨#[46]⟩ : ByteArray).size) = false) (a4 : decide ((exS g n).size ≤ 9223372036854775807) = true) (a5 : over ((sG g ++ hdW g n ++ ⟨#[46]⟩).size + (trS g n).size) = false) : allSay (cS g n) := by
  unfold cS
  simp only [allSay]
  exact ⟨a1, a2, a3, a4, a5, trivial⟩
theorem sho_1 (g : Bool) (n : Int) : T.path [g, false, true, false, false, false, true, true, false, true, false] (T.anon (shoX [.s (.int .i64 n)])) = some (hS g n false ++ cS g n, .s (.str (sG g ++ hdW g n ++ ⟨#[46]⟩ ++ trS g n))) := by cases g <;> kernel_rfl
/-- what is shown of a number -/
def showB (n : Int) : ByteArray :=
  let g := decide (MX n < 0)
  let u := if MX n < 0 then -MX n else MX n
  if u % 1000 = 0 then sG g ++ itoaB (u / 1000) else sG g ++ itoaB (u / 1000) ++ ⟨#[46]⟩ ++ byA (trR ((itoaL (1000 + u % 1000)).drop 1) 48)
theorem decF_len : ∀ (f u : Nat), (decF f u).length ≤ f + 1 ∧ 1 ≤ (decF f u).length
  | 0, u => ⟨Nat.le_refl _, Nat.le_refl _⟩
  | f + 1, u => by
    unfold decF
    split
    · exact ⟨by simp, by simp⟩
    · have := decF_len f (u / 10)
      rw [List.length_append, List.length_singleton]
      omega
theorem itoaB_size (n : Int) : (itoaB n).size ≤ 21 ∧ 1 ≤ (itoaB n).size := by
  rw [← L8_len]
  have e : L8 (itoaB n) = itoaL n := rfl
  rw [e]
  unfold itoaL
  split
  · have := decF_len 19 n.natAbs
    rw [List.length_cons]; omega
  · have := decF_len 19 n.toNat
    omega
theorem trR_len (l : List UInt8) (c : UInt8) : (trR l c).length ≤ l.length := by
  rw [← trR_is]
  unfold Lib.trimRightB
  rw [List.length_reverse]
  have := (List.dropWhile_sublist (l := l.reverse) (· == c)).length_le
  rw [List.length_reverse] at this
  exact this
theorem extract_L8 (s : ByteArray) : L8 (s.extract (Int.toNat 1) (Int.toNat ((s.size : Int)))) = (L8 s).drop 1 := by
  unfold L8
  rw [ByteArray.data_extract, Array.toList_extract, List.extract_eq_take_drop]
  have e1 : Int.toNat 1 = 1 := rfl
  rw [e1, Int.toNat_natCast]
  refine List.take_of_length_le ?_
  rw [List.length_drop, Array.length_toList]
  exact Nat.le_refl _
theorem sho_run {n : Int} (h0 : -9223372036854775808 ≤ n) (h1 : n ≤ 9223372036854775807) : (shoX [.s (.int .i64 n)]).eval = some (.s (.str (showB n))) := by
  rw [← T.eval_anon (t := shoX _)]
  have m0 : -9223372036854775807 ≤ MX n ∧ MX n ≤ 9223372036854775807 := by unfold MX; split <;> omega
  obtain ⟨g, hg⟩ : ∃ g, decide (MX n < 0) = g := ⟨_, rfl⟩
  obtain ⟨u, hu⟩ : ∃ u, (if MX n < 0 then -MX n else MX n) = u := ⟨_, rfl⟩
  have eu : uS g n = u := by
    unfold uS
    rw [← hu, ← hg]
    by_cases q : MX n < 0
    · rw [decide_eq_true q, if_pos q]
      show W (0 - MX n) = _
      rw [Wi (by omega) (by omega), Int.zero_sub]
    · rw [decide_eq_false q, if_neg q]; rfl
  have u0 : 0 ≤ u ∧ u ≤ 9223372036854775807 := by rw [← hu]; split <;> omega
  have e1 : W (Int.tdiv (uS g n) 1000) = u / 1000 := by
    rw [eu, Int.tdiv_eq_ediv_of_nonneg u0.1]
    exact Wi (by omega) (by omega)
  have e2 : rsS g n = u % 1000 := by unfold rsS; rw [eu]; exact Int.tmod_eq_emod_of_nonneg u0.1
  have e3 : W (1000 + rsS g n) = 1000 + u % 1000 := by rw [e2]; exact Wi (by omega) (by omega)
  have i64 : ∀ x : Int, 0 ≤ x → x ≤ 9223372036854775807 → in64 x = true := fun x x0 x1 => by
    unfold in64; rw [decide_eq_true (show -9223372036854775808 ≤ x by omega), decide_eq_true x1]; rfl
  have z0 : (sG g).size ≤ 1 := by cases g <;> decide
  have z1 : hdW g n = itoaB (u / 1000) := by unfold hdW; rw [e1]
  have z2 : dgS g n = itoaB (1000 + u % 1000) := by unfold dgS; rw [e3]
  have s1 := itoaB_size (u / 1000)
  have s2 := itoaB_size (1000 + u % 1000)
  have hh : ∀ c, (rsS g n == 0) = c → allSay (hS g n c) := fun c hc => ⟨hg, rfl, by rw [e1]; exact i64 _ (by omega) (by omega), over_no (by rw [z1]; omega), rfl, hc, trivial⟩
  unfold showB
  simp only [hu, hg]
  by_cases q : u % 1000 = 0
  · rw [if_pos q, T.path_eval (sho_0 g n) (hh true (by rw [e2, q]; rfl)), z1]
  · have z3 : exS g n = (itoaB (1000 + u % 1000)).extract (Int.toNat 1) (Int.toNat ((itoaB (1000 + u % 1000)).size : Int)) := by unfold exS; rw [z2]
    have z4 : L8 (exS g n) = (itoaL (1000 + u % 1000)).drop 1 := by rw [z3, extract_L8]; rfl
    have z5 : (exS g n).size ≤ 21 := by
      rw [← L8_len, z4, List.length_drop]
      have : (itoaL (1000 + u % 1000)).length = (itoaB (1000 + u % 1000)).size := by rw [← L8_len]; unfold itoaB; exact congrArg List.length (L8_byA _).symm
      omega
    have z6 : (trS g n).size ≤ 21 := by
      rw [← L8_len]
      unfold trS
      rw [L8_byA]
      have := trR_len (L8 (exS g n)) 48
      rw [L8_len] at this
      omega
    have z7 : (sG g ++ hdW g n).size ≤ 22 := by rw [ByteArray.size_append, z1]; omega
    have o1 : (⟨#[46]⟩ : ByteArray).size = 1 := rfl
    have a1 : in64 (W (1000 + rsS g n)) = true := by rw [e3]; exact i64 _ (by omega) (by omega)
    have a2 : (decide ((0 : Int) ≤ 1) && (decide ((1 : Int) ≤ ((dgS g n).size : Int)) && decide (((dgS g n).size : Int) ≤ ((dgS g n).size : Int)))) = true := by
      rw [z2, decide_eq_true (show (1 : Int) ≤ ((itoaB (1000 + u % 1000)).size : Int) by omega), decide_eq_true (Int.le_refl _)]; rfl
    have a3 : over ((sG g ++ hdW g n).size + (⟨#[46]⟩ : ByteArray).size) = false := by rw [o1]; exact over_no (by omega)
    have a4 : decide ((exS g n).size ≤ 9223372036854775807) = true := decide_eq_true (by omega)
    have a5 : over ((sG g ++ hdW g n ++ ⟨#[46]⟩).size + (trS g n).size) = false := by rw [ByteArray.size_append, o1]; exact over_no (by omega)
    have a0 : (rsS g n == 0) = false := by rw [e2]; simpa using q
    rw [if_neg q, T.path_eval (sho_1 g n) (allSay_append (hh false a0) (cS_say a1 a2 a3 a4 a5))]
    have e4 : trS g n = byA (trR ((itoaL (1000 + u % 1000)).drop 1) 48) := by unfold trS; rw [z4]
    rw [e4, z1]
def shoS : Eng.Spec
  | [.s (.int .i64 n)] => .ite none (in64 n) (.ret (.s (.str (showB n)))) .fail
  | _ => .fail
theorem shoS_ok : SpecOk Tryd.prog 22 shoS := shoX_ok.of_den fun args v hfl h => by
  clear hfl
  unfold shoS at h
  split at h
  · rename_i n
    obtain ⟨hb, h⟩ := ite_T' h
    obtain rfl := Option.some.inj h
    obtain ⟨b0, b1⟩ := in64_is hb
    exact ⟨_, sho_run b0 b1, ⟨rfl, rfl⟩, rfl⟩
  · cases h
end Go.Proofs.YtndcealgackgiaaDoor.Txt

/- Texts: is a text among some. -/
namespace Go.Proofs.YtndcealgackgiaaDoor.Txt
open Go.Eng Go.RowKit
set_option linter.unusedVariables false
set_option linter.unusedSimpArgs false
set_option maxRecDepth 100000
noncomputable def lpIx : Code := loopAt Tryd.prog 49 0
structure PIx where (n : Nat) (k : Nat) (l : List ByteArray) (x : ByteArray) (z : Int)
structure AIx where (i : Int)
abbrev SIx : List (Nat × Src) := [(0, .same)]
def vsIx (p : PIx) (a : AIx) : List V := [.sub 0 1 0 p.n, .s (.str p.x), .sub 0 1 0 p.k, iv p.z, iv a.i]
def bsIx (p : PIx) (a : AIx) : List Blk := [.lst false 9 [.str] p.l]
noncomputable def FIx (p : PIx) (a : AIx) : St := mkSt [0,1,6,7,8] (keysR SIx) 3000 19 (vsIx p a) (bsIx p a)
abbrev SIxx : List (Nat × Src) := [(0, .same)]
noncomputable def rdIx (p : PIx) (a : AIx) : T (Ex × St) := T.anon (roundX K0 noLoops lpIx [0,1,6,7,8] SIx [4] SIxx 3000 3000 (mkSt [0,1,6,7,8] (keysR SIx) 3000 19 (vsIx p a) (bsIx p a)))
def decIx_v0 : V → Option ((Nat))
  | .sub 0 1 0 n => some (n)
  | _ => none
theorem decIx_v0_ok (b : V) (x0 : (Nat)) (h : decIx_v0 b = some x0) : b = .sub 0 1 0 (x0) := by
  unfold decIx_v0 at h
  split at h
  · cases h
    rfl
  · cases h
def decIx_v1 : V → Option ((ByteArray))
  | .s (.str x) => some (x)
  | _ => none
theorem decIx_v1_ok (b : V) (x1 : (ByteArray)) (h : decIx_v1 b = some x1) : b = .s (.str (x1)) := by
  unfold decIx_v1 at h
  split at h
  · cases h
    rfl
  · cases h
def decIx_v2 : V → Option ((Nat))
  | .sub 0 1 0 k => some (k)
  | _ => none
theorem decIx_v2_ok (b : V) (x2 : (Nat)) (h : decIx_v2 b = some x2) : b = .sub 0 1 0 (x2) := by
  unfold decIx_v2 at h
  split at h
  · cases h
    rfl
  · cases h
def decIx_v3 : V → Option ((Int))
  | .s (.int .i64 z) => some (z)
  | _ => none
theorem decIx_v3_ok (b : V) (x3 : (Int)) (h : decIx_v3 b = some x3) : b = iv (x3) := by
  unfold decIx_v3 at h
  split at h
  · cases h
    rfl
  · cases h
def decIx_v4 : V → Option ((Int))
  | .s (.int .i64 i) => some (i)
  | _ => none
theorem decIx_v4_ok (b : V) (x4 : (Int)) (h : decIx_v4 b = some x4) : b = iv (x4) := by
  unfold decIx_v4 at h
  split at h
  · cases h
    rfl
  · cases h
def decIx_b0 : Blk → Option ((List ByteArray))
  | .lst false tt0 [.str] l => if tt0 = 9 then some (l) else none
  | _ => none
theorem decIx_b0_ok (b : Blk) (y0 : (List ByteArray)) (h : decIx_b0 b = some y0) : b = .lst false 9 [.str] (y0) := by
  unfold decIx_b0 at h
  split at h
  · obtain ⟨e0, h⟩ := ite_some0 h
    subst e0
    cases h
    rfl
  · cases h
def decIx : List V → List Blk → Option (PIx × AIx)
  | [v0, v1, v2, v3, v4], [b0] => (decIx_v0 v0).bind fun x0 => (decIx_v1 v1).bind fun x1 => (decIx_v2 v2).bind fun x2 => (decIx_v3 v3).bind fun x3 => (decIx_v4 v4).bind fun x4 => (decIx_b0 b0).bind fun y0 => some (⟨(x0), (x2), (y0), (x1), (x3)⟩, ⟨(x4)⟩)
  | _, _ => none
theorem decIx_ok (l : List V) (b : List Blk) (d : PIx × AIx) (h : decIx l b = some d) : l = vsIx d.1 d.2 ∧ b = bsIx d.1 d.2 := by
  unfold decIx at h
  split at h
  · obtain ⟨x0, hx0, h⟩ := Option.bind_eq_some_iff.1 h
    obtain ⟨x1, hx1, h⟩ := Option.bind_eq_some_iff.1 h
    obtain ⟨x2, hx2, h⟩ := Option.bind_eq_some_iff.1 h
    obtain ⟨x3, hx3, h⟩ := Option.bind_eq_some_iff.1 h
    obtain ⟨x4, hx4, h⟩ := Option.bind_eq_some_iff.1 h
    obtain ⟨y0, hy0, h⟩ := Option.bind_eq_some_iff.1 h
    have ex0 := decIx_v0_ok _ _ hx0
    have ex1 := decIx_v1_ok _ _ hx1
    have ex2 := decIx_v2_ok _ _ hx2
    have ex3 := decIx_v3_ok _ _ hx3
    have ex4 := decIx_v4_ok _ _ hx4
    have ey0 := decIx_b0_ok _ _ hy0
    cases h
    subst ex0 ex1 ex2 ex3 ex4 ey0
    exact ⟨rfl, rfl⟩
  · cases h
noncomputable def rgIx : Nat := (firstReg lpIx).getD 0
theorem rgIx_is : firstReg lpIx = some rgIx := by kernel_rfl
def eB (x y : ByteArray) : Bool := x.toList == y.toList
theorem eB_is {x y : ByteArray} : eB x y = true ↔ x = y := by
  unfold eB
  rw [beq_iff_eq, ByteArray.toList_eq, ByteArray.toList_eq]
  exact ⟨fun h => ByteArray.ext (Array.ext' h), fun h => by rw [h]⟩
def xIx (p : PIx) (a : AIx) : ByteArray := p.l.getD (0 + a.i.toNat) ⟨#[]⟩
def hdI (p : PIx) (a : AIx) (c : Bool) : List (Bool × Bool) := [(decide (a.i < p.z), true), (idR p.l p.n a.i, true), (ldR p.l a.i, true), (eB p.x (xIx p a), c)]
def stI (p : PIx) (a : AIx) (v : V) : St := mkSt [4] [0] 3000 19 [v] (bsIx p a)
theorem ix_n (p : PIx) (a : AIx) : T.path [true, true, true, false] (rdIx p a) = some (hdI p a false, (.normal, FIx p ⟨IntKind.wrap .i64 (a.i + 1)⟩)) := by kernel_rfl
theorem ix_f (p : PIx) (a : AIx) : T.path [true, true, true, true] (rdIx p a) = some (hdI p a true, (.ret, stI p a (iv a.i))) := by kernel_rfl
theorem ix_x (p : PIx) (a : AIx) : T.path [false] (rdIx p a) = some ([(decide (a.i < p.z), false)], (.exit 0, stI p a .junk)) := by kernel_rfl
structure okIx (p : PIx) (a : AIx) : Prop where
  n : p.n = p.l.length
  z : p.z = (p.n : Int)
  n1 : p.n ≤ 9223372036854775807
  i0 : 0 ≤ a.i
  i1 : a.i ≤ p.z
  g : ∀ e ∈ p.l.take a.i.toNat, e ≠ p.x
def goIx (p : PIx) (a : AIx) : Bool := decide (a.i < p.z) && !eB p.x (xIx p a)
def muIx (p : PIx) (a : AIx) : Nat := (p.z - a.i).toNat
theorem ix_hd {p : PIx} {a : AIx} (h : okIx p a) (hi : a.i < p.z) {c : Bool} (hc : eB p.x (xIx p a) = c) : allSay (hdI p a c) := by
  obtain ⟨y1, y2⟩ := idR_is (g := p.l) (k := p.n) (i := a.i) h.n h.i0 (by have := h.z; omega)
  exact ⟨decide_eq_true hi, y1, y2, hc, trivial⟩
theorem xIx_at {p : PIx} {a : AIx} (hl : a.i.toNat < p.l.length) : xIx p a = p.l[a.i.toNat] := by
  unfold xIx
  rw [List.getD_eq_getElem?_getD, Nat.zero_add, List.getElem?_eq_getElem hl]; rfl
theorem stepIx (p : PIx) (a : AIx) (h : okIx p a) (hg : goIx p a = true) : ∃ b, stepC okIx rdIx FIx muIx p a b := by
  unfold goIx at hg
  rw [Bool.and_eq_true, decide_eq_true_eq, Bool.not_eq_true'] at hg
  obtain ⟨hi, hm⟩ := hg
  have hd := ix_hd h hi hm
  obtain ⟨h1, h2, h3, h4, h5, h6⟩ := h
  have hl : a.i.toNat < p.l.length := by omega
  have way := ix_n p a
  rw [wrap64 (n := a.i + 1) (by omega) (by omega)] at way
  refine ⟨_, T.path_eval way hd, ⟨h1, h2, h3, by show 0 ≤ a.i + 1; omega, by show a.i + 1 ≤ p.z; omega, ?_⟩, by show (p.z - (a.i + 1)).toNat < (p.z - a.i).toNat; omega⟩
  show ∀ e ∈ p.l.take (a.i + 1).toNat, e ≠ p.x
  rw [take_nextT h4 hl]
  intro e he
  rcases List.mem_append.1 he with q | q
  · exact h6 e q
  · rw [List.mem_singleton.1 q]
    intro e
    rw [xIx_at hl, e, show eB p.x p.x = true from eB_is.2 rfl] at hm
    cases hm
noncomputable def outIx (p : PIx) (a : AIx) : T (Ex × St) := .ite none (decide (a.i < p.z)) (.ret (.ret, stI p a (iv a.i))) (.ret (.exit 0, stI p a .junk))
theorem exIx (p : PIx) (a : AIx) (h : okIx p a) (hg : goIx p a = false) (r : Ex × St) (hr : (outIx p a).eval = some r) : r.1 ≠ .normal ∧ (rdIx p a).eval = some r := by
  unfold outIx at hr
  by_cases hi : a.i < p.z
  · have hm : eB p.x (xIx p a) = true := by
      unfold goIx at hg
      rw [decide_eq_true hi, Bool.true_and, Bool.not_eq_false'] at hg
      exact hg
    rw [decide_eq_true hi] at hr
    obtain rfl := Option.some.inj hr
    exact ⟨by simp, T.path_eval (ix_f p a) (ix_hd h hi hm)⟩
  · rw [decide_eq_false hi] at hr
    obtain rfl := Option.some.inj hr
    exact ⟨by simp, T.path_eval (ix_x p a) ⟨decide_eq_false hi, trivial⟩⟩
noncomputable def famIx : LSpec := famE [0,1,6,7,8] SIx SIxx 3000 3000 19 decIx okIx goIx rdIx FIx muIx outIx
theorem lpIx_ok : LoopOk K0 lpIx famIx := famE_ok (vs := vsIx) (bs := bsIx) K0_ok mixed (noLoops_ok _) decIx_ok (fun _ _ => rfl) (fun _ _ => rfl) stepIx exIx
noncomputable def ixX : Eng.Spec := execS K0 (byReg [(rgIx, famIx)]) 49
theorem ixX_ok : SpecOk Tryd.prog 49 ixX := execS_loops K0_ok mixed Tryd.func49 (by kernel_rfl) (by kernel_rfl) (one_lp (by kernel_rfl) rgIx_is lpIx_ok)
def rowT (l : List ByteArray) : V := .orow 9 [.str] l
noncomputable def eIx (l : List ByteArray) (x : ByteArray) : AIx := endW (nxtC okIx goIx rdIx FIx muIx ⟨l.length, l.length, l, x, (l.length : Int)⟩) ⟨0⟩
theorem ixx_f (l : List ByteArray) (x : ByteArray) : T.path [true, true] (T.anon (ixX [rowT l, .s (.str x)])) = some ([(invC okIx ⟨l.length, l.length, l, x, (l.length : Int)⟩ ⟨0⟩, true), (decide ((eIx l x).i < (l.length : Int)), true)], iv (eIx l x).i) := by kernel_rfl
theorem ixx_n (l : List ByteArray) (x : ByteArray) : T.path [true, false] (T.anon (ixX [rowT l, .s (.str x)])) = some ([(invC okIx ⟨l.length, l.length, l, x, (l.length : Int)⟩ ⟨0⟩, true), (decide ((eIx l x).i < (l.length : Int)), false)], iv (-1)) := by kernel_rfl
def idI (l : List ByteArray) (x : ByteArray) : Int := bif l.any (eB x) then (l.findIdx (eB x) : Int) else -1
theorem ix_run {l : List ByteArray} {x : ByteArray} (h : l.length ≤ 9223372036854775807) : (ixX [rowT l, .s (.str x)]).eval = some (iv (idI l x)) := by
  rw [← T.eval_anon (t := ixX _)]
  have h0 : okIx ⟨l.length, l.length, l, x, (l.length : Int)⟩ ⟨0⟩ := ⟨rfl, rfl, h, Int.le_refl _, by show (0 : Int) ≤ (l.length : Int); omega, fun e he => by
    have he : e ∈ l.take 0 := he
    simp at he⟩
  obtain ⟨k1, k2⟩ := endC stepIx h0
  have k1 : okIx ⟨l.length, l.length, l, x, (l.length : Int)⟩ (eIx l x) := k1
  have k2 : goIx ⟨l.length, l.length, l, x, (l.length : Int)⟩ (eIx l x) = false := k2
  obtain ⟨-, -, -, i0, i1, g⟩ := k1
  have i1 : (eIx l x).i ≤ (l.length : Int) := i1
  have g : ∀ e ∈ l.take (eIx l x).i.toNat, e ≠ x := g
  unfold idI
  by_cases hi : (eIx l x).i < (l.length : Int)
  · have hm : eB x (xIx ⟨l.length, l.length, l, x, (l.length : Int)⟩ (eIx l x)) = true := by
      unfold goIx at k2
      rw [decide_eq_true (show (eIx l x).i < PIx.z ⟨l.length, l.length, l, x, (l.length : Int)⟩ from hi), Bool.true_and, Bool.not_eq_false'] at k2
      exact k2
    have hl : (eIx l x).i.toNat < l.length := by omega
    have ex : xIx ⟨l.length, l.length, l, x, (l.length : Int)⟩ (eIx l x) = l[(eIx l x).i.toNat] := xIx_at (p := ⟨l.length, l.length, l, x, (l.length : Int)⟩) hl
    rw [ex] at hm
    have ha : l.any (eB x) = true := List.any_eq_true.2 ⟨_, List.getElem_mem hl, hm⟩
    have hf : l.findIdx (eB x) = (eIx l x).i.toNat := by
      rw [List.findIdx_eq hl]
      refine ⟨hm, fun j hj => ?_⟩
      cases hq : eB x l[j] with
      | false => rfl
      | true =>
        exfalso
        exact g l[j] (by rw [List.mem_iff_getElem]; exact ⟨j, by rw [List.length_take]; omega, by rw [List.getElem_take]⟩) (eB_is.1 hq).symm
    rw [T.path_eval (ixx_f l x) ⟨invC_is h0, decide_eq_true hi, trivial⟩, ha, hf]
    show some (iv (eIx l x).i) = some (iv (((eIx l x).i.toNat : Nat) : Int))
    rw [Int.toNat_of_nonneg i0]
  · rw [show (eIx l x).i.toNat = l.length by omega, List.take_length] at g
    have ha : l.any (eB x) = false := by
      rw [List.any_eq_false]
      intro e he hq
      exact g e he (eB_is.1 hq).symm
    rw [T.path_eval (ixx_n l x) ⟨invC_is h0, decide_eq_false hi, trivial⟩, ha]
    rfl
def ixS : Eng.Spec
  | [.orow t [.str] l, .s (.str x)] => if t = 9 then .ite none (decide (List.length l ≤ 9223372036854775807)) (.ret (iv (idI l x))) .fail else .fail
  | _ => .fail
theorem ixS_ok : SpecOk Tryd.prog 49 ixS := ixX_ok.of_den fun args v hfl h => by
  clear hfl
  unfold ixS at h
  split at h
  · rename_i t l x
    split at h
    · rename_i ht
      subst ht
      obtain ⟨hb, h⟩ := ite_T' h
      obtain rfl := Option.some.inj h
      exact ⟨_, ix_run (of_decide_eq_true hb), ⟨rfl, rfl⟩, rfl⟩
    · cases h
  · cases h
noncomputable def C2 : Cfg := ⟨Tryd.prog, lookG [(49, .val ixS)], [], 0⟩
theorem C2_ok : C2.Ok := Cfg.ok ⟨ixS_ok, trivial⟩ trivial
noncomputable def conX : Eng.Spec := execS C2 noLoops 26
theorem conX_ok : SpecOk Tryd.prog 26 conX := execS_plain C2_ok mixed Tryd.func26 (by kernel_rfl) (by kernel_rfl)
theorem con_w (l : List ByteArray) (x : ByteArray) : T.path [true, true] (T.anon (conX [rowT l, .s (.str x)])) = some ([(decide (0 + l.length ≤ l.length), true), (decide ((List.take l.length (List.drop 0 l)).length ≤ 9223372036854775807), true)], .s (.bool (decide (0 ≤ idI (List.take l.length (List.drop 0 l)) x)))) := by kernel_rfl
theorem con_run {l : List ByteArray} {x : ByteArray} (h : l.length ≤ 9223372036854775807) : (conX [rowT l, .s (.str x)]).eval = some (.s (.bool (l.any (eB x)))) := by
  rw [← T.eval_anon (t := conX _)]
  have e : List.take l.length (List.drop 0 l) = l := by rw [List.drop_zero, List.take_length]
  rw [T.path_eval (con_w l x) ⟨decide_eq_true (by omega), by rw [e]; exact decide_eq_true h, trivial⟩, e]
  unfold idI
  cases l.any (eB x) with
  | true => rw [show decide (0 ≤ (bif true then ((l.findIdx (eB x) : Nat) : Int) else -1)) = true from decide_eq_true (by show (0 : Int) ≤ ((l.findIdx (eB x) : Nat) : Int); omega)]
  | false => rfl
def conS : Eng.Spec
  | [.orow t [.str] l, .s (.str x)] => if t = 9 then .ite none (decide (List.length l ≤ 9223372036854775807)) (.ret (.s (.bool (List.any l (eB x))))) .fail else .fail
  | _ => .fail
theorem conS_ok : SpecOk Tryd.prog 26 conS := conX_ok.of_den fun args v hfl h => by
  clear hfl
  unfold conS at h
  split at h
  · rename_i t l x
    split at h
    · rename_i ht
      subst ht
      obtain ⟨hb, h⟩ := ite_T' h
      obtain rfl := Option.some.inj h
      exact ⟨_, con_run (of_decide_eq_true hb), ⟨rfl, rfl⟩, rfl⟩
    · cases h
  · cases h
noncomputable def P1 : Cfg := ⟨Tryd.prog, lookG [(38, .val natS), (20, .val numS)], [], 0⟩
theorem P1_ok : P1.Ok := Cfg.ok ⟨natS_ok, numS_ok, trivial⟩ trivial
noncomputable def putX : Eng.Obj := execO P1 noLoops 27
theorem putX_ok : ObjOk Tryd.prog 27 putX := execO_plain P1_ok mixed Tryd.func27 (by kernel_rfl) (by kernel_rfl)
noncomputable def plcX : Eng.Obj := execO P1 noLoops 28
theorem plcX_ok : ObjOk Tryd.prog 28 plcX := execO_plain P1_ok mixed Tryd.func28 (by kernel_rfl) (by kernel_rfl)
noncomputable def P2 : Cfg := ⟨Tryd.prog, lookG [(16, .val cutS), (26, .val conS), (28, .obj plcX), (27, .obj putX)], [], 0⟩
theorem P2_ok : P2.Ok := Cfg.ok ⟨cutS_ok, conS_ok, plcX_ok, putX_ok, trivial⟩ trivial
noncomputable def takX : Eng.Obj := execO P2 noLoops 17
theorem takX_ok : ObjOk Tryd.prog 17 takX := execO_plain P2_ok mixed Tryd.func17 (by kernel_rfl) (by kernel_rfl)
end Go.Proofs.YtndcealgackgiaaDoor.Txt

/- Settings by lines: one line taken. -/
namespace Go.Proofs.YtndcealgackgiaaDoor.Txt
open Go.Eng Go.RowKit
set_option linter.unusedVariables false
set_option linter.unusedSimpArgs false
set_option maxRecDepth 100000
abbrev Cf := Conf.Cf
/-- the parts' names -/
def nmK : Nat → ByteArray
  | 0 => ⟨#[116, 97, 114, 103, 101, 116]⟩
  | 1 => ⟨#[117, 116, 105, 108]⟩
  | 2 => ⟨#[115, 116, 97, 98, 108, 101]⟩
  | 3 => ⟨#[112, 97, 110, 105, 99]⟩
  | 4 => ⟨#[103, 114, 97, 105, 110]⟩
  | 5 => ⟨#[116, 104, 114, 101, 115, 104, 111, 108, 100]⟩
  | 6 => ⟨#[117, 112]⟩
  | 7 => ⟨#[100, 111, 119, 110]⟩
  | 8 => ⟨#[109, 105, 110]⟩
  | 9 => ⟨#[109, 97, 120]⟩
  | 10 => ⟨#[105, 110, 105, 116, 105, 97, 108]⟩
  | 11 => ⟨#[103, 114, 97, 99, 101]⟩
  | 12 => ⟨#[100, 101, 108, 97, 121]⟩
  | 13 => ⟨#[98, 117, 114, 115, 116]⟩
  | 14 => ⟨#[108, 105, 109, 105, 116]⟩
  | 15 => ⟨#[113, 117, 101, 117, 101]⟩
  | 16 => ⟨#[116, 105, 109, 101, 111, 117, 116]⟩
  | 17 => ⟨#[114, 101, 97, 100, 121]⟩
  | 18 => ⟨#[115, 117, 98, 115, 101, 116]⟩
  | 19 => ⟨#[115, 97, 109, 112, 108, 101]⟩
  | _ => ⟨#[]⟩
/-- is a part told in thousandths? -/
def thin (k : Nat) : Bool := k == 0 || (k == 1 || (k == 5 || (k == 6 || (k == 7 || k == 13))))
/-- another value of a part -/
def setC : Nat → Int → Cf → Cf
  | 0, x, c => { c with target := x }
  | 1, x, c => { c with util := x }
  | 2, x, c => { c with stable := x }
  | 3, x, c => { c with panic := x }
  | 4, x, c => { c with grain := x }
  | 5, x, c => { c with threshold := x }
  | 6, x, c => { c with up := x }
  | 7, x, c => { c with down := x }
  | 8, x, c => { c with min := x }
  | 9, x, c => { c with max := x }
  | 10, x, c => { c with initial := x }
  | 11, x, c => { c with grace := x }
  | 12, x, c => { c with delay := x }
  | 13, x, c => { c with burst := x }
  | 14, x, c => { c with limit := x }
  | 15, x, c => { c with queue := x }
  | 16, x, c => { c with timeout := x }
  | 17, x, c => { c with ready := x }
  | 18, x, c => { c with subset := x }
  | 19, x, c => { c with sample := x }
  | _, _, c => c
def cL (c : Cf) : List V := [iv c.target, iv c.util, iv c.stable, iv c.panic, iv c.grain, iv c.threshold, iv c.up, iv c.down, iv c.min, iv c.max, iv c.initial, iv c.grace, iv c.delay, iv c.burst, iv c.limit, iv c.queue, iv c.timeout, iv c.ready, iv c.subset, iv c.sample]
abbrev TR : TypeId := 44
def hpT (c : Cf) (n : Nat) (l : List ByteArray) : Eng.Heap := [(0, .cells TR (cL c ++ [.sub 1 1 0 n])), (1, .lst true 9 [.str] l)]
def hpN (c : Cf) (n : Nat) (l : List ByteArray) (x : ByteArray) : Eng.Heap := [(0, .cells TR (cL c ++ [.sub 98 1 0 (n + [x].length)])), (98, .lst true 9 [.str] (l.take n ++ [x]))]
def NAM (s : ByteArray) : ByteArray := byA (cutF (L8 s) [58, 32]).1
def VAL (s : ByteArray) : ByteArray := byA (cutF (L8 s) [58, 32]).2.1
def OKc (s : ByteArray) : Bool := (cutF (L8 s) [58, 32]).2.2
def e0B (s : ByteArray) : Bool := eB s ⟨#[]⟩
def noteB (s : ByteArray) : Bool := bif e0B s then true else byteAt s 0 == 35
def saidB (s : ByteArray) (n : Nat) (l : List ByteArray) : Bool := bif !OKc s then true else (List.take n (List.drop 0 l)).any (eB (NAM s))
def h0T (s : ByteArray) (c : Bool) : List (Bool × Bool) := [(bif e0B s == false && true then decide ((0 : Int) ≤ 0) && decide ((0 : Int) < (s.size : Int)) else true, true), (noteB s, c)]
def h1T (s : ByteArray) (c : Bool) : List (Bool × Bool) := h0T s false ++ [(decide (s.size < 4294967281), true), (!OKc s, c)]
def h2T (s : ByteArray) (n : Nat) (l : List ByteArray) (c : Bool) : List (Bool × Bool) := h1T s false ++ [(decide (0 + n ≤ l.length), true), (decide ((List.take n (List.drop 0 l)).length ≤ 9223372036854775807), true), (saidB s n l, c)]
def nmC (k : Nat) (x : ByteArray) : List (Bool × Bool) := (List.range k).map fun j => (eB x (nmK j), false)
def gK (k : Nat) (s : ByteArray) : Bool := bif thin k then decide (s.size < 4294967281) else decide ((6 : Int) ≤ 9)
def qK (k : Nat) (s : ByteArray) : Bool := bif thin k then (numF (L8 s)).isSome else natO (L8 s) 6
def vK (k : Nat) (s : ByteArray) : Int := bif thin k then (numF (L8 s)).getD 0 else natI (L8 s) 6
def pre7 : List Bool := [true, false, true, false, true, true, false]
theorem tk_0 (c : Cf) (s : ByteArray) (n : Nat) (l : List ByteArray) : T.path [true, true] (T.anon (takX [.ptr 0 0, .s (.str s)] (hpT c n l))) = some (h0T s true, (.tt, hpT c n l)) := by kernel_rfl
theorem tk_1 (c : Cf) (s : ByteArray) (n : Nat) (l : List ByteArray) : T.path [true, false, true, true] (T.anon (takX [.ptr 0 0, .s (.str s)] (hpT c n l))) = some (h1T s true, (.ff, hpT c n l)) := by kernel_rfl
theorem tk_2 (c : Cf) (s : ByteArray) (n : Nat) (l : List ByteArray) : T.path [true, false, true, false, true, true, true] (T.anon (takX [.ptr 0 0, .s (.str s)] (hpT c n l))) = some (h2T s n l true, (.ff, hpT c n l)) := by kernel_rfl
theorem tk_3 (c : Cf) (s : ByteArray) (n : Nat) (l : List ByteArray) : T.path (pre7 ++ (List.replicate 20 false ++ [true])) (T.anon (takX [.ptr 0 0, .s (.str s)] (hpT c n l))) = some (h2T s n l false ++ (nmC 20 (NAM s) ++ [(bif saidB s n l then true else true, true)]), (.ff, hpT c n l)) := by kernel_rfl
theorem tk_y (c : Cf) (s : ByteArray) (n : Nat) (l : List ByteArray) : ∀ k : Nat, k < 20 → T.path (pre7 ++ (List.replicate k false ++ [true, true, true, false, true])) (T.anon (takX [.ptr 0 0, .s (.str s)] (hpT c n l))) = some (h2T s n l false ++ (nmC k (NAM s) ++ [(eB (NAM s) (nmK k), true), (gK k (VAL s), true), (qK k (VAL s), true), (bif saidB s n l then true else !qK k (VAL s), false), (apC n l (NAM s), true)]), (.tt, hpN (setC k (vK k (VAL s)) c) n l (NAM s)))
  | 0, _ => by kernel_rfl
  | 1, _ => by kernel_rfl
  | 2, _ => by kernel_rfl
  | 3, _ => by kernel_rfl
  | 4, _ => by kernel_rfl
  | 5, _ => by kernel_rfl
  | 6, _ => by kernel_rfl
  | 7, _ => by kernel_rfl
  | 8, _ => by kernel_rfl
  | 9, _ => by kernel_rfl
  | 10, _ => by kernel_rfl
  | 11, _ => by kernel_rfl
  | 12, _ => by kernel_rfl
  | 13, _ => by kernel_rfl
  | 14, _ => by kernel_rfl
  | 15, _ => by kernel_rfl
  | 16, _ => by kernel_rfl
  | 17, _ => by kernel_rfl
  | 18, _ => by kernel_rfl
  | 19, _ => by kernel_rfl
  | k + 20, h => by omega
theorem tk_z (c : Cf) (s : ByteArray) (n : Nat) (l : List ByteArray) : ∀ k : Nat, k < 20 → T.path (pre7 ++ (List.replicate k false ++ [true, true, false, true])) (T.anon (takX [.ptr 0 0, .s (.str s)] (hpT c n l))) = some (h2T s n l false ++ (nmC k (NAM s) ++ [(eB (NAM s) (nmK k), true), (gK k (VAL s), true), (qK k (VAL s), false), (bif saidB s n l then true else !qK k (VAL s), true)]), (.ff, hpT c n l))
  | 0, _ => by kernel_rfl
  | 1, _ => by kernel_rfl
  | 2, _ => by kernel_rfl
  | 3, _ => by kernel_rfl
  | 4, _ => by kernel_rfl
  | 5, _ => by kernel_rfl
  | 6, _ => by kernel_rfl
  | 7, _ => by kernel_rfl
  | 8, _ => by kernel_rfl
  | 9, _ => by kernel_rfl
  | 10, _ => by kernel_rfl
  | 11, _ => by kernel_rfl
  | 12, _ => by kernel_rfl
  | 13, _ => by kernel_rfl
  | 14, _ => by kernel_rfl
  | 15, _ => by kernel_rfl
  | 16, _ => by kernel_rfl
  | 17, _ => by kernel_rfl
  | 18, _ => by kernel_rfl
  | 19, _ => by kernel_rfl
  | k + 20, h => by omega
end Go.Proofs.YtndcealgackgiaaDoor.Txt

/- Settings by lines: one line taken: its contract. -/
namespace Go.Proofs.YtndcealgackgiaaDoor.Txt
open Go.Eng Go.RowKit
set_option linter.unusedVariables false
set_option linter.unusedSimpArgs false
set_option maxRecDepth 100000
/-- which part has that name? -/
def prtI (x : ByteArray) : Option Nat := (List.range 20).find? fun k => eB x (nmK k)
theorem prtI_some {x : ByteArray} {k : Nat} (h : prtI x = some k) : k < 20 ∧ eB x (nmK k) = true ∧ ∀ j, j < k → eB x (nmK j) = false := by
  unfold prtI at h
  rw [List.find?_range_eq_some] at h
  obtain ⟨h1, h2, h3⟩ := h
  refine ⟨List.mem_range.1 h2, h1, fun j hj => ?_⟩
  have := h3 j hj
  simpa using this
theorem prtI_none {x : ByteArray} (h : prtI x = none) : ∀ j, j < 20 → eB x (nmK j) = false := by
  unfold prtI at h
  rw [List.find?_range_eq_none] at h
  intro j hj
  have := h j hj
  simpa using this
theorem nmC_say {x : ByteArray} {k : Nat} (h : ∀ j, j < k → eB x (nmK j) = false) : allSay (nmC k x) := by
  unfold nmC
  have : ∀ l : List Nat, (∀ j ∈ l, j < k) → allSay (l.map fun j => (eB x (nmK j), false)) := by
    intro l
    induction l with
    | nil => exact fun _ => trivial
    | cons a r ih => exact fun hl => ⟨h a (hl a List.mem_cons_self), ih fun j hj => hl j (List.mem_cons_of_mem _ hj)⟩
  exact this _ fun j hj => List.mem_range.1 hj
/-- a line taken: not at all; nothing said; another value of a part -/
inductive Tk where
  | no
  | same
  | set (k : Nat) (v : Int) (x : ByteArray)
def takF (l : List ByteArray) (s : ByteArray) : Tk :=
  bif noteB s then .same else bif !OKc s then .no else bif l.any (eB (NAM s)) then .no else
  match prtI (NAM s) with
  | none => .no
  | some k => bif qK k (VAL s) then .set k (vK k (VAL s)) (NAM s) else .no
def tkR (c : Cf) (l : List ByteArray) (n : Nat) : Tk → V × Eng.Heap
  | .no => (.ff, hpT c n l)
  | .same => (.tt, hpT c n l)
  | .set k v x => (.tt, hpN (setC k v c) n l x)
theorem drop_len {l t : List UInt8} {k : Nat} : (l.take k).length ≤ l.length ∧ (l.drop k).length ≤ l.length := by
  rw [List.length_take, List.length_drop]; omega
theorem cutF_len (l p : List UInt8) : (cutF l p).1.length ≤ l.length ∧ (cutF l p).2.1.length ≤ l.length := by
  unfold cutF
  split
  · exact ⟨by rw [List.length_take]; omega, by rw [List.length_drop]; omega⟩
  · exact ⟨Nat.le_refl _, Nat.zero_le _⟩
theorem byA_size (l : List UInt8) : (byA l).size = l.length := by rw [← L8_len]; exact congrArg List.length (L8_byA l)
theorem size0 {s : ByteArray} (h : e0B s = false) : 0 < s.size := by
  rcases Nat.eq_zero_or_pos s.size with q | q
  · exfalso
    have : s = ⟨#[]⟩ := ByteArray.ext (Array.eq_empty_of_size_eq_zero q)
    unfold e0B at h
    rw [eB_is.2 this] at h
    cases h
  · exact q
theorem h0T_say {s : ByteArray} {c : Bool} (hc : noteB s = c) : allSay (h0T s c) := by
  refine ⟨?_, hc, trivial⟩
  cases h : e0B s with
  | true => rfl
  | false => rw [decide_eq_true (show (0 : Int) < (s.size : Int) by have := size0 h; omega)]; rfl
theorem tak_run (c : Cf) (l : List ByteArray) (s : ByteArray) (hs : s.size < 4294967281) (hl : l.length ≤ 100000) : (takX [.ptr 0 0, .s (.str s)] (hpT c l.length l)).eval = some (tkR c l l.length (takF l s)) := by
  rw [← T.eval_anon (t := takX _ _)]
  have ed : List.take l.length (List.drop 0 l) = l := by rw [List.drop_zero, List.take_length]
  unfold takF
  cases hn : noteB s with
  | true => exact T.path_eval (tk_0 c s l.length l) (h0T_say hn)
  | false =>
    have s1 : ∀ b, (!OKc s) = b → allSay (h1T s b) := fun b hb => allSay_append (h0T_say hn) ⟨decide_eq_true hs, hb, trivial⟩
    cases ho : OKc s with
    | false => exact T.path_eval (tk_1 c s l.length l) (s1 true (by rw [ho]; rfl))
    | true =>
      have es : saidB s l.length l = l.any (eB (NAM s)) := by unfold saidB; rw [ho, ed]; rfl
      have s2 : ∀ b, saidB s l.length l = b → allSay (h2T s l.length l b) := fun b hb => allSay_append (s1 false (by rw [ho]; rfl)) ⟨decide_eq_true (by omega), by rw [ed]; exact decide_eq_true (by omega), hb, trivial⟩
      cases ha : l.any (eB (NAM s)) with
      | true => exact T.path_eval (tk_2 c s l.length l) (s2 true (by rw [es]; exact ha))
      | false =>
        have sb : saidB s l.length l = false := by rw [es]; exact ha
        show _ = some (tkR c l l.length (match prtI (NAM s) with | none => .no | some k => bif qK k (VAL s) then .set k (vK k (VAL s)) (NAM s) else .no))
        cases hp : prtI (NAM s) with
        | none => exact T.path_eval (tk_3 c s l.length l) (allSay_append (s2 false sb) (allSay_append (nmC_say (prtI_none hp)) ⟨by rw [sb]; rfl, trivial⟩))
        | some k =>
          obtain ⟨k1, k2, k3⟩ := prtI_some hp
          have hv : (VAL s).size < 4294967281 := by
            unfold VAL
            rw [byA_size]
            have := (cutF_len (L8 s) [58, 32]).2
            rw [L8_len] at this
            omega
          have hg : gK k (VAL s) = true := by
            unfold gK
            rw [decide_eq_true hv]
            cases thin k <;> rfl
          show _ = some (tkR c l l.length (bif qK k (VAL s) then .set k (vK k (VAL s)) (NAM s) else .no))
          cases hq : qK k (VAL s) with
          | true => exact T.path_eval (tk_y c s l.length l k k1) (allSay_append (s2 false sb) (allSay_append (nmC_say k3) ⟨k2, hg, hq, by rw [sb, hq]; rfl, apC_is _ rfl hl, trivial⟩))
          | false => exact T.path_eval (tk_z c s l.length l k k1) (allSay_append (s2 false sb) (allSay_append (nmC_say k3) ⟨k2, hg, hq, by rw [sb, hq]; rfl, trivial⟩))
def asTk (args : List V) (h : Eng.Heap) : Option (ByteArray × Cf × Nat × List ByteArray) :=
  match args, h with
  | [.ptr 0 0, .s (.str s)], [(0, .cells t [.s (.int .i64 a0), .s (.int .i64 a1), .s (.int .i64 a2), .s (.int .i64 a3), .s (.int .i64 a4), .s (.int .i64 a5), .s (.int .i64 a6), .s (.int .i64 a7), .s (.int .i64 a8), .s (.int .i64 a9), .s (.int .i64 b0), .s (.int .i64 b1), .s (.int .i64 b2), .s (.int .i64 b3), .s (.int .i64 b4), .s (.int .i64 b5), .s (.int .i64 b6), .s (.int .i64 b7), .s (.int .i64 b8), .s (.int .i64 b9), .sub 1 1 0 n]), (1, .lst true t' [.str] l)] =>
    if t = TR ∧ t' = 9 then some (s, ⟨a0, a1, a2, a3, a4, a5, a6, a7, a8, a9, b0, b1, b2, b3, b4, b5, b6, b7, b8, b9⟩, n, l) else none
  | _, _ => none
theorem asTk_ok {args : List V} {h : Eng.Heap} {r : ByteArray × Cf × Nat × List ByteArray} (e : asTk args h = some r) : args = [.ptr 0 0, .s (.str r.1)] ∧ h = hpT r.2.1 r.2.2.1 r.2.2.2 := by
  unfold asTk at e
  split at e
  · obtain ⟨⟨q, q'⟩, e⟩ := ite_some0 e
    subst q
    subst q'
    cases e; exact ⟨rfl, rfl⟩
  · cases e
def tNo : Tk → Bool
  | .no => true
  | _ => false
def tSame : Tk → Bool
  | .same => true
  | _ => false
def tK : Tk → Nat
  | .set k _ _ => k
  | _ => 0
def tV : Tk → Int
  | .set _ v _ => v
  | _ => 0
def tX : Tk → ByteArray
  | .set _ _ x => x
  | _ => ⟨#[]⟩
def takS : Eng.Obj := fun args h => match asTk args h with
  | some r => .ite none (decide (r.1.size < 4294967281) && (decide (r.2.2.1 = r.2.2.2.length) && decide (r.2.2.2.length ≤ 100000))) (.ite none (tNo (takF r.2.2.2 r.1)) (.ret (.ff, hpT r.2.1 r.2.2.1 r.2.2.2)) (.ite none (tSame (takF r.2.2.2 r.1)) (.ret (.tt, hpT r.2.1 r.2.2.1 r.2.2.2)) (.ret (.tt, hpN (setC (tK (takF r.2.2.2 r.1)) (tV (takF r.2.2.2 r.1)) r.2.1) r.2.2.1 r.2.2.2 (tX (takF r.2.2.2 r.1)))))) .fail
  | none => .fail
theorem takS_ok : ObjOk Tryd.prog 17 takS := takX_ok.of_eval fun args h x hv => by
  unfold takS at hv
  split at hv
  · rename_i r hr
    obtain ⟨e1, e2⟩ := asTk_ok hr
    obtain ⟨s, c, n, l⟩ := r
    simp only at e1 e2 hv
    subst e1; subst e2
    obtain ⟨hg, hv⟩ := ite_T' hv
    rw [Bool.and_eq_true, Bool.and_eq_true, decide_eq_true_eq, decide_eq_true_eq, decide_eq_true_eq] at hg
    obtain ⟨g1, rfl, g3⟩ := hg
    rw [tak_run c l s g1 g3, ← hv]
    cases takF l s <;> rfl
  · cases hv
end Go.Proofs.YtndcealgackgiaaDoor.Txt

/- Settings by lines: all of them: loop. -/
namespace Go.Proofs.YtndcealgackgiaaDoor.Txt
open Go.Eng Go.RowKit
set_option linter.unusedVariables false
set_option linter.unusedSimpArgs false
set_option maxRecDepth 100000
noncomputable def Q1 : Cfg := ⟨Tryd.prog, lookG [(16, .val cutS), (18, .val trimS), (17, .obj takS), (19, .val Conf.mayS)], [], 0⟩
theorem Q1_ok : Q1.Ok := Cfg.ok ⟨cutS_ok, trimS_ok, takS_ok, Conf.may_ok, trivial⟩ trivial
noncomputable def lpPa : Code := loopAt Tryd.prog 5 0
structure PPa where (c0 : Int) (c1 : Int) (c2 : Int) (c3 : Int) (c4 : Int) (c5 : Int) (c6 : Int) (c7 : Int) (c8 : Int) (c9 : Int) (c10 : Int) (c11 : Int) (c12 : Int) (c13 : Int) (c14 : Int) (c15 : Int) (c16 : Int) (c17 : Int) (c18 : Int) (c19 : Int) (z0 : Int) (z1 : Int) (z2 : Int) (z3 : Int) (z4 : Int) (z5 : Int) (z6 : Int) (z7 : Int) (z8 : Int) (z9 : Int) (z10 : Int) (z11 : Int) (z12 : Int) (z13 : Int) (z14 : Int) (z15 : Int) (z16 : Int) (z17 : Int) (z18 : Int) (z19 : Int)
structure APa where (s : ByteArray) (k : Int) (m : Bool) (r0 : Int) (r1 : Int) (r2 : Int) (r3 : Int) (r4 : Int) (r5 : Int) (r6 : Int) (r7 : Int) (r8 : Int) (r9 : Int) (r10 : Int) (r11 : Int) (r12 : Int) (r13 : Int) (r14 : Int) (r15 : Int) (r16 : Int) (r17 : Int) (r18 : Int) (r19 : Int) (n : Nat) (l : List ByteArray)
abbrev SPa : List (Nat × Src) := [(0, .same), (8, .same), (16, .same), (4000, .cell 16 20)]
def vsPa (p : PPa) (a : APa) : List V := [.s (.str a.s), .ptr 0 0, .ptr 8 0, .ptr 16 0, iv a.k, bv a.m]
def bsPa (p : PPa) (a : APa) : List Blk := [.cells 25 [iv p.c0, iv p.c1, iv p.c2, iv p.c3, iv p.c4, iv p.c5, iv p.c6, iv p.c7, iv p.c8, iv p.c9, iv p.c10, iv p.c11, iv p.c12, iv p.c13, iv p.c14, iv p.c15, iv p.c16, iv p.c17, iv p.c18, iv p.c19], .cells 25 [iv p.z0, iv p.z1, iv p.z2, iv p.z3, iv p.z4, iv p.z5, iv p.z6, iv p.z7, iv p.z8, iv p.z9, iv p.z10, iv p.z11, iv p.z12, iv p.z13, iv p.z14, iv p.z15, iv p.z16, iv p.z17, iv p.z18, iv p.z19], .cells 44 [iv a.r0, iv a.r1, iv a.r2, iv a.r3, iv a.r4, iv a.r5, iv a.r6, iv a.r7, iv a.r8, iv a.r9, iv a.r10, iv a.r11, iv a.r12, iv a.r13, iv a.r14, iv a.r15, iv a.r16, iv a.r17, iv a.r18, iv a.r19, .sub 4000 1 0 a.n], .lst true 9 [.str] a.l]
noncomputable def FPa (p : PPa) (a : APa) : St := mkSt [1,2,4,7,8,9] (keysR SPa) 4001 35 (vsPa p a) (bsPa p a)
abbrev SPax : List (Nat × Src) := [(0, .same), (8, .same), (16, .same), (4000, .cell 16 20)]
noncomputable def rdPa (p : PPa) (a : APa) : T (Ex × St) := T.anon (roundX Q1 noLoops lpPa [1,2,4,7,8,9] SPa [2,4,5,6,7] SPax 4000 4001 (mkSt [1,2,4,7,8,9] (keysR SPa) 4001 35 (vsPa p a) (bsPa p a)))
def decPa_v0 : V → Option ((ByteArray))
  | .s (.str s) => some (s)
  | _ => none
theorem decPa_v0_ok (b : V) (x0 : (ByteArray)) (h : decPa_v0 b = some x0) : b = .s (.str (x0)) := by
  unfold decPa_v0 at h
  split at h
  · cases h
    rfl
  · cases h
def decPa_v1 : V → Option (Unit)
  | .ptr 0 0 => some ()
  | _ => none
theorem decPa_v1_ok (b : V) (x1 : Unit) (h : decPa_v1 b = some x1) : b = .ptr 0 0 := by
  unfold decPa_v1 at h
  split at h
  · cases h
    rfl
  · cases h
def decPa_v2 : V → Option (Unit)
  | .ptr 8 0 => some ()
  | _ => none
theorem decPa_v2_ok (b : V) (x2 : Unit) (h : decPa_v2 b = some x2) : b = .ptr 8 0 := by
  unfold decPa_v2 at h
  split at h
  · cases h
    rfl
  · cases h
def decPa_v3 : V → Option (Unit)
  | .ptr 16 0 => some ()
  | _ => none
theorem decPa_v3_ok (b : V) (x3 : Unit) (h : decPa_v3 b = some x3) : b = .ptr 16 0 := by
  unfold decPa_v3 at h
  split at h
  · cases h
    rfl
  · cases h
def decPa_v4 : V → Option ((Int))
  | .s (.int .i64 k) => some (k)
  | _ => none
theorem decPa_v4_ok (b : V) (x4 : (Int)) (h : decPa_v4 b = some x4) : b = iv (x4) := by
  unfold decPa_v4 at h
  split at h
  · cases h
    rfl
  · cases h
def decPa_v5 : V → Option ((Bool))
  | .s (.bool m) => some (m)
  | _ => none
theorem decPa_v5_ok (b : V) (x5 : (Bool)) (h : decPa_v5 b = some x5) : b = bv (x5) := by
  unfold decPa_v5 at h
  split at h
  · cases h
    rfl
  · cases h
def decPa_b0 : Blk → Option ((Int) × (Int) × (Int) × (Int) × (Int) × (Int) × (Int) × (Int) × (Int) × (Int) × (Int) × (Int) × (Int) × (Int) × (Int) × (Int) × (Int) × (Int) × (Int) × (Int))
  | .cells tt0 [.s (.int .i64 c0), .s (.int .i64 c1), .s (.int .i64 c2), .s (.int .i64 c3), .s (.int .i64 c4), .s (.int .i64 c5), .s (.int .i64 c6), .s (.int .i64 c7), .s (.int .i64 c8), .s (.int .i64 c9), .s (.int .i64 c10), .s (.int .i64 c11), .s (.int .i64 c12), .s (.int .i64 c13), .s (.int .i64 c14), .s (.int .i64 c15), .s (.int .i64 c16), .s (.int .i64 c17), .s (.int .i64 c18), .s (.int .i64 c19)] => if tt0 = 25 then some (c0, c1, c2, c3, c4, c5, c6, c7, c8, c9, c10, c11, c12, c13, c14, c15, c16, c17, c18, c19) else none
  | _ => none
theorem decPa_b0_ok (b : Blk) (y0 : (Int) × (Int) × (Int) × (Int) × (Int) × (Int) × (Int) × (Int) × (Int) × (Int) × (Int) × (Int) × (Int) × (Int) × (Int) × (Int) × (Int) × (Int) × (Int) × (Int)) (h : decPa_b0 b = some y0) : b = .cells 25 [iv (y0.1), iv (y0.2.1), iv (y0.2.2.1), iv (y0.2.2.2.1), iv (y0.2.2.2.2.1), iv (y0.2.2.2.2.2.1), iv (y0.2.2.2.2.2.2.1), iv (y0.2.2.2.2.2.2.2.1), iv (y0.2.2.2.2.2.2.2.2.1), iv (y0.2.2.2.2.2.2.2.2.2.1), iv (y0.2.2.2.2.2.2.2.2.2.2.1), iv (y0.2.2.2.2.2.2.2.2.2.2.2.1), iv (y0.2.2.2.2.2.2.2.2.2.2.2.2.1), iv (y0.2.2.2.2.2.2.2.2.2.2.2.2.2.1), iv (y0.2.2.2.2.2.2.2.2.2.2.2.2.2.2.1), iv (y0.2.2.2.2.2.2.2.2.2.2.2.2.2.2.2.1), iv (y0.2.2.2.2.2.2.2.2.2.2.2.2.2.2.2.2.1), iv (y0.2.2.2.2.2.2.2.2.2.2.2.2.2.2.2.2.2.1), iv (y0.2.2.2.2.2.2.2.2.2.2.2.2.2.2.2.2.2.2.1), iv (y0.2.2.2.2.2.2.2.2.2.2.2.2.2.2.2.2.2.2.2)] := by
  unfold decPa_b0 at h
  split at h
  · obtain ⟨e0, h⟩ := ite_some0 h
    subst e0
    cases h
    rfl
  · cases h
def decPa_b1 : Blk → Option ((Int) × (Int) × (Int) × (Int) × (Int) × (Int) × (Int) × (Int) × (Int) × (Int) × (Int) × (Int) × (Int) × (Int) × (Int) × (Int) × (Int) × (Int) × (Int) × (Int))
  | .cells tt0 [.s (.int .i64 z0), .s (.int .i64 z1), .s (.int .i64 z2), .s (.int .i64 z3), .s (.int .i64 z4), .s (.int .i64 z5), .s (.int .i64 z6), .s (.int .i64 z7), .s (.int .i64 z8), .s (.int .i64 z9), .s (.int .i64 z10), .s (.int .i64 z11), .s (.int .i64 z12), .s (.int .i64 z13), .s (.int .i64 z14), .s (.int .i64 z15), .s (.int .i64 z16), .s (.int .i64 z17), .s (.int .i64 z18), .s (.int .i64 z19)] => if tt0 = 25 then some (z0, z1, z2, z3, z4, z5, z6, z7, z8, z9, z10, z11, z12, z13, z14, z15, z16, z17, z18, z19) else none
  | _ => none
theorem decPa_b1_ok (b : Blk) (y1 : (Int) × (Int) × (Int) × (Int) × (Int) × (Int) × (Int) × (Int) × (Int) × (Int) × (Int) × (Int) × (Int) × (Int) × (Int) × (Int) × (Int) × (Int) × (Int) × (Int)) (h : decPa_b1 b = some y1) : b = .cells 25 [iv (y1.1), iv (y1.2.1), iv (y1.2.2.1), iv (y1.2.2.2.1), iv (y1.2.2.2.2.1), iv (y1.2.2.2.2.2.1), iv (y1.2.2.2.2.2.2.1), iv (y1.2.2.2.2.2.2.2.1), iv (y1.2.2.2.2.2.2.2.2.1), iv (y1.2.2.2.2.2.2.2.2.2.1), iv (y1.2.2.2.2.2.2.2.2.2.2.1), iv (y1.2.2.2.2.2.2.2.2.2.2.2.1), iv (y1.2.2.2.2.2.2.2.2.2.2.2.2.1), iv (y1.2.2.2.2.2.2.2.2.2.2.2.2.2.1), iv (y1.2.2.2.2.2.2.2.2.2.2.2.2.2.2.1), iv (y1.2.2.2.2.2.2.2.2.2.2.2.2.2.2.2.1), iv (y1.2.2.2.2.2.2.2.2.2.2.2.2.2.2.2.2.1), iv (y1.2.2.2.2.2.2.2.2.2.2.2.2.2.2.2.2.2.1), iv (y1.2.2.2.2.2.2.2.2.2.2.2.2.2.2.2.2.2.2.1), iv (y1.2.2.2.2.2.2.2.2.2.2.2.2.2.2.2.2.2.2.2)] := by
  unfold decPa_b1 at h
  split at h
  · obtain ⟨e0, h⟩ := ite_some0 h
    subst e0
    cases h
    rfl
  · cases h
def decPa_b2 : Blk → Option ((Int) × (Int) × (Int) × (Int) × (Int) × (Int) × (Int) × (Int) × (Int) × (Int) × (Int) × (Int) × (Int) × (Int) × (Int) × (Int) × (Int) × (Int) × (Int) × (Int) × (Nat))
  | .cells tt0 [.s (.int .i64 r0), .s (.int .i64 r1), .s (.int .i64 r2), .s (.int .i64 r3), .s (.int .i64 r4), .s (.int .i64 r5), .s (.int .i64 r6), .s (.int .i64 r7), .s (.int .i64 r8), .s (.int .i64 r9), .s (.int .i64 r10), .s (.int .i64 r11), .s (.int .i64 r12), .s (.int .i64 r13), .s (.int .i64 r14), .s (.int .i64 r15), .s (.int .i64 r16), .s (.int .i64 r17), .s (.int .i64 r18), .s (.int .i64 r19), .sub 4000 1 0 n] => if tt0 = 44 then some (r0, r1, r2, r3, r4, r5, r6, r7, r8, r9, r10, r11, r12, r13, r14, r15, r16, r17, r18, r19, n) else none
  | _ => none
theorem decPa_b2_ok (b : Blk) (y2 : (Int) × (Int) × (Int) × (Int) × (Int) × (Int) × (Int) × (Int) × (Int) × (Int) × (Int) × (Int) × (Int) × (Int) × (Int) × (Int) × (Int) × (Int) × (Int) × (Int) × (Nat)) (h : decPa_b2 b = some y2) : b = .cells 44 [iv (y2.1), iv (y2.2.1), iv (y2.2.2.1), iv (y2.2.2.2.1), iv (y2.2.2.2.2.1), iv (y2.2.2.2.2.2.1), iv (y2.2.2.2.2.2.2.1), iv (y2.2.2.2.2.2.2.2.1), iv (y2.2.2.2.2.2.2.2.2.1), iv (y2.2.2.2.2.2.2.2.2.2.1), iv (y2.2.2.2.2.2.2.2.2.2.2.1), iv (y2.2.2.2.2.2.2.2.2.2.2.2.1), iv (y2.2.2.2.2.2.2.2.2.2.2.2.2.1), iv (y2.2.2.2.2.2.2.2.2.2.2.2.2.2.1), iv (y2.2.2.2.2.2.2.2.2.2.2.2.2.2.2.1), iv (y2.2.2.2.2.2.2.2.2.2.2.2.2.2.2.2.1), iv (y2.2.2.2.2.2.2.2.2.2.2.2.2.2.2.2.2.1), iv (y2.2.2.2.2.2.2.2.2.2.2.2.2.2.2.2.2.2.1), iv (y2.2.2.2.2.2.2.2.2.2.2.2.2.2.2.2.2.2.2.1), iv (y2.2.2.2.2.2.2.2.2.2.2.2.2.2.2.2.2.2.2.2.1), .sub 4000 1 0 (y2.2.2.2.2.2.2.2.2.2.2.2.2.2.2.2.2.2.2.2.2)] := by
  unfold decPa_b2 at h
  split at h
  · obtain ⟨e0, h⟩ := ite_some0 h
    subst e0
    cases h
    rfl
  · cases h
def decPa_b3 : Blk → Option ((List ByteArray))
  | .lst true tt0 [.str] l => if tt0 = 9 then some (l) else none
  | _ => none
theorem decPa_b3_ok (b : Blk) (y3 : (List ByteArray)) (h : decPa_b3 b = some y3) : b = .lst true 9 [.str] (y3) := by
  unfold decPa_b3 at h
  split at h
  · obtain ⟨e0, h⟩ := ite_some0 h
    subst e0
    cases h
    rfl
  · cases h
def decPa : List V → List Blk → Option (PPa × APa)
  | [v0, v1, v2, v3, v4, v5], [b0, b1, b2, b3] => (decPa_v0 v0).bind fun x0 => (decPa_v1 v1).bind fun x1 => (decPa_v2 v2).bind fun x2 => (decPa_v3 v3).bind fun x3 => (decPa_v4 v4).bind fun x4 => (decPa_v5 v5).bind fun x5 => (decPa_b0 b0).bind fun y0 => (decPa_b1 b1).bind fun y1 => (decPa_b2 b2).bind fun y2 => (decPa_b3 b3).bind fun y3 => some (⟨(y0.1), (y0.2.1), (y0.2.2.1), (y0.2.2.2.1), (y0.2.2.2.2.1), (y0.2.2.2.2.2.1), (y0.2.2.2.2.2.2.1), (y0.2.2.2.2.2.2.2.1), (y0.2.2.2.2.2.2.2.2.1), (y0.2.2.2.2.2.2.2.2.2.1), (y0.2.2.2.2.2.2.2.2.2.2.1), (y0.2.2.2.2.2.2.2.2.2.2.2.1), (y0.2.2.2.2.2.2.2.2.2.2.2.2.1), (y0.2.2.2.2.2.2.2.2.2.2.2.2.2.1), (y0.2.2.2.2.2.2.2.2.2.2.2.2.2.2.1), (y0.2.2.2.2.2.2.2.2.2.2.2.2.2.2.2.1), (y0.2.2.2.2.2.2.2.2.2.2.2.2.2.2.2.2.1), (y0.2.2.2.2.2.2.2.2.2.2.2.2.2.2.2.2.2.1), (y0.2.2.2.2.2.2.2.2.2.2.2.2.2.2.2.2.2.2.1), (y0.2.2.2.2.2.2.2.2.2.2.2.2.2.2.2.2.2.2.2), (y1.1), (y1.2.1), (y1.2.2.1), (y1.2.2.2.1), (y1.2.2.2.2.1), (y1.2.2.2.2.2.1), (y1.2.2.2.2.2.2.1), (y1.2.2.2.2.2.2.2.1), (y1.2.2.2.2.2.2.2.2.1), (y1.2.2.2.2.2.2.2.2.2.1), (y1.2.2.2.2.2.2.2.2.2.2.1), (y1.2.2.2.2.2.2.2.2.2.2.2.1), (y1.2.2.2.2.2.2.2.2.2.2.2.2.1), (y1.2.2.2.2.2.2.2.2.2.2.2.2.2.1), (y1.2.2.2.2.2.2.2.2.2.2.2.2.2.2.1), (y1.2.2.2.2.2.2.2.2.2.2.2.2.2.2.2.1), (y1.2.2.2.2.2.2.2.2.2.2.2.2.2.2.2.2.1), (y1.2.2.2.2.2.2.2.2.2.2.2.2.2.2.2.2.2.1), (y1.2.2.2.2.2.2.2.2.2.2.2.2.2.2.2.2.2.2.1), (y1.2.2.2.2.2.2.2.2.2.2.2.2.2.2.2.2.2.2.2)⟩, ⟨(x0), (x4), (x5), (y2.1), (y2.2.1), (y2.2.2.1), (y2.2.2.2.1), (y2.2.2.2.2.1), (y2.2.2.2.2.2.1), (y2.2.2.2.2.2.2.1), (y2.2.2.2.2.2.2.2.1), (y2.2.2.2.2.2.2.2.2.1), (y2.2.2.2.2.2.2.2.2.2.1), (y2.2.2.2.2.2.2.2.2.2.2.1), (y2.2.2.2.2.2.2.2.2.2.2.2.1), (y2.2.2.2.2.2.2.2.2.2.2.2.2.1), (y2.2.2.2.2.2.2.2.2.2.2.2.2.2.1), (y2.2.2.2.2.2.2.2.2.2.2.2.2.2.2.1), (y2.2.2.2.2.2.2.2.2.2.2.2.2.2.2.2.1), (y2.2.2.2.2.2.2.2.2.2.2.2.2.2.2.2.2.1), (y2.2.2.2.2.2.2.2.2.2.2.2.2.2.2.2.2.2.1), (y2.2.2.2.2.2.2.2.2.2.2.2.2.2.2.2.2.2.2.1), (y2.2.2.2.2.2.2.2.2.2.2.2.2.2.2.2.2.2.2.2.1), (y2.2.2.2.2.2.2.2.2.2.2.2.2.2.2.2.2.2.2.2.2), (y3)⟩)
  | _, _ => none
theorem decPa_ok (l : List V) (b : List Blk) (d : PPa × APa) (h : decPa l b = some d) : l = vsPa d.1 d.2 ∧ b = bsPa d.1 d.2 := by
  unfold decPa at h
  split at h
  · obtain ⟨x0, hx0, h⟩ := Option.bind_eq_some_iff.1 h
    obtain ⟨x1, hx1, h⟩ := Option.bind_eq_some_iff.1 h
    obtain ⟨x2, hx2, h⟩ := Option.bind_eq_some_iff.1 h
    obtain ⟨x3, hx3, h⟩ := Option.bind_eq_some_iff.1 h
    obtain ⟨x4, hx4, h⟩ := Option.bind_eq_some_iff.1 h
    obtain ⟨x5, hx5, h⟩ := Option.bind_eq_some_iff.1 h
    obtain ⟨y0, hy0, h⟩ := Option.bind_eq_some_iff.1 h
    obtain ⟨y1, hy1, h⟩ := Option.bind_eq_some_iff.1 h
    obtain ⟨y2, hy2, h⟩ := Option.bind_eq_some_iff.1 h
    obtain ⟨y3, hy3, h⟩ := Option.bind_eq_some_iff.1 h
    have ex0 := decPa_v0_ok _ _ hx0
    have ex1 := decPa_v1_ok _ _ hx1
    have ex2 := decPa_v2_ok _ _ hx2
    have ex3 := decPa_v3_ok _ _ hx3
    have ex4 := decPa_v4_ok _ _ hx4
    have ex5 := decPa_v5_ok _ _ hx5
    have ey0 := decPa_b0_ok _ _ hy0
    have ey1 := decPa_b1_ok _ _ hy1
    have ey2 := decPa_b2_ok _ _ hy2
    have ey3 := decPa_b3_ok _ _ hy3
    cases h
    subst ex0 ex1 ex2 ex3 ex4 ex5 ey0 ey1 ey2 ey3
    exact ⟨rfl, rfl⟩
  · cases h
noncomputable def rgPa : Nat := (firstReg lpPa).getD 0
theorem rgPa_is : firstReg lpPa = some rgPa := by kernel_rfl
def pP (c z : Conf.Cf) : PPa := ⟨c.target, c.util, c.stable, c.panic, c.grain, c.threshold, c.up, c.down, c.min, c.max, c.initial, c.grace, c.delay, c.burst, c.limit, c.queue, c.timeout, c.ready, c.subset, c.sample, z.target, z.util, z.stable, z.panic, z.grain, z.threshold, z.up, z.down, z.min, z.max, z.initial, z.grace, z.delay, z.burst, z.limit, z.queue, z.timeout, z.ready, z.subset, z.sample⟩
def aP (s : ByteArray) (k : Int) (m : Bool) (r : Conf.Cf) (n : Nat) (l : List ByteArray) : APa := ⟨s, k, m, r.target, r.util, r.stable, r.panic, r.grain, r.threshold, r.up, r.down, r.min, r.max, r.initial, r.grace, r.delay, r.burst, r.limit, r.queue, r.timeout, r.ready, r.subset, r.sample, n, l⟩
def cuP (s : ByteArray) : List UInt8 × List UInt8 × Bool := cutF (L8 s) [10]
/-- the first line, with no blanks at its ends -/
def lnP (s : ByteArray) : ByteArray := byA (trB (L8 (byA (cuP s).1)) 32)
def rsP (s : ByteArray) : ByteArray := byA (cuP s).2.1
def moP (s : ByteArray) : Bool := (cuP s).2.2
def ttP (l : List ByteArray) (s : ByteArray) : Tk := takF l (lnP s)
def hdPa (s : ByteArray) (m : Bool) (n : Nat) (l : List ByteArray) (c : Bool) : List (Bool × Bool) := [(m, true), (decide (s.size < 4294967281), true), (decide ((byA (cuP s).1).size ≤ 9223372036854775807), true), (decide ((lnP s).size < 4294967281) && (decide (n = l.length) && decide (l.length ≤ 100000)), true), (tNo (ttP l s), c)]
noncomputable def fPa (c : Conf.Cf) (s : ByteArray) (k : Int) (m : Bool) (r : Conf.Cf) (n : Nat) (l : List ByteArray) : St := mkSt [2, 4, 5, 6, 7] [0, 8, 16, 4000] 4001 35 [.ptr 0 0, .ptr 8 0, iv 4, iv k, .ptr 16 0] (bsPa (pP c c) (aP s k m r n l))
noncomputable def oPa (c z : Conf.Cf) (s : ByteArray) (k : Int) (m : Bool) (r : Conf.Cf) (n : Nat) (l : List ByteArray) : St := mkSt [2, 4, 5, 6, 7] [0, 8, 16, 4000] 4001 35 [.ptr 0 0, .ptr 8 0, .junk, .junk, .ptr 16 0] (bsPa (pP c z) (aP s k m r n l))
theorem pa_f (c z r : Conf.Cf) (s : ByteArray) (k : Int) (m : Bool) (n : Nat) (l : List ByteArray) : T.path [true, true, true, true, true] (rdPa (pP c z) (aP s k m r n l)) = some (hdPa s m n l true, (.ret, fPa c s k m r n l)) := by kernel_rfl
theorem pa_x (c z r : Conf.Cf) (s : ByteArray) (k : Int) (m : Bool) (n : Nat) (l : List ByteArray) : T.path [false] (rdPa (pP c z) (aP s k m r n l)) = some ([(m, false)], (.exit 0, oPa c z s k m r n l)) := by kernel_rfl
theorem pa_s (c z r : Conf.Cf) (s : ByteArray) (k : Int) (m : Bool) (n : Nat) (l : List ByteArray) : T.path [true, true, true, true, false, true] (rdPa (pP c z) (aP s k m r n l)) = some (hdPa s m n l false ++ [(tSame (ttP l s), true)], (.normal, FPa (pP c z) (aP (rsP s) (IntKind.wrap .i64 (k + 1)) (moP s) r n l))) := by kernel_rfl
theorem pa_n (c z r : Conf.Cf) (s : ByteArray) (k : Int) (m : Bool) (n : Nat) (l : List ByteArray) : T.path [true, true, true, true, false, false] (rdPa (pP c z) (aP s k m r n l)) = some (hdPa s m n l false ++ [(tSame (ttP l s), false)], (.normal, FPa (pP c z) (aP (rsP s) (IntKind.wrap .i64 (k + 1)) (moP s) (setC (tK (ttP l s)) (tV (ttP l s)) r) (n + [tX (ttP l s)].length) (l.take n ++ [tX (ttP l s)])))) := by kernel_rfl
end Go.Proofs.YtndcealgackgiaaDoor.Txt

/- Settings by lines: all of them: contract. -/
namespace Go.Proofs.YtndcealgackgiaaDoor.Txt
open Go.Eng Go.RowKit
set_option linter.unusedVariables false
set_option linter.unusedSimpArgs false
set_option maxRecDepth 100000
/-- all lines: what they say, or which is wrong -/
def pG : Nat → Conf.Cf → List ByteArray → ByteArray → Int → Option Conf.Cf × Int
  | 0, r, l, s, k => (none, 0)
  | f + 1, r, l, s, k => match ttP l s with
    | .no => (none, k)
    | .same => bif moP s then pG f r l (rsP s) (k + 1) else (some r, 0)
    | .set j v x => bif moP s then pG f (setC j v r) (l ++ [x]) (rsP s) (k + 1) else (some (setC j v r), 0)
theorem idxF_lt {c : UInt8} : ∀ {l : List UInt8} {k : Nat}, idxF l [c] = some k → k < l.length
  | [], k, h => by cases h
  | b :: l, k, h => by
    unfold idxF at h
    split at h
    · obtain rfl := Option.some.inj h
      simp
    · obtain ⟨j, hj, rfl⟩ := Option.map_eq_some_iff.1 h
      have := idxF_lt hj
      simp only [List.length_cons]; omega
theorem rsP_size {s : ByteArray} (h : moP s = true) : (rsP s).size + 1 ≤ s.size := by
  unfold rsP
  rw [byA_size]
  unfold moP cuP cutF at *
  cases hi : idxF (L8 s) [10] with
  | none => rw [hi] at h; cases h
  | some k =>
    have := idxF_lt hi
    rw [L8_len] at this
    show (List.drop (k + 1) (L8 s)).length + 1 ≤ _
    rw [List.length_drop, L8_len]; omega
theorem dropW_len (c : UInt8) (l : List UInt8) : (dropW c l).length ≤ l.length := by
  rw [← dropW_is]
  exact (List.dropWhile_sublist (l := l) (· == c)).length_le
theorem lnP_size (s : ByteArray) : (lnP s).size ≤ s.size ∧ (byA (cuP s).1).size ≤ s.size := by
  have h1 : (byA (cuP s).1).size ≤ s.size := by
    rw [byA_size, ← L8_len]
    exact (cutF_len (L8 s) [10]).1
  refine ⟨?_, h1⟩
  unfold lnP trB
  rw [byA_size]
  have a := dropW_len 32 (trR (L8 (byA (cuP s).1)) 32)
  have b := trR_len (L8 (byA (cuP s).1)) 32
  rw [L8_len] at b
  omega
structure okPx (S0 : Nat) (G : Option Conf.Cf × Int) (s : ByteArray) (k : Int) (m : Bool) (r : Conf.Cf) (l : List ByteArray) : Prop where
  s0 : S0 ≤ 90000
  k0 : 1 ≤ k
  t : m = true → l.length + s.size ≤ S0 ∧ k + s.size ≤ S0 + 2 ∧ ∃ f : Nat, s.size < f ∧ G = pG f r l s k
  e : m = false → G = (some r, 0)
def okPa (p : PPa) (a : APa) : Prop := ∃ (c z r : Conf.Cf) (s : ByteArray) (k : Int) (m : Bool) (l : List ByteArray) (S0 : Nat) (G : Option Conf.Cf × Int), p = pP c z ∧ a = aP s k m r l.length l ∧ okPx S0 G s k m r l
def goPa (p : PPa) (a : APa) : Bool := a.m && !tNo (ttP a.l a.s)
def muPa (p : PPa) (a : APa) : Nat := bif a.m then a.s.size + 1 else 0
theorem pa_hd {S0 : Nat} {G : Option Conf.Cf × Int} {s : ByteArray} {k : Int} {r : Conf.Cf} {l : List ByteArray} (h : okPx S0 G s k true r l) {c : Bool} (hc : tNo (ttP l s) = c) : allSay (hdPa s true l.length l c) := by
  have hs0 := h.s0
  obtain ⟨hb, -, -⟩ := h.t rfl
  obtain ⟨q1, q2⟩ := lnP_size s
  exact ⟨rfl, decide_eq_true (by omega), decide_eq_true (by omega), by rw [decide_eq_true (show (lnP s).size < 4294967281 by omega), decide_eq_true (show l.length ≤ 100000 by omega), decide_eq_true rfl]; rfl, hc, trivial⟩
/-- what one more line makes -/
def nxP (s : ByteArray) (k : Int) (r : Conf.Cf) (l : List ByteArray) : APa := match ttP l s with
  | .set j v x => aP (rsP s) (k + 1) (moP s) (setC j v r) (l ++ [x]).length (l ++ [x])
  | _ => aP (rsP s) (k + 1) (moP s) r l.length l
theorem pa_on {S0 : Nat} {G : Option Conf.Cf × Int} {c z r : Conf.Cf} {s : ByteArray} {k : Int} {l : List ByteArray} (h : okPx S0 G s k true r l) (hn : tNo (ttP l s) = false) :
    (rdPa (pP c z) (aP s k true r l.length l)).eval = some (.normal, FPa (pP c z) (nxP s k r l)) ∧ ∃ r' l', nxP s k r l = aP (rsP s) (k + 1) (moP s) r' l'.length l' ∧ okPx S0 G (rsP s) (k + 1) (moP s) r' l' := by
  have hd := pa_hd h hn
  obtain ⟨h1, h2, h3, -⟩ := h
  obtain ⟨h4, h5, f, h6, h7⟩ := h3 rfl
  have wk : IntKind.wrap .i64 (k + 1) = k + 1 := wrap64 (by omega) (by omega)
  cases f with
  | zero => omega
  | succ f =>
    unfold pG at h7
    unfold nxP
    cases ht : ttP l s with
    | no => rw [ht] at hn; cases hn
    | same =>
      rw [ht] at h7
      have h7 : G = bif moP s then pG f r l (rsP s) (k + 1) else (some r, 0) := h7
      have way := pa_s c z r s k true l.length l
      rw [wk] at way
      refine ⟨T.path_eval way (allSay_append hd ⟨by rw [ht]; rfl, trivial⟩), r, l, rfl, h1, by omega, fun hm => ?_, fun hm => by rw [h7, hm]; rfl⟩
      have := rsP_size hm
      exact ⟨by omega, by omega, f, by omega, by rw [h7, hm]; rfl⟩
    | set j v x =>
      rw [ht] at h7
      have h7 : G = bif moP s then pG f (setC j v r) (l ++ [x]) (rsP s) (k + 1) else (some (setC j v r), 0) := h7
      have way := pa_n c z r s k true l.length l
      have hl : (l ++ [x]).length = l.length + [x].length := List.length_append
      have hsm : tSame (ttP l s) = false := by rw [ht]; rfl
      rw [wk, ht, List.take_length] at way
      simp only [tK, tV, tX] at way
      rw [← hl] at way
      rw [ht] at hsm
      refine ⟨T.path_eval way (allSay_append hd ⟨hsm, trivial⟩), setC j v r, l ++ [x], rfl, h1, by omega, fun hm => ?_, fun hm => by rw [h7, hm]; rfl⟩
      have := rsP_size hm
      exact ⟨by rw [List.length_append, List.length_singleton]; omega, by omega, f, by omega, by rw [h7, hm]; rfl⟩
def dupP (p : PPa) : PPa := ⟨p.c0, p.c1, p.c2, p.c3, p.c4, p.c5, p.c6, p.c7, p.c8, p.c9, p.c10, p.c11, p.c12, p.c13, p.c14, p.c15, p.c16, p.c17, p.c18, p.c19, p.c0, p.c1, p.c2, p.c3, p.c4, p.c5, p.c6, p.c7, p.c8, p.c9, p.c10, p.c11, p.c12, p.c13, p.c14, p.c15, p.c16, p.c17, p.c18, p.c19⟩
def stF (p : PPa) (a : APa) : St := mkSt [2, 4, 5, 6, 7] [0, 8, 16, 4000] 4001 35 [.ptr 0 0, .ptr 8 0, iv 4, iv a.k, .ptr 16 0] (bsPa (dupP p) a)
def stX (p : PPa) (a : APa) : St := mkSt [2, 4, 5, 6, 7] [0, 8, 16, 4000] 4001 35 [.ptr 0 0, .ptr 8 0, .junk, .junk, .ptr 16 0] (bsPa p a)
theorem stepPa (p : PPa) (a : APa) (h : okPa p a) (hg : goPa p a = true) : ∃ b, stepC okPa rdPa FPa muPa p a b := by
  obtain ⟨c, z, r, s, k, m, l, S0, G, rfl, rfl, hx⟩ := h
  unfold goPa at hg
  rw [Bool.and_eq_true, Bool.not_eq_true'] at hg
  obtain ⟨hm, hn⟩ := hg
  obtain rfl : m = true := hm
  have hn : tNo (ttP l s) = false := hn
  obtain ⟨h1, r', l', h2, h3⟩ := pa_on (c := c) (z := z) hx hn
  refine ⟨_, h1, ⟨c, z, r', rsP s, k + 1, moP s, l', S0, G, rfl, h2, h3⟩, ?_⟩
  rw [h2]
  show (bif moP s then (rsP s).size + 1 else 0) < s.size + 1
  cases hm : moP s with
  | true =>
    have := rsP_size hm
    show (rsP s).size + 1 < s.size + 1
    omega
  | false => show 0 < s.size + 1; omega
def outPa (p : PPa) (a : APa) : T (Ex × St) := .ite none a.m (.ret (.ret, stF p a)) (.ret (.exit 0, stX p a))
theorem exPa (p : PPa) (a : APa) (h : okPa p a) (hg : goPa p a = false) (x : Ex × St) (hr : (outPa p a).eval = some x) : x.1 ≠ .normal ∧ (rdPa p a).eval = some x := by
  obtain ⟨c, z, r, s, k, m, l, S0, G, rfl, rfl, hx⟩ := h
  unfold outPa at hr
  cases m with
  | true =>
    have hr : some (Ex.ret, stF (pP c z) (aP s k true r l.length l)) = some x := hr
    obtain rfl := Option.some.inj hr
    have hn : tNo (ttP l s) = true := by
      unfold goPa at hg
      have hg : (true && !tNo (ttP l s)) = false := hg
      rw [Bool.true_and, Bool.not_eq_false'] at hg
      exact hg
    exact ⟨by simp, T.path_eval (pa_f c z r s k true l.length l) (pa_hd hx hn)⟩
  | false =>
    have hr : some (Ex.exit 0, stX (pP c z) (aP s k false r l.length l)) = some x := hr
    obtain rfl := Option.some.inj hr
    exact ⟨by simp, T.path_eval (pa_x c z r s k false l.length l) ⟨rfl, trivial⟩⟩
noncomputable def famPa : LSpec := famE [1,2,4,7,8,9] SPa SPax 4000 4001 35 decPa okPa goPa rdPa FPa muPa outPa
theorem lpPa_ok : LoopOk Q1 lpPa famPa := famE_ok (vs := vsPa) (bs := bsPa) Q1_ok mixed (noLoops_ok _) decPa_ok (fun _ _ => rfl) (fun _ _ => rfl) stepPa exPa
noncomputable def famPv : LSpec := fun st => (adoptC 16 20 9 [.str] st).bind famPa
theorem lpPv_ok : LoopOk Q1 lpPa famPv := lpPa_ok.adoptC 16 20 9 [.str]
noncomputable def parX : Eng.Spec := execS Q1 (byReg [(rgPa, famPv)]) 5
theorem parX_ok : SpecOk Tryd.prog 5 parX := execS_loops Q1_ok mixed Tryd.func5 (by kernel_rfl) (by kernel_rfl) (one_lp (c := lpPa) (by kernel_rfl) rgPa_is lpPv_ok)
theorem decPa_self (p : PPa) (a : APa) : decPa (vsPa p a) (bsPa p a) = some (p, a) := by cases p; cases a; rfl
theorem FPa_inj {p : PPa} {a b : APa} (h : FPa p a = FPa p b) : a = b := by
  have e1 : vsPa p a = vsPa p b := congrArg (fun s : St => s.tmps.map Prod.snd) h
  have e2 : bsPa p a = bsPa p b := congrArg (fun s : St => s.heap.map Prod.snd) h
  have := decPa_self p a
  rw [e1, e2, decPa_self p b] at this
  cases this; rfl
def zz : Conf.Cf := ⟨0, 0, 0, 0, 0, 0, 0, 0, 0, 0, 0, 0, 0, 0, 0, 0, 0, 0, 0, 0⟩
def rC (a : APa) : Conf.Cf := ⟨a.r0, a.r1, a.r2, a.r3, a.r4, a.r5, a.r6, a.r7, a.r8, a.r9, a.r10, a.r11, a.r12, a.r13, a.r14, a.r15, a.r16, a.r17, a.r18, a.r19⟩
noncomputable def ePa (c : Conf.Cf) (s : ByteArray) : APa := endW (nxtC okPa goPa rdPa FPa muPa (pP c zz)) (aP s 1 true c 0 [])
theorem par_f (c : Conf.Cf) (s : ByteArray) : T.path [true, true] (T.anon (parX [Conf.confV c, .s (.str s)])) = some ([(invC okPa (pP c zz) (aP s 1 true c 0 []), true), ((ePa c s).m, true)], .tup [Conf.confV c, iv 4, iv (ePa c s).k]) := by kernel_rfl
theorem par_b (c : Conf.Cf) (s : ByteArray) : T.path [true, false, true] (T.anon (parX [Conf.confV c, .s (.str s)])) = some ([(invC okPa (pP c zz) (aP s 1 true c 0 []), true), ((ePa c s).m, false), (!Conf.mayB (rC (ePa c s)), true)], .tup [Conf.confV c, iv 5, iv 0]) := by kernel_rfl
theorem par_g (c : Conf.Cf) (s : ByteArray) : T.path [true, false, false] (T.anon (parX [Conf.confV c, .s (.str s)])) = some ([(invC okPa (pP c zz) (aP s 1 true c 0 []), true), ((ePa c s).m, false), (!Conf.mayB (rC (ePa c s)), false)], .tup [Conf.confV (rC (ePa c s)), iv 0, iv 0]) := by kernel_rfl
/-- what all lines say of settings -/
def pAll (c : Conf.Cf) (s : ByteArray) : Option Conf.Cf × Int := pG (s.size + 1) c [] s 1
theorem par_end (c : Conf.Cf) {s : ByteArray} (hs : s.size ≤ 90000) : invC okPa (pP c zz) (aP s 1 true c 0 []) = true ∧ ((ePa c s).m = true → pAll c s = (none, (ePa c s).k)) ∧ ((ePa c s).m = false → pAll c s = (some (rC (ePa c s)), 0)) := by
  have hx : okPx s.size (pAll c s) s 1 true c [] := ⟨hs, Int.le_refl _, fun _ => ⟨by simp, by omega, s.size + 1, Nat.lt_succ_self _, rfl⟩, fun h => by cases h⟩
  have h0 : okPa (pP c zz) (aP s 1 true c 0 []) := ⟨c, zz, c, s, 1, true, [], s.size, pAll c s, rfl, rfl, hx⟩
  obtain ⟨k1, k2, k3⟩ := endW_says (nxt := nxtC okPa goPa rdPa FPa muPa (pP c zz)) (I := fun a => okPa (pP c zz) a) (μ := muPa (pP c zz)) (fun a b _ e => (nxtC_some e).2.2) h0
  have g : goPa (pP c zz) (ePa c s) = false := nxtC_none stepPa k1 k2
  have q : ∃ r t k m l, ePa c s = aP t k m r (List.length l) l ∧ okPx s.size (pAll c s) t k m r l := by
    refine k3 (fun a => ∃ r t k m l, a = aP t k m r (List.length l) l ∧ okPx s.size (pAll c s) t k m r l) ⟨c, s, 1, true, [], rfl, hx⟩ ?_
    rintro a b - ⟨r, t, k, m, l, rfl, hx⟩ e
    obtain ⟨eg, es⟩ := nxtC_some e
    unfold goPa at eg
    rw [Bool.and_eq_true, Bool.not_eq_true'] at eg
    obtain ⟨hm, hn⟩ := eg
    obtain rfl : m = true := hm
    obtain ⟨h1, r', l', h2, h3⟩ := pa_on (c := c) (z := zz) hx hn
    have : b = nxP t k r l := FPa_inj (congrArg Prod.snd (Option.some.inj (es.1.symm.trans h1)))
    exact ⟨r', rsP t, k + 1, moP t, l', this.trans h2, h3⟩
  obtain ⟨r, t, k, m, l, he, hx⟩ := q
  rw [he]
  rw [he] at g
  refine ⟨invC_is h0, fun hm => ?_, fun hm => ?_⟩
  · obtain rfl : m = true := hm
    obtain ⟨-, -, f, h6, h7⟩ := hx.t rfl
    have hn : tNo (ttP l t) = true := by
      unfold goPa at g
      have g : (true && !tNo (ttP l t)) = false := g
      rw [Bool.true_and, Bool.not_eq_false'] at g
      exact g
    cases f with
    | zero => omega
    | succ f =>
      rw [h7]
      unfold pG
      cases ht : ttP l t with
      | no => rfl
      | same => rw [ht] at hn; cases hn
      | set j v x => rw [ht] at hn; cases hn
  · obtain rfl : m = false := hm
    exact hx.e rfl
def parF (c : Conf.Cf) (s : ByteArray) : Conf.Cf × Int × Int := match (pAll c s).1 with
  | none => (c, 4, (pAll c s).2)
  | some r => bif Conf.mayB r then (r, 0, 0) else (c, 5, 0)
def parV (c : Conf.Cf) (s : ByteArray) : V := .tup [Conf.confV (parF c s).1, iv (parF c s).2.1, iv (parF c s).2.2]
theorem par_run (c : Conf.Cf) {s : ByteArray} (hs : s.size ≤ 90000) : (parX [Conf.confV c, .s (.str s)]).eval = some (parV c s) := by
  rw [← T.eval_anon (t := parX _)]
  obtain ⟨h1, h2, h3⟩ := par_end c hs
  unfold parV parF
  cases hm : (ePa c s).m with
  | true =>
    rw [T.path_eval (par_f c s) ⟨h1, hm, trivial⟩, h2 hm]
  | false =>
    rw [h3 hm]
    show _ = some (V.tup [Conf.confV (bif Conf.mayB (rC (ePa c s)) then (rC (ePa c s), 0, 0) else (c, 5, 0) : Conf.Cf × Int × Int).1, iv (bif Conf.mayB (rC (ePa c s)) then (rC (ePa c s), 0, 0) else (c, 5, 0) : Conf.Cf × Int × Int).2.1, iv (bif Conf.mayB (rC (ePa c s)) then (rC (ePa c s), 0, 0) else (c, 5, 0) : Conf.Cf × Int × Int).2.2])
    cases hb : Conf.mayB (rC (ePa c s)) with
    | true => rw [T.path_eval (par_g c s) ⟨h1, hm, by rw [hb]; rfl, trivial⟩]; rfl
    | false => rw [T.path_eval (par_b c s) ⟨h1, hm, by rw [hb]; rfl, trivial⟩]; rfl
def parS : Eng.Spec
  | [x, .s (.str s)] => Conf.asConf x fun c => .ite none (decide (s.size ≤ 90000)) (.ret (parV c s)) .fail
  | _ => .fail
theorem parS_ok : SpecOk Tryd.prog 5 parS := parX_ok.of_den fun args v hfl h => by
  clear hfl
  unfold parS at h
  split at h
  · rename_i x s
    obtain ⟨c, rfl, h2⟩ := Conf.asConf_some h
    obtain ⟨hb, h2⟩ := ite_T' h2
    obtain rfl := Option.some.inj h2
    exact ⟨_, par_run c (of_decide_eq_true hb), ⟨rfl, rfl⟩, rfl⟩
  · cases h
end Go.Proofs.YtndcealgackgiaaDoor.Txt

