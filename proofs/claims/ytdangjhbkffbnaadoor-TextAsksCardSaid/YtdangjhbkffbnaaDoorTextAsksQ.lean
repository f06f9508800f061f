import Derived.Test.YtdangjhbkffbnaaDoorRows
import Derived.OpenShut
import Derived.LaidMore
import Derived.Lay
import Derived.Lib.LaidTab
import Derived.Stop.LaidErr
import Derived.Shelf.Vars
import Derived.Shelf.Strings.Builder1
import Derived.Shelf.Strings.Builder2
import Derived.Shelf.Strings.OnBuilder
import Derived.Shelf.Strings.Trim
import Derived.Shelf.Small.Utf8
import Derived.Shelf.Small.Strs
import Derived.Shelf.Small.Wraps
import Derived.Shelf.Strconv.Itoa0
import Derived.Shelf.Strconv.Itoa1
import Derived.Shelf.LaysM
import Derived.Shelf.Strconv.Itoa2
import Derived.Shelf.Strconv.Itoa3
import Derived.Shelf.Strconv.Itoa4
import Derived.Shelf.Strings.Search1
import Derived.Shelf.Strings.Search2
import Derived.Shelf.Strings.Cut
import Derived.Shelf.Strings.Shaped
import Derived.Shelf.Strings.Prefix
import Derived.Shelf.Unicode.Decode
import Derived.Shelf.Strings.Runes
import Derived.Shelf.Strings.AsciiSet
import Derived.Shelf.Unicode.DecodeSlow
import Derived.Shelf.Unicode.DecodeAny
import Derived.Shelf.Unicode.DecodeLast
import Derived.Shelf.Slices.Turned
import Derived.Test.YtdangjhbkffbnaaDoorProg
import Derived.Lib.AppendIntMem
import Derived.Laws.Strings
import Derived.Test.YtdangjhbkffbnaaDoorGJ
/- What laws' frames want at a door: what is listed of package-level variables, from the row to the machine. -/
namespace Go.Proofs.YtdangjhbkffbnaaDoor.Law.Gl
open Go.Joins Go.ChangeShapes Go.WideShapes Go.ChangeAt Go.RowKit Go.Deep
set_option linter.unusedVariables false
variable {H : Type} {enc : TypeId × Value → H}
/-- the wrap, with what the row lists, and the world's shape -/
theorem of_change_and {a : Assume} {C : Checked} {os : Os} {f : FuncId} {fn : Func} {s : ChangeSpec} {conds : List PathCond} {apart fresh handsOn again : Bool} {X : World → Array Value → Prop}
    (hX : ∀ (w w' : World) (args : Array Value), w.heap = w'.heap → X w args → X w' args)
    (own : ownKnob C.prog.godebug = none) (started : os.Started) (noInit : C.prog.inits.idxOf? f = none) (hfn : C.prog.funcs[f]? = some fn)
    (witness : ∃ (w : World) (tape : Tape) (i : Input), w.os = os ∧ (w.forCall tape i).Shaped C.prog ∧ i.vars = [] ∧ Input.okWide C.prog (w.forCall tape i) .any w.heap.size f i ∧
      ((s.pre enc C.prog fn conds apart (w.forCall tape i).memory i.args ∧ X (w.forCall tape i).memory i.args) ∧ sizedMet enc C.prog fn (OpenSpec.ofChange s) apart (w.forCall tape i).memory i.args) ∧ a.holds C.prog (lone (Frame.enter C.prog f i.args .normal) [] (w.forCall tape i)))
    (contract : ∀ (W : World) (base : Nat) (args : Array Value) (ds gs : List (DataW H)) (before : List MemPlace),
      (∀ (j : Nat) t v, fn.params[j]? = some t → args[j]? = some v → Value.okWide C.prog W .any base t v) →
      DataW.Whole enc C.prog fn.params.toList s.vars apart W args.toList ds gs before → X W args → W.ShapedOpen C.prog →
      Calls C.prog f args W fun e W' => ∃ v, e = .returned v ∧ s.post enc C.prog fn apart fresh handsOn again W args v W') :
    ReturnsInHanded a C os f .any (fun w args => (s.pre enc C.prog fn conds apart w args ∧ X w args) ∧ sizedMet enc C.prog fn (OpenSpec.ofChange s) apart w args) (s.post enc C.prog fn apart fresh handsOn again) := by
  refine returnsInHanded_of_calls own started noInit witness ?_
  intro w tape i _ hsh _ hok hpre _
  obtain ⟨_, _, _, fn', hfn', _, _, _, _, hval⟩ := hok
  obtain rfl : fn' = fn := Option.some.inj (hfn'.symm.trans hfn)
  obtain ⟨⟨⟨ds, gs, before, hw, _⟩, hx⟩, _⟩ := hpre
  have hw' := DataW.Whole.of_heap (w' := w.forCall tape i) (by rfl) hw
  refine (contract (w.forCall tape i) w.heap.size i.args ds gs before hval hw' (hX _ _ _ (by rfl) hx) hsh).mono fun e W' ⟨v, he, hp⟩ => ?_
  subst he
  exact ChangeSpec.post_blind hp
theorem glob0 {W : World} {rest : List (String × DataW Unit)} (h3 : laidMet Tryd.prog (("internal/strconv.uint64pow10", Lib.tabData .u64 Lib.pow10Tab) :: rest) W) (hsh : W.ShapedOpen Tryd.prog) : Eng.Glob W := by
  have ht : Lib.TabIs Tryd.prog W "internal/strconv.uint64pow10" .u64 Lib.pow10Tab := Lib.tabIs_of_head (g := 1) (by kernel_rfl) (t := ((Tryd.prog.globals[1]?).map (·.type)).getD 0) (by kernel_rfl) (n := 20) (e := 121) (by kernel_rfl) (by kernel_rfl) (by kernel_rfl) (by kernel_rfl) h3
  refine ⟨?_, ?_, ?_⟩
  · obtain ⟨cs, hh, -⟩ := hsh.1 5 ((((begin Tryd.prog (fun _ _ => 0) default).world.heap[5]?).bind Obj.row?).getD (#[], 0)).1 ((((begin Tryd.prog (fun _ _ => 0) default).world.heap[5]?).bind Obj.row?).getD (#[], 0)).2 (of_decide_eq_true (by kernel_rfl)) (by kernel_rfl)
    have := (Array.getElem?_eq_some_iff.1 hh).1
    show 6 ≤ _
    omega
  · unfold Lib.TabIs World.var? at ht
    rw [show Tryd.prog.globalNamed "internal/strconv.uint64pow10" = some 1 by kernel_rfl] at ht
    have ht : (match W.heap[1]? with | some (Obj.cells cs _ _) => some cs | _ => none) = some (Lib.pow10Tab.map fun z => Value.int .u64 z).toArray := ht
    split at ht
    · rename_i cs t s e
      obtain rfl := Option.some.inj ht
      exact ⟨t, s, e⟩
    · cases ht
  · exact cell_of_shapedOpen_int (P := Tryd.prog) (g := 0) (t := 3) (zero := #[.int .i64 0]) hsh (of_decide_eq_true (by kernel_rfl)) (by kernel_rfl) rfl (by kernel_rfl) (by kernel_rfl) Tryd.underlying3
theorem glob {W : World} (hL : laidMetH Tryd.prog Rows.textAsksRow.laid W) (hsh : W.ShapedOpen Tryd.prog) : Eng.Glob W := by
  rw [MakeChecks.laidMetH_plain _ _ _ (by kernel_rfl)] at hL
  exact glob0 (rest := [("unicode/utf8.acceptRanges", Rows.laid_unicode_utf8_acceptRanges), ("unicode/utf8.first", Rows.laid_unicode_utf8_first)]) hL.tail.tail hsh
theorem globR {W : World} (hL : laidMetH Tryd.prog Rows.reportCountsRow.laid W) (hsh : W.ShapedOpen Tryd.prog) : Eng.Glob W := by
  rw [MakeChecks.laidMetH_plain _ _ _ (by kernel_rfl)] at hL
  exact glob0 (rest := []) hL.tail.tail hsh
end Go.Proofs.YtdangjhbkffbnaaDoor.Law.Gl

/- The library's functions that this program calls, told to be those that the library's contracts speak of. -/
namespace Go.Proofs
open Go.Shelf
def Tryd.lays169_ren : Go.Shelf.Ren := ⟨fun | 169 => 41 | n => n, fun | 70 => 70 | 9 => 9 | 0 => 0 | 72 => 73 | 37 => 71 | 127 => 105 | 3 => 3 | 5 => 5 | n => n, fun | n => n⟩
theorem Tryd.lays169 : Go.Proofs.Lays.n169 Tryd.prog Tryd.lays169_ren := {
  mixed := by kernel_rfl
  f169 := Tryd.func41.trans (congrArg some (by kernel_rfl))
  t0 := Tryd.underlying0
  a0 := Tryd.isAgg0
  z0 := Tryd.sizeOf0
  v0 := Tryd.zeroValue0
  t3 := Tryd.underlying3
  a3 := Tryd.isAgg3
  z3 := Tryd.sizeOf3
  v3 := Tryd.zeroValue3
  t9 := Tryd.underlying9
  a9 := Tryd.isAgg9
  z9 := Tryd.sizeOf9
  v9 := Tryd.zeroValue9
  t37 := Tryd.underlying71
  a37 := Tryd.isAgg71
  z37 := Tryd.sizeOf71
  v37 := Tryd.zeroValue71
  t70 := Tryd.underlying70
  a70 := Tryd.isAgg70
  z70 := Tryd.sizeOf70
  v70 := Tryd.zeroValue70
  t72 := Tryd.underlying73
  a72 := Tryd.isAgg73
  z72 := Tryd.sizeOf73
  v72 := Tryd.zeroValue73
  t127 := Tryd.underlying105
  a127 := Tryd.isAgg105
  z127 := Tryd.sizeOf105
  v127 := Tryd.zeroValue105 }
theorem Tryd.Builder_Extra_169 : Builder.Extra Tryd.prog Tryd.lays169_ren := {
  sizeBuilder := by kernel_rfl
  liesBuilder := by kernel_rfl
  t5 := Tryd.underlying5
  a5 := Tryd.isAgg5
  z5 := Tryd.sizeOf5
  v5 := Tryd.zeroValue5
  infoByte := by kernel_rfl
  cellsByte := by kernel_rfl
  sizeByte := by kernel_rfl
  neB5 := by decide }
def Tryd.lays156_ren : Go.Shelf.Ren := ⟨fun | 156 => 65 | 165 => 83 | 166 => 38 | 169 => 41 | 240 => 62 | 241 => 96 | 276 => 77 | 277 => 103 | n => n, fun | 31 => 24 | 9 => 9 | 3 => 3 | 4 => 4 | 0 => 0 | 20 => 20 | 72 => 73 | 76 => 77 | 70 => 70 | 37 => 71 | 75 => 76 | 127 => 105 | 164 => 118 | 5 => 5 | 80 => 82 | n => n, fun | n => n⟩
theorem Tryd.lays156 : Go.Proofs.Lays.n156 Tryd.prog Tryd.lays156_ren := {
  mixed := by kernel_rfl
  f156 := Tryd.func65.trans (congrArg some (by kernel_rfl))
  f165 := Tryd.func83.trans (congrArg some (by kernel_rfl))
  f166 := Tryd.func38.trans (congrArg some (by kernel_rfl))
  f169 := Tryd.func41.trans (congrArg some (by kernel_rfl))
  f240 := Tryd.func62.trans (congrArg some (by kernel_rfl))
  f241 := Tryd.func96.trans (congrArg some (by kernel_rfl))
  f276 := Tryd.func77.trans (congrArg some (by kernel_rfl))
  f277 := Tryd.func103.trans (congrArg some (by kernel_rfl))
  t0 := Tryd.underlying0
  a0 := Tryd.isAgg0
  z0 := Tryd.sizeOf0
  v0 := Tryd.zeroValue0
  t3 := Tryd.underlying3
  a3 := Tryd.isAgg3
  z3 := Tryd.sizeOf3
  v3 := Tryd.zeroValue3
  t4 := Tryd.underlying4
  a4 := Tryd.isAgg4
  z4 := Tryd.sizeOf4
  v4 := Tryd.zeroValue4
  t9 := Tryd.underlying9
  a9 := Tryd.isAgg9
  z9 := Tryd.sizeOf9
  v9 := Tryd.zeroValue9
  t20 := Tryd.underlying20
  a20 := Tryd.isAgg20
  z20 := Tryd.sizeOf20
  v20 := Tryd.zeroValue20
  t31 := Tryd.underlying24
  a31 := Tryd.isAgg24
  z31 := Tryd.sizeOf24
  v31 := Tryd.zeroValue24
  t37 := Tryd.underlying71
  a37 := Tryd.isAgg71
  z37 := Tryd.sizeOf71
  v37 := Tryd.zeroValue71
  t70 := Tryd.underlying70
  a70 := Tryd.isAgg70
  z70 := Tryd.sizeOf70
  v70 := Tryd.zeroValue70
  t72 := Tryd.underlying73
  a72 := Tryd.isAgg73
  z72 := Tryd.sizeOf73
  v72 := Tryd.zeroValue73
  t75 := Tryd.underlying76
  a75 := Tryd.isAgg76
  z75 := Tryd.sizeOf76
  v75 := Tryd.zeroValue76
  t76 := Tryd.underlying77
  a76 := Tryd.isAgg77
  z76 := Tryd.sizeOf77
  v76 := Tryd.zeroValue77
  t127 := Tryd.underlying105
  a127 := Tryd.isAgg105
  z127 := Tryd.sizeOf105
  v127 := Tryd.zeroValue105
  t164 := Tryd.underlying118
  a164 := Tryd.isAgg118
  z164 := Tryd.sizeOf118
  v164 := Tryd.zeroValue118 }
theorem Tryd.Builder_Extra_156 : Builder.Extra Tryd.prog Tryd.lays156_ren := {
  sizeBuilder := by kernel_rfl
  liesBuilder := by kernel_rfl
  t5 := Tryd.underlying5
  a5 := Tryd.isAgg5
  z5 := Tryd.sizeOf5
  v5 := Tryd.zeroValue5
  infoByte := by kernel_rfl
  cellsByte := by kernel_rfl
  sizeByte := by kernel_rfl
  neB5 := by decide }
def Tryd.lays162_ren : Go.Shelf.Ren := ⟨fun | 162 => 46 | 232 => 54 | 227 => 55 | 234 => 57 | 236 => 59 | 228 => 70 | 271 => 73 | 151 => 72 | 120 => 90 | 197 => 71 | 152 => 89 | 260 => 88 | 137 => 99 | 119 => 100 | 224 => 86 | 225 => 85 | 217 => 84 | 266 => 97 | n => n, fun | 9 => 9 | 4 => 4 | 3 => 3 | 5 => 5 | 117 => 95 | 116 => 94 | 0 => 0 | 124 => 98 | 21 => 21 | 105 => 112 | 46 => 34 | 119 => 137 | 139 => 140 | 138 => 139 | n => n, fun | 3 => 2 | 4 => 3 | n => n⟩
theorem Tryd.lays162 : Go.Proofs.Lays.n162 Tryd.prog Tryd.lays162_ren := {
  mixed := by kernel_rfl
  f119 := Tryd.func100.trans (congrArg some (by kernel_rfl))
  f120 := Tryd.func90.trans (congrArg some (by kernel_rfl))
  f137 := Tryd.func99.trans (congrArg some (by kernel_rfl))
  f151 := Tryd.func72.trans (congrArg some (by kernel_rfl))
  f152 := Tryd.func89.trans (congrArg some (by kernel_rfl))
  f162 := Tryd.func46.trans (congrArg some (by kernel_rfl))
  f197 := Tryd.func71.trans (congrArg some (by kernel_rfl))
  f217 := Tryd.func84.trans (congrArg some (by kernel_rfl))
  f224 := Tryd.func86.trans (congrArg some (by kernel_rfl))
  f225 := Tryd.func85.trans (congrArg some (by kernel_rfl))
  f227 := Tryd.func55.trans (congrArg some (by kernel_rfl))
  f228 := Tryd.func70.trans (congrArg some (by kernel_rfl))
  f232 := Tryd.func54.trans (congrArg some (by kernel_rfl))
  f234 := Tryd.func57.trans (congrArg some (by kernel_rfl))
  f236 := Tryd.func59.trans (congrArg some (by kernel_rfl))
  f260 := Tryd.func88.trans (congrArg some (by kernel_rfl))
  f266 := Tryd.func97.trans (congrArg some (by kernel_rfl))
  f271 := Tryd.func73.trans (congrArg some (by kernel_rfl))
  t0 := Tryd.underlying0
  a0 := Tryd.isAgg0
  z0 := Tryd.sizeOf0
  v0 := Tryd.zeroValue0
  t3 := Tryd.underlying3
  a3 := Tryd.isAgg3
  z3 := Tryd.sizeOf3
  v3 := Tryd.zeroValue3
  t4 := Tryd.underlying4
  a4 := Tryd.isAgg4
  z4 := Tryd.sizeOf4
  v4 := Tryd.zeroValue4
  t5 := Tryd.underlying5
  a5 := Tryd.isAgg5
  z5 := Tryd.sizeOf5
  v5 := Tryd.zeroValue5
  t9 := Tryd.underlying9
  a9 := Tryd.isAgg9
  z9 := Tryd.sizeOf9
  v9 := Tryd.zeroValue9
  t21 := Tryd.underlying21
  a21 := Tryd.isAgg21
  z21 := Tryd.sizeOf21
  v21 := Tryd.zeroValue21
  t46 := Tryd.underlying34
  a46 := Tryd.isAgg34
  z46 := Tryd.sizeOf34
  v46 := Tryd.zeroValue34
  t105 := Tryd.underlying112
  a105 := Tryd.isAgg112
  z105 := Tryd.sizeOf112
  v105 := Tryd.zeroValue112
  t116 := Tryd.underlying94
  a116 := Tryd.isAgg94
  z116 := Tryd.sizeOf94
  t117 := Tryd.underlying95
  a117 := Tryd.isAgg95
  z117 := Tryd.sizeOf95
  v117 := Tryd.zeroValue95
  t119 := Tryd.underlying137
  a119 := Tryd.isAgg137
  z119 := Tryd.sizeOf137
  t124 := Tryd.underlying98
  a124 := Tryd.isAgg98
  z124 := Tryd.sizeOf98
  v124 := Tryd.zeroValue98
  t138 := Tryd.underlying139
  a138 := Tryd.isAgg139
  z138 := Tryd.sizeOf139
  v138 := Tryd.zeroValue139
  t139 := Tryd.underlying140
  a139 := Tryd.isAgg140
  z139 := Tryd.sizeOf140
  v139 := Tryd.zeroValue140
  g3 := by kernel_rfl
  g4 := by kernel_rfl }
def Tryd.lays160_ren : Go.Shelf.Ren := ⟨fun | 160 => 31 | 232 => 54 | 231 => 53 | 227 => 55 | 234 => 57 | 233 => 56 | 236 => 59 | 235 => 58 | 228 => 70 | 271 => 73 | 151 => 72 | 197 => 71 | 120 => 90 | 152 => 89 | 260 => 88 | 137 => 99 | 119 => 100 | 224 => 86 | 225 => 85 | 217 => 84 | 266 => 97 | n => n, fun | 9 => 9 | 4 => 4 | 3 => 3 | 5 => 5 | 117 => 95 | 116 => 94 | 0 => 0 | 124 => 98 | 21 => 21 | 105 => 112 | 46 => 34 | 119 => 137 | 139 => 140 | 138 => 139 | n => n, fun | 3 => 2 | 4 => 3 | n => n⟩
theorem Tryd.lays160 : Go.Proofs.Lays.n160 Tryd.prog Tryd.lays160_ren := {
  mixed := by kernel_rfl
  f119 := Tryd.func100.trans (congrArg some (by kernel_rfl))
  f120 := Tryd.func90.trans (congrArg some (by kernel_rfl))
  f137 := Tryd.func99.trans (congrArg some (by kernel_rfl))
  f151 := Tryd.func72.trans (congrArg some (by kernel_rfl))
  f152 := Tryd.func89.trans (congrArg some (by kernel_rfl))
  f160 := Tryd.func31.trans (congrArg some (by kernel_rfl))
  f197 := Tryd.func71.trans (congrArg some (by kernel_rfl))
  f217 := Tryd.func84.trans (congrArg some (by kernel_rfl))
  f224 := Tryd.func86.trans (congrArg some (by kernel_rfl))
  f225 := Tryd.func85.trans (congrArg some (by kernel_rfl))
  f227 := Tryd.func55.trans (congrArg some (by kernel_rfl))
  f228 := Tryd.func70.trans (congrArg some (by kernel_rfl))
  f231 := Tryd.func53.trans (congrArg some (by kernel_rfl))
  f232 := Tryd.func54.trans (congrArg some (by kernel_rfl))
  f233 := Tryd.func56.trans (congrArg some (by kernel_rfl))
  f234 := Tryd.func57.trans (congrArg some (by kernel_rfl))
  f235 := Tryd.func58.trans (congrArg some (by kernel_rfl))
  f236 := Tryd.func59.trans (congrArg some (by kernel_rfl))
  f260 := Tryd.func88.trans (congrArg some (by kernel_rfl))
  f266 := Tryd.func97.trans (congrArg some (by kernel_rfl))
  f271 := Tryd.func73.trans (congrArg some (by kernel_rfl))
  t0 := Tryd.underlying0
  a0 := Tryd.isAgg0
  z0 := Tryd.sizeOf0
  v0 := Tryd.zeroValue0
  t3 := Tryd.underlying3
  a3 := Tryd.isAgg3
  z3 := Tryd.sizeOf3
  v3 := Tryd.zeroValue3
  t4 := Tryd.underlying4
  a4 := Tryd.isAgg4
  z4 := Tryd.sizeOf4
  v4 := Tryd.zeroValue4
  t5 := Tryd.underlying5
  a5 := Tryd.isAgg5
  z5 := Tryd.sizeOf5
  v5 := Tryd.zeroValue5
  t9 := Tryd.underlying9
  a9 := Tryd.isAgg9
  z9 := Tryd.sizeOf9
  v9 := Tryd.zeroValue9
  t21 := Tryd.underlying21
  a21 := Tryd.isAgg21
  z21 := Tryd.sizeOf21
  v21 := Tryd.zeroValue21
  t46 := Tryd.underlying34
  a46 := Tryd.isAgg34
  z46 := Tryd.sizeOf34
  v46 := Tryd.zeroValue34
  t105 := Tryd.underlying112
  a105 := Tryd.isAgg112
  z105 := Tryd.sizeOf112
  v105 := Tryd.zeroValue112
  t116 := Tryd.underlying94
  a116 := Tryd.isAgg94
  z116 := Tryd.sizeOf94
  t117 := Tryd.underlying95
  a117 := Tryd.isAgg95
  z117 := Tryd.sizeOf95
  v117 := Tryd.zeroValue95
  t119 := Tryd.underlying137
  a119 := Tryd.isAgg137
  z119 := Tryd.sizeOf137
  t124 := Tryd.underlying98
  a124 := Tryd.isAgg98
  z124 := Tryd.sizeOf98
  v124 := Tryd.zeroValue98
  t138 := Tryd.underlying139
  a138 := Tryd.isAgg139
  z138 := Tryd.sizeOf139
  v138 := Tryd.zeroValue139
  t139 := Tryd.underlying140
  a139 := Tryd.isAgg140
  z139 := Tryd.sizeOf140
  v139 := Tryd.zeroValue140
  g3 := by kernel_rfl
  g4 := by kernel_rfl }
def Tryd.lays103_ren : Go.Shelf.Ren := ⟨fun | 103 => 26 | 210 => 49 | 206 => 67 | n => n, fun | 9 => 9 | 4 => 4 | 24 => 53 | 3 => 3 | n => n, fun | n => n⟩
theorem Tryd.lays103 : Go.Proofs.Lays.n103 Tryd.prog Tryd.lays103_ren := {
  mixed := by kernel_rfl
  f103 := Tryd.func26.trans (congrArg some (by kernel_rfl))
  f206 := Tryd.func67.trans (congrArg some (by kernel_rfl))
  f210 := Tryd.func49.trans (congrArg some (by kernel_rfl))
  t3 := Tryd.underlying3
  a3 := Tryd.isAgg3
  z3 := Tryd.sizeOf3
  v3 := Tryd.zeroValue3
  t4 := Tryd.underlying4
  a4 := Tryd.isAgg4
  z4 := Tryd.sizeOf4
  v4 := Tryd.zeroValue4
  t9 := Tryd.underlying9
  a9 := Tryd.isAgg9
  z9 := Tryd.sizeOf9
  v9 := Tryd.zeroValue9
  t24 := Tryd.underlying53
  a24 := Tryd.isAgg53
  z24 := Tryd.sizeOf53
  v24 := Tryd.zeroValue53 }
def Tryd.laysM171_ren : Go.Shelf.Ren := ⟨fun | 171 => 63 | 243 => 78 | 246 => 64 | 283 => 79 | 284 => 80 | 285 => 81 | 286 => 82 | 129 => 92 | 317 => 91 | 318 => 93 | 319 => 94 | 320 => 95 | 337 => 101 | 338 => 102 | n => n, fun | 3 => 3 | 9 => 9 | 2 => 2 | 4 => 4 | 171 => 120 | 0 => 0 | 53 => 121 | 37 => 71 | 5 => 5 | 173 => 124 | 212 => 131 | 51 => 132 | 20 => 20 | 213 => 133 | 46 => 34 | 232 => 144 | 233 => 145 | n => n, fun | 17 => 1 | 18 => 4 | 19 => 5 | n => n⟩
theorem Tryd.laysM171 : Go.Proofs.LaysM.n171 Tryd.prog Tryd.laysM171_ren := {
  mixed := by kernel_rfl
  f129 := Tryd.func92.trans (congrArg some (by kernel_rfl))
  f171 := Tryd.func63.trans (congrArg some (by kernel_rfl))
  f243 := Tryd.func78.trans (congrArg some (by kernel_rfl))
  f246 := Tryd.func64.trans (congrArg some (by kernel_rfl))
  f283 := Tryd.func79.trans (congrArg some (by kernel_rfl))
  f284 := Tryd.func80.trans (congrArg some (by kernel_rfl))
  f285 := Tryd.func81.trans (congrArg some (by kernel_rfl))
  f286 := Tryd.func82.trans (congrArg some (by kernel_rfl))
  f317 := Tryd.func91.trans (congrArg some (by kernel_rfl))
  f318 := Tryd.func93.trans (congrArg some (by kernel_rfl))
  f319 := Tryd.func94.trans (congrArg some (by kernel_rfl))
  f320 := Tryd.func95.trans (congrArg some (by kernel_rfl))
  f337 := Tryd.func101.trans (congrArg some (by kernel_rfl))
  f338 := Tryd.func102.trans (congrArg some (by kernel_rfl))
  t0 := Tryd.underlying0
  a0 := Tryd.isAgg0
  z0 := Tryd.sizeOf0
  v0 := Tryd.zeroValue0
  t2 := Tryd.underlying2
  a2 := Tryd.isAgg2
  z2 := Tryd.sizeOf2
  v2 := Tryd.zeroValue2
  t3 := Tryd.underlying3
  a3 := Tryd.isAgg3
  z3 := Tryd.sizeOf3
  v3 := Tryd.zeroValue3
  t4 := Tryd.underlying4
  a4 := Tryd.isAgg4
  z4 := Tryd.sizeOf4
  v4 := Tryd.zeroValue4
  t5 := Tryd.underlying5
  a5 := Tryd.isAgg5
  z5 := Tryd.sizeOf5
  v5 := Tryd.zeroValue5
  t9 := Tryd.underlying9
  a9 := Tryd.isAgg9
  z9 := Tryd.sizeOf9
  v9 := Tryd.zeroValue9
  t20 := Tryd.underlying20
  a20 := Tryd.isAgg20
  z20 := Tryd.sizeOf20
  v20 := Tryd.zeroValue20
  t37 := Tryd.underlying71
  a37 := Tryd.isAgg71
  z37 := Tryd.sizeOf71
  v37 := Tryd.zeroValue71
  t46 := Tryd.underlying34
  a46 := Tryd.isAgg34
  z46 := Tryd.sizeOf34
  v46 := Tryd.zeroValue34
  t51 := Tryd.underlying132
  a51 := Tryd.isAgg132
  z51 := Tryd.sizeOf132
  v51 := Tryd.zeroValue132
  t53 := Tryd.underlying121
  a53 := Tryd.isAgg121
  z53 := Tryd.sizeOf121
  v53 := Tryd.zeroValue121
  t171 := Tryd.underlying120
  a171 := Tryd.isAgg120
  z171 := Tryd.sizeOf120
  v171 := Tryd.zeroValue120
  t173 := Tryd.underlying124
  a173 := Tryd.isAgg124
  z173 := Tryd.sizeOf124
  v173 := Tryd.zeroValue124
  t212 := Tryd.underlying131
  a212 := Tryd.isAgg131
  z212 := Tryd.sizeOf131
  v212 := Tryd.zeroValue131
  t213 := Tryd.underlying133
  a213 := Tryd.isAgg133
  z213 := Tryd.sizeOf133
  t232 := Tryd.underlying144
  a232 := Tryd.isAgg144
  z232 := Tryd.sizeOf144
  v232 := Tryd.zeroValue144
  t233 := Tryd.underlying145
  a233 := Tryd.isAgg145
  z233 := Tryd.sizeOf145
  v233 := Tryd.zeroValue145
  g17 := by kernel_rfl
  g18 := by kernel_rfl
  g19 := by kernel_rfl
  i0 := by kernel_rfl
  i2 := by kernel_rfl
  i3 := by kernel_rfl
  i4 := by kernel_rfl
  i5 := by kernel_rfl
  i9 := by kernel_rfl
  i20 := by kernel_rfl
  i37 := by kernel_rfl
  i46 := by kernel_rfl
  i51 := by kernel_rfl
  i53 := by kernel_rfl
  i171 := by kernel_rfl
  i173 := by kernel_rfl
  i212 := by kernel_rfl
  i232 := by kernel_rfl
  i233 := by kernel_rfl
  m17 := by kernel_rfl
  m18 := by kernel_rfl
  m19 := by kernel_rfl }
def Tryd.laysM173_ren : Go.Shelf.Ren := ⟨fun | 173 => 45 | 246 => 64 | 283 => 79 | 284 => 80 | 285 => 81 | 286 => 82 | 129 => 92 | 317 => 91 | 318 => 93 | 319 => 94 | 320 => 95 | 337 => 101 | 338 => 102 | n => n, fun | 2 => 2 | 3 => 3 | 9 => 9 | 4 => 4 | 171 => 120 | 0 => 0 | 53 => 121 | 37 => 71 | 5 => 5 | 173 => 124 | 212 => 131 | 51 => 132 | 20 => 20 | 213 => 133 | 46 => 34 | 232 => 144 | 233 => 145 | n => n, fun | 17 => 1 | 18 => 4 | 19 => 5 | n => n⟩
theorem Tryd.laysM173 : Go.Proofs.LaysM.n173 Tryd.prog Tryd.laysM173_ren := {
  mixed := by kernel_rfl
  f129 := Tryd.func92.trans (congrArg some (by kernel_rfl))
  f173 := Tryd.func45.trans (congrArg some (by kernel_rfl))
  f246 := Tryd.func64.trans (congrArg some (by kernel_rfl))
  f283 := Tryd.func79.trans (congrArg some (by kernel_rfl))
  f284 := Tryd.func80.trans (congrArg some (by kernel_rfl))
  f285 := Tryd.func81.trans (congrArg some (by kernel_rfl))
  f286 := Tryd.func82.trans (congrArg some (by kernel_rfl))
  f317 := Tryd.func91.trans (congrArg some (by kernel_rfl))
  f318 := Tryd.func93.trans (congrArg some (by kernel_rfl))
  f319 := Tryd.func94.trans (congrArg some (by kernel_rfl))
  f320 := Tryd.func95.trans (congrArg some (by kernel_rfl))
  f337 := Tryd.func101.trans (congrArg some (by kernel_rfl))
  f338 := Tryd.func102.trans (congrArg some (by kernel_rfl))
  t0 := Tryd.underlying0
  a0 := Tryd.isAgg0
  z0 := Tryd.sizeOf0
  v0 := Tryd.zeroValue0
  t2 := Tryd.underlying2
  a2 := Tryd.isAgg2
  z2 := Tryd.sizeOf2
  v2 := Tryd.zeroValue2
  t3 := Tryd.underlying3
  a3 := Tryd.isAgg3
  z3 := Tryd.sizeOf3
  v3 := Tryd.zeroValue3
  t4 := Tryd.underlying4
  a4 := Tryd.isAgg4
  z4 := Tryd.sizeOf4
  v4 := Tryd.zeroValue4
  t5 := Tryd.underlying5
  a5 := Tryd.isAgg5
  z5 := Tryd.sizeOf5
  v5 := Tryd.zeroValue5
  t9 := Tryd.underlying9
  a9 := Tryd.isAgg9
  z9 := Tryd.sizeOf9
  v9 := Tryd.zeroValue9
  t20 := Tryd.underlying20
  a20 := Tryd.isAgg20
  z20 := Tryd.sizeOf20
  v20 := Tryd.zeroValue20
  t37 := Tryd.underlying71
  a37 := Tryd.isAgg71
  z37 := Tryd.sizeOf71
  v37 := Tryd.zeroValue71
  t46 := Tryd.underlying34
  a46 := Tryd.isAgg34
  z46 := Tryd.sizeOf34
  v46 := Tryd.zeroValue34
  t51 := Tryd.underlying132
  a51 := Tryd.isAgg132
  z51 := Tryd.sizeOf132
  v51 := Tryd.zeroValue132
  t53 := Tryd.underlying121
  a53 := Tryd.isAgg121
  z53 := Tryd.sizeOf121
  v53 := Tryd.zeroValue121
  t171 := Tryd.underlying120
  a171 := Tryd.isAgg120
  z171 := Tryd.sizeOf120
  v171 := Tryd.zeroValue120
  t173 := Tryd.underlying124
  a173 := Tryd.isAgg124
  z173 := Tryd.sizeOf124
  v173 := Tryd.zeroValue124
  t212 := Tryd.underlying131
  a212 := Tryd.isAgg131
  z212 := Tryd.sizeOf131
  v212 := Tryd.zeroValue131
  t213 := Tryd.underlying133
  a213 := Tryd.isAgg133
  z213 := Tryd.sizeOf133
  t232 := Tryd.underlying144
  a232 := Tryd.isAgg144
  z232 := Tryd.sizeOf144
  v232 := Tryd.zeroValue144
  t233 := Tryd.underlying145
  a233 := Tryd.isAgg145
  z233 := Tryd.sizeOf145
  v233 := Tryd.zeroValue145
  g17 := by kernel_rfl
  g18 := by kernel_rfl
  g19 := by kernel_rfl
  i0 := by kernel_rfl
  i2 := by kernel_rfl
  i3 := by kernel_rfl
  i4 := by kernel_rfl
  i5 := by kernel_rfl
  i9 := by kernel_rfl
  i20 := by kernel_rfl
  i37 := by kernel_rfl
  i46 := by kernel_rfl
  i51 := by kernel_rfl
  i53 := by kernel_rfl
  i171 := by kernel_rfl
  i173 := by kernel_rfl
  i212 := by kernel_rfl
  i232 := by kernel_rfl
  i233 := by kernel_rfl
  m17 := by kernel_rfl
  m18 := by kernel_rfl
  m19 := by kernel_rfl }
def Tryd.lays145_ren : Go.Shelf.Ren := ⟨fun | 145 => 27 | 220 => 50 | 219 => 68 | 217 => 84 | 225 => 85 | 224 => 86 | 267 => 87 | 266 => 97 | 314 => 98 | n => n, fun | 9 => 9 | 4 => 4 | 59 => 55 | 3 => 3 | 5 => 5 | 46 => 34 | 146 => 135 | 51 => 132 | n => n, fun | 1 => 0 | n => n⟩
theorem Tryd.lays145 : Go.Proofs.Lays.n145 Tryd.prog Tryd.lays145_ren := {
  mixed := by kernel_rfl
  f145 := Tryd.func27.trans (congrArg some (by kernel_rfl))
  f217 := Tryd.func84.trans (congrArg some (by kernel_rfl))
  f219 := Tryd.func68.trans (congrArg some (by kernel_rfl))
  f220 := Tryd.func50.trans (congrArg some (by kernel_rfl))
  f224 := Tryd.func86.trans (congrArg some (by kernel_rfl))
  f225 := Tryd.func85.trans (congrArg some (by kernel_rfl))
  f266 := Tryd.func97.trans (congrArg some (by kernel_rfl))
  f267 := Tryd.func87.trans (congrArg some (by kernel_rfl))
  f314 := Tryd.func98.trans (congrArg some (by kernel_rfl))
  t3 := Tryd.underlying3
  a3 := Tryd.isAgg3
  z3 := Tryd.sizeOf3
  v3 := Tryd.zeroValue3
  t4 := Tryd.underlying4
  a4 := Tryd.isAgg4
  z4 := Tryd.sizeOf4
  v4 := Tryd.zeroValue4
  t5 := Tryd.underlying5
  a5 := Tryd.isAgg5
  z5 := Tryd.sizeOf5
  v5 := Tryd.zeroValue5
  t9 := Tryd.underlying9
  a9 := Tryd.isAgg9
  z9 := Tryd.sizeOf9
  v9 := Tryd.zeroValue9
  t46 := Tryd.underlying34
  a46 := Tryd.isAgg34
  z46 := Tryd.sizeOf34
  v46 := Tryd.zeroValue34
  t51 := Tryd.underlying132
  a51 := Tryd.isAgg132
  z51 := Tryd.sizeOf132
  v51 := Tryd.zeroValue132
  t59 := Tryd.underlying55
  a59 := Tryd.isAgg55
  z59 := Tryd.sizeOf55
  v59 := Tryd.zeroValue55
  t146 := Tryd.underlying135
  a146 := Tryd.isAgg135
  z146 := Tryd.sizeOf135
  v146 := Tryd.zeroValue135
  g1 := by kernel_rfl }
def Tryd.lays110_ren : Go.Shelf.Ren := ⟨fun | 110 => 51 | 109 => 69 | n => n, fun | 31 => 24 | 9 => 9 | 4 => 4 | 3 => 3 | 0 => 0 | n => n, fun | n => n⟩
theorem Tryd.lays110 : Go.Proofs.Lays.n110 Tryd.prog Tryd.lays110_ren := {
  mixed := by kernel_rfl
  f109 := Tryd.func69.trans (congrArg some (by kernel_rfl))
  f110 := Tryd.func51.trans (congrArg some (by kernel_rfl))
  t0 := Tryd.underlying0
  a0 := Tryd.isAgg0
  z0 := Tryd.sizeOf0
  v0 := Tryd.zeroValue0
  t3 := Tryd.underlying3
  a3 := Tryd.isAgg3
  z3 := Tryd.sizeOf3
  v3 := Tryd.zeroValue3
  t4 := Tryd.underlying4
  a4 := Tryd.isAgg4
  z4 := Tryd.sizeOf4
  v4 := Tryd.zeroValue4
  t9 := Tryd.underlying9
  a9 := Tryd.isAgg9
  z9 := Tryd.sizeOf9
  v9 := Tryd.zeroValue9
  t31 := Tryd.underlying24
  a31 := Tryd.isAgg24
  z31 := Tryd.sizeOf24
  v31 := Tryd.zeroValue24 }
end Go.Proofs

/- Texts: the library's contracts, as the machine has them. -/
namespace Go.Eng
open Go.RowKit
/-- a contract as the model has it, of what stands in variables, too -/
theorem SpecOk.of_callsG {P : Program} {f : Nat} {fn : Func} {sp : Spec} (hf : P.funcs[f]? = some fn) (hb : fn.body.isSome = true) (hn : (fn.name == "runtime.NumGoroutine") = false)
    (hpl : ∀ args v, (sp args).eval = some v → flatL args = true ∧ flat v = true)
    (h : ∀ args v w, Glob w → (sp args).eval = some v → Calls P f (denL nu0 args).toArray w fun e w' => e = .returned (v.den nu0) ∧ Below w.heap.size w w') : SpecOk P f sp :=
  ⟨⟨fn, hf, hb, hn⟩, fun args v xs w hG hfl hv hfv hh => by
    obtain ⟨p1, p2⟩ := hpl args v hv
    rw [holdsL_den p1 hh]
    refine (h args v w hG hv).mono ?_
    rintro e w' ⟨rfl, hbl⟩
    exact ⟨_, rfl, (holds_flat p2).2 rfl, hbl⟩⟩
end Go.Eng
namespace Go.Proofs.YtdangjhbkffbnaaDoor.Txt
open Go.Eng Go.RowKit
set_option linter.unusedVariables false
set_option linter.unusedSimpArgs false
set_option maxRecDepth 100000
/-! ### numbers in digits -/
def decF : Nat → Nat → List UInt8
  | 0, u => [UInt8.ofNat (48 + u % 10)]
  | f + 1, u => if u < 10 then [UInt8.ofNat (48 + u)] else decF f (u / 10) ++ [UInt8.ofNat (48 + u % 10)]
theorem decF_is : ∀ (f u : Nat), u < 10 ^ (f + 1) → Lib.decDigits u = decF f u
  | 0, u, h => by
    rw [Lib.decDigits, dif_pos (by omega)]
    unfold decF
    rw [Nat.mod_eq_of_lt (by omega)]
  | f + 1, u, h => by
    rw [Lib.decDigits]
    unfold decF
    by_cases q : u < 10
    · rw [dif_pos q, if_pos q]
    · rw [dif_neg q, if_neg q, decF_is f (u / 10) (by rw [Nat.pow_succ] at h; omega)]
/-- a number's digits, its sign ahead -/
def itoaL (n : Int) : List UInt8 := if n < 0 then 45 :: decF 19 n.natAbs else decF 19 n.toNat
def itoaB (n : Int) : ByteArray := ⟨(itoaL n).toArray⟩
def in64 (n : Int) : Bool := decide (-9223372036854775808 ≤ n) && decide (n ≤ 9223372036854775807)
theorem in64_is {n : Int} (h : in64 n = true) : -9223372036854775808 ≤ n ∧ n ≤ 9223372036854775807 := by
  unfold in64 at h
  rw [Bool.and_eq_true, decide_eq_true_eq, decide_eq_true_eq] at h
  exact h
theorem itoaL_is {n : Int} (h : in64 n = true) : Lib.itoa n = itoaL n := by
  obtain ⟨h0, h1⟩ := in64_is h
  unfold Lib.itoa itoaL
  rw [decF_is 19 n.natAbs (by omega), decF_is 19 n.toNat (by omega)]
theorem glob_tab {w : World} (h : Glob w) : Lib.TabIs Tryd.prog w "internal/strconv.uint64pow10" .u64 Lib.pow10Tab := by
  obtain ⟨t, s, ht⟩ := h.tab
  unfold Lib.TabIs World.var?
  have : Tryd.prog.globalNamed "internal/strconv.uint64pow10" = some 1 := by kernel_rfl
  rw [this]
  show (match w.heap[1]? with | some (.cells cs _ _) => some cs | _ => none) = _
  rw [ht]
theorem below_grow' {w w' : World} (h : ∃ k os, w' = Sort.grow (w.drewN k) os) : Below w.heap.size w w' := by
  obtain ⟨k, os, rfl⟩ := h
  exact Lib.below_grow _ w (Nat.le_refl _) k os
theorem ite_T' {α : Type} {c : Bool} {x : T α} {r : α} (h : (T.ite none c x .fail).eval = some r) : c = true ∧ x.eval = some r := by
  cases c with
  | true => exact ⟨rfl, h⟩
  | false => cases h
def i64Of : V → Option Int
  | .n .i64 n => some n
  | .s (.int .i64 n) => some n
  | _ => none
theorem i64Of_is {v : V} {n : Int} (h : i64Of v = some n) : flat v = true ∧ v.den nu0 = .int .i64 n := by
  unfold i64Of at h
  split at h
  · cases h; exact ⟨rfl, rfl⟩
  · cases h; exact ⟨rfl, rfl⟩
  · cases h
def strOf : V → Option ByteArray
  | .s (.str s) => some s
  | _ => none
theorem strOf_is {v : V} {s : ByteArray} (h : strOf v = some s) : v = .s (.str s) := by
  unfold strOf at h
  split at h
  · cases h; rfl
  · cases h
/-- a contract of one number and, it may be, another -/
def itoaS : Eng.Spec
  | [a] => match i64Of a with
    | some n => .ite none (in64 n) (.ret (.s (.str (itoaB n)))) .fail
    | none => .fail
  | _ => .fail
theorem itoaS_is {args : List V} {v : V} (h : (itoaS args).eval = some v) : ∃ a n, args = [a] ∧ i64Of a = some n ∧ in64 n = true ∧ v = .s (.str (itoaB n)) := by
  unfold itoaS at h
  split at h
  · split at h
    · rename_i hn
      obtain ⟨h1, h2⟩ := ite_T' h
      exact ⟨_, _, rfl, hn, h1, (Option.some.inj h2).symm⟩
    · cases h
  · cases h
theorem itoaS_ok : SpecOk Tryd.prog 63 itoaS := SpecOk.of_callsG Tryd.func63 (by kernel_rfl) (by kernel_rfl)
  (fun args v h => by
    obtain ⟨a, n, rfl, ha, -, rfl⟩ := itoaS_is h
    exact ⟨by simp only [flatL, okL, Bool.and_eq_true]; exact ⟨(i64Of_is ha).1, trivial⟩, rfl⟩)
  (fun args v w hG h => by
    obtain ⟨a, n, rfl, ha, hn, rfl⟩ := itoaS_is h
    have c := Any.strconv_Itoa Tryd.laysM171 n (in64_is hn).1 (in64_is hn).2 w (glob_tab hG)
    rw [itoaL_is hn] at c
    simp only [denL, (i64Of_is ha).2]
    refine c.mono ?_
    rintro e w' ⟨rfl, hw⟩
    exact ⟨rfl, below_grow' hw⟩)
def fmtS : Eng.Spec
  | [a, b] => match i64Of a, i64Of b with
    | some n, some m => if m = 10 then .ite none (in64 n) (.ret (.s (.str (itoaB n)))) .fail else .fail
    | _, _ => .fail
  | _ => .fail
theorem fmtS_is {args : List V} {v : V} (h : (fmtS args).eval = some v) : ∃ a b n, args = [a, b] ∧ i64Of a = some n ∧ i64Of b = some 10 ∧ in64 n = true ∧ v = .s (.str (itoaB n)) := by
  unfold fmtS at h
  split at h
  · split at h
    · rename_i hn hm
      split at h
      · rename_i hz
        obtain ⟨h1, h2⟩ := ite_T' h
        exact ⟨_, _, _, rfl, hn, hz ▸ hm, h1, (Option.some.inj h2).symm⟩
      · cases h
    · cases h
  · cases h
theorem fmtS_ok : SpecOk Tryd.prog 45 fmtS := SpecOk.of_callsG Tryd.func45 (by kernel_rfl) (by kernel_rfl)
  (fun args v h => by
    obtain ⟨a, b, n, rfl, ha, hb, -, rfl⟩ := fmtS_is h
    exact ⟨by simp only [flatL, okL, Bool.and_eq_true]; exact ⟨(i64Of_is ha).1, (i64Of_is hb).1, trivial⟩, rfl⟩)
  (fun args v w hG h => by
    obtain ⟨a, b, n, rfl, ha, hb, hn, rfl⟩ := fmtS_is h
    have c := Any.strconv_FormatInt_10 Tryd.laysM173 n (in64_is hn).1 (in64_is hn).2 w (glob_tab hG)
    rw [itoaL_is hn] at c
    simp only [denL, (i64Of_is ha).2, (i64Of_is hb).2]
    refine c.mono ?_
    rintro e w' ⟨rfl, hw⟩
    exact ⟨rfl, below_grow' hw⟩)
/-! ### texts cut -/
def idxF : List UInt8 → List UInt8 → Option Nat
  | [], sub => if sub.isEmpty then some 0 else none
  | b :: l, sub => if sub.isPrefixOf (b :: l) then some 0 else (idxF l sub).map (· + 1)
theorem idxF_is : ∀ (l sub : List UInt8), Lib.index l sub = match idxF l sub with
    | some k => (k : Int)
    | none => -1
  | [], sub => by unfold Lib.index idxF; split <;> rfl
  | b :: l, sub => by
    unfold Lib.index idxF
    split
    · rfl
    · rw [idxF_is l sub]
      cases idxF l sub with
      | none => rfl
      | some k =>
        have : (((k : Nat) : Int) == -1) = false := by rw [beq_eq_false_iff_ne]; omega
        simp only [this]
        rfl
def cutF (s sep : List UInt8) : List UInt8 × List UInt8 × Bool := match idxF s sep with
  | some k => (s.take k, s.drop (k + sep.length), true)
  | none => (s, [], false)
theorem cutF_is (s sep : List UInt8) : Lib.cut s sep = cutF s sep := by
  unfold Lib.cut cutF
  rw [idxF_is]
  cases idxF s sep with
  | none => rfl
  | some k =>
    show (if (0 : Int) ≤ (k : Int) then _ else _) = _
    rw [if_pos (by omega)]
    rfl
def byA (l : List UInt8) : ByteArray := ⟨l.toArray⟩
def cutV (s sep : ByteArray) : V := .tup [.s (.str (byA (cutF s.data.toList sep.data.toList).1)), .s (.str (byA (cutF s.data.toList sep.data.toList).2.1)), .s (.bool (cutF s.data.toList sep.data.toList).2.2)]
def cutS : Eng.Spec
  | [.s (.str s), .s (.str sep)] => .ite none (decide (s.size < 4294967281)) (.ret (cutV s sep)) .fail
  | _ => .fail
theorem cutS_is {args : List V} {v : V} (h : (cutS args).eval = some v) : ∃ s sep, args = [.s (.str s), .s (.str sep)] ∧ s.size < 4294967281 ∧ v = cutV s sep := by
  unfold cutS at h
  split at h
  · obtain ⟨h1, h2⟩ := ite_T' h
    exact ⟨_, _, rfl, of_decide_eq_true h1, (Option.some.inj h2).symm⟩
  · cases h
theorem cutS_ok : SpecOk Tryd.prog 27 cutS := SpecOk.of_callsG Tryd.func27 (by kernel_rfl) (by kernel_rfl)
  (fun args v h => by obtain ⟨s, sep, rfl, -, rfl⟩ := cutS_is h; exact ⟨rfl, rfl⟩)
  (fun args v w hG h => by
    obtain ⟨s, sep, rfl, hs, rfl⟩ := cutS_is h
    obtain ⟨m, hm⟩ := hG.len
    have c := Any.strings_Cut Tryd.lays145 s sep m w hs hm
    rw [cutF_is] at c
    refine c.mono ?_
    rintro e w' ⟨rfl, n, rfl⟩
    exact ⟨rfl, rfl, rfl, rfl, Nat.le_refl _, fun _ _ => rfl⟩)
def preV (s p : ByteArray) : V := .tup [.s (.str (byA (Lib.trimPrefix s.data.toList p.data.toList))), .s (.bool (Lib.hasPrefix s.data.toList p.data.toList))]
def preS : Eng.Spec
  | [.s (.str s), .s (.str p)] => .ret (preV s p)
  | _ => .fail
theorem preS_is {args : List V} {v : V} (h : (preS args).eval = some v) : ∃ s p, args = [.s (.str s), .s (.str p)] ∧ v = preV s p := by
  unfold preS at h
  split at h
  · exact ⟨_, _, rfl, (Option.some.inj h).symm⟩
  · cases h
theorem preS_ok : SpecOk Tryd.prog 26 preS := SpecOk.of_callsG Tryd.func26 (by kernel_rfl) (by kernel_rfl)
  (fun args v h => by obtain ⟨s, sep, rfl, rfl⟩ := preS_is h; exact ⟨rfl, rfl⟩)
  (fun args v w hG h => by
    obtain ⟨s, p, rfl, rfl⟩ := preS_is h
    refine (Any.strings_CutPrefix Tryd.lays103 s p w).mono ?_
    rintro e w' ⟨rfl, rfl⟩
    exact ⟨rfl, Below.refl _ _⟩)
/-! ### texts trimmed of one letter -/
def dropW (c : UInt8) : List UInt8 → List UInt8
  | [] => []
  | b :: l => if b = c then dropW c l else b :: l
theorem dropW_is (c : UInt8) : ∀ l : List UInt8, l.dropWhile (· == c) = dropW c l
  | [] => rfl
  | b :: l => by
    unfold dropW
    rw [List.dropWhile_cons]
    by_cases h : b = c
    · rw [if_pos h, if_pos (by simpa using h)]; exact dropW_is c l
    · rw [if_neg h, if_neg (by simpa using h)]
def revF (l a : List UInt8) : List UInt8 := match l with
  | [] => a
  | b :: l => revF l (b :: a)
theorem revF_is : ∀ (l a : List UInt8), revF l a = l.reverse ++ a
  | [], a => rfl
  | b :: l, a => by unfold revF; rw [revF_is l]; simp
def trR (l : List UInt8) (c : UInt8) : List UInt8 := revF (dropW c (revF l [])) []
theorem trR_is (l : List UInt8) (c : UInt8) : Lib.trimRightB l c = trR l c := by
  unfold Lib.trimRightB trR
  rw [revF_is, revF_is, dropW_is]; simp
def oneOf (s : ByteArray) : Option UInt8 := match s.data.toList with
  | [c] => if c.toNat < 128 then some c else none
  | _ => none
theorem oneOf_is {s : ByteArray} {c : UInt8} (h : oneOf s = some c) : s = ⟨#[c]⟩ ∧ c.toNat < 128 := by
  unfold oneOf at h
  split at h
  · rename_i x hx
    split at h
    · rename_i hc
      cases h
      refine ⟨?_, hc⟩
      obtain ⟨d⟩ := s
      have hx : d.toList = [c] := hx
      congr 1
      apply Array.ext'
      rw [hx]
    · cases h
  · cases h
def trimRS : Eng.Spec
  | [.s (.str s), .s (.str p)] => match oneOf p with
    | some c => .ite none (decide (s.size ≤ 9223372036854775807)) (.ret (.s (.str (byA (trR s.data.toList c))))) .fail
    | none => .fail
  | _ => .fail
theorem trimRS_is {args : List V} {v : V} (h : (trimRS args).eval = some v) : ∃ s c, args = [.s (.str s), .s (.str ⟨#[c]⟩)] ∧ c.toNat < 128 ∧ s.size ≤ 9223372036854775807 ∧ v = .s (.str (byA (trR s.data.toList c))) := by
  unfold trimRS at h
  split at h
  · split at h
    · rename_i hc
      obtain ⟨rfl, hc'⟩ := oneOf_is hc
      obtain ⟨h1, h2⟩ := ite_T' h
      exact ⟨_, _, rfl, hc', of_decide_eq_true h1, (Option.some.inj h2).symm⟩
    · cases h
  · cases h
theorem trimRS_ok : SpecOk Tryd.prog 46 trimRS := SpecOk.of_callsG Tryd.func46 (by kernel_rfl) (by kernel_rfl)
  (fun args v h => by obtain ⟨s, c, rfl, -, -, rfl⟩ := trimRS_is h; exact ⟨rfl, rfl⟩)
  (fun args v w hG h => by
    obtain ⟨s, c, rfl, hc, hs, rfl⟩ := trimRS_is h
    have k := Any.strings_TrimRight_one Tryd.lays162 s c hc w hs
    rw [trR_is] at k
    refine k.mono ?_
    rintro e w' ⟨rfl, rfl⟩
    exact ⟨rfl, Below.refl _ _⟩)
def trB (l : List UInt8) (c : UInt8) : List UInt8 := dropW c (trR l c)
theorem trB_is (l : List UInt8) (c : UInt8) : Lib.trimB l c = trB l c := by
  unfold Lib.trimB trB Lib.trimLeftB
  rw [trR_is, dropW_is]
def trimS : Eng.Spec
  | [.s (.str s), .s (.str p)] => match oneOf p with
    | some c => .ite none (decide (s.size ≤ 9223372036854775807)) (.ret (.s (.str (byA (trB s.data.toList c))))) .fail
    | none => .fail
  | _ => .fail
theorem trimS_is {args : List V} {v : V} (h : (trimS args).eval = some v) : ∃ s c, args = [.s (.str s), .s (.str ⟨#[c]⟩)] ∧ c.toNat < 128 ∧ s.size ≤ 9223372036854775807 ∧ v = .s (.str (byA (trB s.data.toList c))) := by
  unfold trimS at h
  split at h
  · split at h
    · rename_i hc
      obtain ⟨rfl, hc'⟩ := oneOf_is hc
      obtain ⟨h1, h2⟩ := ite_T' h
      exact ⟨_, _, rfl, hc', of_decide_eq_true h1, (Option.some.inj h2).symm⟩
    · cases h
  · cases h
theorem trimS_ok : SpecOk Tryd.prog 31 trimS := SpecOk.of_callsG Tryd.func31 (by kernel_rfl) (by kernel_rfl)
  (fun args v h => by obtain ⟨s, c, rfl, -, -, rfl⟩ := trimS_is h; exact ⟨rfl, rfl⟩)
  (fun args v w hG h => by
    obtain ⟨s, c, rfl, hc, hs, rfl⟩ := trimS_is h
    have k := Any.strings_Trim_one Tryd.lays160 s c hc w hs
    rw [trB_is] at k
    refine k.mono ?_
    rintro e w' ⟨rfl, hw⟩
    refine ⟨rfl, ?_⟩
    rcases hw with rfl | rfl
    · exact Below.refl _ _
    · exact (Below.refl _ _).drew)
end Go.Proofs.YtdangjhbkffbnaaDoor.Txt

/- Texts: the library's builder of texts, as the machine has it. -/
namespace Go.Proofs.YtdangjhbkffbnaaDoor.Txt
open Go.Eng Go.RowKit Go.Shelf
set_option linter.unusedVariables false
set_option linter.unusedSimpArgs false
set_option maxRecDepth 100000
theorem lays240 : Lays.n240 Tryd.prog Tryd.lays156_ren := { Tryd.lays156 with }
abbrev TB : TypeId := 73
def ccS : Eng.Obj
  | [.ptr 0 0], [(0, .cells t [.nilPtr, .nilSl])] => if t = TB then .ret (.tup [], [(0, .cells t [.ptr 0 0, .nilSl])]) else .fail
  | [.ptr 0 0], [(0, .cells t [.ptr 0 0, .nilSl])] => if t = TB then .ret (.tup [], [(0, .cells t [.ptr 0 0, .nilSl])]) else .fail
  | [.ptr 0 0], [(0, .cells t [.ptr 0 0, .sub 1 1 0 n]), (1, .lst true t' [.int .u8] l)] => if t = TB then .ret (.tup [], [(0, .cells t [.ptr 0 0, .sub 1 1 0 n]), (1, .lst true t' [.int .u8] l)]) else .fail
  | _, _ => .fail
theorem owned_of_outO {h : Eng.Heap} {v : V} {h' : Eng.Heap} (ho : outO h v h' = true) {i : Nat} {b : Blk} (e : Eng.look h' i = some b) : b.owned = true := by
  unfold outO at ho
  rw [Bool.and_eq_true, List.all_eq_true] at ho
  have := ho.2 _ (mem_of_look e)
  simp only [Bool.and_eq_true] at this
  exact this.1.1
theorem heap_setCell {w : World} {b : Nat} {c : Array Value} {t : TypeId} (hb : w.heap[b]? = some (.cells c t (0, 0))) (j : Nat) (v : Value) : (w.setCell ⟨b, j, none⟩ v).heap[b]? = some (.cells (c.setIfInBounds j v) t (0, 0)) := by
  simp [World.setCell, Array.getElem?_modify, hb]
theorem heap_setCell_ne {w : World} {b k : Nat} (hk : k ≠ b) (j : Nat) (v : Value) : (w.setCell ⟨b, j, none⟩ v).heap[k]? = w.heap[k]? := by
  simp [World.setCell, Array.getElem?_modify, Ne.symm hk]
theorem ccS_ok : ObjOk Tryd.prog 62 ccS := by
  refine ⟨⟨_, Tryd.func62, by kernel_rfl, by kernel_rfl⟩, fun args h v h' ν w hG hgs hok hb hr hv ho => ?_⟩
  have used : ∀ (t : TypeId) (r : List V) (hp : Eng.Heap), t = TB → (∀ i b, Eng.look hp i = some b → b.owned = true) → Eng.look hp 0 = some (.cells t (.ptr 0 0 :: r)) → Rel ν (Eng.look hp) w → Calls Tryd.prog 62 (denL ν [.ptr 0 0]).toArray w fun e w' => ∃ ν' : Eng.Env, e = .returned ((V.tup []).den ν') ∧ (∀ i, inH hp i = true → (ν' i).core = (ν i).core) ∧ Rel ν' (Eng.look hp) w' ∧
      (∀ i b, Eng.look hp i = some b → ∀ k, (ν' i).fp k → ownFp ν hp k ∨ w.heap.size ≤ k) ∧ Prog w w' (ownFp ν hp) := by
    intro t r hp ht ho hl hr
    obtain ⟨d0, d1, d2⟩ := hr.den 0 _ hl
    have hc : w.cell? ⟨(ν 0).core.blk, 0, none⟩ = some (.pointer (some ⟨(ν 0).core.blk, 0, none⟩)) := by
      rw [Lib.cell_of_heap d2]
      simp [denL, V.den, d0]
    have ea : (denL ν [.ptr 0 0]).toArray = #[.pointer (some ⟨(ν 0).core.blk, 0, none⟩)] := by simp [denL, V.den, d0]
    rw [ea]
    refine (Any.Builder_copyCheck_used lays240 Tryd.Builder_Extra_156.toX72 _ w hc).mono ?_
    rintro e w' ⟨rfl, rfl⟩
    exact ⟨ν, rfl, fun _ _ => rfl, hr, fun i b e k hk => .inl ⟨i, b, e, ho i b e, hk⟩, Prog.refl _ _⟩
  unfold ccS at hv
  split at hv
  · split at hv
    · rename_i t ht
      obtain ⟨rfl, rfl⟩ : V.tup [] = v ∧ [(0, Blk.cells t [.ptr 0 0, .nilSl])] = h' := by
        have := Option.some.inj hv
        exact ⟨congrArg Prod.fst this, congrArg Prod.snd this⟩
      obtain ⟨d0, d1, d2⟩ := hr.den 0 _ rfl
      have d2 : w.heap[(ν 0).core.blk]? = some (.cells #[.pointer none, .slice none 0 0] t (0, 0)) := d2
      have ea : (denL ν [.ptr 0 0]).toArray = #[.pointer (some ⟨(ν 0).core.blk, 0, none⟩)] := by simp [denL, V.den, d0]
      rw [ea]
      have hsh : w.shape? (ν 0).core.blk = some (t, 2) := by simp [World.shape?, d2]
      refine (Any.Builder_copyCheck_fresh lays240 Tryd.Builder_Extra_156.toX72 _ w (by rw [Lib.cell_of_heap d2]; rfl) (by rw [hsh, ht]; rfl) (Lib.frozen_of_heap d2 0)).mono ?_
      rintro e w' ⟨rfl, rfl⟩
      have one : ∀ i b, Eng.look [(0, Blk.cells t [.ptr 0 0, .nilSl])] i = some b → i = 0 ∧ b = .cells t [.ptr 0 0, .nilSl] := by
        intro i b e
        simp only [Eng.look] at e
        split at e
        · rename_i q
          exact ⟨(by simpa using q : 0 = i).symm, (Option.some.inj e).symm⟩
        · cases e
      have own : ∀ k, (ν 0).fp k → ownFp ν [(0, Blk.cells t [.nilPtr, .nilSl])] k := fun k hk => ⟨0, _, rfl, rfl, hk⟩
      refine ⟨ν, rfl, fun _ _ => rfl, ⟨fun i b e => ?_, fun i j bi bj ne ei ej => absurd ((one i bi ei).1.trans (one j bj ej).1.symm) ne⟩, fun i b e k hk => ?_, rfl, rfl, rfl, ?_, fun k hk hn => ?_⟩
      · obtain ⟨rfl, rfl⟩ := one i b e
        refine ⟨d0, d1, ?_⟩
        rw [heap_setCell d2]
        simp [denL, V.den, d0]
      · obtain ⟨rfl, rfl⟩ := one i b e
        exact .inl (own k hk)
      · simp [World.setCell]
      · exact heap_setCell_ne (fun q => hn (own k ((d1 k).2 q))) _ _
    · cases hv
  · split at hv
    · rename_i t ht
      obtain ⟨rfl, rfl⟩ : V.tup [] = v ∧ [(0, Blk.cells t [.ptr 0 0, .nilSl])] = h' := by
        have := Option.some.inj hv
        exact ⟨congrArg Prod.fst this, congrArg Prod.snd this⟩
      exact used t [.nilSl] _ ht (fun i b e => owned_of_outO ho e) rfl hr
    · cases hv
  · split at hv
    · rename_i t n t' l ht
      obtain ⟨rfl, rfl⟩ : V.tup [] = v ∧ [(0, Blk.cells t [.ptr 0 0, .sub 1 1 0 n]), (1, .lst true t' [.int .u8] l)] = h' := by
        have := Option.some.inj hv
        exact ⟨congrArg Prod.fst this, congrArg Prod.snd this⟩
      exact used t [.sub 1 1 0 n] _ ht (fun i b e => owned_of_outO ho e) rfl hr
    · cases hv
  · cases hv
/-! ### the text at the end -/
theorem lies_off {P : Program} {e : TypeId} (hc : P.cellsOf e = 1) (count off n : Nat) (hn : off + n ≤ count) (h0 : 0 < n) : liesAt P P.depth e count off e n = true := by
  have hd : P.depth = (2 * (P.types.size + Made.depth) + 1) + 1 := rfl
  rw [hd]
  simp only [liesAt, Bool.or_eq_true]
  left
  rw [hd]
  simp [rowAt, hc, sameLayout, hn, Nat.mod_one]
theorem unsafe_text {P : Program} (w : World) (pt it ty e : TypeId) (hp : P.underlying pt = some (.pointer e)) (hc : P.cellsOf e = 1) (g off cells : Nat) (hsh : w.shape? g = some (e, cells)) (l : List UInt8) (h0 : l ≠ []) (hn : off + l.length ≤ cells) (h63 : l.length ≤ 9223372036854775807)
    (hcell : ∀ (j : Nat) x, l[j]? = some x → w.cell? ((⟨g, off, none⟩ : Addr).add j) = some (.int .u8 x.toNat)) :
    (Builtin.unsafeString_ #[pt, it] ty #[.pointer (some ⟨g, off, none⟩), .int .i64 l.length]).run P w = .ok (.string ⟨l.toArray⟩) (w.freeze ⟨g, off, none⟩ l.length) := by
  have hl : l.length ≠ 0 := by simpa using h0
  have hlb := Lib.run_loadBytes (P := P) w l ⟨g, off, none⟩ .empty hcell
  have hlies := lies_off (P := P) hc (cells / P.cellsOf e) off l.length (by rw [hc]; simpa using hn) (by omega)
  have h63' : ¬ (9223372036854775807 : Int) < (l.length : Int) := by omega
  have hmax : IntKind.i64.max = 9223372036854775807 := rfl
  have hneg : ¬ (l.length : Int) < 0 := by omega
  conv in (Builtin.unsafeString_ _ _ _) => whnf
  generalize (IntKind.max .i64).decLt (l.length : Int) = D
  cases D with
  | isTrue h => exact absurd h h63'
  | isFalse h =>
    dsimp only
    simp [hl, variablesAt, hsh, elemOf, run_underlying hp, hlies, hlb]
set_option maxHeartbeats 2000000 in
theorem text_at {P : Program} {ρ : Go.Shelf.Ren} (L : Lays.n169 P ρ) (X : Builder.Extra P ρ) (b g off cap : Nat) (p : Value) (cur : Array Value) (l : List UInt8) (w : World) (h0 : l ≠ []) (hb : w.heap[b]? = some (.cells #[p, .slice (some ⟨g, off, none⟩) l.length cap] (ρ.t 72) (0, 0)))
    (hg : w.heap[g]? = some (.cells cur (ρ.t 5) (0, 0))) (hcap : l.length ≤ cap) (hm : cap ≤ maxLen) (hcur : off + cap ≤ cur.size) (hx : ∀ (j : Nat) x, l[j]? = some x → cur[off + j]? = some (.int .u8 x.toNat)) :
    Calls P (ρ.f 169) #[.pointer (some ⟨b, 0, none⟩)] w fun e w' => e = .returned (.string ⟨l.toArray⟩) ∧ w' = w.drew.freeze ⟨g, off, none⟩ l.length := by
  have hl0 : l.length ≠ 0 := by simpa using h0
  have c1 : w.drew.cell? ⟨b, 1, none⟩ = some (.slice (some ⟨g, off, none⟩) l.length cap) := by
    rw [Lib.cell_of_heap (w := w.drew) hb]; rfl
  have hSD : (Builtin.unsafeSliceData_ #[(ρ.t 37)] (ρ.t 127) #[.slice (some ⟨g, off, none⟩) l.length cap]).run P w.drew = .ok (.pointer (some ⟨g, off, none⟩)) w.drew :=
    Lib.run_unsafeSliceData_row _ _ _ _ _ _ (by omega)
  have hUS : (Builtin.unsafeString_ #[(ρ.t 127), (ρ.t 3)] (ρ.t 9) #[.pointer (some ⟨g, off, none⟩), .int .i64 l.length]).run P w.drew = .ok (.string ⟨l.toArray⟩) (w.drew.freeze ⟨g, off, none⟩ l.length) := by
    refine unsafe_text w.drew (ρ.t 127) (ρ.t 3) (ρ.t 9) (ρ.t 5) L.t127 X.cellsByte g off cur.size (by have hg' : w.drew.heap[g]? = some (.cells cur (ρ.t 5) (0, 0)) := hg; simp [World.shape?, hg']) l h0 (by omega) (by unfold maxLen at hm; omega) ?_
    intro j x hj
    rw [addr_add, Lib.cell_of_heap (w := w.drew) hg]
    exact hx j x hj
  have mixed := L.mixed
  have t72 := L.t72; have a72 := L.a72; have z72 := L.z72; have v72 := L.v72; have u72 := run_underlying L.t72
  have t70 := L.t70; have a70 := L.a70; have z70 := L.z70; have v70 := L.v70; have u70 := run_underlying L.t70
  have t37 := L.t37; have a37 := L.a37; have z37 := L.z37; have v37 := L.v37; have u37 := run_underlying L.t37
  have t127 := L.t127; have a127 := L.a127; have z127 := L.z127; have v127 := L.v127; have u127 := run_underlying L.t127
  have t3 := L.t3; have a3 := L.a3; have z3 := L.z3; have v3 := L.v3; have u3 := run_underlying L.t3
  have t9 := L.t9; have a9 := L.a9; have z9 := L.z9; have v9 := L.v9; have u9 := run_underlying L.t9
  have t5 := X.t5; have a5 := X.a5; have z5 := X.z5; have v5 := X.v5; have u5 := run_underlying X.t5
  go_enter L.f169, Body.n169_ntmps ρ
  go_wp2
  go_region_o
  all_goals (go_wp2; go_ret; exact ⟨rfl, rfl⟩)
def byB (l : List Int) : Bool := l.all fun x => decide (0 ≤ x) && decide (x < 256)
def txtS : Eng.Obj
  | [.ptr 0 0], [(0, .cells t [p, .sub 1 1 0 n]), (1, .lst true t' [.int .u8] l)] => if t = TB ∧ t' = 5 then .ite none (byB l && (decide (n = List.length l) && decide (0 < n))) (.ret (.s (.str (rowStr l)), [])) .fail else .fail
  | _, _ => .fail
theorem byte_back {l : List Int} (h : byB l = true) (j : Nat) (x : UInt8) (hx : (l.map fun n => UInt8.ofNat n.toNat)[j]? = some x) : l[j]? = some ((x.toNat : Nat) : Int) := by
  rw [List.getElem?_map] at hx
  obtain ⟨n, hn, rfl⟩ := Option.map_eq_some_iff.1 hx
  have := List.all_eq_true.1 h n (List.mem_of_getElem? hn)
  rw [Bool.and_eq_true, decide_eq_true_eq, decide_eq_true_eq] at this
  rw [hn]
  congr 1
  rw [UInt8.toNat_ofNat']
  omega
theorem byte_cell {l : List Int} {j : Nat} {n : Int} (h : l[j]? = some n) : (rowsV [.int .u8] (u8 l))[j]? = some (Value.int .u8 n) := by
  rw [rowsV_u8, List.getElem?_map, h]; rfl
theorem txtS_ok : ObjOk Tryd.prog 41 txtS := by
  refine ⟨⟨_, Tryd.func41, by kernel_rfl, by kernel_rfl⟩, fun args h v h' ν w hG hgs hok hb hr hv ho => ?_⟩
  unfold txtS at hv
  split at hv
  · rename_i t p n t' l
    split at hv
    · rename_i ht
      obtain ⟨rfl, rfl⟩ := ht
      obtain ⟨hc, hv⟩ := ite_T' hv
      rw [Bool.and_eq_true, Bool.and_eq_true, decide_eq_true_eq, decide_eq_true_eq] at hc
      obtain ⟨c1, c2, c3⟩ := hc
      obtain ⟨rfl, rfl⟩ : V.s (.str (rowStr l)) = v ∧ ([] : Eng.Heap) = h' := by
        have := Option.some.inj hv
        exact ⟨congrArg Prod.fst this, congrArg Prod.snd this⟩
      obtain ⟨d0, d1, d2⟩ := hr.den 0 _ rfl
      obtain ⟨e0, e1⟩ := hr.den 1 (.lst true 5 [.int .u8] l) rfl
      have rl : (rowsV [.int .u8] l).length = l.length := by rw [rowsV_length]; simp
      rcases e0.2 with ⟨_, q⟩ | ⟨g, off, cap, cur, q1, q2, q3, q4, q5, q6, q7⟩
      · omega
      · simp only [Value.slice.injEq, true_and] at q1
        obtain ⟨qa, qc⟩ := q1
        have q6 : off + cap ≤ cur.size := by simpa using q6
        have q7 : (cur.toList.drop off).take l.length = rowsV [.int .u8] l := by simpa using q7
        have d2 : w.heap[(ν 0).core.blk]? = some (.cells #[p.den ν, .slice (some ⟨g, off, none⟩) n cap] TB (0, 0)) := by
          rw [d2]
          congr 2
          simp [denL, V.den, qa, qc, addr_add]
        have ea : (denL ν [.ptr 0 0]).toArray = #[.pointer (some ⟨(ν 0).core.blk, 0, none⟩)] := by simp [denL, V.den, d0]
        rw [ea]
        have hb8 : (l.map fun n => UInt8.ofNat n.toNat).length = n := by rw [List.length_map, c2]
        rw [← hb8] at d2
        refine (text_at Tryd.lays169 Tryd.Builder_Extra_169 _ g off cap _ cur (l.map fun n => UInt8.ofNat n.toNat) w (fun q => by rw [q] at hb8; simp at hb8; omega) d2 q3 (by rw [hb8]; omega) q5 q6 (fun j x hx => ?_)).mono ?_
        · have hj : j < l.length := by
            have := (List.getElem?_eq_some_iff.1 hx).1
            simpa using this
          have hl := byte_back c1 j x hx
          have : (rowsV [.int .u8] l)[j]? = some (Value.int .u8 ((x.toNat : Nat) : Int)) := by
            exact byte_cell hl
          rw [← q7, List.getElem?_take_of_lt hj, List.getElem?_drop, Array.getElem?_toList] at this
          exact this
        · rintro e w' ⟨rfl, rfl⟩
          have gfp : ownFp ν [(0, .cells TB [p, .sub 1 1 0 n]), (1, .lst true 5 [.int .u8] l)] g := ⟨1, _, rfl, rfl, (e1 g).2 ⟨_, qa, rfl⟩⟩
          refine ⟨ν, rfl, fun _ _ => rfl, ⟨fun i b e => (by cases e), fun i j bi bj ne ei ej => (by cases ei)⟩, fun i b e => (by cases e), ?_⟩
          refine ⟨?_, ?_, ?_, ?_, fun k hk hn => ?_⟩
          · unfold World.freeze; split <;> rfl
          · unfold World.freeze; split <;> rfl
          · unfold World.freeze; split <;> rfl
          · unfold World.freeze
            split
            · exact Nat.le_refl _
            · show w.heap.size ≤ (Array.modify w.heap _ _).size
              rw [Array.size_modify]; exact Nat.le_refl _
          · unfold World.freeze
            split
            · rfl
            · simp only [Array.getElem?_modify]
              rw [if_neg (fun q => hn (by rw [← q]; exact gfp))]
              rfl
    · cases hv
  · cases hv
end Go.Proofs.YtdangjhbkffbnaaDoor.Txt

/- Layer 4: what is told of a few: closed runs. -/
namespace Go.Proofs.YtdangjhbkffbnaaDoor.Txt
open Go.Eng Go.RowKit
set_option linter.unusedVariables false
set_option linter.unusedSimpArgs false
set_option maxRecDepth 100000
theorem mixed : Tryd.prog.follows .mixedOrders = true := by kernel_rfl
noncomputable def K0 : Cfg := ⟨Tryd.prog, lookG [(27, .val cutS), (26, .val preS), (31, .val trimS), (46, .val trimRS), (63, .val itoaS), (45, .val fmtS), (62, .obj ccS), (41, .obj txtS)], [], 0⟩
theorem K0_ok : K0.Ok := Cfg.ok ⟨cutS_ok, preS_ok, trimS_ok, trimRS_ok, itoaS_ok, fmtS_ok, ccS_ok, txtS_ok, trivial⟩ trivial
noncomputable def natR : Eng.Spec := execS K0 (rounds K0 11 1) 28
theorem natR_ok : SpecOk Tryd.prog 28 natR := execS_rounds K0_ok mixed 11 1 Tryd.func28 (by kernel_rfl) (by kernel_rfl)
noncomputable def idxR : Eng.Spec := execS K0 (rounds K0 9 1) 69
theorem idxR_ok : SpecOk Tryd.prog 69 idxR := execS_rounds K0_ok mixed 9 1 Tryd.func69 (by kernel_rfl) (by kernel_rfl)
noncomputable def wrR : Eng.Obj := execO K0 noLoops 38
theorem wrR_ok : ObjOk Tryd.prog 38 wrR := execO_plain K0_ok mixed Tryd.func38 (by kernel_rfl) (by kernel_rfl)
noncomputable def K1 : Cfg := ⟨Tryd.prog, lookG [(27, .val cutS), (26, .val preS), (31, .val trimS), (46, .val trimRS), (63, .val itoaS), (45, .val fmtS), (28, .val natR)], [], 0⟩
theorem K1_ok : K1.Ok := Cfg.ok ⟨cutS_ok, preS_ok, trimS_ok, trimRS_ok, itoaS_ok, fmtS_ok, natR_ok, trivial⟩ trivial
noncomputable def numR : Eng.Spec := execS K1 (rounds K1 4 1) 9
theorem numR_ok : SpecOk Tryd.prog 9 numR := execS_rounds K1_ok mixed 4 1 Tryd.func9 (by kernel_rfl) (by kernel_rfl)
noncomputable def shoR : Eng.Spec := execS K1 noLoops 15
theorem shoR_ok : SpecOk Tryd.prog 15 shoR := execS_plain K1_ok mixed Tryd.func15 (by kernel_rfl) (by kernel_rfl)
noncomputable def plcR : Eng.Obj := execO K1 noLoops 40
theorem plcR_ok : ObjOk Tryd.prog 40 plcR := execO_plain K1_ok mixed Tryd.func40 (by kernel_rfl) (by kernel_rfl)
noncomputable def K2 : Cfg := ⟨Tryd.prog, lookG [(27, .val cutS), (26, .val preS), (31, .val trimS), (46, .val trimRS), (63, .val itoaS), (45, .val fmtS), (28, .val natR), (9, .val numR), (15, .val shoR)], [], 0⟩
theorem K2_ok : K2.Ok := Cfg.ok ⟨cutS_ok, preS_ok, trimS_ok, trimRS_ok, itoaS_ok, fmtS_ok, natR_ok, numR_ok, shoR_ok, trivial⟩ trivial
noncomputable def putR : Eng.Obj := execO K2 noLoops 52
theorem putR_ok : ObjOk Tryd.prog 52 putR := execO_plain K2_ok mixed Tryd.func52 (by kernel_rfl) (by kernel_rfl)
noncomputable def tlpR : Eng.Obj := execO K2 noLoops 39
theorem tlpR_ok : ObjOk Tryd.prog 39 tlpR := execO_plain K2_ok mixed Tryd.func39 (by kernel_rfl) (by kernel_rfl)
noncomputable def K3 : Cfg := ⟨Tryd.prog, lookG [(27, .val cutS), (26, .val preS), (31, .val trimS), (46, .val trimRS), (63, .val itoaS), (45, .val fmtS), (69, .val idxR)], [], 0⟩
theorem K3_ok : K3.Ok := Cfg.ok ⟨cutS_ok, preS_ok, trimS_ok, trimRS_ok, itoaS_ok, fmtS_ok, idxR_ok, trivial⟩ trivial
noncomputable def conR : Eng.Spec := execS K3 noLoops 51
theorem conR_ok : SpecOk Tryd.prog 51 conR := execS_plain K3_ok mixed Tryd.func51 (by kernel_rfl) (by kernel_rfl)
noncomputable def K4 : Cfg := ⟨Tryd.prog, lookG [(27, .val cutS), (26, .val preS), (31, .val trimS), (46, .val trimRS), (63, .val itoaS), (45, .val fmtS), (51, .val conR), (40, .obj (Eng.Obj.plain plcR)), (52, .obj (Eng.Obj.plain putR))], [], 0⟩
theorem K4_ok : K4.Ok := Cfg.ok ⟨cutS_ok, preS_ok, trimS_ok, trimRS_ok, itoaS_ok, fmtS_ok, conR_ok, plcR_ok.plain, putR_ok.plain, trivial⟩ trivial
noncomputable def takR : Eng.Obj := execO K4 noLoops 30
theorem takR_ok : ObjOk Tryd.prog 30 takR := execO_plain K4_ok mixed Tryd.func30 (by kernel_rfl) (by kernel_rfl)
noncomputable def outR : Eng.Spec := execS K0 noLoops 74
theorem outR_ok : SpecOk Tryd.prog 74 outR := execS_plain K0_ok mixed Tryd.func74 (by kernel_rfl) (by kernel_rfl)
noncomputable def mosR : Eng.Spec := execS K0 noLoops 75
theorem mosR_ok : SpecOk Tryd.prog 75 mosR := execS_plain K0_ok mixed Tryd.func75 (by kernel_rfl) (by kernel_rfl)
noncomputable def K5 : Cfg := ⟨Tryd.prog, lookG [(27, .val cutS), (26, .val preS), (31, .val trimS), (46, .val trimRS), (63, .val itoaS), (45, .val fmtS), (74, .val outR), (75, .val mosR)], [], 0⟩
theorem K5_ok : K5.Ok := Cfg.ok ⟨cutS_ok, preS_ok, trimS_ok, trimRS_ok, itoaS_ok, fmtS_ok, outR_ok, mosR_ok, trivial⟩ trivial
noncomputable def wroR : Eng.Spec := execS K5 noLoops 60
theorem wroR_ok : SpecOk Tryd.prog 60 wroR := execS_plain K5_ok mixed Tryd.func60 (by kernel_rfl) (by kernel_rfl)
noncomputable def K6 : Cfg := ⟨Tryd.prog, lookG [(27, .val cutS), (26, .val preS), (31, .val trimS), (46, .val trimRS), (63, .val itoaS), (45, .val fmtS), (60, .val wroR)], [], 0⟩
theorem K6_ok : K6.Ok := Cfg.ok ⟨cutS_ok, preS_ok, trimS_ok, trimRS_ok, itoaS_ok, fmtS_ok, wroR_ok, trivial⟩ trivial
noncomputable def mayR : Eng.Spec := execS K6 noLoops 32
theorem mayR_ok : SpecOk Tryd.prog 32 mayR := execS_plain K6_ok mixed Tryd.func32 (by kernel_rfl) (by kernel_rfl)
noncomputable def K7 : Cfg := ⟨Tryd.prog, lookG [(27, .val cutS), (26, .val preS), (31, .val trimS), (46, .val trimRS), (63, .val itoaS), (45, .val fmtS), (30, .obj (Eng.Obj.plain takR)), (32, .val mayR)], [], 0⟩
theorem K7_ok : K7.Ok := Cfg.ok ⟨cutS_ok, preS_ok, trimS_ok, trimRS_ok, itoaS_ok, fmtS_ok, takR_ok.plain, mayR_ok, trivial⟩ trivial
noncomputable def parR : Eng.Spec := execS K7 (rounds K7 6 1) 11
theorem parR_ok : SpecOk Tryd.prog 11 parR := execS_rounds K7_ok mixed 6 1 Tryd.func11 (by kernel_rfl) (by kernel_rfl)
noncomputable def namR : Eng.Spec := execS K0 noLoops 37
theorem namR_ok : SpecOk Tryd.prog 37 namR := execS_plain K0_ok mixed Tryd.func37 (by kernel_rfl) (by kernel_rfl)
noncomputable def K8 : Cfg := ⟨Tryd.prog, lookG [(27, .val cutS), (26, .val preS), (31, .val trimS), (46, .val trimRS), (63, .val itoaS), (45, .val fmtS), (32, .val mayR), (38, .obj (Eng.Obj.plain wrR)), (41, .obj txtS), (40, .obj (Eng.Obj.plain plcR)), (39, .obj (Eng.Obj.plain tlpR)), (37, .val namR)], [], 0⟩
theorem K8_ok : K8.Ok := Cfg.ok ⟨cutS_ok, preS_ok, trimS_ok, trimRS_ok, itoaS_ok, fmtS_ok, mayR_ok, wrR_ok.plain, txtS_ok, plcR_ok.plain, tlpR_ok.plain, namR_ok, trivial⟩ trivial
noncomputable def priR : Eng.Spec := execS K8 (rounds K8 21 1) 13
theorem priR_ok : SpecOk Tryd.prog 13 priR := execS_rounds K8_ok mixed 21 1 Tryd.func13 (by kernel_rfl) (by kernel_rfl)
noncomputable def dfl : Eng.Spec := execS K0 noLoops 17
theorem dfl_ok : SpecOk Tryd.prog 17 dfl := execS_plain K0_ok mixed Tryd.func17 (by kernel_rfl) (by kernel_rfl)
noncomputable def K9 : Cfg := ⟨Tryd.prog, lookG [(27, .val cutS), (26, .val preS), (31, .val trimS), (46, .val trimRS), (63, .val itoaS), (45, .val fmtS), (11, .val parR), (9, .val numR), (15, .val shoR), (13, .val priR), (17, .val dfl)], [23], 0⟩
theorem K9_ok : K9.Ok := Cfg.ok ⟨cutS_ok, preS_ok, trimS_ok, trimRS_ok, itoaS_ok, fmtS_ok, parR_ok, numR_ok, shoR_ok, priR_ok, dfl_ok, trivial⟩ ⟨⟨by kernel_rfl, by kernel_rfl⟩, trivial⟩
noncomputable def tldX : Eng.Spec := execS K9 noLoops 8
theorem tldX_ok : SpecOk Tryd.prog 8 tldX := execS_plain K9_ok mixed Tryd.func8 (by kernel_rfl) (by kernel_rfl)
end Go.Proofs.YtdangjhbkffbnaaDoor.Txt

/- Layer 4: numbers: loops. -/
namespace Go.Proofs.YtdangjhbkffbnaaDoor.Txt
open Go.Eng Go.RowKit
set_option linter.unusedVariables false
set_option linter.unusedSimpArgs false
set_option maxRecDepth 100000
noncomputable def lpNa : Code := loopAt Tryd.prog 28 0
structure PNa where (s : ByteArray) (z : Int)
structure ANa where (n : Int) (i : Int)
abbrev SNa : List (Nat × Src) := []
def vsNa (p : PNa) (a : ANa) : List V := [.s (.str p.s), iv a.n, iv p.z, iv a.i]
def bsNa (p : PNa) (a : ANa) : List Blk := []
noncomputable def FNa (p : PNa) (a : ANa) : St := mkSt [0,6,18,19] (keysR SNa) 3000 42 (vsNa p a) (bsNa p a)
abbrev SNax : List (Nat × Src) := []
noncomputable def rdNa (p : PNa) (a : ANa) : T (Ex × St) := T.anon (roundX K0 noLoops lpNa [0,6,18,19] SNa [4,5,6] SNax 3000 3000 (mkSt [0,6,18,19] (keysR SNa) 3000 42 (vsNa p a) (bsNa p a)))
def decNa_v0 : V → Option ((ByteArray))
  | .s (.str s) => some (s)
  | _ => none
theorem decNa_v0_ok (b : V) (x0 : (ByteArray)) (h : decNa_v0 b = some x0) : b = .s (.str (x0)) := by
  unfold decNa_v0 at h
  split at h
  · cases h
    rfl
  · cases h
def decNa_v1 : V → Option ((Int))
  | .s (.int .i64 n) => some (n)
  | _ => none
theorem decNa_v1_ok (b : V) (x1 : (Int)) (h : decNa_v1 b = some x1) : b = iv (x1) := by
  unfold decNa_v1 at h
  split at h
  · cases h
    rfl
  · cases h
def decNa_v2 : V → Option ((Int))
  | .s (.int .i64 z) => some (z)
  | _ => none
theorem decNa_v2_ok (b : V) (x2 : (Int)) (h : decNa_v2 b = some x2) : b = iv (x2) := by
  unfold decNa_v2 at h
  split at h
  · cases h
    rfl
  · cases h
def decNa_v3 : V → Option ((Int))
  | .s (.int .i64 i) => some (i)
  | _ => none
theorem decNa_v3_ok (b : V) (x3 : (Int)) (h : decNa_v3 b = some x3) : b = iv (x3) := by
  unfold decNa_v3 at h
  split at h
  · cases h
    rfl
  · cases h
def decNa : List V → List Blk → Option (PNa × ANa)
  | [v0, v1, v2, v3], [] => (decNa_v0 v0).bind fun x0 => (decNa_v1 v1).bind fun x1 => (decNa_v2 v2).bind fun x2 => (decNa_v3 v3).bind fun x3 => some (⟨(x0), (x2)⟩, ⟨(x1), (x3)⟩)
  | _, _ => none
theorem decNa_ok (l : List V) (b : List Blk) (d : PNa × ANa) (h : decNa l b = some d) : l = vsNa d.1 d.2 ∧ b = bsNa d.1 d.2 := by
  unfold decNa at h
  split at h
  · obtain ⟨x0, hx0, h⟩ := Option.bind_eq_some_iff.1 h
    obtain ⟨x1, hx1, h⟩ := Option.bind_eq_some_iff.1 h
    obtain ⟨x2, hx2, h⟩ := Option.bind_eq_some_iff.1 h
    obtain ⟨x3, hx3, h⟩ := Option.bind_eq_some_iff.1 h
    have ex0 := decNa_v0_ok _ _ hx0
    have ex1 := decNa_v1_ok _ _ hx1
    have ex2 := decNa_v2_ok _ _ hx2
    have ex3 := decNa_v3_ok _ _ hx3
    cases h
    subst ex0 ex1 ex2 ex3
    exact ⟨rfl, rfl⟩
  · cases h
noncomputable def rgNa : Nat := (firstReg lpNa).getD 0
theorem rgNa_is : firstReg lpNa = some rgNa := by kernel_rfl
noncomputable def lpDe : Code := loopAt Tryd.prog 42 0
structure PDe where 
structure ADe where (n : Int) (s : ByteArray)
abbrev SDe : List (Nat × Src) := []
def vsDe (p : PDe) (a : ADe) : List V := [iv a.n, .s (.str a.s)]
def bsDe (p : PDe) (a : ADe) : List Blk := []
noncomputable def FDe (p : PDe) (a : ADe) : St := mkSt [0,3] (keysR SDe) 3000 22 (vsDe p a) (bsDe p a)
noncomputable def rdDe (p : PDe) (a : ADe) : T (Ex × St) := T.anon (roundN K0 noLoops lpDe [0,3] SDe 3000 3000 (mkSt [0,3] (keysR SDe) 3000 22 (vsDe p a) (bsDe p a)))
def decDe : List V → List Blk → Option (PDe × ADe)
  | [.s (.int .i64 n), .s (.str s)], [] =>
    some (⟨⟩, ⟨n, s⟩)
  | _, _ => none
theorem decDe_ok (l : List V) (b : List Blk) (d : PDe × ADe) (h : decDe l b = some d) : l = vsDe d.1 d.2 ∧ b = bsDe d.1 d.2 := by
  unfold decDe at h
  split at h
  · cases h
    exact ⟨rfl, rfl⟩
  · cases h
noncomputable def rgDe : Nat := (firstReg lpDe).getD 0
theorem rgDe_is : firstReg lpDe = some rgDe := by kernel_rfl
/-! ### a whole number of digits -/
def dig (b : UInt8) : Bool := decide (48 ≤ b.toNat) && decide (b.toNat ≤ 57)
def natL (l : List UInt8) : Int := l.foldl (fun a b => a * 10 + (((b.toNat : Nat) : Int) - 48)) 0
theorem natL_snoc (l : List UInt8) (b : UInt8) : natL (l ++ [b]) = natL l * 10 + (((b.toNat : Nat) : Int) - 48) := by
  unfold natL; rw [List.foldl_append]; rfl
theorem natL_in : ∀ (n : Nat) (l : List UInt8), l.length = n → (∀ b ∈ l, dig b = true) → 0 ≤ natL l ∧ natL l < 10 ^ n
  | 0, l, h, _ => by
    have := List.eq_nil_of_length_eq_zero h
    subst this
    exact ⟨Int.le_refl _, by decide⟩
  | n + 1, l, h, hd => by
    have hne : l ≠ [] := fun q => by rw [q] at h; cases h
    rw [← List.dropLast_concat_getLast hne, natL_snoc]
    have hb := hd _ (List.getLast_mem hne)
    unfold dig at hb
    rw [Bool.and_eq_true, decide_eq_true_eq, decide_eq_true_eq] at hb
    have ih := natL_in n l.dropLast (by rw [List.length_dropLast]; omega) (fun b hb => hd b (List.dropLast_subset l hb))
    have e : (10 : Int) ^ (n + 1) = 10 ^ n * 10 := Int.pow_succ 10 n
    omega
def L8 (s : ByteArray) : List UInt8 := s.data.toList
theorem L8_len (s : ByteArray) : (L8 s).length = s.size := Array.length_toList
def xNa (p : PNa) (a : ANa) : UInt8 := (L8 p.s).getD a.i.toNat 0
theorem byteAt_L8 (s : ByteArray) (i : Int) : byteAt s i = ((((L8 s).getD i.toNat 0).toNat : Nat) : Int) := by
  unfold byteAt L8
  rw [List.getD_eq_getElem?_getD, Array.getElem?_toList, Array.getD_eq_getD_getElem?]
def bN (p : PNa) (a : ANa) : Int := byteAt p.s a.i
def inN (p : PNa) (a : ANa) : Bool := decide (0 ≤ a.i) && decide (a.i < (p.s.size : Int))
def hdN (p : PNa) (a : ANa) (c : Bool) : List (Bool × Bool) := [(decide (a.i < p.z), true), (inN p a, true), (bif decide (bN p a < 48) == false && true then inN p a else true, true), (bif decide (bN p a < 48) then true else decide (57 < bN p a), c)]
def stN (p : PNa) (a : ANa) (x y z : V) : St := mkSt [4, 5, 6] [] 3000 42 [x, y, z] (bsNa p a)
theorem na_n (p : PNa) (a : ANa) : T.path [true, true, true, false, true] (rdNa p a) = some (hdN p a false ++ [(inN p a, true)], (.normal, FNa p ⟨IntKind.wrap .i64 (IntKind.wrap .i64 (a.n * 10) + IntKind.wrap .i64 (IntKind.wrap .u8 (bN p a - 48))), IntKind.wrap .i64 (a.i + 1)⟩)) := by kernel_rfl
theorem na_f (p : PNa) (a : ANa) : T.path [true, true, true, true] (rdNa p a) = some (hdN p a true, (.ret, stN p a (iv 0) (.s (.bool false)) (iv a.n))) := by kernel_rfl
theorem na_x (p : PNa) (a : ANa) : T.path [false] (rdNa p a) = some ([(decide (a.i < p.z), false)], (.exit 0, stN p a .junk .junk (iv a.n))) := by kernel_rfl
theorem wrap64 {n : Int} (h0 : -9223372036854775808 ≤ n) (h1 : n ≤ 9223372036854775807) : IntKind.wrap .i64 n = n := wrap64_in h0 h1
structure okNa (p : PNa) (a : ANa) : Prop where
  z : p.z = (p.s.size : Int)
  z9 : p.z ≤ 9
  i0 : 0 ≤ a.i
  i1 : a.i ≤ p.z
  d : ∀ b ∈ (L8 p.s).take a.i.toNat, dig b = true
  n : a.n = natL ((L8 p.s).take a.i.toNat)
def goNa (p : PNa) (a : ANa) : Bool := decide (a.i < p.z) && dig (xNa p a)
def muNa (p : PNa) (a : ANa) : Nat := (p.z - a.i).toNat
theorem na_hd {p : PNa} {a : ANa} (h : okNa p a) (hi : a.i < p.z) {c : Bool} (hc : (!dig (xNa p a)) = c) : allSay (hdN p a c) := by
  have hin : inN p a = true := by unfold inN; rw [decide_eq_true h.i0, decide_eq_true (show a.i < (p.s.size : Int) by have := h.z; omega)]; rfl
  refine ⟨decide_eq_true hi, hin, by rw [hin]; cases decide (bN p a < 48) <;> rfl, ?_, trivial⟩
  have e : bN p a = (((xNa p a).toNat : Nat) : Int) := byteAt_L8 _ _
  rw [← hc, e]
  unfold dig
  by_cases q : 48 ≤ (xNa p a).toNat
  · rw [decide_eq_true q, decide_eq_false (show ¬ (((xNa p a).toNat : Nat) : Int) < 48 by omega)]
    by_cases r : (xNa p a).toNat ≤ 57
    · rw [decide_eq_true r, decide_eq_false (show ¬ (57 : Int) < (((xNa p a).toNat : Nat) : Int) by omega)]; rfl
    · rw [decide_eq_false r, decide_eq_true (show (57 : Int) < (((xNa p a).toNat : Nat) : Int) by omega)]; rfl
  · rw [decide_eq_false q, decide_eq_true (show (((xNa p a).toNat : Nat) : Int) < 48 by omega)]; rfl
theorem take_nextT {α : Type} {l : List α} {i : Int} (h0 : 0 ≤ i) (hl : i.toNat < l.length) : l.take (i + 1).toNat = l.take i.toNat ++ [l[i.toNat]] := by
  rw [show (i + 1).toNat = i.toNat + 1 by omega, List.take_succ_eq_append_getElem hl]
theorem stepNa (p : PNa) (a : ANa) (h : okNa p a) (hg : goNa p a = true) : ∃ b, stepC okNa rdNa FNa muNa p a b := by
  unfold goNa at hg
  rw [Bool.and_eq_true, decide_eq_true_eq] at hg
  obtain ⟨hi, hd⟩ := hg
  have hh := na_hd h hi (c := false) (by rw [hd]; rfl)
  have hin : inN p a = true := hh.2.1
  obtain ⟨h1, h2, h3, h4, h5, h6⟩ := h
  have hl : a.i.toNat < (L8 p.s).length := by rw [L8_len]; omega
  have ex : xNa p a = (L8 p.s)[a.i.toNat] := by
    unfold xNa
    rw [List.getD_eq_getElem?_getD, List.getElem?_eq_getElem hl]; rfl
  have e : bN p a = (((xNa p a).toNat : Nat) : Int) := byteAt_L8 _ _
  obtain ⟨q0, q1⟩ := natL_in a.i.toNat ((L8 p.s).take a.i.toNat) (by rw [List.length_take]; omega) h5
  have hq : (10 : Int) ^ a.i.toNat ≤ 10 ^ 9 := by
    have : (10 : Nat) ^ a.i.toNat ≤ 10 ^ 9 := Nat.pow_le_pow_right (by decide) (by omega)
    exact_mod_cast this
  have hq9 : (10 : Int) ^ 9 = 1000000000 := by decide
  rw [← h6] at q0 q1
  have hd' := hd
  unfold dig at hd'
  rw [Bool.and_eq_true, decide_eq_true_eq, decide_eq_true_eq] at hd'
  have way := na_n p a
  rw [wrap64 (n := a.i + 1) (by omega) (by omega), show IntKind.wrap .u8 (bN p a - 48) = (((xNa p a).toNat : Nat) : Int) - 48 by rw [IntKind.wrap_u8, e]; omega, wrap64 (n := a.n * 10) (by omega) (by omega), wrap64 (n := (((xNa p a).toNat : Nat) : Int) - 48) (by omega) (by omega), wrap64 (n := a.n * 10 + ((((xNa p a).toNat : Nat) : Int) - 48)) (by omega) (by omega)] at way
  refine ⟨_, T.path_eval way (allSay_append hh ⟨hin, trivial⟩), ⟨h1, h2, by show 0 ≤ a.i + 1; omega, by show a.i + 1 ≤ p.z; omega, ?_, ?_⟩, by show (p.z - (a.i + 1)).toNat < (p.z - a.i).toNat; omega⟩
  · show ∀ b ∈ (L8 p.s).take (a.i + 1).toNat, dig b = true
    rw [take_nextT h3 hl]
    intro b hb
    rcases List.mem_append.1 hb with q | q
    · exact h5 b q
    · rw [List.mem_singleton.1 q, ← ex]; exact hd
  · show a.n * 10 + ((((xNa p a).toNat : Nat) : Int) - 48) = natL ((L8 p.s).take (a.i + 1).toNat)
    rw [take_nextT h3 hl, natL_snoc, ← h6, ← ex]
noncomputable def outNa (p : PNa) (a : ANa) : T (Ex × St) := .ite none (decide (a.i < p.z)) (.ret (.ret, stN p a (iv 0) (.s (.bool false)) (iv a.n))) (.ret (.exit 0, stN p a .junk .junk (iv a.n)))
theorem exNa (p : PNa) (a : ANa) (h : okNa p a) (hg : goNa p a = false) (r : Ex × St) (hr : (outNa p a).eval = some r) : r.1 ≠ .normal ∧ (rdNa p a).eval = some r := by
  unfold outNa at hr
  by_cases hi : a.i < p.z
  · have hd : dig (xNa p a) = false := by
      unfold goNa at hg
      rw [decide_eq_true hi, Bool.true_and] at hg
      exact hg
    rw [decide_eq_true hi] at hr
    obtain rfl := Option.some.inj hr
    exact ⟨by simp, T.path_eval (na_f p a) (na_hd h hi (by rw [hd]; rfl))⟩
  · rw [decide_eq_false hi] at hr
    obtain rfl := Option.some.inj hr
    exact ⟨by simp, T.path_eval (na_x p a) ⟨decide_eq_false hi, trivial⟩⟩
noncomputable def famNa : LSpec := famE [0,6,18,19] SNa SNax 3000 3000 42 decNa okNa goNa rdNa FNa muNa outNa
theorem lpNa_ok : LoopOk K0 lpNa famNa := famE_ok (vs := vsNa) (bs := bsNa) K0_ok mixed (noLoops_ok _) decNa_ok (fun _ _ => rfl) (fun _ _ => rfl) stepNa exNa
noncomputable def natX : Eng.Spec := execS K0 (byReg [(rgNa, famNa)]) 28
theorem natX_ok : SpecOk Tryd.prog 28 natX := execS_loops K0_ok mixed Tryd.func28 (by kernel_rfl) (by kernel_rfl) (one_lp (by kernel_rfl) rgNa_is lpNa_ok)
noncomputable def eNa (s : ByteArray) : ANa := endW (nxtC okNa goNa rdNa FNa muNa ⟨s, (s.size : Int)⟩) ⟨0, 0⟩
def shK (s : ByteArray) (k : Int) : Bool := bif decide ((s.size : Int) < 1) then true else decide (k < (s.size : Int))
def kV (e : Bool) (k : Int) : V := match e with
  | true => .n .i64 k
  | false => iv k
theorem nat_t (e : Bool) (s : ByteArray) (k : Int) : T.path [true] (T.anon (natX [.s (.str s), kV e k])) = some ([(shK s k, true)], .tup [iv 0, .ff]) := by cases e <;> kernel_rfl
theorem nat_f (e : Bool) (s : ByteArray) (k : Int) : T.path [false, true, true] (T.anon (natX [.s (.str s), kV e k])) = some ([(shK s k, false), (invC okNa ⟨s, (s.size : Int)⟩ ⟨0, 0⟩, true), (decide ((eNa s).i < (s.size : Int)), true)], .tup [iv 0, .s (.bool false)]) := by cases e <;> kernel_rfl
theorem nat_n (e : Bool) (s : ByteArray) (k : Int) : T.path [false, true, false] (T.anon (natX [.s (.str s), kV e k])) = some ([(shK s k, false), (invC okNa ⟨s, (s.size : Int)⟩ ⟨0, 0⟩, true), (decide ((eNa s).i < (s.size : Int)), false)], .tup [iv (eNa s).n, .tt]) := by cases e <;> kernel_rfl
def natO (l : List UInt8) (k : Int) : Bool := decide (1 ≤ l.length) && (decide ((l.length : Int) ≤ k) && l.all dig)
def natI (l : List UInt8) (k : Int) : Int := bif natO l k then natL l else 0
def natV (s : ByteArray) (k : Int) : V := .tup [iv (natI (L8 s) k), .s (.bool (natO (L8 s) k))]
theorem nat_run (e : Bool) (s : ByteArray) {k : Int} (hk : k ≤ 9) : ∃ v, (natX [.s (.str s), kV e k]).eval = some v ∧ flat v = true ∧ v.den nu0 = (natV s k).den nu0 := by
  rw [← T.eval_anon (t := natX _)]
  unfold natV natI
  cases hs : shK s k with
  | true =>
    refine ⟨_, T.path_eval (nat_t e s k) ⟨hs, trivial⟩, rfl, ?_⟩
    have : natO (L8 s) k = false := by
      unfold natO; rw [L8_len]
      unfold shK at hs
      by_cases q : (s.size : Int) < 1
      · rw [decide_eq_false (show ¬ 1 ≤ s.size by omega)]; rfl
      · rw [decide_eq_false q] at hs
        have hs : k < (s.size : Int) := of_decide_eq_true hs
        rw [decide_eq_false (show ¬ (s.size : Int) ≤ k by omega)]; simp
    rw [this]; rfl
  | false =>
    have h1 : 1 ≤ s.size ∧ (s.size : Int) ≤ k := by
      unfold shK at hs
      by_cases q : (s.size : Int) < 1
      · rw [decide_eq_true q] at hs; cases hs
      · rw [decide_eq_false q] at hs
        have hs : ¬ k < (s.size : Int) := of_decide_eq_false hs
        omega
    have h0 : okNa ⟨s, (s.size : Int)⟩ ⟨0, 0⟩ := ⟨rfl, by show (s.size : Int) ≤ 9; omega, Int.le_refl _, by show (0 : Int) ≤ (s.size : Int); omega, fun b hb => by
      have hb : b ∈ (L8 s).take 0 := hb
      simp at hb, by show (0 : Int) = natL ((L8 s).take 0); rfl⟩
    obtain ⟨k1, k2⟩ := endC stepNa h0
    have k1 : okNa ⟨s, (s.size : Int)⟩ (eNa s) := k1
    have k2 : goNa ⟨s, (s.size : Int)⟩ (eNa s) = false := k2
    obtain ⟨-, -, i0, i1, hd, hn⟩ := k1
    have i1 : (eNa s).i ≤ (s.size : Int) := i1
    have hd : ∀ b ∈ (L8 s).take (eNa s).i.toNat, dig b = true := hd
    have hn : (eNa s).n = natL ((L8 s).take (eNa s).i.toNat) := hn
    by_cases hi : (eNa s).i < (s.size : Int)
    · refine ⟨_, T.path_eval (nat_f e s k) ⟨hs, invC_is h0, decide_eq_true hi, trivial⟩, rfl, ?_⟩
      have hx : dig (xNa ⟨s, (s.size : Int)⟩ (eNa s)) = false := by
        unfold goNa at k2
        rw [decide_eq_true (show (eNa s).i < PNa.z ⟨s, (s.size : Int)⟩ from hi), Bool.true_and] at k2
        exact k2
      have hl : (eNa s).i.toNat < (L8 s).length := by rw [L8_len]; omega
      have ex : xNa ⟨s, (s.size : Int)⟩ (eNa s) = (L8 s)[(eNa s).i.toNat] := by
        unfold xNa
        rw [List.getD_eq_getElem?_getD]
        show ((L8 s)[(eNa s).i.toNat]?).getD 0 = _
        rw [List.getElem?_eq_getElem hl]; rfl
      have : (L8 s).all dig = false := by
        rw [List.all_eq_false]
        exact ⟨_, List.getElem_mem hl, by rw [← ex, hx]; simp⟩
      have : natO (L8 s) k = false := by unfold natO; rw [this]; simp
      rw [this]; rfl
    · refine ⟨_, T.path_eval (nat_n e s k) ⟨hs, invC_is h0, decide_eq_false hi, trivial⟩, rfl, ?_⟩
      rw [show (eNa s).i.toNat = (L8 s).length by rw [L8_len]; omega, List.take_length] at hd hn
      have : natO (L8 s) k = true := by
        unfold natO
        rw [List.all_eq_true.2 hd, L8_len, decide_eq_true h1.1, decide_eq_true h1.2]; rfl
      rw [this, hn]; rfl
def natS : Eng.Spec
  | [.s (.str s), .n .i64 k] => .ite none (decide (k ≤ 9)) (.ret (natV s k)) .fail
  | [.s (.str s), .s (.int .i64 k)] => .ite none (decide (k ≤ 9)) (.ret (natV s k)) .fail
  | _ => .fail
theorem natS_ok : SpecOk Tryd.prog 28 natS := natX_ok.of_den fun args v hfl h => by
  clear hfl
  unfold natS at h
  split at h
  · rename_i s k
    obtain ⟨hb, h⟩ := ite_T' h
    obtain rfl := Option.some.inj h
    obtain ⟨v, h1, h2, h3⟩ := nat_run true s (of_decide_eq_true hb)
    exact ⟨v, h1, ⟨h2, rfl⟩, h3⟩
  · rename_i s k
    obtain ⟨hb, h⟩ := ite_T' h
    obtain rfl := Option.some.inj h
    obtain ⟨v, h1, h2, h3⟩ := nat_run false s (of_decide_eq_true hb)
    exact ⟨v, h1, ⟨h2, rfl⟩, h3⟩
  · cases h
/-! ### the document's digits -/
abbrev ten : ByteArray := ⟨#[48, 49, 50, 51, 52, 53, 54, 55, 56, 57]⟩
theorem ten_at : ∀ i : Nat, i < 10 → ten.extract i (i + 1) = ⟨#[UInt8.ofNat (48 + i)]⟩
  | 0, _ => rfl
  | 1, _ => rfl
  | 2, _ => rfl
  | 3, _ => rfl
  | 4, _ => rfl
  | 5, _ => rfl
  | 6, _ => rfl
  | 7, _ => rfl
  | 8, _ => rfl
  | 9, _ => rfl
  | n + 10, h => by omega
def dgB (i : Int) : ByteArray := ten.extract i.toNat (IntKind.wrap .i64 (i + 1)).toNat
theorem dgB_is {i : Int} (h0 : 0 ≤ i) (h1 : i < 10) : dgB i = ⟨#[UInt8.ofNat (48 + i.toNat)]⟩ := by
  unfold dgB
  rw [wrap64 (by omega) (by omega), show (i + 1).toNat = i.toNat + 1 by omega]
  exact ten_at _ (by omega)
def cutC (i : Int) : Bool := decide (0 ≤ i) && (decide (i ≤ IntKind.wrap .i64 (i + 1)) && decide (IntKind.wrap .i64 (i + 1) ≤ (ten.size : Int)))
theorem cutC_is {i : Int} (h0 : 0 ≤ i) (h1 : i < 10) : cutC i = true := by
  unfold cutC
  rw [wrap64 (by omega) (by omega), decide_eq_true h0, decide_eq_true (show i ≤ i + 1 by omega), decide_eq_true (show i + 1 ≤ (ten.size : Int) by show i + 1 ≤ 10; omega)]; rfl
def over (n : Nat) : Bool := decide ((n : Int) > IntKind.max .i64)
theorem over_no {n : Nat} (h : n ≤ 9000000000) : over n = false := by
  have : IntKind.max .i64 = 9223372036854775807 := by decide
  unfold over; rw [this]; exact decide_eq_false (by omega)
theorem de_n (p : PDe) (a : ADe) : T.path [true, false, false, true, false, false] (rdDe p a) = some ([(decide ((9 : Int) < a.n), true), ((10 : Int) == 0, false), ((10 : Int) == 0, false), (cutC (Int.tmod a.n 10), true), (over ((dgB (Int.tmod a.n 10)).size + a.s.size), false), ((10 : Int) == 0, false)], (.normal, FDe p ⟨IntKind.wrap .i64 (Int.tdiv a.n 10), dgB (Int.tmod a.n 10) ++ a.s⟩)) := by kernel_rfl
theorem de_x (p : PDe) (a : ADe) : T.path [false] (rdDe p a) = some ([(decide ((9 : Int) < a.n), false)], (.exit 0, FDe p a)) := by kernel_rfl
structure okDe (p : PDe) (a : ADe) : Prop where
  n0 : 0 ≤ a.n
  k : ∃ k : Nat, k + a.s.size = 19 ∧ a.n < 10 ^ k
def goDe (p : PDe) (a : ADe) : Bool := decide ((9 : Int) < a.n)
def muDe (p : PDe) (a : ADe) : Nat := a.n.toNat
def nxDe (a : ADe) : ADe := ⟨a.n / 10, ⟨#[UInt8.ofNat (48 + (a.n % 10).toNat)]⟩ ++ a.s⟩
theorem de_on {p : PDe} {a : ADe} (h : okDe p a) (hg : goDe p a = true) : (rdDe p a).eval = some (.normal, FDe p (nxDe a)) ∧ okDe p (nxDe a) := by
  have hn : 9 < a.n := of_decide_eq_true hg
  obtain ⟨h0, k, h1, h2⟩ := h
  have e1 : Int.tmod a.n 10 = a.n % 10 := Int.tmod_eq_emod_of_nonneg h0
  have e2 : Int.tdiv a.n 10 = a.n / 10 := Int.tdiv_eq_ediv_of_nonneg h0
  obtain ⟨m, rfl⟩ : ∃ m, k = m + 1 := by
    cases k with
    | zero => simp at h2; omega
    | succ m => exact ⟨m, rfl⟩
  have e3 : (10 : Int) ^ (m + 1) = 10 ^ m * 10 := Int.pow_succ 10 m
  have hb : (10 : Int) ^ (m + 1) ≤ 10 ^ 19 := by
    have : (10 : Nat) ^ (m + 1) ≤ 10 ^ 19 := Nat.pow_le_pow_right (by decide) (by omega)
    exact_mod_cast this
  have hb9 : (10 : Int) ^ 19 = 10000000000000000000 := by decide
  have way := de_n p a
  rw [e1, e2, dgB_is (show 0 ≤ a.n % 10 by omega) (by omega), wrap64 (n := a.n / 10) (by omega) (by omega)] at way
  have sz1 : (⟨#[UInt8.ofNat (48 + (a.n % 10).toNat)]⟩ : ByteArray).size = 1 := rfl
  refine ⟨T.path_eval way ⟨hg, rfl, rfl, cutC_is (by omega) (by omega), over_no (by rw [sz1]; omega), rfl, trivial⟩, by show 0 ≤ a.n / 10; omega, m, ?_, ?_⟩
  · show m + (⟨#[UInt8.ofNat (48 + (a.n % 10).toNat)]⟩ ++ a.s : ByteArray).size = 19
    rw [ByteArray.size_append, sz1]; omega
  · show a.n / 10 < 10 ^ m
    omega
theorem stepDe (p : PDe) (a : ADe) (h : okDe p a) (hg : goDe p a = true) : ∃ b, stepC okDe rdDe FDe muDe p a b := by
  obtain ⟨r1, r2⟩ := de_on h hg
  have hn : 9 < a.n := of_decide_eq_true hg
  exact ⟨_, r1, r2, by show (a.n / 10).toNat < a.n.toNat; omega⟩
theorem exDe (p : PDe) (a : ADe) (h : okDe p a) (hg : goDe p a = false) : (rdDe p a).eval = some (.exit 0, FDe p a) := T.path_eval (de_x p a) ⟨hg, trivial⟩
noncomputable def famDe : LSpec := famC [0,3] SDe 3000 3000 22 decDe okDe goDe rdDe FDe muDe (.exit 0)
theorem lpDe_ok : LoopOk K0 lpDe famDe := famC_ok (vs := vsDe) (bs := bsDe) K0_ok mixed (noLoops_ok _) decDe_ok (by simp) (fun _ _ => rfl) (fun _ _ => rfl) stepDe exDe
noncomputable def decX : Eng.Spec := execS K0 (byReg [(rgDe, famDe)]) 42
theorem decX_ok : SpecOk Tryd.prog 42 decX := execS_loops K0_ok mixed Tryd.func42 (by kernel_rfl) (by kernel_rfl) (one_lp (by kernel_rfl) rgDe_is lpDe_ok)
theorem FDe_inj {p : PDe} {a b : ADe} (h : FDe p a = FDe p b) : a = b := by
  have h : (mkSt [0, 3] (keysR SDe) 3000 22 (vsDe p a) (bsDe p a)).tmps = (mkSt [0, 3] (keysR SDe) 3000 22 (vsDe p b) (bsDe p b)).tmps := congrArg St.tmps h
  have h : [(0, iv a.n), (3, V.s (.str a.s))] = [(0, iv b.n), (3, V.s (.str b.s))] := h
  obtain ⟨n, s⟩ := a
  obtain ⟨m, t⟩ := b
  unfold iv at h
  simp only [List.cons.injEq, Prod.mk.injEq, V.s.injEq, S.int.injEq, S.str.injEq, true_and, and_true] at h
  obtain ⟨rfl, rfl⟩ := h
  rfl
noncomputable def eDe (n : Int) : ADe := endW (nxtC okDe goDe rdDe FDe muDe ⟨⟩) ⟨n, ⟨#[]⟩⟩
theorem dec_w (n : Int) : T.path [true, true, false] (T.anon (decX [.s (.int .i64 n)])) = some ([(invC okDe ⟨⟩ ⟨n, ⟨#[]⟩⟩, true), (cutC (eDe n).n, true), (over ((dgB (eDe n).n).size + (eDe n).s.size), false)], .s (.str (dgB (eDe n).n ++ (eDe n).s))) := by kernel_rfl
theorem L8_append (a b : ByteArray) : L8 (a ++ b) = L8 a ++ L8 b := by
  unfold L8
  rw [ByteArray.data_append, Array.toList_append]
theorem of_L8 {a b : ByteArray} (h : L8 a = L8 b) : a = b := ByteArray.ext (Array.ext' h)
theorem dec_end {n : Int} (h0 : 0 ≤ n) (h1 : n ≤ 9223372036854775807) : okDe ⟨⟩ (eDe n) ∧ (eDe n).n ≤ 9 ∧ Lib.decDigits (eDe n).n.toNat ++ L8 (eDe n).s = Lib.decDigits n.toNat ∧ invC okDe ⟨⟩ ⟨n, ⟨#[]⟩⟩ = true := by
  have h0' : okDe ⟨⟩ ⟨n, ⟨#[]⟩⟩ := ⟨h0, 19, rfl, by
    have : (10 : Int) ^ 19 = 10000000000000000000 := by decide
    show n < 10 ^ 19
    omega⟩
  obtain ⟨k1, k2, k3⟩ := endW_says (nxt := nxtC okDe goDe rdDe FDe muDe ⟨⟩) (I := fun a => okDe ⟨⟩ a) (μ := muDe ⟨⟩) (fun a b _ e => (nxtC_some e).2.2) h0'
  have k1 : okDe ⟨⟩ (eDe n) := k1
  have g : goDe ⟨⟩ (eDe n) = false := nxtC_none stepDe k1 k2
  refine ⟨k1, by have := of_decide_eq_false g; omega, ?_, invC_is h0'⟩
  refine k3 (fun a => Lib.decDigits a.n.toNat ++ L8 a.s = Lib.decDigits n.toNat) (by show Lib.decDigits n.toNat ++ [] = _; rw [List.append_nil]) ?_
  intro a b ha hq e
  obtain ⟨eg, es⟩ := nxtC_some e
  obtain ⟨r1, -⟩ := de_on ha eg
  have hn : 9 < a.n := of_decide_eq_true eg
  have : b = nxDe a := by
    have := es.1.symm.trans r1
    exact FDe_inj (by
      have := Option.some.inj this
      exact congrArg Prod.snd this)
  subst this
  show Lib.decDigits (a.n / 10).toNat ++ L8 (⟨#[UInt8.ofNat (48 + (a.n % 10).toNat)]⟩ ++ a.s) = _
  rw [← hq, L8_append]
  conv => rhs; rw [Lib.decDigits, dif_neg (show ¬ a.n.toNat < 10 by omega)]
  rw [show (a.n / 10).toNat = a.n.toNat / 10 by omega, show (a.n % 10).toNat = a.n.toNat % 10 by omega, List.append_assoc]
  rfl
theorem dec_run {n : Int} (h0 : 0 ≤ n) (h1 : n ≤ 9223372036854775807) : (decX [.s (.int .i64 n)]).eval = some (.s (.str (itoaB n))) := by
  rw [← T.eval_anon (t := decX _)]
  obtain ⟨k1, k2, k3, k4⟩ := dec_end h0 h1
  have e := dgB_is k1.n0 (by omega)
  have sz1 : (dgB (eDe n).n).size = 1 := by rw [e]; rfl
  rw [T.path_eval (dec_w n) ⟨k4, cutC_is k1.n0 (by omega), over_no (by obtain ⟨_, k, hk, _⟩ := k1; rw [sz1]; omega), trivial⟩]
  congr 3
  refine of_L8 ?_
  rw [L8_append, e]
  have : L8 (itoaB n) = itoaL n := rfl
  rw [this, ← itoaL_is (by unfold in64; rw [decide_eq_true (show -9223372036854775808 ≤ n by omega), decide_eq_true h1]; rfl)]
  unfold Lib.itoa
  rw [if_neg (by omega), ← k3]
  conv => rhs; rw [Lib.decDigits, dif_pos (show (eDe n).n.toNat < 10 by omega)]
  rfl
def decS : Eng.Spec
  | [.s (.int .i64 n)] => .ite none (decide (0 ≤ n) && decide (n ≤ 9223372036854775807)) (.ret (.s (.str (itoaB n)))) .fail
  | _ => .fail
theorem decS_ok : SpecOk Tryd.prog 42 decS := decX_ok.of_den fun args v hfl h => by
  clear hfl
  unfold decS at h
  split at h
  · rename_i n
    obtain ⟨hb, h⟩ := ite_T' h
    rw [Bool.and_eq_true, decide_eq_true_eq, decide_eq_true_eq] at hb
    obtain rfl := Option.some.inj h
    exact ⟨_, dec_run hb.1 hb.2, ⟨rfl, rfl⟩, rfl⟩
  · cases h
end Go.Proofs.YtdangjhbkffbnaaDoor.Txt

/- Layer 4: numbers: contracts. -/
namespace Go.Proofs.YtdangjhbkffbnaaDoor.Txt
open Go.Eng Go.RowKit
set_option linter.unusedVariables false
set_option linter.unusedSimpArgs false
set_option maxRecDepth 100000
noncomputable def N1 : Cfg := ⟨Tryd.prog, lookG [(27, .val cutS), (26, .val preS), (46, .val trimRS), (45, .val fmtS), (28, .val natS)], [], 0⟩
theorem N1_ok : N1.Ok := Cfg.ok ⟨cutS_ok, preS_ok, trimRS_ok, fmtS_ok, natS_ok, trivial⟩ trivial
noncomputable def numX : Eng.Spec := execS N1 (rounds N1 4 1) 9
theorem numX_ok : SpecOk Tryd.prog 9 numX := execS_rounds N1_ok mixed 4 1 Tryd.func9 (by kernel_rfl) (by kernel_rfl)
noncomputable def shoX : Eng.Spec := execS N1 noLoops 15
theorem shoX_ok : SpecOk Tryd.prog 15 shoX := execS_plain N1_ok mixed Tryd.func15 (by kernel_rfl) (by kernel_rfl)
/-! ### a number of thousandths, read -/
def DD (s : ByteArray) : ByteArray := byA (Lib.trimPrefix (L8 s) [45])
def FR (s : ByteArray) : List UInt8 := (cutF (L8 (DD s)) [46]).1
def BK (s : ByteArray) : List UInt8 := (cutF (L8 (DD s)) [46]).2.1
def PT (s : ByteArray) : Bool := (cutF (L8 (DD s)) [46]).2.2
def W (n : Int) : Int := IntKind.wrap .i64 n
def sgW (g : Bool) (n : Int) : Int := bif g then W (0 - n) else n
theorem L8_byA (l : List UInt8) : L8 (byA l) = l := rfl
def lf (s : ByteArray) : Int := natI (L8 (byA (FR s))) 9
def lb (s : ByteArray) : Int := natI (L8 (byA (BK s))) 3
def of (s : ByteArray) : Bool := natO (L8 (byA (FR s))) 9
def ob (s : ByteArray) : Bool := natO (L8 (byA (BK s))) 3
def lsW (s : ByteArray) : Int := W (3 - ((byA (BK s)).size : Int))
def hM (s : ByteArray) (c : Bool) : List (Bool × Bool) := [(decide ((DD s).size < 4294967281), true), (decide ((9 : Int) ≤ 9), true), (!of s, c)]
def hP (s : ByteArray) (c : Bool) : List (Bool × Bool) := hM s false ++ [(PT s, true), (decide ((3 : Int) ≤ 9), true), (!ob s, c)]
theorem num_a (s : ByteArray) : T.path [true, true, true] (T.anon (numX [.s (.str s)])) = some (hM s true, .tup [iv 0, .ff]) := by kernel_rfl
theorem num_b (s : ByteArray) : T.path [true, true, false, true, true, true] (T.anon (numX [.s (.str s)])) = some (hP s true, .tup [iv 0, .ff]) := by kernel_rfl
theorem num_0 (g : Bool) (s : ByteArray) : T.path [true, true, false, false, g] (T.anon (numX [.s (.str s)])) = some (hM s false ++ [(PT s, false), (Lib.hasPrefix (L8 s) [45], g)], .tup [iv (sgW g (W (lf s * 1000))), .tt]) := by cases g <;> kernel_rfl
theorem num_3 (g : Bool) (s : ByteArray) : T.path [true, true, false, true, true, false, false, g] (T.anon (numX [.s (.str s)])) = some (hP s false ++ [(decide (0 < lsW s), false), (Lib.hasPrefix (L8 s) [45], g)], .tup [iv (sgW g (W (W (lf s * 1000) + lb s))), .tt]) := by cases g <;> kernel_rfl
theorem num_2 (g : Bool) (s : ByteArray) : T.path [true, true, false, true, true, false, true, false, g] (T.anon (numX [.s (.str s)])) = some (hP s false ++ [(decide (0 < lsW s), true), (decide (W (0 + 1) < lsW s), false), (Lib.hasPrefix (L8 s) [45], g)], .tup [iv (sgW g (W (W (lf s * 1000) + W (lb s * 10)))), .tt]) := by cases g <;> kernel_rfl
theorem num_1 (g : Bool) (s : ByteArray) : T.path [true, true, false, true, true, false, true, true, false, g] (T.anon (numX [.s (.str s)])) = some (hP s false ++ [(decide (0 < lsW s), true), (decide (W (0 + 1) < lsW s), true), (decide (W (W (0 + 1) + 1) < lsW s), false), (Lib.hasPrefix (L8 s) [45], g)], .tup [iv (sgW g (W (W (lf s * 1000) + W (W (lb s * 10) * 10)))), .tt]) := by cases g <;> kernel_rfl
/-- what a text says in thousandths -/
def numF (l : List UInt8) : Option Int :=
  let r := cutF (Lib.trimPrefix l [45]) [46]
  if natO r.1 9 then
    if r.2.2 then (if natO r.2.1 3 then some (bif Lib.hasPrefix l [45] then -(natL r.1 * 1000 + natL r.2.1 * 10 ^ (3 - r.2.1.length)) else natL r.1 * 1000 + natL r.2.1 * 10 ^ (3 - r.2.1.length)) else none)
    else some (bif Lib.hasPrefix l [45] then -(natL r.1 * 1000) else natL r.1 * 1000)
  else none
def numV (l : List UInt8) : V := .tup [iv ((numF l).getD 0), .s (.bool (numF l).isSome)]
theorem natO_is {l : List UInt8} {k : Nat} (h : natO l k = true) : 1 ≤ l.length ∧ l.length ≤ k ∧ 0 ≤ natL l ∧ natL l < 10 ^ l.length ∧ ∀ b ∈ l, dig b = true := by
  unfold natO at h
  rw [Bool.and_eq_true, Bool.and_eq_true, decide_eq_true_eq, decide_eq_true_eq, List.all_eq_true] at h
  obtain ⟨h1, h2, h3⟩ := h
  obtain ⟨q0, q1⟩ := natL_in l.length l rfl h3
  exact ⟨h1, by omega, q0, q1, h3⟩
theorem pow_le {a b : Nat} (h : a ≤ b) : (10 : Int) ^ a ≤ 10 ^ b := by
  have : (10 : Nat) ^ a ≤ 10 ^ b := Nat.pow_le_pow_right (by decide) h
  exact_mod_cast this
theorem Wi {n : Int} (h0 : -9223372036854775808 ≤ n) (h1 : n ≤ 9223372036854775807) : W n = n := wrap64 h0 h1
theorem trimPrefix_len (l p : List UInt8) : (Lib.trimPrefix l p).length ≤ l.length := by
  unfold Lib.trimPrefix
  split
  · rw [List.length_drop]; omega
  · exact Nat.le_refl _
theorem num_run {s : ByteArray} (hs : s.size < 4294967281) : ∃ v, (numX [.s (.str s)]).eval = some v ∧ flat v = true ∧ v.den nu0 = (numV (L8 s)).den nu0 := by
  rw [← T.eval_anon (t := numX _)]
  have hD : (DD s).size < 4294967281 := by
    rw [← L8_len]
    have := trimPrefix_len (L8 s) [45]
    have e : L8 (DD s) = Lib.trimPrefix (L8 s) [45] := rfl
    rw [e]
    rw [L8_len] at this
    omega
  have e1 : of s = natO (FR s) 9 := rfl
  have e2 : ob s = natO (BK s) 3 := rfl
  have hM' : ∀ c, (!of s) = c → allSay (hM s c) := fun c hc => ⟨decide_eq_true hD, rfl, hc, trivial⟩
  have p9 : (10 : Int) ^ 9 = 1000000000 := by decide
  have p3 : (10 : Int) ^ 3 = 1000 := by decide
  unfold numV
  cases ho : of s with
  | false =>
    refine ⟨_, T.path_eval (num_a s) (hM' true (by rw [ho]; rfl)), rfl, ?_⟩
    have : numF (L8 s) = none := by
      show (if natO (FR s) 9 = true then _ else none) = none
      rw [← e1, ho]; rfl
    rw [this]; rfl
  | true =>
    have ho' : natO (FR s) 9 = true := by rw [← e1]; exact ho
    obtain ⟨f1, f2, f3, f4, -⟩ := natO_is (k := 9) ho'
    have f5 := pow_le f2
    have hlf : lf s = natL (FR s) := by unfold lf natI; rw [L8_byA, ho']; rfl
    have w1 : W (lf s * 1000) = natL (FR s) * 1000 := by rw [hlf]; exact Wi (by omega) (by omega)
    cases hp : PT s with
    | false =>
      refine ⟨_, T.path_eval (num_0 (Lib.hasPrefix (L8 s) [45]) s) (allSay_append (hM' false (by rw [ho]; rfl)) ⟨hp, rfl, trivial⟩), rfl, ?_⟩
      have : numF (L8 s) = some (bif Lib.hasPrefix (L8 s) [45] then -(natL (FR s) * 1000) else natL (FR s) * 1000) := by
        show (if natO (FR s) 9 = true then (if PT s = true then _ else _) else none) = _
        rw [if_pos ho', hp]; rfl
      rw [this, w1]
      unfold sgW
      cases Lib.hasPrefix (L8 s) [45]
      · rfl
      · show (V.tup [iv (W (0 - natL (FR s) * 1000)), .tt]).den nu0 = _
        rw [Wi (by omega) (by omega), Int.zero_sub]; rfl
    | true =>
      cases hb : ob s with
      | false =>
        refine ⟨_, T.path_eval (num_b s) (allSay_append (hM' false (by rw [ho]; rfl)) ⟨hp, rfl, by rw [hb]; rfl, trivial⟩), rfl, ?_⟩
        have : numF (L8 s) = none := by
          show (if natO (FR s) 9 = true then (if PT s = true then (if natO (BK s) 3 = true then _ else none) else _) else none) = none
          rw [if_pos ho', if_pos hp, ← e2, hb]; rfl
        rw [this]; rfl
      | true =>
        have hb' : natO (BK s) 3 = true := by rw [← e2]; exact hb
        obtain ⟨b1, b2, b3, b4, -⟩ := natO_is (k := 3) hb'
        have hlb : lb s = natL (BK s) := by unfold lb natI; rw [L8_byA, hb']; rfl
        have hls : lsW s = 3 - ((BK s).length : Int) := by
          unfold lsW
          rw [← L8_len, L8_byA, Wi (by omega) (by omega)]
        have hP' : allSay (hP s false) := allSay_append (hM' false (by rw [ho]; rfl)) ⟨hp, rfl, by rw [hb]; rfl, trivial⟩
        have r : numF (L8 s) = some (bif Lib.hasPrefix (L8 s) [45] then -(natL (FR s) * 1000 + natL (BK s) * 10 ^ (3 - (BK s).length)) else natL (FR s) * 1000 + natL (BK s) * 10 ^ (3 - (BK s).length)) := by
          show (if natO (FR s) 9 = true then (if PT s = true then (if natO (BK s) 3 = true then _ else none) else _) else none) = _
          rw [if_pos ho', if_pos hp, if_pos hb']; rfl
        have W01 : W (0 + 1) = 1 := by decide
        have W11 : W (W (0 + 1) + 1) = 2 := by decide
        have fin : ∀ x : Int, 0 ≤ x → x < 1000 → x = natL (BK s) * 10 ^ (3 - (BK s).length) → (V.tup [iv (sgW (Lib.hasPrefix (L8 s) [45]) (W (W (lf s * 1000) + x))), .tt]).den nu0 = (V.tup [iv ((numF (L8 s)).getD 0), .s (.bool (numF (L8 s)).isSome)]).den nu0 := by
          intro x x0 x1 hx
          rw [r, ← hx, w1, Wi (n := natL (FR s) * 1000 + x) (by omega) (by omega)]
          unfold sgW
          cases Lib.hasPrefix (L8 s) [45]
          · rfl
          · show (V.tup [iv (W (0 - (natL (FR s) * 1000 + x))), .tt]).den nu0 = _
            rw [Wi (by omega) (by omega), Int.zero_sub]; rfl
        have hk : (BK s).length = 1 ∨ (BK s).length = 2 ∨ (BK s).length = 3 := by omega
        rcases hk with q | q | q
        · rw [q] at b4
          refine ⟨_, T.path_eval (num_1 (Lib.hasPrefix (L8 s) [45]) s) (allSay_append hP' ⟨decide_eq_true (by omega), decide_eq_true (by omega), decide_eq_false (by omega), rfl, trivial⟩), rfl, ?_⟩
          have b4 : natL (BK s) < 10 := by simpa using b4
          rw [hlb, Wi (n := natL (BK s) * 10) (by omega) (by omega), Wi (n := natL (BK s) * 10 * 10) (by omega) (by omega)]
          exact fin _ (by omega) (by omega) (by rw [q]; show _ = natL (BK s) * 10 ^ 2; omega)
        · rw [q] at b4
          refine ⟨_, T.path_eval (num_2 (Lib.hasPrefix (L8 s) [45]) s) (allSay_append hP' ⟨decide_eq_true (by omega), decide_eq_false (by omega), rfl, trivial⟩), rfl, ?_⟩
          have b4 : natL (BK s) < 100 := by simpa using b4
          rw [hlb, Wi (n := natL (BK s) * 10) (by omega) (by omega)]
          exact fin _ (by omega) (by omega) (by rw [q]; show _ = natL (BK s) * 10 ^ 1; omega)
        · rw [q] at b4
          refine ⟨_, T.path_eval (num_3 (Lib.hasPrefix (L8 s) [45]) s) (allSay_append hP' ⟨decide_eq_false (by omega), rfl, trivial⟩), rfl, ?_⟩
          have b4 : natL (BK s) < 1000 := by simpa using b4
          rw [hlb]
          exact fin _ (by omega) (by omega) (by rw [q]; show _ = natL (BK s) * 10 ^ 0; omega)
def numS : Eng.Spec
  | [.s (.str s)] => .ite none (decide (s.size < 4294967281)) (.ret (numV (L8 s))) .fail
  | _ => .fail
theorem numS_ok : SpecOk Tryd.prog 9 numS := numX_ok.of_den fun args v hfl h => by
  clear hfl
  unfold numS at h
  split at h
  · rename_i s
    obtain ⟨hb, h⟩ := ite_T' h
    obtain rfl := Option.some.inj h
    obtain ⟨v, h1, h2, h3⟩ := num_run (of_decide_eq_true hb)
    exact ⟨v, h1, ⟨h2, rfl⟩, h3⟩
  · cases h
/-! ### a number of thousandths, shown -/
def MX (n : Int) : Int := if -9223372036854775807 > n then -9223372036854775807 else n
def uS (g : Bool) (n : Int) : Int := bif g then W (0 - MX n) else MX n
def sG (g : Bool) : ByteArray := bif g then ⟨#[45]⟩ else ⟨#[]⟩
def hdW (g : Bool) (n : Int) : ByteArray := itoaB (W (Int.tdiv (uS g n) 1000))
def rsS (g : Bool) (n : Int) : Int := Int.tmod (uS g n) 1000
def dgS (g : Bool) (n : Int) : ByteArray := itoaB (W (1000 + rsS g n))
def exS (g : Bool) (n : Int) : ByteArray := (dgS g n).extract (Int.toNat 1) (Int.toNat ((dgS g n).size : Int))
def trS (g : Bool) (n : Int) : ByteArray := byA (trR (L8 (exS g n)) 48)
def hS (g : Bool) (n : Int) (c : Bool) : List (Bool × Bool) := [(decide (MX n < 0), g), ((1000 : Int) == 0, false), (in64 (W (Int.tdiv (uS g n) 1000)), true), (over ((sG g).size + (hdW g n).size), false), ((1000 : Int) == 0, false), (rsS g n == 0, c)]
theorem sho_0 (g : Bool) (n : Int) : T.path [g, false, true, false, false, true] (T.anon (shoX [.s (.int .i64 n)])) = some (hS g n true, .s (.str (sG g ++ hdW g n))) := by cases g <;> kernel_rfl
def cS (g : Bool) (n : Int) : List (Bool × Bool) := [(in64 (W (1000 + rsS g n)), true), (decide ((0 : Int) ≤ 1) && (decide ((1 : Int) ≤ ((dgS g n).size : Int)) && decide (((dgS g n).size : Int) ≤ ((dgS g n).size : Int))), true), (over ((sG g ++ hdW g n).size + (⟨#[46]⟩ : ByteArray).size), false), (decide ((exS g n).size ≤ 9223372036854775807), true), (over ((sG g ++ hdW g n ++ ⟨#[46]⟩).size + (trS g n).size), false)]
theorem cS_say {g : Bool} {n : Int} (a1 : in64 (W (1000 + rsS g n)) = true) (a2 : (decide ((0 : Int) ≤ 1) && (decide ((1 : Int) ≤ ((dgS g n).size : Int)) && decide (((dgS g n).size : Int) ≤ ((dgS g n).size : Int)))) = true) (a3 : over ((sG g ++ hdW g n).size + (⟨#[46]⟩ : ByteArray).size) = false) (a4 : decide ((exS g n).size ≤ 9223372036854775807) = true) (a5 : over ((sG g ++ hdW g n ++ ⟨#[46]⟩).size + (trS g n).size) = false) : allSay (cS g n) := by
  unfold cS
  simp only [allSay]
  exact ⟨a1, a2, a3, a4, a5, trivial⟩
theorem sho_1 (g : Bool) (n : Int) : T.path [g, false, true, false, false, false, true, true, false, true, false] (T.anon (shoX [.s (.int .i64 n)])) = some (hS g n false ++ cS g n, .s (.str (sG g ++ hdW g n ++ ⟨#[46]⟩ ++ trS g n))) := by cases g <;> kernel_rfl
/-- what is shown of a number -/
def showB (n : Int) : ByteArray :=
  let g := decide (MX n < 0)
  let u := if MX n < 0 then -MX n else MX n
  if u % 1000 = 0 then sG g ++ itoaB (u / 1000) else sG g ++ itoaB (u / 1000) ++ ⟨#[46]⟩ ++ byA (trR ((itoaL (1000 + u % 1000)).drop 1) 48)
theorem decF_len : ∀ (f u : Nat), (decF f u).length ≤ f + 1 ∧ 1 ≤ (decF f u).length
  | 0, u => ⟨Nat.le_refl _, Nat.le_refl _⟩
  | f + 1, u => by
    unfold decF
    split
    · exact ⟨by simp, by simp⟩
    · have := decF_len f (u / 10)
      rw [List.length_append, List.length_singleton]
      omega
theorem itoaB_size (n : Int) : (itoaB n).size ≤ 21 ∧ 1 ≤ (itoaB n).size := by
  rw [← L8_len]
  have e : L8 (itoaB n) = itoaL n := rfl
  rw [e]
  unfold itoaL
  split
  · have := decF_len 19 n.natAbs
    rw [List.length_cons]; omega
  · have := decF_len 19 n.toNat
    omega
theorem trR_len (l : List UInt8) (c : UInt8) : (trR l c).length ≤ l.length := by
  rw [← trR_is]
  unfold Lib.trimRightB
  rw [List.length_reverse]
  have := (List.dropWhile_sublist (l := l.reverse) (· == c)).length_le
  rw [List.length_reverse] at this
  exact this
theorem extract_L8 (s : ByteArray) : L8 (s.extract (Int.toNat 1) (Int.toNat ((s.size : Int)))) = (L8 s).drop 1 := by
  unfold L8
  rw [ByteArray.data_extract, Array.toList_extract, List.extract_eq_take_drop]
  have e1 : Int.toNat 1 = 1 := rfl
  rw [e1, Int.toNat_natCast]
  refine List.take_of_length_le ?_
  rw [List.length_drop, Array.length_toList]
  exact Nat.le_refl _
theorem sho_run {n : Int} (h0 : -9223372036854775808 ≤ n) (h1 : n ≤ 9223372036854775807) : (shoX [.s (.int .i64 n)]).eval = some (.s (.str (showB n))) := by
  rw [← T.eval_anon (t := shoX _)]
  have m0 : -9223372036854775807 ≤ MX n ∧ MX n ≤ 9223372036854775807 := by unfold MX; split <;> omega
  obtain ⟨g, hg⟩ : ∃ g, decide (MX n < 0) = g := ⟨_, rfl⟩
  obtain ⟨u, hu⟩ : ∃ u, (if MX n < 0 then -MX n else MX n) = u := ⟨_, rfl⟩
  have eu : uS g n = u := by
    unfold uS
    rw [← hu, ← hg]
    by_cases q : MX n < 0
    · rw [decide_eq_true q, if_pos q]
      show W (0 - MX n) = _
      rw [Wi (by omega) (by omega), Int.zero_sub]
    · rw [decide_eq_false q, if_neg q]; rfl
  have u0 : 0 ≤ u ∧ u ≤ 9223372036854775807 := by rw [← hu]; split <;> omega
  have e1 : W (Int.tdiv (uS g n) 1000) = u / 1000 := by
    rw [eu, Int.tdiv_eq_ediv_of_nonneg u0.1]
    exact Wi (by omega) (by omega)
  have e2 : rsS g n = u % 1000 := by unfold rsS; rw [eu]; exact Int.tmod_eq_emod_of_nonneg u0.1
  have e3 : W (1000 + rsS g n) = 1000 + u % 1000 := by rw [e2]; exact Wi (by omega) (by omega)
  have i64 : ∀ x : Int, 0 ≤ x → x ≤ 9223372036854775807 → in64 x = true := fun x x0 x1 => by
    unfold in64; rw [decide_eq_true (show -9223372036854775808 ≤ x by omega), decide_eq_true x1]; rfl
  have z0 : (sG g).size ≤ 1 := by cases g <;> decide
  have z1 : hdW g n = itoaB (u / 1000) := by unfold hdW; rw [e1]
  have z2 : dgS g n = itoaB (1000 + u % 1000) := by unfold dgS; rw [e3]
  have s1 := itoaB_size (u / 1000)
  have s2 := itoaB_size (1000 + u % 1000)
  have hh : ∀ c, (rsS g n == 0) = c → allSay (hS g n c) := fun c hc => ⟨hg, rfl, by rw [e1]; exact i64 _ (by omega) (by omega), over_no (by rw [z1]; omega), rfl, hc, trivial⟩
  unfold showB
  simp only [hu, hg]
  by_cases q : u % 1000 = 0
  · rw [if_pos q, T.path_eval (sho_0 g n) (hh true (by rw [e2, q]; rfl)), z1]
  · have z3 : exS g n = (itoaB (1000 + u % 1000)).extract (Int.toNat 1) (Int.toNat ((itoaB (1000 + u % 1000)).size : Int)) := by unfold exS; rw [z2]
    have z4 : L8 (exS g n) = (itoaL (1000 + u % 1000)).drop 1 := by rw [z3, extract_L8]; rfl
    have z5 : (exS g n).size ≤ 21 := by
      rw [← L8_len, z4, List.length_drop]
      have : (itoaL (1000 + u % 1000)).length = (itoaB (1000 + u % 1000)).size := by rw [← L8_len]; unfold itoaB; exact congrArg List.length (L8_byA _).symm
      omega
    have z6 : (trS g n).size ≤ 21 := by
      rw [← L8_len]
      unfold trS
      rw [L8_byA]
      have := trR_len (L8 (exS g n)) 48
      rw [L8_len] at this
      omega
    have z7 : (sG g ++ hdW g n).size ≤ 22 := by rw [ByteArray.size_append, z1]; omega
    have o1 : (⟨#[46]⟩ : ByteArray).size = 1 := rfl
    have a1 : in64 (W (1000 + rsS g n)) = true := by rw [e3]; exact i64 _ (by omega) (by omega)
    have a2 : (decide ((0 : Int) ≤ 1) && (decide ((1 : Int) ≤ ((dgS g n).size : Int)) && decide (((dgS g n).size : Int) ≤ ((dgS g n).size : Int)))) = true := by
      rw [z2, decide_eq_true (show (1 : Int) ≤ ((itoaB (1000 + u % 1000)).size : Int) by omega), decide_eq_true (Int.le_refl _)]; rfl
    have a3 : over ((sG g ++ hdW g n).size + (⟨#[46]⟩ : ByteArray).size) = false := by rw [o1]; exact over_no (by omega)
    have a4 : decide ((exS g n).size ≤ 9223372036854775807) = true := decide_eq_true (by omega)
    have a5 : over ((sG g ++ hdW g n ++ ⟨#[46]⟩).size + (trS g n).size) = false := by rw [ByteArray.size_append, o1]; exact over_no (by omega)
    have a0 : (rsS g n == 0) = false := by rw [e2]; simpa using q
    rw [if_neg q, T.path_eval (sho_1 g n) (allSay_append (hh false a0) (cS_say a1 a2 a3 a4 a5))]
    have e4 : trS g n = byA (trR ((itoaL (1000 + u % 1000)).drop 1) 48) := by unfold trS; rw [z4]
    rw [e4, z1]
def shoS : Eng.Spec
  | [.s (.int .i64 n)] => .ite none (in64 n) (.ret (.s (.str (showB n)))) .fail
  | _ => .fail
theorem shoS_ok : SpecOk Tryd.prog 15 shoS := shoX_ok.of_den fun args v hfl h => by
  clear hfl
  unfold shoS at h
  split at h
  · rename_i n
    obtain ⟨hb, h⟩ := ite_T' h
    obtain rfl := Option.some.inj h
    obtain ⟨b0, b1⟩ := in64_is hb
    exact ⟨_, sho_run b0 b1, ⟨rfl, rfl⟩, rfl⟩
  · cases h
end Go.Proofs.YtdangjhbkffbnaaDoor.Txt

/- Texts: is a text among some. -/
namespace Go.Proofs.YtdangjhbkffbnaaDoor.Txt
open Go.Eng Go.RowKit
set_option linter.unusedVariables false
set_option linter.unusedSimpArgs false
set_option maxRecDepth 100000
noncomputable def lpIx : Code := loopAt Tryd.prog 69 0
structure PIx where (n : Nat) (k : Nat) (l : List ByteArray) (x : ByteArray) (z : Int)
structure AIx where (i : Int)
abbrev SIx : List (Nat × Src) := [(0, .same)]
def vsIx (p : PIx) (a : AIx) : List V := [.sub 0 1 0 p.n, .s (.str p.x), .sub 0 1 0 p.k, iv p.z, iv a.i]
def bsIx (p : PIx) (a : AIx) : List Blk := [.lst false 9 [.str] p.l]
noncomputable def FIx (p : PIx) (a : AIx) : St := mkSt [0,1,6,7,8] (keysR SIx) 3000 19 (vsIx p a) (bsIx p a)
abbrev SIxx : List (Nat × Src) := [(0, .same)]
noncomputable def rdIx (p : PIx) (a : AIx) : T (Ex × St) := T.anon (roundX K0 noLoops lpIx [0,1,6,7,8] SIx [4] SIxx 3000 3000 (mkSt [0,1,6,7,8] (keysR SIx) 3000 19 (vsIx p a) (bsIx p a)))
def decIx_v0 : V → Option ((Nat))
  | .sub 0 1 0 n => some (n)
  | _ => none
theorem decIx_v0_ok (b : V) (x0 : (Nat)) (h : decIx_v0 b = some x0) : b = .sub 0 1 0 (x0) := by
  unfold decIx_v0 at h
  split at h
  · cases h
    rfl
  · cases h
def decIx_v1 : V → Option ((ByteArray))
  | .s (.str x) => some (x)
  | _ => none
theorem decIx_v1_ok (b : V) (x1 : (ByteArray)) (h : decIx_v1 b = some x1) : b = .s (.str (x1)) := by
  unfold decIx_v1 at h
  split at h
  · cases h
    rfl
  · cases h
def decIx_v2 : V → Option ((Nat))
  | .sub 0 1 0 k => some (k)
  | _ => none
theorem decIx_v2_ok (b : V) (x2 : (Nat)) (h : decIx_v2 b = some x2) : b = .sub 0 1 0 (x2) := by
  unfold decIx_v2 at h
  split at h
  · cases h
    rfl
  · cases h
def decIx_v3 : V → Option ((Int))
  | .s (.int .i64 z) => some (z)
  | _ => none
theorem decIx_v3_ok (b : V) (x3 : (Int)) (h : decIx_v3 b = some x3) : b = iv (x3) := by
  unfold decIx_v3 at h
  split at h
  · cases h
    rfl
  · cases h
def decIx_v4 : V → Option ((Int))
  | .s (.int .i64 i) => some (i)
  | _ => none
theorem decIx_v4_ok (b : V) (x4 : (Int)) (h : decIx_v4 b = some x4) : b = iv (x4) := by
  unfold decIx_v4 at h
  split at h
  · cases h
    rfl
  · cases h
def decIx_b0 : Blk → Option ((List ByteArray))
  | .lst false tt0 [.str] l => if tt0 = 9 then some (l) else none
  | _ => none
theorem decIx_b0_ok (b : Blk) (y0 : (List ByteArray)) (h : decIx_b0 b = some y0) : b = .lst false 9 [.str] (y0) := by
  unfold decIx_b0 at h
  split at h
  · obtain ⟨e0, h⟩ := ite_some0 h
    subst e0
    cases h
    rfl
  · cases h
def decIx : List V → List Blk → Option (PIx × AIx)
  | [v0, v1, v2, v3, v4], [b0] => (decIx_v0 v0).bind fun x0 => (decIx_v1 v1).bind fun x1 => (decIx_v2 v2).bind fun x2 => (decIx_v3 v3).bind fun x3 => (decIx_v4 v4).bind fun x4 => (decIx_b0 b0).bind fun y0 => some (⟨(x0), (x2), (y0), (x1), (x3)⟩, ⟨(x4)⟩)
  | _, _ => none
theorem decIx_ok (l : List V) (b : List Blk) (d : PIx × AIx) (h : decIx l b = some d) : l = vsIx d.1 d.2 ∧ b = bsIx d.1 d.2 := by
  unfold decIx at h
  split at h
  · obtain ⟨x0, hx0, h⟩ := Option.bind_eq_some_iff.1 h
    obtain ⟨x1, hx1, h⟩ := Option.bind_eq_some_iff.1 h
    obtain ⟨x2, hx2, h⟩ := Option.bind_eq_some_iff.1 h
    obtain ⟨x3, hx3, h⟩ := Option.bind_eq_some_iff.1 h
    obtain ⟨x4, hx4, h⟩ := Option.bind_eq_some_iff.1 h
    obtain ⟨y0, hy0, h⟩ := Option.bind_eq_some_iff.1 h
    have ex0 := decIx_v0_ok _ _ hx0
    have ex1 := decIx_v1_ok _ _ hx1
    have ex2 := decIx_v2_ok _ _ hx2
    have ex3 := decIx_v3_ok _ _ hx3
    have ex4 := decIx_v4_ok _ _ hx4
    have ey0 := decIx_b0_ok _ _ hy0
    cases h
    subst ex0 ex1 ex2 ex3 ex4 ey0
    exact ⟨rfl, rfl⟩
  · cases h
noncomputable def rgIx : Nat := (firstReg lpIx).getD 0
theorem rgIx_is : firstReg lpIx = some rgIx := by kernel_rfl
def eB (x y : ByteArray) : Bool := x.toList == y.toList
theorem eB_is {x y : ByteArray} : eB x y = true ↔ x = y := by
  unfold eB
  rw [beq_iff_eq, ByteArray.toList_eq, ByteArray.toList_eq]
  exact ⟨fun h => ByteArray.ext (Array.ext' h), fun h => by rw [h]⟩
def xIx (p : PIx) (a : AIx) : ByteArray := p.l.getD (0 + a.i.toNat) ⟨#[]⟩
def hdI (p : PIx) (a : AIx) (c : Bool) : List (Bool × Bool) := [(decide (a.i < p.z), true), (idR p.l p.n a.i, true), (ldR p.l a.i, true), (eB p.x (xIx p a), c)]
def stI (p : PIx) (a : AIx) (v : V) : St := mkSt [4] [0] 3000 19 [v] (bsIx p a)
theorem ix_n (p : PIx) (a : AIx) : T.path [true, true, true, false] (rdIx p a) = some (hdI p a false, (.normal, FIx p ⟨IntKind.wrap .i64 (a.i + 1)⟩)) := by kernel_rfl
theorem ix_f (p : PIx) (a : AIx) : T.path [true, true, true, true] (rdIx p a) = some (hdI p a true, (.ret, stI p a (iv a.i))) := by kernel_rfl
theorem ix_x (p : PIx) (a : AIx) : T.path [false] (rdIx p a) = some ([(decide (a.i < p.z), false)], (.exit 0, stI p a .junk)) := by kernel_rfl
structure okIx (p : PIx) (a : AIx) : Prop where
  n : p.n = p.l.length
  z : p.z = (p.n : Int)
  n1 : p.n ≤ 9223372036854775807
  i0 : 0 ≤ a.i
  i1 : a.i ≤ p.z
  g : ∀ e ∈ p.l.take a.i.toNat, e ≠ p.x
def goIx (p : PIx) (a : AIx) : Bool := decide (a.i < p.z) && !eB p.x (xIx p a)
def muIx (p : PIx) (a : AIx) : Nat := (p.z - a.i).toNat
theorem ix_hd {p : PIx} {a : AIx} (h : okIx p a) (hi : a.i < p.z) {c : Bool} (hc : eB p.x (xIx p a) = c) : allSay (hdI p a c) := by
  obtain ⟨y1, y2⟩ := idR_is (g := p.l) (k := p.n) (i := a.i) h.n h.i0 (by have := h.z; omega)
  exact ⟨decide_eq_true hi, y1, y2, hc, trivial⟩
theorem xIx_at {p : PIx} {a : AIx} (hl : a.i.toNat < p.l.length) : xIx p a = p.l[a.i.toNat] := by
  unfold xIx
  rw [List.getD_eq_getElem?_getD, Nat.zero_add, List.getElem?_eq_getElem hl]; rfl
theorem stepIx (p : PIx) (a : AIx) (h : okIx p a) (hg : goIx p a = true) : ∃ b, stepC okIx rdIx FIx muIx p a b := by
  unfold goIx at hg
  rw [Bool.and_eq_true, decide_eq_true_eq, Bool.not_eq_true'] at hg
  obtain ⟨hi, hm⟩ := hg
  have hd := ix_hd h hi hm
  obtain ⟨h1, h2, h3, h4, h5, h6⟩ := h
  have hl : a.i.toNat < p.l.length := by omega
  have way := ix_n p a
  rw [wrap64 (n := a.i + 1) (by omega) (by omega)] at way
  refine ⟨_, T.path_eval way hd, ⟨h1, h2, h3, by show 0 ≤ a.i + 1; omega, by show a.i + 1 ≤ p.z; omega, ?_⟩, by show (p.z - (a.i + 1)).toNat < (p.z - a.i).toNat; omega⟩
  show ∀ e ∈ p.l.take (a.i + 1).toNat, e ≠ p.x
  rw [take_nextT h4 hl]
  intro e he
  rcases List.mem_append.1 he with q | q
  · exact h6 e q
  · rw [List.mem_singleton.1 q]
    intro e
    rw [xIx_at hl, e, show eB p.x p.x = true from eB_is.2 rfl] at hm
    cases hm
noncomputable def outIx (p : PIx) (a : AIx) : T (Ex × St) := .ite none (decide (a.i < p.z)) (.ret (.ret, stI p a (iv a.i))) (.ret (.exit 0, stI p a .junk))
theorem exIx (p : PIx) (a : AIx) (h : okIx p a) (hg : goIx p a = false) (r : Ex × St) (hr : (outIx p a).eval = some r) : r.1 ≠ .normal ∧ (rdIx p a).eval = some r := by
  unfold outIx at hr
  by_cases hi : a.i < p.z
  · have hm : eB p.x (xIx p a) = true := by
      unfold goIx at hg
      rw [decide_eq_true hi, Bool.true_and, Bool.not_eq_false'] at hg
      exact hg
    rw [decide_eq_true hi] at hr
    obtain rfl := Option.some.inj hr
    exact ⟨by simp, T.path_eval (ix_f p a) (ix_hd h hi hm)⟩
  · rw [decide_eq_false hi] at hr
    obtain rfl := Option.some.inj hr
    exact ⟨by simp, T.path_eval (ix_x p a) ⟨decide_eq_false hi, trivial⟩⟩
noncomputable def famIx : LSpec := famE [0,1,6,7,8] SIx SIxx 3000 3000 19 decIx okIx goIx rdIx FIx muIx outIx
theorem lpIx_ok : LoopOk K0 lpIx famIx := famE_ok (vs := vsIx) (bs := bsIx) K0_ok mixed (noLoops_ok _) decIx_ok (fun _ _ => rfl) (fun _ _ => rfl) stepIx exIx
noncomputable def ixX : Eng.Spec := execS K0 (byReg [(rgIx, famIx)]) 69
theorem ixX_ok : SpecOk Tryd.prog 69 ixX := execS_loops K0_ok mixed Tryd.func69 (by kernel_rfl) (by kernel_rfl) (one_lp (by kernel_rfl) rgIx_is lpIx_ok)
def rowT (l : List ByteArray) : V := .orow 9 [.str] l
noncomputable def eIx (l : List ByteArray) (x : ByteArray) : AIx := endW (nxtC okIx goIx rdIx FIx muIx ⟨l.length, l.length, l, x, (l.length : Int)⟩) ⟨0⟩
theorem ixx_f (l : List ByteArray) (x : ByteArray) : T.path [true, true] (T.anon (ixX [rowT l, .s (.str x)])) = some ([(invC okIx ⟨l.length, l.length, l, x, (l.length : Int)⟩ ⟨0⟩, true), (decide ((eIx l x).i < (l.length : Int)), true)], iv (eIx l x).i) := by kernel_rfl
theorem ixx_n (l : List ByteArray) (x : ByteArray) : T.path [true, false] (T.anon (ixX [rowT l, .s (.str x)])) = some ([(invC okIx ⟨l.length, l.length, l, x, (l.length : Int)⟩ ⟨0⟩, true), (decide ((eIx l x).i < (l.length : Int)), false)], iv (-1)) := by kernel_rfl
def idI (l : List ByteArray) (x : ByteArray) : Int := bif l.any (eB x) then (l.findIdx (eB x) : Int) else -1
theorem ix_run {l : List ByteArray} {x : ByteArray} (h : l.length ≤ 9223372036854775807) : (ixX [rowT l, .s (.str x)]).eval = some (iv (idI l x)) := by
  rw [← T.eval_anon (t := ixX _)]
  have h0 : okIx ⟨l.length, l.length, l, x, (l.length : Int)⟩ ⟨0⟩ := ⟨rfl, rfl, h, Int.le_refl _, by show (0 : Int) ≤ (l.length : Int); omega, fun e he => by
    have he : e ∈ l.take 0 := he
    simp at he⟩
  obtain ⟨k1, k2⟩ := endC stepIx h0
  have k1 : okIx ⟨l.length, l.length, l, x, (l.length : Int)⟩ (eIx l x) := k1
  have k2 : goIx ⟨l.length, l.length, l, x, (l.length : Int)⟩ (eIx l x) = false := k2
  obtain ⟨-, -, -, i0, i1, g⟩ := k1
  have i1 : (eIx l x).i ≤ (l.length : Int) := i1
  have g : ∀ e ∈ l.take (eIx l x).i.toNat, e ≠ x := g
  unfold idI
  by_cases hi : (eIx l x).i < (l.length : Int)
  · have hm : eB x (xIx ⟨l.length, l.length, l, x, (l.length : Int)⟩ (eIx l x)) = true := by
      unfold goIx at k2
      rw [decide_eq_true (show (eIx l x).i < PIx.z ⟨l.length, l.length, l, x, (l.length : Int)⟩ from hi), Bool.true_and, Bool.not_eq_false'] at k2
      exact k2
    have hl : (eIx l x).i.toNat < l.length := by omega
    have ex : xIx ⟨l.length, l.length, l, x, (l.length : Int)⟩ (eIx l x) = l[(eIx l x).i.toNat] := xIx_at (p := ⟨l.length, l.length, l, x, (l.length : Int)⟩) hl
    rw [ex] at hm
    have ha : l.any (eB x) = true := List.any_eq_true.2 ⟨_, List.getElem_mem hl, hm⟩
    have hf : l.findIdx (eB x) = (eIx l x).i.toNat := by
      rw [List.findIdx_eq hl]
      refine ⟨hm, fun j hj => ?_⟩
      cases hq : eB x l[j] with
      | false => rfl
      | true =>
        exfalso
        exact g l[j] (by rw [List.mem_iff_getElem]; exact ⟨j, by rw [List.length_take]; omega, by rw [List.getElem_take]⟩) (eB_is.1 hq).symm
    rw [T.path_eval (ixx_f l x) ⟨invC_is h0, decide_eq_true hi, trivial⟩, ha, hf]
    show some (iv (eIx l x).i) = some (iv (((eIx l x).i.toNat : Nat) : Int))
    rw [Int.toNat_of_nonneg i0]
  · rw [show (eIx l x).i.toNat = l.length by omega, List.take_length] at g
    have ha : l.any (eB x) = false := by
      rw [List.any_eq_false]
      intro e he hq
      exact g e he (eB_is.1 hq).symm
    rw [T.path_eval (ixx_n l x) ⟨invC_is h0, decide_eq_false hi, trivial⟩, ha]
    rfl
def ixS : Eng.Spec
  | [.orow t [.str] l, .s (.str x)] => if t = 9 then .ite none (decide (List.length l ≤ 9223372036854775807)) (.ret (iv (idI l x))) .fail else .fail
  | _ => .fail
theorem ixS_ok : SpecOk Tryd.prog 69 ixS := ixX_ok.of_den fun args v hfl h => by
  clear hfl
  unfold ixS at h
  split at h
  · rename_i t l x
    split at h
    · rename_i ht
      subst ht
      obtain ⟨hb, h⟩ := ite_T' h
      obtain rfl := Option.some.inj h
      exact ⟨_, ix_run (of_decide_eq_true hb), ⟨rfl, rfl⟩, rfl⟩
    · cases h
  · cases h
noncomputable def C2 : Cfg := ⟨Tryd.prog, lookG [(69, .val ixS)], [], 0⟩
theorem C2_ok : C2.Ok := Cfg.ok ⟨ixS_ok, trivial⟩ trivial
noncomputable def conX : Eng.Spec := execS C2 noLoops 51
theorem conX_ok : SpecOk Tryd.prog 51 conX := execS_plain C2_ok mixed Tryd.func51 (by kernel_rfl) (by kernel_rfl)
theorem con_w (l : List ByteArray) (x : ByteArray) : T.path [true, true] (T.anon (conX [rowT l, .s (.str x)])) = some ([(decide (0 + l.length ≤ l.length), true), (decide ((List.take l.length (List.drop 0 l)).length ≤ 9223372036854775807), true)], .s (.bool (decide (0 ≤ idI (List.take l.length (List.drop 0 l)) x)))) := by kernel_rfl
theorem con_run {l : List ByteArray} {x : ByteArray} (h : l.length ≤ 9223372036854775807) : (conX [rowT l, .s (.str x)]).eval = some (.s (.bool (l.any (eB x)))) := by
  rw [← T.eval_anon (t := conX _)]
  have e : List.take l.length (List.drop 0 l) = l := by rw [List.drop_zero, List.take_length]
  rw [T.path_eval (con_w l x) ⟨decide_eq_true (by omega), by rw [e]; exact decide_eq_true h, trivial⟩, e]
  unfold idI
  cases l.any (eB x) with
  | true => rw [show decide (0 ≤ (bif true then ((l.findIdx (eB x) : Nat) : Int) else -1)) = true from decide_eq_true (by show (0 : Int) ≤ ((l.findIdx (eB x) : Nat) : Int); omega)]
  | false => rfl
def conS : Eng.Spec
  | [.orow t [.str] l, .s (.str x)] => if t = 9 then .ite none (decide (List.length l ≤ 9223372036854775807)) (.ret (.s (.bool (List.any l (eB x))))) .fail else .fail
  | _ => .fail
theorem conS_ok : SpecOk Tryd.prog 51 conS := conX_ok.of_den fun args v hfl h => by
  clear hfl
  unfold conS at h
  split at h
  · rename_i t l x
    split at h
    · rename_i ht
      subst ht
      obtain ⟨hb, h⟩ := ite_T' h
      obtain rfl := Option.some.inj h
      exact ⟨_, con_run (of_decide_eq_true hb), ⟨rfl, rfl⟩, rfl⟩
    · cases h
  · cases h
noncomputable def P1 : Cfg := ⟨Tryd.prog, lookG [(28, .val natS), (9, .val numS)], [], 0⟩
theorem P1_ok : P1.Ok := Cfg.ok ⟨natS_ok, numS_ok, trivial⟩ trivial
noncomputable def putX : Eng.Obj := execO P1 noLoops 52
theorem putX_ok : ObjOk Tryd.prog 52 putX := execO_plain P1_ok mixed Tryd.func52 (by kernel_rfl) (by kernel_rfl)
noncomputable def plcX : Eng.Obj := execO P1 noLoops 40
theorem plcX_ok : ObjOk Tryd.prog 40 plcX := execO_plain P1_ok mixed Tryd.func40 (by kernel_rfl) (by kernel_rfl)
noncomputable def P2 : Cfg := ⟨Tryd.prog, lookG [(27, .val cutS), (51, .val conS), (40, .obj plcX), (52, .obj putX)], [], 0⟩
theorem P2_ok : P2.Ok := Cfg.ok ⟨cutS_ok, conS_ok, plcX_ok, putX_ok, trivial⟩ trivial
noncomputable def takX : Eng.Obj := execO P2 noLoops 30
theorem takX_ok : ObjOk Tryd.prog 30 takX := execO_plain P2_ok mixed Tryd.func30 (by kernel_rfl) (by kernel_rfl)
end Go.Proofs.YtdangjhbkffbnaaDoor.Txt

/- Settings by lines: one line taken. -/
namespace Go.Proofs.YtdangjhbkffbnaaDoor.Txt
open Go.Eng Go.RowKit
set_option linter.unusedVariables false
set_option linter.unusedSimpArgs false
set_option maxRecDepth 100000
abbrev Cf := Conf.Cf
/-- the parts' names -/
def nmK : Nat → ByteArray
  | 0 => ⟨#[116, 97, 114, 103, 101, 116]⟩
  | 1 => ⟨#[117, 116, 105, 108]⟩
  | 2 => ⟨#[115, 116, 97, 98, 108, 101]⟩
  | 3 => ⟨#[112, 97, 110, 105, 99]⟩
  | 4 => ⟨#[103, 114, 97, 105, 110]⟩
  | 5 => ⟨#[116, 104, 114, 101, 115, 104, 111, 108, 100]⟩
  | 6 => ⟨#[117, 112]⟩
  | 7 => ⟨#[100, 111, 119, 110]⟩
  | 8 => ⟨#[109, 105, 110]⟩
  | 9 => ⟨#[109, 97, 120]⟩
  | 10 => ⟨#[105, 110, 105, 116, 105, 97, 108]⟩
  | 11 => ⟨#[103, 114, 97, 99, 101]⟩
  | 12 => ⟨#[100, 101, 108, 97, 121]⟩
  | 13 => ⟨#[98, 117, 114, 115, 116]⟩
  | 14 => ⟨#[108, 105, 109, 105, 116]⟩
  | 15 => ⟨#[113, 117, 101, 117, 101]⟩
  | 16 => ⟨#[116, 105, 109, 101, 111, 117, 116]⟩
  | 17 => ⟨#[114, 101, 97, 100, 121]⟩
  | 18 => ⟨#[115, 117, 98, 115, 101, 116]⟩
  | 19 => ⟨#[115, 97, 109, 112, 108, 101]⟩
  | _ => ⟨#[]⟩
/-- is a part told in thousandths? -/
def thin (k : Nat) : Bool := k == 0 || (k == 1 || (k == 5 || (k == 6 || (k == 7 || k == 13))))
/-- another value of a part -/
def setC : Nat → Int → Cf → Cf
  | 0, x, c => { c with target := x }
  | 1, x, c => { c with util := x }
  | 2, x, c => { c with stable := x }
  | 3, x, c => { c with panic := x }
  | 4, x, c => { c with grain := x }
  | 5, x, c => { c with threshold := x }
  | 6, x, c => { c with up := x }
  | 7, x, c => { c with down := x }
  | 8, x, c => { c with min := x }
  | 9, x, c => { c with max := x }
  | 10, x, c => { c with initial := x }
  | 11, x, c => { c with grace := x }
  | 12, x, c => { c with delay := x }
  | 13, x, c => { c with burst := x }
  | 14, x, c => { c with limit := x }
  | 15, x, c => { c with queue := x }
  | 16, x, c => { c with timeout := x }
  | 17, x, c => { c with ready := x }
  | 18, x, c => { c with subset := x }
  | 19, x, c => { c with sample := x }
  | _, _, c => c
def cL (c : Cf) : List V := [iv c.target, iv c.util, iv c.stable, iv c.panic, iv c.grain, iv c.threshold, iv c.up, iv c.down, iv c.min, iv c.max, iv c.initial, iv c.grace, iv c.delay, iv c.burst, iv c.limit, iv c.queue, iv c.timeout, iv c.ready, iv c.subset, iv c.sample]
abbrev TR : TypeId := 60
def hpT (c : Cf) (n : Nat) (l : List ByteArray) : Eng.Heap := [(0, .cells TR (cL c ++ [.sub 1 1 0 n])), (1, .lst true 9 [.str] l)]
def hpN (c : Cf) (n : Nat) (l : List ByteArray) (x : ByteArray) : Eng.Heap := [(0, .cells TR (cL c ++ [.sub 98 1 0 (n + [x].length)])), (98, .lst true 9 [.str] (l.take n ++ [x]))]
def NAM (s : ByteArray) : ByteArray := byA (cutF (L8 s) [58, 32]).1
def VAL (s : ByteArray) : ByteArray := byA (cutF (L8 s) [58, 32]).2.1
def OKc (s : ByteArray) : Bool := (cutF (L8 s) [58, 32]).2.2
def e0B (s : ByteArray) : Bool := eB s ⟨#[]⟩
def noteB (s : ByteArray) : Bool := bif e0B s then true else byteAt s 0 == 35
def saidB (s : ByteArray) (n : Nat) (l : List ByteArray) : Bool := bif !OKc s then true else (List.take n (List.drop 0 l)).any (eB (NAM s))
def h0T (s : ByteArray) (c : Bool) : List (Bool × Bool) := [(bif e0B s == false && true then decide ((0 : Int) ≤ 0) && decide ((0 : Int) < (s.size : Int)) else true, true), (noteB s, c)]
def h1T (s : ByteArray) (c : Bool) : List (Bool × Bool) := h0T s false ++ [(decide (s.size < 4294967281), true), (!OKc s, c)]
def h2T (s : ByteArray) (n : Nat) (l : List ByteArray) (c : Bool) : List (Bool × Bool) := h1T s false ++ [(decide (0 + n ≤ l.length), true), (decide ((List.take n (List.drop 0 l)).length ≤ 9223372036854775807), true), (saidB s n l, c)]
def nmC (k : Nat) (x : ByteArray) : List (Bool × Bool) := (List.range k).map fun j => (eB x (nmK j), false)
def gK (k : Nat) (s : ByteArray) : Bool := bif thin k then decide (s.size < 4294967281) else decide ((6 : Int) ≤ 9)
def qK (k : Nat) (s : ByteArray) : Bool := bif thin k then (numF (L8 s)).isSome else natO (L8 s) 6
def vK (k : Nat) (s : ByteArray) : Int := bif thin k then (numF (L8 s)).getD 0 else natI (L8 s) 6
def pre7 : List Bool := [true, false, true, false, true, true, false]
theorem tk_0 (c : Cf) (s : ByteArray) (n : Nat) (l : List ByteArray) : T.path [true, true] (T.anon (takX [.ptr 0 0, .s (.str s)] (hpT c n l))) = some (h0T s true, (.tt, hpT c n l)) := by kernel_rfl
theorem tk_1 (c : Cf) (s : ByteArray) (n : Nat) (l : List ByteArray) : T.path [true, false, true, true] (T.anon (takX [.ptr 0 0, .s (.str s)] (hpT c n l))) = some (h1T s true, (.ff, hpT c n l)) := by kernel_rfl
theorem tk_2 (c : Cf) (s : ByteArray) (n : Nat) (l : List ByteArray) : T.path [true, false, true, false, true, true, true] (T.anon (takX [.ptr 0 0, .s (.str s)] (hpT c n l))) = some (h2T s n l true, (.ff, hpT c n l)) := by kernel_rfl
theorem tk_3 (c : Cf) (s : ByteArray) (n : Nat) (l : List ByteArray) : T.path (pre7 ++ (List.replicate 20 false ++ [true])) (T.anon (takX [.ptr 0 0, .s (.str s)] (hpT c n l))) = some (h2T s n l false ++ (nmC 20 (NAM s) ++ [(bif saidB s n l then true else true, true)]), (.ff, hpT c n l)) := by kernel_rfl
theorem tk_y (c : Cf) (s : ByteArray) (n : Nat) (l : List ByteArray) : ∀ k : Nat, k < 20 → T.path (pre7 ++ (List.replicate k false ++ [true, true, true, false, true])) (T.anon (takX [.ptr 0 0, .s (.str s)] (hpT c n l))) = some (h2T s n l false ++ (nmC k (NAM s) ++ [(eB (NAM s) (nmK k), true), (gK k (VAL s), true), (qK k (VAL s), true), (bif saidB s n l then true else !qK k (VAL s), false), (apC n l (NAM s), true)]), (.tt, hpN (setC k (vK k (VAL s)) c) n l (NAM s)))
  | 0, _ => by kernel_rfl
  | 1, _ => by kernel_rfl
  | 2, _ => by kernel_rfl
  | 3, _ => by kernel_rfl
  | 4, _ => by kernel_rfl
  | 5, _ => by kernel_rfl
  | 6, _ => by kernel_rfl
  | 7, _ => by kernel_rfl
  | 8, _ => by kernel_rfl
  | 9, _ => by kernel_rfl
  | 10, _ => by kernel_rfl
  | 11, _ => by kernel_rfl
  | 12, _ => by kernel_rfl
  | 13, _ => by kernel_rfl
  | 14, _ => by kernel_rfl
  | 15, _ => by kernel_rfl
  | 16, _ => by kernel_rfl
  | 17, _ => by kernel_rfl
  | 18, _ => by kernel_rfl
  | 19, _ => by kernel_rfl
  | k + 20, h => by omega
theorem tk_z (c : Cf) (s : ByteArray) (n : Nat) (l : List ByteArray) : ∀ k : Nat, k < 20 → T.path (pre7 ++ (List.replicate k false ++ [true, true, false, true])) (T.anon (takX [.ptr 0 0, .s (.str s)] (hpT c n l))) = some (h2T s n l false ++ (nmC k (NAM s) ++ [(eB (NAM s) (nmK k), true), (gK k (VAL s), true), (qK k (VAL s), false), (bif saidB s n l then true else !qK k (VAL s), true)]), (.ff, hpT c n l))
  | 0, _ => by kernel_rfl
  | 1, _ => by kernel_rfl
  | 2, _ => by kernel_rfl
  | 3, _ => by kernel_rfl
  | 4, _ => by kernel_rfl
  | 5, _ => by kernel_rfl
  | 6, _ => by kernel_rfl
  | 7, _ => by kernel_rfl
  | 8, _ => by kernel_rfl
  | 9, _ => by kernel_rfl
  | 10, _ => by kernel_rfl
  | 11, _ => by kernel_rfl
  | 12, _ => by kernel_rfl
  | 13, _ => by kernel_rfl
  | 14, _ => by kernel_rfl
  | 15, _ => by kernel_rfl
  | 16, _ => by kernel_rfl
  | 17, _ => by kernel_rfl
  | 18, _ => by kernel_rfl
  | 19, _ => by kernel_rfl
  | k + 20, h => by omega
end Go.Proofs.YtdangjhbkffbnaaDoor.Txt

/- Settings by lines: one line taken: its contract. -/
namespace Go.Proofs.YtdangjhbkffbnaaDoor.Txt
open Go.Eng Go.RowKit
set_option linter.unusedVariables false
set_option linter.unusedSimpArgs false
set_option maxRecDepth 100000
/-- which part has that name? -/
def prtI (x : ByteArray) : Option Nat := (List.range 20).find? fun k => eB x (nmK k)
theorem prtI_some {x : ByteArray} {k : Nat} (h : prtI x = some k) : k < 20 ∧ eB x (nmK k) = true ∧ ∀ j, j < k → eB x (nmK j) = false := by
  unfold prtI at h
  rw [List.find?_range_eq_some] at h
  obtain ⟨h1, h2, h3⟩ := h
  refine ⟨List.mem_range.1 h2, h1, fun j hj => ?_⟩
  have := h3 j hj
  simpa using this
theorem prtI_none {x : ByteArray} (h : prtI x = none) : ∀ j, j < 20 → eB x (nmK j) = false := by
  unfold prtI at h
  rw [List.find?_range_eq_none] at h
  intro j hj
  have := h j hj
  simpa using this
theorem nmC_say {x : ByteArray} {k : Nat} (h : ∀ j, j < k → eB x (nmK j) = false) : allSay (nmC k x) := by
  unfold nmC
  have : ∀ l : List Nat, (∀ j ∈ l, j < k) → allSay (l.map fun j => (eB x (nmK j), false)) := by
    intro l
    induction l with
    | nil => exact fun _ => trivial
    | cons a r ih => exact fun hl => ⟨h a (hl a List.mem_cons_self), ih fun j hj => hl j (List.mem_cons_of_mem _ hj)⟩
  exact this _ fun j hj => List.mem_range.1 hj
/-- a line taken: not at all; nothing said; another value of a part -/
inductive Tk where
  | no
  | same
  | set (k : Nat) (v : Int) (x : ByteArray)
def takF (l : List ByteArray) (s : ByteArray) : Tk :=
  bif noteB s then .same else bif !OKc s then .no else bif l.any (eB (NAM s)) then .no else
  match prtI (NAM s) with
  | none => .no
  | some k => bif qK k (VAL s) then .set k (vK k (VAL s)) (NAM s) else .no
def tkR (c : Cf) (l : List ByteArray) (n : Nat) : Tk → V × Eng.Heap
  | .no => (.ff, hpT c n l)
  | .same => (.tt, hpT c n l)
  | .set k v x => (.tt, hpN (setC k v c) n l x)
theorem drop_len {l t : List UInt8} {k : Nat} : (l.take k).length ≤ l.length ∧ (l.drop k).length ≤ l.length := by
  rw [List.length_take, List.length_drop]; omega
theorem cutF_len (l p : List UInt8) : (cutF l p).1.length ≤ l.length ∧ (cutF l p).2.1.length ≤ l.length := by
  unfold cutF
  split
  · exact ⟨by rw [List.length_take]; omega, by rw [List.length_drop]; omega⟩
  · exact ⟨Nat.le_refl _, Nat.zero_le _⟩
theorem byA_size (l : List UInt8) : (byA l).size = l.length := by rw [← L8_len]; exact congrArg List.length (L8_byA l)
theorem size0 {s : ByteArray} (h : e0B s = false) : 0 < s.size := by
  rcases Nat.eq_zero_or_pos s.size with q | q
  · exfalso
    have : s = ⟨#[]⟩ := ByteArray.ext (Array.eq_empty_of_size_eq_zero q)
    unfold e0B at h
    rw [eB_is.2 this] at h
    cases h
  · exact q
theorem h0T_say {s : ByteArray} {c : Bool} (hc : noteB s = c) : allSay (h0T s c) := by
  refine ⟨?_, hc, trivial⟩
  cases h : e0B s with
  | true => rfl
  | false => rw [decide_eq_true (show (0 : Int) < (s.size : Int) by have := size0 h; omega)]; rfl
theorem tak_run (c : Cf) (l : List ByteArray) (s : ByteArray) (hs : s.size < 4294967281) (hl : l.length ≤ 100000) : (takX [.ptr 0 0, .s (.str s)] (hpT c l.length l)).eval = some (tkR c l l.length (takF l s)) := by
  rw [← T.eval_anon (t := takX _ _)]
  have ed : List.take l.length (List.drop 0 l) = l := by rw [List.drop_zero, List.take_length]
  unfold takF
  cases hn : noteB s with
  | true => exact T.path_eval (tk_0 c s l.length l) (h0T_say hn)
  | false =>
    have s1 : ∀ b, (!OKc s) = b → allSay (h1T s b) := fun b hb => allSay_append (h0T_say hn) ⟨decide_eq_true hs, hb, trivial⟩
    cases ho : OKc s with
    | false => exact T.path_eval (tk_1 c s l.length l) (s1 true (by rw [ho]; rfl))
    | true =>
      have es : saidB s l.length l = l.any (eB (NAM s)) := by unfold saidB; rw [ho, ed]; rfl
      have s2 : ∀ b, saidB s l.length l = b → allSay (h2T s l.length l b) := fun b hb => allSay_append (s1 false (by rw [ho]; rfl)) ⟨decide_eq_true (by omega), by rw [ed]; exact decide_eq_true (by omega), hb, trivial⟩
      cases ha : l.any (eB (NAM s)) with
      | true => exact T.path_eval (tk_2 c s l.length l) (s2 true (by rw [es]; exact ha))
      | false =>
        have sb : saidB s l.length l = false := by rw [es]; exact ha
        show _ = some (tkR c l l.length (match prtI (NAM s) with | none => .no | some k => bif qK k (VAL s) then .set k (vK k (VAL s)) (NAM s) else .no))
        cases hp : prtI (NAM s) with
        | none => exact T.path_eval (tk_3 c s l.length l) (allSay_append (s2 false sb) (allSay_append (nmC_say (prtI_none hp)) ⟨by rw [sb]; rfl, trivial⟩))
        | some k =>
          obtain ⟨k1, k2, k3⟩ := prtI_some hp
          have hv : (VAL s).size < 4294967281 := by
            unfold VAL
            rw [byA_size]
            have := (cutF_len (L8 s) [58, 32]).2
            rw [L8_len] at this
            omega
          have hg : gK k (VAL s) = true := by
            unfold gK
            rw [decide_eq_true hv]
            cases thin k <;> rfl
          show _ = some (tkR c l l.length (bif qK k (VAL s) then .set k (vK k (VAL s)) (NAM s) else .no))
          cases hq : qK k (VAL s) with
          | true => exact T.path_eval (tk_y c s l.length l k k1) (allSay_append (s2 false sb) (allSay_append (nmC_say k3) ⟨k2, hg, hq, by rw [sb, hq]; rfl, apC_is _ rfl hl, trivial⟩))
          | false => exact T.path_eval (tk_z c s l.length l k k1) (allSay_append (s2 false sb) (allSay_append (nmC_say k3) ⟨k2, hg, hq, by rw [sb, hq]; rfl, trivial⟩))
def asTk (args : List V) (h : Eng.Heap) : Option (ByteArray × Cf × Nat × List ByteArray) :=
  match args, h with
  | [.ptr 0 0, .s (.str s)], [(0, .cells t [.s (.int .i64 a0), .s (.int .i64 a1), .s (.int .i64 a2), .s (.int .i64 a3), .s (.int .i64 a4), .s (.int .i64 a5), .s (.int .i64 a6), .s (.int .i64 a7), .s (.int .i64 a8), .s (.int .i64 a9), .s (.int .i64 b0), .s (.int .i64 b1), .s (.int .i64 b2), .s (.int .i64 b3), .s (.int .i64 b4), .s (.int .i64 b5), .s (.int .i64 b6), .s (.int .i64 b7), .s (.int .i64 b8), .s (.int .i64 b9), .sub 1 1 0 n]), (1, .lst true t' [.str] l)] =>
    if t = TR ∧ t' = 9 then some (s, ⟨a0, a1, a2, a3, a4, a5, a6, a7, a8, a9, b0, b1, b2, b3, b4, b5, b6, b7, b8, b9⟩, n, l) else none
  | _, _ => none
theorem asTk_ok {args : List V} {h : Eng.Heap} {r : ByteArray × Cf × Nat × List ByteArray} (e : asTk args h = some r) : args = [.ptr 0 0, .s (.str r.1)] ∧ h = hpT r.2.1 r.2.2.1 r.2.2.2 := by
  unfold asTk at e
  split at e
  · obtain ⟨⟨q, q'⟩, e⟩ := ite_some0 e
    subst q
    subst q'
    cases e; exact ⟨rfl, rfl⟩
  · cases e
def tNo : Tk → Bool
  | .no => true
  | _ => false
def tSame : Tk → Bool
  | .same => true
  | _ => false
def tK : Tk → Nat
  | .set k _ _ => k
  | _ => 0
def tV : Tk → Int
  | .set _ v _ => v
  | _ => 0
def tX : Tk → ByteArray
  | .set _ _ x => x
  | _ => ⟨#[]⟩
def takS : Eng.Obj := fun args h => match asTk args h with
  | some r => .ite none (decide (r.1.size < 4294967281) && (decide (r.2.2.1 = r.2.2.2.length) && decide (r.2.2.2.length ≤ 100000))) (.ite none (tNo (takF r.2.2.2 r.1)) (.ret (.ff, hpT r.2.1 r.2.2.1 r.2.2.2)) (.ite none (tSame (takF r.2.2.2 r.1)) (.ret (.tt, hpT r.2.1 r.2.2.1 r.2.2.2)) (.ret (.tt, hpN (setC (tK (takF r.2.2.2 r.1)) (tV (takF r.2.2.2 r.1)) r.2.1) r.2.2.1 r.2.2.2 (tX (takF r.2.2.2 r.1)))))) .fail
  | none => .fail
theorem takS_ok : ObjOk Tryd.prog 30 takS := takX_ok.of_eval fun args h x hv => by
  unfold takS at hv
  split at hv
  · rename_i r hr
    obtain ⟨e1, e2⟩ := asTk_ok hr
    obtain ⟨s, c, n, l⟩ := r
    simp only at e1 e2 hv
    subst e1; subst e2
    obtain ⟨hg, hv⟩ := ite_T' hv
    rw [Bool.and_eq_true, Bool.and_eq_true, decide_eq_true_eq, decide_eq_true_eq, decide_eq_true_eq] at hg
    obtain ⟨g1, rfl, g3⟩ := hg
    rw [tak_run c l s g1 g3, ← hv]
    cases takF l s <;> rfl
  · cases hv
end Go.Proofs.YtdangjhbkffbnaaDoor.Txt

/- Settings by lines: all of them: loop. -/
namespace Go.Proofs.YtdangjhbkffbnaaDoor.Txt
open Go.Eng Go.RowKit
set_option linter.unusedVariables false
set_option linter.unusedSimpArgs false
set_option maxRecDepth 100000
noncomputable def Q1 : Cfg := ⟨Tryd.prog, lookG [(27, .val cutS), (31, .val trimS), (30, .obj takS), (32, .val Conf.mayS)], [], 0⟩
theorem Q1_ok : Q1.Ok := Cfg.ok ⟨cutS_ok, trimS_ok, takS_ok, Conf.may_ok, trivial⟩ trivial
noncomputable def lpPa : Code := loopAt Tryd.prog 11 0
structure PPa where (c0 : Int) (c1 : Int) (c2 : Int) (c3 : Int) (c4 : Int) (c5 : Int) (c6 : Int) (c7 : Int) (c8 : Int) (c9 : Int) (c10 : Int) (c11 : Int) (c12 : Int) (c13 : Int) (c14 : Int) (c15 : Int) (c16 : Int) (c17 : Int) (c18 : Int) (c19 : Int) (z0 : Int) (z1 : Int) (z2 : Int) (z3 : Int) (z4 : Int) (z5 : Int) (z6 : Int) (z7 : Int) (z8 : Int) (z9 : Int) (z10 : Int) (z11 : Int) (z12 : Int) (z13 : Int) (z14 : Int) (z15 : Int) (z16 : Int) (z17 : Int) (z18 : Int) (z19 : Int)
structure APa where (s : ByteArray) (k : Int) (m : Bool) (r0 : Int) (r1 : Int) (r2 : Int) (r3 : Int) (r4 : Int) (r5 : Int) (r6 : Int) (r7 : Int) (r8 : Int) (r9 : Int) (r10 : Int) (r11 : Int) (r12 : Int) (r13 : Int) (r14 : Int) (r15 : Int) (r16 : Int) (r17 : Int) (r18 : Int) (r19 : Int) (n : Nat) (l : List ByteArray)
abbrev SPa : List (Nat × Src) := [(0, .same), (8, .same), (16, .same), (4000, .cell 16 20)]
def vsPa (p : PPa) (a : APa) : List V := [.s (.str a.s), .ptr 0 0, .ptr 8 0, .ptr 16 0, iv a.k, bv a.m]
def bsPa (p : PPa) (a : APa) : List Blk := [.cells 23 [iv p.c0, iv p.c1, iv p.c2, iv p.c3, iv p.c4, iv p.c5, iv p.c6, iv p.c7, iv p.c8, iv p.c9, iv p.c10, iv p.c11, iv p.c12, iv p.c13, iv p.c14, iv p.c15, iv p.c16, iv p.c17, iv p.c18, iv p.c19], .cells 23 [iv p.z0, iv p.z1, iv p.z2, iv p.z3, iv p.z4, iv p.z5, iv p.z6, iv p.z7, iv p.z8, iv p.z9, iv p.z10, iv p.z11, iv p.z12, iv p.z13, iv p.z14, iv p.z15, iv p.z16, iv p.z17, iv p.z18, iv p.z19], .cells 60 [iv a.r0, iv a.r1, iv a.r2, iv a.r3, iv a.r4, iv a.r5, iv a.r6, iv a.r7, iv a.r8, iv a.r9, iv a.r10, iv a.r11, iv a.r12, iv a.r13, iv a.r14, iv a.r15, iv a.r16, iv a.r17, iv a.r18, iv a.r19, .sub 4000 1 0 a.n], .lst true 9 [.str] a.l]
noncomputable def FPa (p : PPa) (a : APa) : St := mkSt [1,2,4,7,8,9] (keysR SPa) 4001 35 (vsPa p a) (bsPa p a)
abbrev SPax : List (Nat × Src) := [(0, .same), (8, .same), (16, .same), (4000, .cell 16 20)]
noncomputable def rdPa (p : PPa) (a : APa) : T (Ex × St) := T.anon (roundX Q1 noLoops lpPa [1,2,4,7,8,9] SPa [2,4,5,6,7] SPax 4000 4001 (mkSt [1,2,4,7,8,9] (keysR SPa) 4001 35 (vsPa p a) (bsPa p a)))
def decPa_v0 : V → Option ((ByteArray))
  | .s (.str s) => some (s)
  | _ => none
theorem decPa_v0_ok (b : V) (x0 : (ByteArray)) (h : decPa_v0 b = some x0) : b = .s (.str (x0)) := by
  unfold decPa_v0 at h
  split at h
  · cases h
    rfl
  · cases h
def decPa_v1 : V → Option (Unit)
  | .ptr 0 0 => some ()
  | _ => none
theorem decPa_v1_ok (b : V) (x1 : Unit) (h : decPa_v1 b = some x1) : b = .ptr 0 0 := by
  unfold decPa_v1 at h
  split at h
  · cases h
    rfl
  · cases h
def decPa_v2 : V → Option (Unit)
  | .ptr 8 0 => some ()
  | _ => none
theorem decPa_v2_ok (b : V) (x2 : Unit) (h : decPa_v2 b = some x2) : b = .ptr 8 0 := by
  unfold decPa_v2 at h
  split at h
  · cases h
    rfl
  · cases h
def decPa_v3 : V → Option (Unit)
  | .ptr 16 0 => some ()
  | _ => none
theorem decPa_v3_ok (b : V) (x3 : Unit) (h : decPa_v3 b = some x3) : b = .ptr 16 0 := by
  unfold decPa_v3 at h
  split at h
  · cases h
    rfl
  · cases h
def decPa_v4 : V → Option ((Int))
  | .s (.int .i64 k) => some (k)
  | _ => none
theorem decPa_v4_ok (b : V) (x4 : (Int)) (h : decPa_v4 b = some x4) : b = iv (x4) := by
  unfold decPa_v4 at h
  split at h
  · cases h
    rfl
  · cases h
def decPa_v5 : V → Option ((Bool))
  | .s (.bool m) => some (m)
  | _ => none
theorem decPa_v5_ok (b : V) (x5 : (Bool)) (h : decPa_v5 b = some x5) : b = bv (x5) := by
  unfold decPa_v5 at h
  split at h
  · cases h
    rfl
  · cases h
def decPa_b0 : Blk → Option ((Int) × (Int) × (Int) × (Int) × (Int) × (Int) × (Int) × (Int) × (Int) × (Int) × (Int) × (Int) × (Int) × (Int) × (Int) × (Int) × (Int) × (Int) × (Int) × (Int))
  | .cells tt0 [.s (.int .i64 c0), .s (.int .i64 c1), .s (.int .i64 c2), .s (.int .i64 c3), .s (.int .i64 c4), .s (.int .i64 c5), .s (.int .i64 c6), .s (.int .i64 c7), .s (.int .i64 c8), .s (.int .i64 c9), .s (.int .i64 c10), .s (.int .i64 c11), .s (.int .i64 c12), .s (.int .i64 c13), .s (.int .i64 c14), .s (.int .i64 c15), .s (.int .i64 c16), .s (.int .i64 c17), .s (.int .i64 c18), .s (.int .i64 c19)] => if tt0 = 23 then some (c0, c1, c2, c3, c4, c5, c6, c7, c8, c9, c10, c11, c12, c13, c14, c15, c16, c17, c18, c19) else none
  | _ => none
theorem decPa_b0_ok (b : Blk) (y0 : (Int) × (Int) × (Int) × (Int) × (Int) × (Int) × (Int) × (Int) × (Int) × (Int) × (Int) × (Int) × (Int) × (Int) × (Int) × (Int) × (Int) × (Int) × (Int) × (Int)) (h : decPa_b0 b = some y0) : b = .cells 23 [iv (y0.1), iv (y0.2.1), iv (y0.2.2.1), iv (y0.2.2.2.1), iv (y0.2.2.2.2.1), iv (y0.2.2.2.2.2.1), iv (y0.2.2.2.2.2.2.1), iv (y0.2.2.2.2.2.2.2.1), iv (y0.2.2.2.2.2.2.2.2.1), iv (y0.2.2.2.2.2.2.2.2.2.1), iv (y0.2.2.2.2.2.2.2.2.2.2.1), iv (y0.2.2.2.2.2.2.2.2.2.2.2.1), iv (y0.2.2.2.2.2.2.2.2.2.2.2.2.1), iv (y0.2.2.2.2.2.2.2.2.2.2.2.2.2.1), iv (y0.2.2.2.2.2.2.2.2.2.2.2.2.2.2.1), iv (y0.2.2.2.2.2.2.2.2.2.2.2.2.2.2.2.1), iv (y0.2.2.2.2.2.2.2.2.2.2.2.2.2.2.2.2.1), iv (y0.2.2.2.2.2.2.2.2.2.2.2.2.2.2.2.2.2.1), iv (y0.2.2.2.2.2.2.2.2.2.2.2.2.2.2.2.2.2.2.1), iv (y0.2.2.2.2.2.2.2.2.2.2.2.2.2.2.2.2.2.2.2)] := by
  unfold decPa_b0 at h
  split at h
  · obtain ⟨e0, h⟩ := ite_some0 h
    subst e0
    cases h
    rfl
  · cases h
def decPa_b1 : Blk → Option ((Int) × (Int) × (Int) × (Int) × (Int) × (Int) × (Int) × (Int) × (Int) × (Int) × (Int) × (Int) × (Int) × (Int) × (Int) × (Int) × (Int) × (Int) × (Int) × (Int))
  | .cells tt0 [.s (.int .i64 z0), .s (.int .i64 z1), .s (.int .i64 z2), .s (.int .i64 z3), .s (.int .i64 z4), .s (.int .i64 z5), .s (.int .i64 z6), .s (.int .i64 z7), .s (.int .i64 z8), .s (.int .i64 z9), .s (.int .i64 z10), .s (.int .i64 z11), .s (.int .i64 z12), .s (.int .i64 z13), .s (.int .i64 z14), .s (.int .i64 z15), .s (.int .i64 z16), .s (.int .i64 z17), .s (.int .i64 z18), .s (.int .i64 z19)] => if tt0 = 23 then some (z0, z1, z2, z3, z4, z5, z6, z7, z8, z9, z10, z11, z12, z13, z14, z15, z16, z17, z18, z19) else none
  | _ => none
theorem decPa_b1_ok (b : Blk) (y1 : (Int) × (Int) × (Int) × (Int) × (Int) × (Int) × (Int) × (Int) × (Int) × (Int) × (Int) × (Int) × (Int) × (Int) × (Int) × (Int) × (Int) × (Int) × (Int) × (Int)) (h : decPa_b1 b = some y1) : b = .cells 23 [iv (y1.1), iv (y1.2.1), iv (y1.2.2.1), iv (y1.2.2.2.1), iv (y1.2.2.2.2.1), iv (y1.2.2.2.2.2.1), iv (y1.2.2.2.2.2.2.1), iv (y1.2.2.2.2.2.2.2.1), iv (y1.2.2.2.2.2.2.2.2.1), iv (y1.2.2.2.2.2.2.2.2.2.1), iv (y1.2.2.2.2.2.2.2.2.2.2.1), iv (y1.2.2.2.2.2.2.2.2.2.2.2.1), iv (y1.2.2.2.2.2.2.2.2.2.2.2.2.1), iv (y1.2.2.2.2.2.2.2.2.2.2.2.2.2.1), iv (y1.2.2.2.2.2.2.2.2.2.2.2.2.2.2.1), iv (y1.2.2.2.2.2.2.2.2.2.2.2.2.2.2.2.1), iv (y1.2.2.2.2.2.2.2.2.2.2.2.2.2.2.2.2.1), iv (y1.2.2.2.2.2.2.2.2.2.2.2.2.2.2.2.2.2.1), iv (y1.2.2.2.2.2.2.2.2.2.2.2.2.2.2.2.2.2.2.1), iv (y1.2.2.2.2.2.2.2.2.2.2.2.2.2.2.2.2.2.2.2)] := by
  unfold decPa_b1 at h
  split at h
  · obtain ⟨e0, h⟩ := ite_some0 h
    subst e0
    cases h
    rfl
  · cases h
def decPa_b2 : Blk → Option ((Int) × (Int) × (Int) × (Int) × (Int) × (Int) × (Int) × (Int) × (Int) × (Int) × (Int) × (Int) × (Int) × (Int) × (Int) × (Int) × (Int) × (Int) × (Int) × (Int) × (Nat))
  | .cells tt0 [.s (.int .i64 r0), .s (.int .i64 r1), .s (.int .i64 r2), .s (.int .i64 r3), .s (.int .i64 r4), .s (.int .i64 r5), .s (.int .i64 r6), .s (.int .i64 r7), .s (.int .i64 r8), .s (.int .i64 r9), .s (.int .i64 r10), .s (.int .i64 r11), .s (.int .i64 r12), .s (.int .i64 r13), .s (.int .i64 r14), .s (.int .i64 r15), .s (.int .i64 r16), .s (.int .i64 r17), .s (.int .i64 r18), .s (.int .i64 r19), .sub 4000 1 0 n] => if tt0 = 60 then some (r0, r1, r2, r3, r4, r5, r6, r7, r8, r9, r10, r11, r12, r13, r14, r15, r16, r17, r18, r19, n) else none
  | _ => none
theorem decPa_b2_ok (b : Blk) (y2 : (Int) × (Int) × (Int) × (Int) × (Int) × (Int) × (Int) × (Int) × (Int) × (Int) × (Int) × (Int) × (Int) × (Int) × (Int) × (Int) × (Int) × (Int) × (Int) × (Int) × (Nat)) (h : decPa_b2 b = some y2) : b = .cells 60 [iv (y2.1), iv (y2.2.1), iv (y2.2.2.1), iv (y2.2.2.2.1), iv (y2.2.2.2.2.1), iv (y2.2.2.2.2.2.1), iv (y2.2.2.2.2.2.2.1), iv (y2.2.2.2.2.2.2.2.1), iv (y2.2.2.2.2.2.2.2.2.1), iv (y2.2.2.2.2.2.2.2.2.2.1), iv (y2.2.2.2.2.2.2.2.2.2.2.1), iv (y2.2.2.2.2.2.2.2.2.2.2.2.1), iv (y2.2.2.2.2.2.2.2.2.2.2.2.2.1), iv (y2.2.2.2.2.2.2.2.2.2.2.2.2.2.1), iv (y2.2.2.2.2.2.2.2.2.2.2.2.2.2.2.1), iv (y2.2.2.2.2.2.2.2.2.2.2.2.2.2.2.2.1), iv (y2.2.2.2.2.2.2.2.2.2.2.2.2.2.2.2.2.1), iv (y2.2.2.2.2.2.2.2.2.2.2.2.2.2.2.2.2.2.1), iv (y2.2.2.2.2.2.2.2.2.2.2.2.2.2.2.2.2.2.2.1), iv (y2.2.2.2.2.2.2.2.2.2.2.2.2.2.2.2.2.2.2.2.1), .sub 4000 1 0 (y2.2.2.2.2.2.2.2.2.2.2.2.2.2.2.2.2.2.2.2.2)] := by
  unfold decPa_b2 at h
  split at h
  · obtain ⟨e0, h⟩ := ite_some0 h
    subst e0
    cases h
    rfl
  · cases h
def decPa_b3 : Blk → Option ((List ByteArray))
  | .lst true tt0 [.str] l => if tt0 = 9 then some (l) else none
  | _ => none
theorem decPa_b3_ok (b : Blk) (y3 : (List ByteArray)) (h : decPa_b3 b = some y3) : b = .lst true 9 [.str] (y3) := by
  unfold decPa_b3 at h
  split at h
  · obtain ⟨e0, h⟩ := ite_some0 h
    subst e0
    cases h
    rfl
  · cases h
def decPa : List V → List Blk → Option (PPa × APa)
  | [v0, v1, v2, v3, v4, v5], [b0, b1, b2, b3] => (decPa_v0 v0).bind fun x0 => (decPa_v1 v1).bind fun x1 => (decPa_v2 v2).bind fun x2 => (decPa_v3 v3).bind fun x3 => (decPa_v4 v4).bind fun x4 => (decPa_v5 v5).bind fun x5 => (decPa_b0 b0).bind fun y0 => (decPa_b1 b1).bind fun y1 => (decPa_b2 b2).bind fun y2 => (decPa_b3 b3).bind fun y3 => some (⟨(y0.1), (y0.2.1), (y0.2.2.1), (y0.2.2.2.1), (y0.2.2.2.2.1), (y0.2.2.2.2.2.1), (y0.2.2.2.2.2.2.1), (y0.2.2.2.2.2.2.2.1), (y0.2.2.2.2.2.2.2.2.1), (y0.2.2.2.2.2.2.2.2.2.1), (y0.2.2.2.2.2.2.2.2.2.2.1), (y0.2.2.2.2.2.2.2.2.2.2.2.1), (y0.2.2.2.2.2.2.2.2.2.2.2.2.1), (y0.2.2.2.2.2.2.2.2.2.2.2.2.2.1), (y0.2.2.2.2.2.2.2.2.2.2.2.2.2.2.1), (y0.2.2.2.2.2.2.2.2.2.2.2.2.2.2.2.1), (y0.2.2.2.2.2.2.2.2.2.2.2.2.2.2.2.2.1), (y0.2.2.2.2.2.2.2.2.2.2.2.2.2.2.2.2.2.1), (y0.2.2.2.2.2.2.2.2.2.2.2.2.2.2.2.2.2.2.1), (y0.2.2.2.2.2.2.2.2.2.2.2.2.2.2.2.2.2.2.2), (y1.1), (y1.2.1), (y1.2.2.1), (y1.2.2.2.1), (y1.2.2.2.2.1), (y1.2.2.2.2.2.1), (y1.2.2.2.2.2.2.1), (y1.2.2.2.2.2.2.2.1), (y1.2.2.2.2.2.2.2.2.1), (y1.2.2.2.2.2.2.2.2.2.1), (y1.2.2.2.2.2.2.2.2.2.2.1), (y1.2.2.2.2.2.2.2.2.2.2.2.1), (y1.2.2.2.2.2.2.2.2.2.2.2.2.1), (y1.2.2.2.2.2.2.2.2.2.2.2.2.2.1), (y1.2.2.2.2.2.2.2.2.2.2.2.2.2.2.1), (y1.2.2.2.2.2.2.2.2.2.2.2.2.2.2.2.1), (y1.2.2.2.2.2.2.2.2.2.2.2.2.2.2.2.2.1), (y1.2.2.2.2.2.2.2.2.2.2.2.2.2.2.2.2.2.1), (y1.2.2.2.2.2.2.2.2.2.2.2.2.2.2.2.2.2.2.1), (y1.2.2.2.2.2.2.2.2.2.2.2.2.2.2.2.2.2.2.2)⟩, ⟨(x0), (x4), (x5), (y2.1), (y2.2.1), (y2.2.2.1), (y2.2.2.2.1), (y2.2.2.2.2.1), (y2.2.2.2.2.2.1), (y2.2.2.2.2.2.2.1), (y2.2.2.2.2.2.2.2.1), (y2.2.2.2.2.2.2.2.2.1), (y2.2.2.2.2.2.2.2.2.2.1), (y2.2.2.2.2.2.2.2.2.2.2.1), (y2.2.2.2.2.2.2.2.2.2.2.2.1), (y2.2.2.2.2.2.2.2.2.2.2.2.2.1), (y2.2.2.2.2.2.2.2.2.2.2.2.2.2.1), (y2.2.2.2.2.2.2.2.2.2.2.2.2.2.2.1), (y2.2.2.2.2.2.2.2.2.2.2.2.2.2.2.2.1), (y2.2.2.2.2.2.2.2.2.2.2.2.2.2.2.2.2.1), (y2.2.2.2.2.2.2.2.2.2.2.2.2.2.2.2.2.2.1), (y2.2.2.2.2.2.2.2.2.2.2.2.2.2.2.2.2.2.2.1), (y2.2.2.2.2.2.2.2.2.2.2.2.2.2.2.2.2.2.2.2.1), (y2.2.2.2.2.2.2.2.2.2.2.2.2.2.2.2.2.2.2.2.2), (y3)⟩)
  | _, _ => none
theorem decPa_ok (l : List V) (b : List Blk) (d : PPa × APa) (h : decPa l b = some d) : l = vsPa d.1 d.2 ∧ b = bsPa d.1 d.2 := by
  unfold decPa at h
  split at h
  · obtain ⟨x0, hx0, h⟩ := Option.bind_eq_some_iff.1 h
    obtain ⟨x1, hx1, h⟩ := Option.bind_eq_some_iff.1 h
    obtain ⟨x2, hx2, h⟩ := Option.bind_eq_some_iff.1 h
    obtain ⟨x3, hx3, h⟩ := Option.bind_eq_some_iff.1 h
    obtain ⟨x4, hx4, h⟩ := Option.bind_eq_some_iff.1 h
    obtain ⟨x5, hx5, h⟩ := Option.bind_eq_some_iff.1 h
    obtain ⟨y0, hy0, h⟩ := Option.bind_eq_some_iff.1 h
    obtain ⟨y1, hy1, h⟩ := Option.bind_eq_some_iff.1 h
    obtain ⟨y2, hy2, h⟩ := Option.bind_eq_some_iff.1 h
    obtain ⟨y3, hy3, h⟩ := Option.bind_eq_some_iff.1 h
    have ex0 := decPa_v0_ok _ _ hx0
    have ex1 := decPa_v1_ok _ _ hx1
    have ex2 := decPa_v2_ok _ _ hx2
    have ex3 := decPa_v3_ok _ _ hx3
    have ex4 := decPa_v4_ok _ _ hx4
    have ex5 := decPa_v5_ok _ _ hx5
    have ey0 := decPa_b0_ok _ _ hy0
    have ey1 := decPa_b1_ok _ _ hy1
    have ey2 := decPa_b2_ok _ _ hy2
    have ey3 := decPa_b3_ok _ _ hy3
    cases h
    subst ex0 ex1 ex2 ex3 ex4 ex5 ey0 ey1 ey2 ey3
    exact ⟨rfl, rfl⟩
  · cases h
noncomputable def rgPa : Nat := (firstReg lpPa).getD 0
theorem rgPa_is : firstReg lpPa = some rgPa := by kernel_rfl
def pP (c z : Conf.Cf) : PPa := ⟨c.target, c.util, c.stable, c.panic, c.grain, c.threshold, c.up, c.down, c.min, c.max, c.initial, c.grace, c.delay, c.burst, c.limit, c.queue, c.timeout, c.ready, c.subset, c.sample, z.target, z.util, z.stable, z.panic, z.grain, z.threshold, z.up, z.down, z.min, z.max, z.initial, z.grace, z.delay, z.burst, z.limit, z.queue, z.timeout, z.ready, z.subset, z.sample⟩
def aP (s : ByteArray) (k : Int) (m : Bool) (r : Conf.Cf) (n : Nat) (l : List ByteArray) : APa := ⟨s, k, m, r.target, r.util, r.stable, r.panic, r.grain, r.threshold, r.up, r.down, r.min, r.max, r.initial, r.grace, r.delay, r.burst, r.limit, r.queue, r.timeout, r.ready, r.subset, r.sample, n, l⟩
def cuP (s : ByteArray) : List UInt8 × List UInt8 × Bool := cutF (L8 s) [10]
/-- the first line, with no blanks at its ends -/
def lnP (s : ByteArray) : ByteArray := byA (trB (L8 (byA (cuP s).1)) 32)
def rsP (s : ByteArray) : ByteArray := byA (cuP s).2.1
def moP (s : ByteArray) : Bool := (cuP s).2.2
def ttP (l : List ByteArray) (s : ByteArray) : Tk := takF l (lnP s)
def hdPa (s : ByteArray) (m : Bool) (n : Nat) (l : List ByteArray) (c : Bool) : List (Bool × Bool) := [(m, true), (decide (s.size < 4294967281), true), (decide ((byA (cuP s).1).size ≤ 9223372036854775807), true), (decide ((lnP s).size < 4294967281) && (decide (n = l.length) && decide (l.length ≤ 100000)), true), (tNo (ttP l s), c)]
noncomputable def fPa (c : Conf.Cf) (s : ByteArray) (k : Int) (m : Bool) (r : Conf.Cf) (n : Nat) (l : List ByteArray) : St := mkSt [2, 4, 5, 6, 7] [0, 8, 16, 4000] 4001 35 [.ptr 0 0, .ptr 8 0, iv 4, iv k, .ptr 16 0] (bsPa (pP c c) (aP s k m r n l))
noncomputable def oPa (c z : Conf.Cf) (s : ByteArray) (k : Int) (m : Bool) (r : Conf.Cf) (n : Nat) (l : List ByteArray) : St := mkSt [2, 4, 5, 6, 7] [0, 8, 16, 4000] 4001 35 [.ptr 0 0, .ptr 8 0, .junk, .junk, .ptr 16 0] (bsPa (pP c z) (aP s k m r n l))
theorem pa_f (c z r : Conf.Cf) (s : ByteArray) (k : Int) (m : Bool) (n : Nat) (l : List ByteArray) : T.path [true, true, true, true, true] (rdPa (pP c z) (aP s k m r n l)) = some (hdPa s m n l true, (.ret, fPa c s k m r n l)) := by kernel_rfl
theorem pa_x (c z r : Conf.Cf) (s : ByteArray) (k : Int) (m : Bool) (n : Nat) (l : List ByteArray) : T.path [false] (rdPa (pP c z) (aP s k m r n l)) = some ([(m, false)], (.exit 0, oPa c z s k m r n l)) := by kernel_rfl
theorem pa_s (c z r : Conf.Cf) (s : ByteArray) (k : Int) (m : Bool) (n : Nat) (l : List ByteArray) : T.path [true, true, true, true, false, true] (rdPa (pP c z) (aP s k m r n l)) = some (hdPa s m n l false ++ [(tSame (ttP l s), true)], (.normal, FPa (pP c z) (aP (rsP s) (IntKind.wrap .i64 (k + 1)) (moP s) r n l))) := by kernel_rfl
theorem pa_n (c z r : Conf.Cf) (s : ByteArray) (k : Int) (m : Bool) (n : Nat) (l : List ByteArray) : T.path [true, true, true, true, false, false] (rdPa (pP c z) (aP s k m r n l)) = some (hdPa s m n l false ++ [(tSame (ttP l s), false)], (.normal, FPa (pP c z) (aP (rsP s) (IntKind.wrap .i64 (k + 1)) (moP s) (setC (tK (ttP l s)) (tV (ttP l s)) r) (n + [tX (ttP l s)].length) (l.take n ++ [tX (ttP l s)])))) := by kernel_rfl
end Go.Proofs.YtdangjhbkffbnaaDoor.Txt

/- Settings by lines: all of them: contract. -/
namespace Go.Proofs.YtdangjhbkffbnaaDoor.Txt
open Go.Eng Go.RowKit
set_option linter.unusedVariables false
set_option linter.unusedSimpArgs false
set_option maxRecDepth 100000
/-- all lines: what they say, or which is wrong -/
def pG : Nat → Conf.Cf → List ByteArray → ByteArray → Int → Option Conf.Cf × Int
  | 0, r, l, s, k => (none, 0)
  | f + 1, r, l, s, k => match ttP l s with
    | .no => (none, k)
    | .same => bif moP s then pG f r l (rsP s) (k + 1) else (some r, 0)
    | .set j v x => bif moP s then pG f (setC j v r) (l ++ [x]) (rsP s) (k + 1) else (some (setC j v r), 0)
theorem idxF_lt {c : UInt8} : ∀ {l : List UInt8} {k : Nat}, idxF l [c] = some k → k < l.length
  | [], k, h => by cases h
  | b :: l, k, h => by
    unfold idxF at h
    split at h
    · obtain rfl := Option.some.inj h
      simp
    · obtain ⟨j, hj, rfl⟩ := Option.map_eq_some_iff.1 h
      have := idxF_lt hj
      simp only [List.length_cons]; omega
theorem rsP_size {s : ByteArray} (h : moP s = true) : (rsP s).size + 1 ≤ s.size := by
  unfold rsP
  rw [byA_size]
  unfold moP cuP cutF at *
  cases hi : idxF (L8 s) [10] with
  | none => rw [hi] at h; cases h
  | some k =>
    have := idxF_lt hi
    rw [L8_len] at this
    show (List.drop (k + 1) (L8 s)).length + 1 ≤ _
    rw [List.length_drop, L8_len]; omega
theorem dropW_len (c : UInt8) (l : List UInt8) : (dropW c l).length ≤ l.length := by
  rw [← dropW_is]
  exact (List.dropWhile_sublist (l := l) (· == c)).length_le
theorem lnP_size (s : ByteArray) : (lnP s).size ≤ s.size ∧ (byA (cuP s).1).size ≤ s.size := by
  have h1 : (byA (cuP s).1).size ≤ s.size := by
    rw [byA_size, ← L8_len]
    exact (cutF_len (L8 s) [10]).1
  refine ⟨?_, h1⟩
  unfold lnP trB
  rw [byA_size]
  have a := dropW_len 32 (trR (L8 (byA (cuP s).1)) 32)
  have b := trR_len (L8 (byA (cuP s).1)) 32
  rw [L8_len] at b
  omega
structure okPx (S0 : Nat) (G : Option Conf.Cf × Int) (s : ByteArray) (k : Int) (m : Bool) (r : Conf.Cf) (l : List ByteArray) : Prop where
  s0 : S0 ≤ 90000
  k0 : 1 ≤ k
  t : m = true → l.length + s.size ≤ S0 ∧ k + s.size ≤ S0 + 2 ∧ ∃ f : Nat, s.size < f ∧ G = pG f r l s k
  e : m = false → G = (some r, 0)
def okPa (p : PPa) (a : APa) : Prop := ∃ (c z r : Conf.Cf) (s : ByteArray) (k : Int) (m : Bool) (l : List ByteArray) (S0 : Nat) (G : Option Conf.Cf × Int), p = pP c z ∧ a = aP s k m r l.length l ∧ okPx S0 G s k m r l
def goPa (p : PPa) (a : APa) : Bool := a.m && !tNo (ttP a.l a.s)
def muPa (p : PPa) (a : APa) : Nat := bif a.m then a.s.size + 1 else 0
theorem pa_hd {S0 : Nat} {G : Option Conf.Cf × Int} {s : ByteArray} {k : Int} {r : Conf.Cf} {l : List ByteArray} (h : okPx S0 G s k true r l) {c : Bool} (hc : tNo (ttP l s) = c) : allSay (hdPa s true l.length l c) := by
  have hs0 := h.s0
  obtain ⟨hb, -, -⟩ := h.t rfl
  obtain ⟨q1, q2⟩ := lnP_size s
  exact ⟨rfl, decide_eq_true (by omega), decide_eq_true (by omega), by rw [decide_eq_true (show (lnP s).size < 4294967281 by omega), decide_eq_true (show l.length ≤ 100000 by omega), decide_eq_true rfl]; rfl, hc, trivial⟩
/-- what one more line makes -/
def nxP (s : ByteArray) (k : Int) (r : Conf.Cf) (l : List ByteArray) : APa := match ttP l s with
  | .set j v x => aP (rsP s) (k + 1) (moP s) (setC j v r) (l ++ [x]).length (l ++ [x])
  | _ => aP (rsP s) (k + 1) (moP s) r l.length l
theorem pa_on {S0 : Nat} {G : Option Conf.Cf × Int} {c z r : Conf.Cf} {s : ByteArray} {k : Int} {l : List ByteArray} (h : okPx S0 G s k true r l) (hn : tNo (ttP l s) = false) :
    (rdPa (pP c z) (aP s k true r l.length l)).eval = some (.normal, FPa (pP c z) (nxP s k r l)) ∧ ∃ r' l', nxP s k r l = aP (rsP s) (k + 1) (moP s) r' l'.length l' ∧ okPx S0 G (rsP s) (k + 1) (moP s) r' l' := by
  have hd := pa_hd h hn
  obtain ⟨h1, h2, h3, -⟩ := h
  obtain ⟨h4, h5, f, h6, h7⟩ := h3 rfl
  have wk : IntKind.wrap .i64 (k + 1) = k + 1 := wrap64 (by omega) (by omega)
  cases f with
  | zero => omega
  | succ f =>
    unfold pG at h7
    unfold nxP
    cases ht : ttP l s with
    | no => rw [ht] at hn; cases hn
    | same =>
      rw [ht] at h7
      have h7 : G = bif moP s then pG f r l (rsP s) (k + 1) else (some r, 0) := h7
      have way := pa_s c z r s k true l.length l
      rw [wk] at way
      refine ⟨T.path_eval way (allSay_append hd ⟨by rw [ht]; rfl, trivial⟩), r, l, rfl, h1, by omega, fun hm => ?_, fun hm => by rw [h7, hm]; rfl⟩
      have := rsP_size hm
      exact ⟨by omega, by omega, f, by omega, by rw [h7, hm]; rfl⟩
    | set j v x =>
      rw [ht] at h7
      have h7 : G = bif moP s then pG f (setC j v r) (l ++ [x]) (rsP s) (k + 1) else (some (setC j v r), 0) := h7
      have way := pa_n c z r s k true l.length l
      have hl : (l ++ [x]).length = l.length + [x].length := List.length_append
      have hsm : tSame (ttP l s) = false := by rw [ht]; rfl
      rw [wk, ht, List.take_length] at way
      simp only [tK, tV, tX] at way
      rw [← hl] at way
      rw [ht] at hsm
      refine ⟨T.path_eval way (allSay_append hd ⟨hsm, trivial⟩), setC j v r, l ++ [x], rfl, h1, by omega, fun hm => ?_, fun hm => by rw [h7, hm]; rfl⟩
      have := rsP_size hm
      exact ⟨by rw [List.length_append, List.length_singleton]; omega, by omega, f, by omega, by rw [h7, hm]; rfl⟩
def dupP (p : PPa) : PPa := ⟨p.c0, p.c1, p.c2, p.c3, p.c4, p.c5, p.c6, p.c7, p.c8, p.c9, p.c10, p.c11, p.c12, p.c13, p.c14, p.c15, p.c16, p.c17, p.c18, p.c19, p.c0, p.c1, p.c2, p.c3, p.c4, p.c5, p.c6, p.c7, p.c8, p.c9, p.c10, p.c11, p.c12, p.c13, p.c14, p.c15, p.c16, p.c17, p.c18, p.c19⟩
def stF (p : PPa) (a : APa) : St := mkSt [2, 4, 5, 6, 7] [0, 8, 16, 4000] 4001 35 [.ptr 0 0, .ptr 8 0, iv 4, iv a.k, .ptr 16 0] (bsPa (dupP p) a)
def stX (p : PPa) (a : APa) : St := mkSt [2, 4, 5, 6, 7] [0, 8, 16, 4000] 4001 35 [.ptr 0 0, .ptr 8 0, .junk, .junk, .ptr 16 0] (bsPa p a)
theorem stepPa (p : PPa) (a : APa) (h : okPa p a) (hg : goPa p a = true) : ∃ b, stepC okPa rdPa FPa muPa p a b := by
  obtain ⟨c, z, r, s, k, m, l, S0, G, rfl, rfl, hx⟩ := h
  unfold goPa at hg
  rw [Bool.and_eq_true, Bool.not_eq_true'] at hg
  obtain ⟨hm, hn⟩ := hg
  obtain rfl : m = true := hm
  have hn : tNo (ttP l s) = false := hn
  obtain ⟨h1, r', l', h2, h3⟩ := pa_on (c := c) (z := z) hx hn
  refine ⟨_, h1, ⟨c, z, r', rsP s, k + 1, moP s, l', S0, G, rfl, h2, h3⟩, ?_⟩
  rw [h2]
  show (bif moP s then (rsP s).size + 1 else 0) < s.size + 1
  cases hm : moP s with
  | true =>
    have := rsP_size hm
    show (rsP s).size + 1 < s.size + 1
    omega
  | false => show 0 < s.size + 1; omega
def outPa (p : PPa) (a : APa) : T (Ex × St) := .ite none a.m (.ret (.ret, stF p a)) (.ret (.exit 0, stX p a))
theorem exPa (p : PPa) (a : APa) (h : okPa p a) (hg : goPa p a = false) (x : Ex × St) (hr : (outPa p a).eval = some x) : x.1 ≠ .normal ∧ (rdPa p a).eval = some x := by
  obtain ⟨c, z, r, s, k, m, l, S0, G, rfl, rfl, hx⟩ := h
  unfold outPa at hr
  cases m with
  | true =>
    have hr : some (Ex.ret, stF (pP c z) (aP s k true r l.length l)) = some x := hr
    obtain rfl := Option.some.inj hr
    have hn : tNo (ttP l s) = true := by
      unfold goPa at hg
      have hg : (true && !tNo (ttP l s)) = false := hg
      rw [Bool.true_and, Bool.not_eq_false'] at hg
      exact hg
    exact ⟨by simp, T.path_eval (pa_f c z r s k true l.length l) (pa_hd hx hn)⟩
  | false =>
    have hr : some (Ex.exit 0, stX (pP c z) (aP s k false r l.length l)) = some x := hr
    obtain rfl := Option.some.inj hr
    exact ⟨by simp, T.path_eval (pa_x c z r s k false l.length l) ⟨rfl, trivial⟩⟩
noncomputable def famPa : LSpec := famE [1,2,4,7,8,9] SPa SPax 4000 4001 35 decPa okPa goPa rdPa FPa muPa outPa
theorem lpPa_ok : LoopOk Q1 lpPa famPa := famE_ok (vs := vsPa) (bs := bsPa) Q1_ok mixed (noLoops_ok _) decPa_ok (fun _ _ => rfl) (fun _ _ => rfl) stepPa exPa
noncomputable def famPv : LSpec := fun st => (adoptC 16 20 9 [.str] st).bind famPa
theorem lpPv_ok : LoopOk Q1 lpPa famPv := lpPa_ok.adoptC 16 20 9 [.str]
noncomputable def parX : Eng.Spec := execS Q1 (byReg [(rgPa, famPv)]) 11
theorem parX_ok : SpecOk Tryd.prog 11 parX := execS_loops Q1_ok mixed Tryd.func11 (by kernel_rfl) (by kernel_rfl) (one_lp (c := lpPa) (by kernel_rfl) rgPa_is lpPv_ok)
theorem decPa_self (p : PPa) (a : APa) : decPa (vsPa p a) (bsPa p a) = some (p, a) := by cases p; cases a; rfl
theorem FPa_inj {p : PPa} {a b : APa} (h : FPa p a = FPa p b) : a = b := by
  have e1 : vsPa p a = vsPa p b := congrArg (fun s : St => s.tmps.map Prod.snd) h
  have e2 : bsPa p a = bsPa p b := congrArg (fun s : St => s.heap.map Prod.snd) h
  have := decPa_self p a
  rw [e1, e2, decPa_self p b] at this
  cases this; rfl
def zz : Conf.Cf := ⟨0, 0, 0, 0, 0, 0, 0, 0, 0, 0, 0, 0, 0, 0, 0, 0, 0, 0, 0, 0⟩
def rC (a : APa) : Conf.Cf := ⟨a.r0, a.r1, a.r2, a.r3, a.r4, a.r5, a.r6, a.r7, a.r8, a.r9, a.r10, a.r11, a.r12, a.r13, a.r14, a.r15, a.r16, a.r17, a.r18, a.r19⟩
noncomputable def ePa (c : Conf.Cf) (s : ByteArray) : APa := endW (nxtC okPa goPa rdPa FPa muPa (pP c zz)) (aP s 1 true c 0 [])
theorem par_f (c : Conf.Cf) (s : ByteArray) : T.path [true, true] (T.anon (parX [Conf.confV c, .s (.str s)])) = some ([(invC okPa (pP c zz) (aP s 1 true c 0 []), true), ((ePa c s).m, true)], .tup [Conf.confV c, iv 4, iv (ePa c s).k]) := by kernel_rfl
theorem par_b (c : Conf.Cf) (s : ByteArray) : T.path [true, false, true] (T.anon (parX [Conf.confV c, .s (.str s)])) = some ([(invC okPa (pP c zz) (aP s 1 true c 0 []), true), ((ePa c s).m, false), (!Conf.mayB (rC (ePa c s)), true)], .tup [Conf.confV c, iv 5, iv 0]) := by kernel_rfl
theorem par_g (c : Conf.Cf) (s : ByteArray) : T.path [true, false, false] (T.anon (parX [Conf.confV c, .s (.str s)])) = some ([(invC okPa (pP c zz) (aP s 1 true c 0 []), true), ((ePa c s).m, false), (!Conf.mayB (rC (ePa c s)), false)], .tup [Conf.confV (rC (ePa c s)), iv 0, iv 0]) := by kernel_rfl
/-- what all lines say of settings -/
def pAll (c : Conf.Cf) (s : ByteArray) : Option Conf.Cf × Int := pG (s.size + 1) c [] s 1
theorem par_end (c : Conf.Cf) {s : ByteArray} (hs : s.size ≤ 90000) : invC okPa (pP c zz) (aP s 1 true c 0 []) = true ∧ ((ePa c s).m = true → pAll c s = (none, (ePa c s).k)) ∧ ((ePa c s).m = false → pAll c s = (some (rC (ePa c s)), 0)) := by
  have hx : okPx s.size (pAll c s) s 1 true c [] := ⟨hs, Int.le_refl _, fun _ => ⟨by simp, by omega, s.size + 1, Nat.lt_succ_self _, rfl⟩, fun h => by cases h⟩
  have h0 : okPa (pP c zz) (aP s 1 true c 0 []) := ⟨c, zz, c, s, 1, true, [], s.size, pAll c s, rfl, rfl, hx⟩
  obtain ⟨k1, k2, k3⟩ := endW_says (nxt := nxtC okPa goPa rdPa FPa muPa (pP c zz)) (I := fun a => okPa (pP c zz) a) (μ := muPa (pP c zz)) (fun a b _ e => (nxtC_some e).2.2) h0
  have g : goPa (pP c zz) (ePa c s) = false := nxtC_none stepPa k1 k2
  have q : ∃ r t k m l, ePa c s = aP t k m r (List.length l) l ∧ okPx s.size (pAll c s) t k m r l := by
    refine k3 (fun a => ∃ r t k m l, a = aP t k m r (List.length l) l ∧ okPx s.size (pAll c s) t k m r l) ⟨c, s, 1, true, [], rfl, hx⟩ ?_
    rintro a b - ⟨r, t, k, m, l, rfl, hx⟩ e
    obtain ⟨eg, es⟩ := nxtC_some e
    unfold goPa at eg
    rw [Bool.and_eq_true, Bool.not_eq_true'] at eg
    obtain ⟨hm, hn⟩ := eg
    obtain rfl : m = true := hm
    obtain ⟨h1, r', l', h2, h3⟩ := pa_on (c := c) (z := zz) hx hn
    have : b = nxP t k r l := FPa_inj (congrArg Prod.snd (Option.some.inj (es.1.symm.trans h1)))
    exact ⟨r', rsP t, k + 1, moP t, l', this.trans h2, h3⟩
  obtain ⟨r, t, k, m, l, he, hx⟩ := q
  rw [he]
  rw [he] at g
  refine ⟨invC_is h0, fun hm => ?_, fun hm => ?_⟩
  · obtain rfl : m = true := hm
    obtain ⟨-, -, f, h6, h7⟩ := hx.t rfl
    have hn : tNo (ttP l t) = true := by
      unfold goPa at g
      have g : (true && !tNo (ttP l t)) = false := g
      rw [Bool.true_and, Bool.not_eq_false'] at g
      exact g
    cases f with
    | zero => omega
    | succ f =>
      rw [h7]
      unfold pG
      cases ht : ttP l t with
      | no => rfl
      | same => rw [ht] at hn; cases hn
      | set j v x => rw [ht] at hn; cases hn
  · obtain rfl : m = false := hm
    exact hx.e rfl
def parF (c : Conf.Cf) (s : ByteArray) : Conf.Cf × Int × Int := match (pAll c s).1 with
  | none => (c, 4, (pAll c s).2)
  | some r => bif Conf.mayB r then (r, 0, 0) else (c, 5, 0)
def parV (c : Conf.Cf) (s : ByteArray) : V := .tup [Conf.confV (parF c s).1, iv (parF c s).2.1, iv (parF c s).2.2]
theorem par_run (c : Conf.Cf) {s : ByteArray} (hs : s.size ≤ 90000) : (parX [Conf.confV c, .s (.str s)]).eval = some (parV c s) := by
  rw [← T.eval_anon (t := parX _)]
  obtain ⟨h1, h2, h3⟩ := par_end c hs
  unfold parV parF
  cases hm : (ePa c s).m with
  | true =>
    rw [T.path_eval (par_f c s) ⟨h1, hm, trivial⟩, h2 hm]
  | false =>
    rw [h3 hm]
    show _ = some (V.tup [Conf.confV (bif Conf.mayB (rC (ePa c s)) then (rC (ePa c s), 0, 0) else (c, 5, 0) : Conf.Cf × Int × Int).1, iv (bif Conf.mayB (rC (ePa c s)) then (rC (ePa c s), 0, 0) else (c, 5, 0) : Conf.Cf × Int × Int).2.1, iv (bif Conf.mayB (rC (ePa c s)) then (rC (ePa c s), 0, 0) else (c, 5, 0) : Conf.Cf × Int × Int).2.2])
    cases hb : Conf.mayB (rC (ePa c s)) with
    | true => rw [T.path_eval (par_g c s) ⟨h1, hm, by rw [hb]; rfl, trivial⟩]; rfl
    | false => rw [T.path_eval (par_b c s) ⟨h1, hm, by rw [hb]; rfl, trivial⟩]; rfl
def parS : Eng.Spec
  | [x, .s (.str s)] => Conf.asConf x fun c => .ite none (decide (s.size ≤ 90000)) (.ret (parV c s)) .fail
  | _ => .fail
theorem parS_ok : SpecOk Tryd.prog 11 parS := parX_ok.of_den fun args v hfl h => by
  clear hfl
  unfold parS at h
  split at h
  · rename_i x s
    obtain ⟨c, rfl, h2⟩ := Conf.asConf_some h
    obtain ⟨hb, h2⟩ := ite_T' h2
    obtain rfl := Option.some.inj h2
    exact ⟨_, par_run c (of_decide_eq_true hb), ⟨rfl, rfl⟩, rfl⟩
  · cases h
end Go.Proofs.YtdangjhbkffbnaaDoor.Txt

/- Layer 4: told. -/
namespace Go.Proofs.YtdangjhbkffbnaaDoor.Txt
open Go.Eng Go.RowKit
set_option maxRecDepth 100000
theorem tld_run : (tldX []).eval = some (.s (.bool true)) := by kernel_rfl
end Go.Proofs.YtdangjhbkffbnaaDoor.Txt

/- Layer 4: TextNumbers. -/
namespace Go.Proofs.YtdangjhbkffbnaaDoor.Txt
open Go.Eng Go.RowKit
set_option linter.unusedVariables false
set_option linter.unusedSimpArgs false
set_option maxRecDepth 100000
def yesT : Eng.Spec
  | [] => .ret .tt
  | _ => .fail
theorem tldT_ok : SpecOk Tryd.prog 8 yesT := tldX_ok.of_den fun args v hfl h => by
  clear hfl
  unfold yesT at h
  split at h
  · obtain rfl := Option.some.inj h
    exact ⟨_, tld_run, ⟨rfl, rfl⟩, rfl⟩
  · cases h
noncomputable def NL : Cfg := ⟨Tryd.prog, lookG [(8, .val yesT), (42, .val decS), (9, .val numS), (15, .val shoS)], [], 0⟩
theorem NL_ok : NL.Ok := Cfg.ok ⟨tldT_ok, decS_ok, numS_ok, shoS_ok, trivial⟩ trivial
def aA (a : Int) : Int := W (Int.tmod (IntKind.wrap .u64 a) 1000000000)
def bB (b : Int) : Int := W (Int.tmod (IntKind.wrap .u64 b) 1000)
def kB (b : Int) : Int := W (1000 + bB b)
def T3 (b : Int) : ByteArray := (itoaB (kB b)).extract (Int.toNat 1) (Int.toNat ((itoaB (kB b)).size : Int))
def SA (c : Bool) (a : Int) : ByteArray := bif c then ⟨#[45]⟩ ++ itoaB (aA a) else itoaB (aA a)
def S1 (c : Bool) (a b : Int) : ByteArray := SA c a ++ ⟨#[46]⟩ ++ T3 b
def S2 (c : Bool) (a b : Int) : ByteArray := S1 c a b ++ ⟨#[48]⟩
def wW (c : Bool) (a b : Int) : Int := bif c then W (0 - W (W (1000 * aA a) + bB b)) else W (W (1000 * aA a) + bB b)
def n1 (c : Bool) (a b : Int) : Option Int := numF (L8 (S1 c a b))
def n2 (c : Bool) (a b : Int) : Option Int := numF (L8 (S2 c a b))
def nA (c : Bool) (a : Int) : Option Int := numF (L8 (SA c a))
def c5 (c : Bool) (a b : Int) : Bool := bif bif bif bif bif (n1 c a b).isSome then (n1 c a b).getD 0 == wW c a b else false then !(n2 c a b).isSome else false then (n2 c a b).getD 0 == 0 else false then (nA c a).isSome else false then bif (nA c a).getD 0 == wW c a b then true else bB b != 0 else false
def gd (c : Bool) (a b : Int) (x : Int) : Bool := bif (c5 c a b) == true && ((bB b == 0) == false && true) then in64 x else true
def fin5 (c : Bool) (a b : Int) : Bool := bif c5 c a b then bif bB b == 0 then true else !((showB ((n1 c a b).getD 0)).toList == (showB ((nA c a).getD 0)).toList) else false
def hd5 (c : Bool) (a b : Int) : List (Bool × Bool) := [((1000000000 : Int) == 0, false), ((1000 : Int) == 0, false), (decide (0 ≤ kB b) && decide (kB b ≤ 9223372036854775807), true), (decide ((0 : Int) ≤ 1) && (decide ((1 : Int) ≤ ((itoaB (kB b)).size : Int)) && decide (((itoaB (kB b)).size : Int) ≤ ((itoaB (kB b)).size : Int))), true), (decide (0 ≤ aA a) && decide (aA a ≤ 9223372036854775807), true), (c, c)]
def tl5 (c : Bool) (a b : Int) : List (Bool × Bool) := [(over ((SA c a).size + (⟨#[46]⟩ : ByteArray).size), false), (over ((SA c a ++ ⟨#[46]⟩).size + (T3 b).size), false), (decide ((S1 c a b).size < 4294967281), true), (over ((SA c a).size + (⟨#[46]⟩ : ByteArray).size), false), (over ((SA c a ++ ⟨#[46]⟩).size + (T3 b).size), false), (over ((S1 c a b).size + (⟨#[48]⟩ : ByteArray).size), false), (decide ((S2 c a b).size < 4294967281), true), (decide ((SA c a).size < 4294967281), true), (gd c a b ((n1 c a b).getD 0), true), (gd c a b ((nA c a).getD 0), true)]
theorem dig_of {d : Nat} (h : d < 10) : dig (UInt8.ofNat (48 + d)) = true ∧ (UInt8.ofNat (48 + d)).toNat = 48 + d := by
  have e : (UInt8.ofNat (48 + d)).toNat = 48 + d := by rw [UInt8.toNat_ofNat']; omega
  unfold dig
  rw [e, decide_eq_true (show 48 ≤ 48 + d by omega), decide_eq_true (show 48 + d ≤ 57 by omega)]
  exact ⟨rfl, rfl⟩
theorem decF_ok : ∀ (f u : Nat), u < 10 ^ (f + 1) → (∀ b ∈ decF f u, dig b = true) ∧ natL (decF f u) = (u : Int)
  | 0, u, h => by
    have hu : u % 10 = u := Nat.mod_eq_of_lt (by omega)
    unfold decF
    rw [hu]
    obtain ⟨q1, q2⟩ := dig_of (show u < 10 by omega)
    refine ⟨fun b hb => by rw [List.mem_singleton.1 hb]; exact q1, ?_⟩
    show (0 : Int) * 10 + (((UInt8.ofNat (48 + u)).toNat : Nat) - 48) = _
    rw [q2]; omega
  | f + 1, u, h => by
    unfold decF
    split
    · rename_i hu
      obtain ⟨q1, q2⟩ := dig_of hu
      refine ⟨fun b hb => by rw [List.mem_singleton.1 hb]; exact q1, ?_⟩
      show (0 : Int) * 10 + (((UInt8.ofNat (48 + u)).toNat : Nat) - 48) = _
      rw [q2]; omega
    · obtain ⟨i1, i2⟩ := decF_ok f (u / 10) (by rw [Nat.pow_succ] at h; omega)
      obtain ⟨q1, q2⟩ := dig_of (show u % 10 < 10 by omega)
      refine ⟨fun b hb => ?_, ?_⟩
      · rcases List.mem_append.1 hb with q | q
        · exact i1 b q
        · rw [List.mem_singleton.1 q]; exact q1
      · rw [natL_snoc, i2, q2]; omega
theorem decF_short : ∀ (f k u : Nat), u < 10 ^ (k + 1) → (decF f u).length ≤ k + 1
  | 0, k, u, h => by unfold decF; simp
  | f + 1, k, u, h => by
    unfold decF
    split
    · simp
    · rename_i hu
      cases k with
      | zero => simp at h; omega
      | succ k =>
        have := decF_short f k (u / 10) (by rw [Nat.pow_succ] at h; omega)
        rw [List.length_append, List.length_singleton]
        omega
theorem itoaL_nat {n : Int} (h0 : 0 ≤ n) : itoaL n = decF 19 n.toNat := by unfold itoaL; rw [if_neg (by omega)]
theorem pow20 : (10 : Nat) ^ (19 + 1) = 100000000000000000000 := by decide
theorem itoaL_ok {n : Int} (h0 : 0 ≤ n) (h1 : n ≤ 9223372036854775807) : (∀ b ∈ itoaL n, dig b = true) ∧ natL (itoaL n) = n ∧ 1 ≤ (itoaL n).length := by
  rw [itoaL_nat h0]
  obtain ⟨q1, q2⟩ := decF_ok 19 n.toNat (by rw [pow20]; omega)
  exact ⟨q1, by rw [q2]; omega, (decF_len 19 n.toNat).2⟩
theorem dig_ne {b : UInt8} (h : dig b = true) : b ≠ 46 ∧ b ≠ 45 := by
  unfold dig at h
  rw [Bool.and_eq_true, decide_eq_true_eq, decide_eq_true_eq] at h
  constructor
  · rintro rfl; exact absurd h.1 (by decide)
  · rintro rfl; exact absurd h.1 (by decide)
theorem pre_one (c b : UInt8) (l : List UInt8) : List.isPrefixOf [c] (b :: l) = (c == b) := by
  simp [List.isPrefixOf]
theorem idx_at : ∀ (D t : List UInt8), (∀ b ∈ D, dig b = true) → idxF (D ++ 46 :: t) [46] = some D.length
  | [], t, _ => by
    show idxF (46 :: t) [46] = _
    unfold idxF
    rw [pre_one]; rfl
  | b :: D, t, h => by
    show idxF (b :: (D ++ 46 :: t)) [46] = _
    unfold idxF
    rw [pre_one, if_neg (by rw [beq_iff_eq]; exact fun q => (dig_ne (h b List.mem_cons_self)).1 q.symm), idx_at D t (fun b hb => h b (List.mem_cons_of_mem _ hb))]
    rfl
theorem idx_no : ∀ D : List UInt8, (∀ b ∈ D, dig b = true) → idxF D [46] = none
  | [], _ => rfl
  | b :: D, h => by
    unfold idxF
    rw [pre_one, if_neg (by rw [beq_iff_eq]; exact fun q => (dig_ne (h b List.mem_cons_self)).1 q.symm), idx_no D (fun b hb => h b (List.mem_cons_of_mem _ hb))]
    rfl
theorem cut_at (D t : List UInt8) (h : ∀ b ∈ D, dig b = true) : cutF (D ++ 46 :: t) [46] = (D, t, true) := by
  unfold cutF
  rw [idx_at D t h]
  show (List.take D.length (D ++ 46 :: t), List.drop (D.length + 1) (D ++ 46 :: t), true) = _
  rw [List.take_left, ← List.drop_drop, List.drop_left]
  rfl
theorem cut_no (D : List UInt8) (h : ∀ b ∈ D, dig b = true) : cutF D [46] = (D, [], false) := by
  unfold cutF
  rw [idx_no D h]
def mP (c : Bool) (l : List UInt8) : List UInt8 := bif c then 45 :: l else l
theorem pre_mP (c : Bool) (D l : List UInt8) (h : ∀ b ∈ D, dig b = true) (h1 : 1 ≤ D.length) : Lib.hasPrefix (mP c (D ++ l)) [45] = c ∧ Lib.trimPrefix (mP c (D ++ l)) [45] = D ++ l := by
  unfold Lib.trimPrefix Lib.hasPrefix
  cases c with
  | true =>
    show List.isPrefixOf [45] (45 :: (D ++ l)) = true ∧ (if List.isPrefixOf [45] (45 :: (D ++ l)) = true then _ else _) = _
    rw [pre_one]
    exact ⟨rfl, rfl⟩
  | false =>
    cases D with
    | nil => simp at h1
    | cons b D =>
      show List.isPrefixOf [45] (b :: (D ++ l)) = false ∧ (if List.isPrefixOf [45] (b :: (D ++ l)) = true then _ else _) = _
      have e : ((45 : UInt8) == b) = false := by rw [beq_eq_false_iff_ne]; exact fun q => (dig_ne (h b List.mem_cons_self)).2 q.symm
      rw [pre_one, e]
      exact ⟨rfl, rfl⟩
theorem natO_of {l : List UInt8} {k : Int} (h1 : 1 ≤ l.length) (h2 : (l.length : Int) ≤ k) (h3 : ∀ b ∈ l, dig b = true) : natO l k = true := by
  unfold natO
  rw [decide_eq_true h1, decide_eq_true h2, List.all_eq_true.2 h3]; rfl
def sg (c : Bool) (n : Int) : Int := bif c then -n else n
theorem numF_pt {c : Bool} {D t : List UInt8} (hD : ∀ b ∈ D, dig b = true) (d1 : 1 ≤ D.length) (d9 : D.length ≤ 9) (ht : ∀ b ∈ t, dig b = true) (t3 : t.length = 3) : numF (mP c (D ++ 46 :: t)) = some (sg c (natL D * 1000 + natL t)) := by
  obtain ⟨p1, p2⟩ := pre_mP c D (46 :: t) hD d1
  unfold numF
  rw [p2, p1, cut_at D t hD]
  show (if natO D 9 = true then (if true = true then (if natO t 3 = true then some (bif c then -(natL D * 1000 + natL t * 10 ^ (3 - t.length)) else natL D * 1000 + natL t * 10 ^ (3 - t.length)) else none) else _) else none) = _
  rw [if_pos (natO_of d1 (by omega) hD), if_pos rfl, if_pos (natO_of (by omega) (by omega) ht), t3]
  have : (10 : Int) ^ (3 - 3) = 1 := by decide
  rw [this, Int.mul_one]
  rfl
theorem numF_no {c : Bool} {D t : List UInt8} (hD : ∀ b ∈ D, dig b = true) (d1 : 1 ≤ D.length) (t4 : 3 < t.length) : numF (mP c (D ++ 46 :: t)) = none := by
  obtain ⟨p1, p2⟩ := pre_mP c D (46 :: t) hD d1
  unfold numF
  rw [p2, p1, cut_at D t hD]
  show (if natO D 9 = true then (if true = true then (if natO t 3 = true then _ else none) else _) else none) = none
  have : natO t 3 = false := by
    unfold natO
    rw [decide_eq_false (show ¬ (t.length : Int) ≤ 3 by omega)]; simp
  rw [this]
  split <;> rfl
theorem numF_wh {c : Bool} {D : List UInt8} (hD : ∀ b ∈ D, dig b = true) (d1 : 1 ≤ D.length) (d9 : D.length ≤ 9) : numF (mP c D) = some (sg c (natL D * 1000)) := by
  obtain ⟨p1, p2⟩ := pre_mP c D [] hD d1
  rw [List.append_nil] at p1 p2
  unfold numF
  rw [p2, p1, cut_no D hD]
  show (if natO D 9 = true then (if false = true then _ else some (bif c then -(natL D * 1000) else natL D * 1000)) else none) = _
  rw [if_pos (natO_of d1 (by omega) hD)]
  rfl
theorem three {B : Int} (h0 : 0 ≤ B) (h1 : B < 1000) : ((itoaL (1000 + B)).drop 1).length = 3 ∧ (∀ b ∈ (itoaL (1000 + B)).drop 1, dig b = true) ∧ natL ((itoaL (1000 + B)).drop 1) = B := by
  obtain ⟨q1, q2, q3⟩ := itoaL_ok (n := 1000 + B) (by omega) (by omega)
  have hs : (itoaL (1000 + B)).length ≤ 4 := by
    rw [itoaL_nat (by omega)]
    exact decF_short 19 3 _ (by have : (10 : Nat) ^ (3 + 1) = 10000 := by decide
                                omega)
  obtain ⟨-, q4⟩ := natL_in _ _ rfl q1
  rw [q2] at q4
  generalize itoaL (1000 + B) = l at *
  match l, q1, q2, q3, hs, q4 with
  | [x], _, _, _, _, q4 => simp at q4; omega
  | [x, y], _, _, _, _, q4 => simp at q4; omega
  | [x, y, z], _, _, _, _, q4 => simp at q4; omega
  | [x, y, z, w], q1, q2, _, _, _ =>
    have d : ∀ b : UInt8, dig b = true → 48 ≤ b.toNat ∧ b.toNat ≤ 57 := fun b hb => by
      unfold dig at hb
      rw [Bool.and_eq_true, decide_eq_true_eq, decide_eq_true_eq] at hb
      exact hb
    have dx := d x (q1 x (by simp))
    have dy := d y (q1 y (by simp))
    have dz := d z (q1 z (by simp))
    have dw := d w (q1 w (by simp))
    have e : (((((0 : Int) * 10 + (((x.toNat : Nat) : Int) - 48)) * 10 + (((y.toNat : Nat) : Int) - 48)) * 10 + (((z.toNat : Nat) : Int) - 48)) * 10 + (((w.toNat : Nat) : Int) - 48)) = 1000 + B := q2
    refine ⟨rfl, fun b hb => q1 b (List.mem_cons_of_mem _ hb), ?_⟩
    show ((((0 : Int) * 10 + (((y.toNat : Nat) : Int) - 48)) * 10 + (((z.toNat : Nat) : Int) - 48)) * 10 + (((w.toNat : Nat) : Int) - 48)) = B
    omega
theorem show_pt {n : Int} (h : (if MX n < 0 then -MX n else MX n) % 1000 ≠ 0) : (46 : UInt8) ∈ L8 (showB n) := by
  unfold showB
  simp only
  rw [if_neg h, L8_append, L8_append]
  exact List.mem_append_left _ (List.mem_append_right _ (by show (46 : UInt8) ∈ [46]; exact List.mem_singleton.2 rfl))
theorem show_no {n : Int} (h : (if MX n < 0 then -MX n else MX n) % 1000 = 0) (h0 : 0 ≤ (if MX n < 0 then -MX n else MX n)) (h1 : (if MX n < 0 then -MX n else MX n) ≤ 9223372036854775807) : (46 : UInt8) ∉ L8 (showB n) := by
  unfold showB
  simp only
  rw [if_pos h, L8_append]
  intro hm
  rcases List.mem_append.1 hm with q | q
  · generalize decide (MX n < 0) = g at q
    cases g with
    | true =>
      have q : (46 : UInt8) ∈ [(45 : UInt8)] := q
      have := List.mem_singleton.1 q
      exact absurd this (by decide)
    | false =>
      have q : (46 : UInt8) ∈ ([] : List UInt8) := q
      cases q
  · have q : (46 : UInt8) ∈ itoaL _ := q
    exact (dig_ne ((itoaL_ok (by omega) (by omega)).1 _ q)).1 rfl
theorem mod_u64 (a : Int) {m : Int} (hm : 0 < m) (hb : m ≤ 1000000000) : 0 ≤ W (Int.tmod (IntKind.wrap .u64 a) m) ∧ W (Int.tmod (IntKind.wrap .u64 a) m) < m := by
  have a0 : 0 ≤ IntKind.wrap .u64 a := by rw [wrapu64]; omega
  have b0 := Int.tmod_nonneg m a0
  have b1 := Int.tmod_lt_of_pos (IntKind.wrap .u64 a) hm
  rw [Wi (by omega) (by omega)]
  exact ⟨b0, b1⟩
theorem tn_fin (c : Bool) (a b : Int) : fin5 c a b = true ∧ allSay (tl5 c a b) ∧ allSay (hd5 c a b) ∧ over ((⟨#[45]⟩ : ByteArray).size + (itoaB (aA a)).size) = false := by
  obtain ⟨A0, A1⟩ : 0 ≤ aA a ∧ aA a < 1000000000 := mod_u64 a (by decide) (by decide)
  obtain ⟨B0, B1⟩ : 0 ≤ bB b ∧ bB b < 1000 := mod_u64 b (by decide) (by decide)
  have ek : kB b = 1000 + bB b := by unfold kB; exact Wi (by omega) (by omega)
  obtain ⟨t3, td, tn⟩ := three B0 B1
  obtain ⟨Dd, Dn, D1⟩ := itoaL_ok A0 (by omega)
  have D9 : (itoaL (aA a)).length ≤ 9 := by
    rw [itoaL_nat A0]
    exact decF_short 19 8 _ (by have : (10 : Nat) ^ (8 + 1) = 1000000000 := by decide
                                omega)
  have lT : L8 (T3 b) = (itoaL (1000 + bB b)).drop 1 := by
    unfold T3
    rw [extract_L8, ek]; rfl
  have lA : L8 (SA c a) = mP c (itoaL (aA a)) := by cases c <;> rfl
  have l1 : L8 (S1 c a b) = mP c (itoaL (aA a) ++ 46 :: (itoaL (1000 + bB b)).drop 1) := by
    unfold S1
    rw [L8_append, L8_append, lA, lT]
    show (mP c (itoaL (aA a)) ++ [46]) ++ _ = _
    cases c
    · show (itoaL (aA a) ++ [46]) ++ _ = itoaL (aA a) ++ 46 :: _
      rw [List.append_assoc]; rfl
    · show ((45 :: itoaL (aA a)) ++ [46]) ++ _ = 45 :: (itoaL (aA a) ++ 46 :: _)
      rw [List.append_assoc]; rfl
  have l2 : L8 (S2 c a b) = mP c (itoaL (aA a) ++ 46 :: ((itoaL (1000 + bB b)).drop 1 ++ [48])) := by
    unfold S2
    rw [L8_append, l1]
    show _ ++ [48] = _
    cases c
    · show (itoaL (aA a) ++ 46 :: _) ++ [48] = itoaL (aA a) ++ 46 :: (_ ++ [48])
      rw [List.append_assoc]; rfl
    · show (45 :: (itoaL (aA a) ++ 46 :: _)) ++ [48] = 45 :: (itoaL (aA a) ++ 46 :: (_ ++ [48]))
      rw [List.cons_append, List.append_assoc]; rfl
  have e1 : n1 c a b = some (sg c (aA a * 1000 + bB b)) := by unfold n1; rw [l1, numF_pt Dd D1 D9 td t3, Dn, tn]
  have e2 : n2 c a b = none := by
    unfold n2; rw [l2]
    exact numF_no Dd D1 (by rw [List.length_append, t3]; decide)
  have eA : nA c a = some (sg c (aA a * 1000)) := by unfold nA; rw [lA, numF_wh Dd D1 D9, Dn]
  have ew : wW c a b = sg c (aA a * 1000 + bB b) := by
    unfold wW sg
    rw [Wi (n := 1000 * aA a) (by omega) (by omega), Wi (n := 1000 * aA a + bB b) (by omega) (by omega)]
    cases c
    · show 1000 * aA a + bB b = aA a * 1000 + bB b; omega
    · show W (0 - (1000 * aA a + bB b)) = -(aA a * 1000 + bB b)
      rw [Wi (by omega) (by omega)]; omega
  have e5 : c5 c a b = true := by
    unfold c5
    rw [e1, e2, eA, ew]
    show (bif bif bif bif bif true then (sg c (aA a * 1000 + bB b) == sg c (aA a * 1000 + bB b)) else false then true else false then true else false then true else false then (bif (sg c (aA a * 1000) == sg c (aA a * 1000 + bB b)) then true else bB b != 0) else false) = true
    rw [beq_self_eq_true]
    show (bif (sg c (aA a * 1000) == sg c (aA a * 1000 + bB b)) then true else bB b != 0) = true
    by_cases q : bB b = 0
    · rw [q, Int.add_zero, beq_self_eq_true]; rfl
    · have : (bB b != 0) = true := by simpa using q
      rw [this]
      cases (sg c (aA a * 1000) == sg c (aA a * 1000 + bB b)) <;> rfl
  have sgi : ∀ n : Int, 0 ≤ n → n ≤ 1000000000000 → in64 (sg c n) = true := fun n n0 n1 => by
    unfold in64 sg
    cases c
    · show (decide (-9223372036854775808 ≤ n) && decide (n ≤ 9223372036854775807)) = true
      rw [decide_eq_true (by omega), decide_eq_true (by omega)]; rfl
    · show (decide (-9223372036854775808 ≤ -n) && decide (-n ≤ 9223372036854775807)) = true
      rw [decide_eq_true (by omega), decide_eq_true (by omega)]; rfl
  have sgm : ∀ n : Int, 0 ≤ n → n ≤ 1000000000000 → (if MX (sg c n) < 0 then -MX (sg c n) else MX (sg c n)) = n := fun n n0 n1 => by
    have : MX (sg c n) = sg c n := by
      unfold MX sg
      cases c
      · show (if -9223372036854775807 > n then _ else n) = n
        rw [if_neg (by omega)]
      · show (if -9223372036854775807 > -n then _ else -n) = -n
        rw [if_neg (by omega)]
    rw [this]
    unfold sg
    cases c
    · show (if n < 0 then -n else n) = n
      rw [if_neg (by omega)]
    · show (if -n < 0 then - -n else -n) = n
      split <;> omega
  have gdx : ∀ n : Int, 0 ≤ n → n ≤ 1000000000000 → gd c a b (sg c n) = true := fun n n0 n1 => by
    unfold gd
    rw [sgi n n0 n1]
    cases ((c5 c a b) == true && ((bB b == 0) == false && true)) <;> rfl
  have zA : (itoaB (aA a)).size = (itoaL (aA a)).length := by rw [← L8_len]; unfold itoaB; exact congrArg List.length (L8_byA _)
  have zS : (SA c a).size ≤ 10 := by
    rw [← L8_len, lA]
    cases c
    · show (itoaL (aA a)).length ≤ 10; omega
    · show (45 :: itoaL (aA a)).length ≤ 10
      rw [List.length_cons]; omega
  have zT : (T3 b).size = 3 := by rw [← L8_len, lT, t3]
  have o46 : (⟨#[46]⟩ : ByteArray).size = 1 := rfl
  have o48 : (⟨#[48]⟩ : ByteArray).size = 1 := rfl
  have o45 : (⟨#[45]⟩ : ByteArray).size = 1 := rfl
  have z1 : (S1 c a b).size ≤ 14 := by unfold S1; rw [ByteArray.size_append, ByteArray.size_append, o46, zT]; omega
  have z2 : (S2 c a b).size ≤ 15 := by unfold S2; rw [ByteArray.size_append, o48]; omega
  have b1 : over ((SA c a).size + (⟨#[46]⟩ : ByteArray).size) = false := by rw [o46]; exact over_no (by omega)
  have b2 : over ((SA c a ++ ⟨#[46]⟩).size + (T3 b).size) = false := by rw [ByteArray.size_append, o46, zT]; exact over_no (by omega)
  have b3 : over ((S1 c a b).size + (⟨#[48]⟩ : ByteArray).size) = false := by rw [o48]; exact over_no (by omega)
  refine ⟨?_, ?_, ?_, ?_⟩
  · unfold fin5
    rw [e5, e1, eA]
    show (bif bB b == 0 then true else !((showB (sg c (aA a * 1000 + bB b))).toList == (showB (sg c (aA a * 1000))).toList)) = true
    by_cases q : bB b = 0
    · rw [q]; rfl
    · have : (bB b == 0) = false := by simpa using q
      rw [this]
      show (!((showB (sg c (aA a * 1000 + bB b))).toList == (showB (sg c (aA a * 1000))).toList)) = true
      rw [Bool.not_eq_true', beq_eq_false_iff_ne, ByteArray.toList_eq, ByteArray.toList_eq]
      intro he
      have p := show_pt (n := sg c (aA a * 1000 + bB b)) (by rw [sgm _ (by omega) (by omega)]; omega)
      have r := show_no (n := sg c (aA a * 1000)) (by rw [sgm _ (by omega) (by omega)]; omega) (by rw [sgm _ (by omega) (by omega)]; omega) (by rw [sgm _ (by omega) (by omega)]; omega)
      exact r (by
        have he : L8 (showB (sg c (aA a * 1000 + bB b))) = L8 (showB (sg c (aA a * 1000))) := he
        rw [← he]; exact p)
  · unfold tl5
    simp only [allSay]
    exact ⟨b1, b2, decide_eq_true (by omega), b1, b2, b3, decide_eq_true (by omega), decide_eq_true (by omega), by rw [e1]; exact gdx _ (by omega) (by omega), by rw [eA]; exact gdx _ (by omega) (by omega), trivial⟩
  · unfold hd5
    simp only [allSay]
    have zk := itoaB_size (kB b)
    refine ⟨rfl, rfl, by rw [ek, decide_eq_true (show 0 ≤ 1000 + bB b by omega), decide_eq_true (show 1000 + bB b ≤ 9223372036854775807 by omega)]; rfl, ?_, by rw [decide_eq_true A0, decide_eq_true (show aA a ≤ 9223372036854775807 by omega)]; rfl, trivial, trivial⟩
    rw [decide_eq_true (show (1 : Int) ≤ ((itoaB (kB b)).size : Int) by omega), decide_eq_true (Int.le_refl _)]; rfl
  · rw [o45, zA]; exact over_no (by omega)
end Go.Proofs.YtdangjhbkffbnaaDoor.Txt

/- Layer 4: TextNames: the document's print of the default settings. -/
namespace Go.Proofs.YtdangjhbkffbnaaDoor.Txt
open Go.Eng Go.RowKit
set_option linter.unusedVariables false
set_option linter.unusedSimpArgs false
set_option maxRecDepth 100000
noncomputable def inR : Eng.Spec := execS K0 noLoops 76
theorem inR_ok : SpecOk Tryd.prog 76 inR := execS_plain K0_ok mixed Tryd.func76 (by kernel_rfl) (by kernel_rfl)
noncomputable def valR : Eng.Spec := execS K0 noLoops 33
theorem valR_ok : SpecOk Tryd.prog 33 valR := execS_plain K0_ok mixed Tryd.func33 (by kernel_rfl) (by kernel_rfl)
noncomputable def nmsR : Eng.Spec := execS K0 noLoops 44
theorem nmsR_ok : SpecOk Tryd.prog 44 nmsR := execS_plain K0_ok mixed Tryd.func44 (by kernel_rfl) (by kernel_rfl)
noncomputable def N2 : Cfg := ⟨Tryd.prog, lookG [(76, .val inR), (33, .val valR), (44, .val nmsR)], [], 0⟩
theorem N2_ok : N2.Ok := Cfg.ok ⟨inR_ok, valR_ok, nmsR_ok, trivial⟩ trivial
noncomputable def wrgR : Eng.Spec := execS N2 (rounds N2 21 1) 61
theorem wrgR_ok : SpecOk Tryd.prog 61 wrgR := execS_rounds N2_ok mixed 21 1 Tryd.func61 (by kernel_rfl) (by kernel_rfl)
noncomputable def N3 : Cfg := ⟨Tryd.prog, lookG [(61, .val wrgR), (42, .val decS)], [], 0⟩
theorem N3_ok : N3.Ok := Cfg.ok ⟨wrgR_ok, decS_ok, trivial⟩ trivial
noncomputable def rmyR : Eng.Spec := execS N3 noLoops 36
theorem rmyR_ok : SpecOk Tryd.prog 36 rmyR := execS_plain N3_ok mixed Tryd.func36 (by kernel_rfl) (by kernel_rfl)
noncomputable def thiR : Eng.Spec := execS N3 noLoops 43
theorem thiR_ok : SpecOk Tryd.prog 43 thiR := execS_plain N3_ok mixed Tryd.func43 (by kernel_rfl) (by kernel_rfl)
noncomputable def rshR : Eng.Spec := execS N3 (rounds N3 5 1) 16
theorem rshR_ok : SpecOk Tryd.prog 16 rshR := execS_rounds N3_ok mixed 5 1 Tryd.func16 (by kernel_rfl) (by kernel_rfl)
noncomputable def N4 : Cfg := ⟨Tryd.prog, lookG [(36, .val rmyR), (33, .val valR), (44, .val nmsR), (43, .val thiR), (16, .val rshR), (42, .val decS)], [], 0⟩
theorem N4_ok : N4.Ok := Cfg.ok ⟨rmyR_ok, valR_ok, nmsR_ok, thiR_ok, rshR_ok, decS_ok, trivial⟩ trivial
noncomputable def rprX : Eng.Spec := execS N4 (rounds N4 21 1) 14
theorem rprX_ok : SpecOk Tryd.prog 14 rprX := execS_rounds N4_ok mixed 21 1 Tryd.func14 (by kernel_rfl) (by kernel_rfl)
/-- the default settings, printed -/
def sD : ByteArray := ⟨#[116, 97, 114, 103, 101, 116, 58, 32, 49, 48, 10, 117, 116, 105, 108, 58, 32, 48, 46, 55, 10, 115, 116, 97, 98, 108, 101, 58, 32, 54, 48, 10, 112, 97, 110, 105, 99, 58, 32, 54, 10, 103, 114, 97, 105, 110, 58, 32, 49, 10, 116, 104, 114, 101, 115, 104, 111, 108, 100, 58, 32, 50, 10, 117, 112, 58, 32, 49, 48, 10, 100, 111, 119, 110, 58, 32, 50, 10, 109, 105, 110, 58, 32, 48, 10, 109, 97, 120, 58, 32, 48, 10, 105, 110, 105, 116, 105, 97, 108, 58, 32, 49, 10, 103, 114, 97, 99, 101, 58, 32, 51, 48, 10, 100, 101, 108, 97, 121, 58, 32, 48, 10, 98, 117, 114, 115, 116, 58, 32, 50, 48, 10, 108, 105, 109, 105, 116, 58, 32, 49, 48, 10, 113, 117, 101, 117, 101, 58, 32, 49, 48, 48, 10, 116, 105, 109, 101, 111, 117, 116, 58, 32, 54, 48, 10, 114, 101, 97, 100, 121, 58, 32, 51, 10, 115, 117, 98, 115, 101, 116, 58, 32, 48, 10, 115, 97, 109, 112, 108, 101, 58, 32, 48, 10]⟩
noncomputable def rprO : V := (rprX [Conf.confV Conf.dflt]).eval.getD .junk
theorem rprO_is : (rprX [Conf.confV Conf.dflt]).eval = some rprO := by kernel_rfl
theorem rprO_flat : flat rprO = true := by kernel_rfl
theorem rprO_den : rprO.den nu0 = (V.tup [.s (.str sD), iv 0]).den nu0 := by kernel_rfl
end Go.Proofs.YtdangjhbkffbnaaDoor.Txt

/- Layer 4: numbers shown and read: there and back. -/
namespace Go.Proofs.YtdangjhbkffbnaaDoor.Txt
open Go.Eng Go.RowKit
set_option linter.unusedVariables false
set_option linter.unusedSimpArgs false
set_option maxRecDepth 100000
theorem numF_ptn {c : Bool} {D t : List UInt8} (hD : ∀ b ∈ D, dig b = true) (d1 : 1 ≤ D.length) (d9 : D.length ≤ 9) (ht : ∀ b ∈ t, dig b = true) (t1 : 1 ≤ t.length) (t3 : t.length ≤ 3) : numF (mP c (D ++ 46 :: t)) = some (sg c (natL D * 1000 + natL t * 10 ^ (3 - t.length))) := by
  obtain ⟨p1, p2⟩ := pre_mP c D (46 :: t) hD d1
  unfold numF
  rw [p2, p1, cut_at D t hD]
  show (if natO D 9 = true then (if true = true then (if natO t 3 = true then some (bif c then -(natL D * 1000 + natL t * 10 ^ (3 - t.length)) else natL D * 1000 + natL t * 10 ^ (3 - t.length)) else none) else _) else none) = _
  rw [if_pos (natO_of d1 (by omega) hD), if_pos rfl, if_pos (natO_of t1 (by omega) ht)]
  rfl
/-- the noughts at the end left out -/
theorem trim3 {x y z : UInt8} (hx : dig x = true) (hy : dig y = true) (hz : dig z = true) (hn : natL [x, y, z] ≠ 0) :
    1 ≤ (trR [x, y, z] 48).length ∧ (trR [x, y, z] 48).length ≤ 3 ∧ (∀ b ∈ trR [x, y, z] 48, dig b = true) ∧ natL (trR [x, y, z] 48) * 10 ^ (3 - (trR [x, y, z] 48).length) = natL [x, y, z] := by
  have d : ∀ b : UInt8, dig b = true → 48 ≤ b.toNat ∧ b.toNat ≤ 57 := fun b hb => by
    unfold dig at hb
    rw [Bool.and_eq_true, decide_eq_true_eq, decide_eq_true_eq] at hb
    exact hb
  have dx := d x hx
  have dy := d y hy
  have dz := d z hz
  have n3 : natL [x, y, z] = ((((0 : Int) * 10 + (((x.toNat : Nat) : Int) - 48)) * 10 + (((y.toNat : Nat) : Int) - 48)) * 10 + (((z.toNat : Nat) : Int) - 48)) := rfl
  have z48 : ∀ b : UInt8, b = 48 → b.toNat = 48 := fun b h => by rw [h]; rfl
  have e : trR [x, y, z] 48 = revF (dropW 48 [z, y, x]) [] := rfl
  by_cases h1 : z = 48
  · by_cases h2 : y = 48
    · by_cases h3 : x = 48
      · exfalso
        apply hn
        rw [n3, z48 x h3, z48 y h2, z48 z h1]; rfl
      · have : trR [x, y, z] 48 = [x] := by
          rw [e]; unfold dropW; rw [if_pos h1]; unfold dropW; rw [if_pos h2]; unfold dropW; rw [if_neg h3]; rfl
        rw [this]
        refine ⟨by simp, by simp, fun b hb => by rw [List.mem_singleton.1 hb]; exact hx, ?_⟩
        rw [n3, z48 y h2, z48 z h1]
        show ((0 : Int) * 10 + (((x.toNat : Nat) : Int) - 48)) * 10 ^ 2 = _
        omega
    · have : trR [x, y, z] 48 = [x, y] := by
        rw [e]; unfold dropW; rw [if_pos h1]; unfold dropW; rw [if_neg h2]; rfl
      rw [this]
      refine ⟨by simp, by simp, fun b hb => ?_, ?_⟩
      · simp only [List.mem_cons, List.not_mem_nil, or_false] at hb
        rcases hb with rfl | rfl
        · exact hx
        · exact hy
      · rw [n3, z48 z h1]
        show (((0 : Int) * 10 + (((x.toNat : Nat) : Int) - 48)) * 10 + (((y.toNat : Nat) : Int) - 48)) * 10 ^ 1 = _
        omega
  · have : trR [x, y, z] 48 = [x, y, z] := by
      rw [e]; unfold dropW; rw [if_neg h1]; rfl
    rw [this]
    refine ⟨by simp, by simp, fun b hb => ?_, ?_⟩
    · simp only [List.mem_cons, List.not_mem_nil, or_false] at hb
      rcases hb with rfl | rfl | rfl
      · exact hx
      · exact hy
      · exact hz
    · show natL [x, y, z] * 10 ^ 0 = _
      rw [Int.pow_zero, Int.mul_one]
theorem itoa_len {n : Int} {k : Nat} (h0 : 0 ≤ n) (h1 : n < 10 ^ (k + 1)) : (itoaL n).length ≤ k + 1 := by
  rw [itoaL_nat h0]
  refine decF_short 19 k _ ?_
  have : ((10 ^ (k + 1) : Nat) : Int) = 10 ^ (k + 1) := by push_cast; rfl
  omega
/-- what is shown is read -/
theorem show_read {n : Int} (h0 : -1000000000000 < n) (h1 : n < 1000000000000) : numF (L8 (showB n)) = some n := by
  have mx : MX n = n := by unfold MX; rw [if_neg (by omega)]
  obtain ⟨g, hg⟩ : ∃ g, decide (n < 0) = g := ⟨_, rfl⟩
  obtain ⟨u, hu⟩ : ∃ u, (if n < 0 then -n else n) = u := ⟨_, rfl⟩
  have u0 : 0 ≤ u ∧ u < 1000000000000 := by rw [← hu]; split <;> omega
  have su : sg g u = n := by
    rw [← hu, ← hg]
    unfold sg
    by_cases q : n < 0
    · rw [decide_eq_true q, if_pos q]; show - -n = n; omega
    · rw [decide_eq_false q, if_neg q]; rfl
  obtain ⟨Dd, Dn, D1⟩ := itoaL_ok (n := u / 1000) (by omega) (by omega)
  have p9 : (10 : Int) ^ (8 + 1) = 1000000000 := by decide
  have D9 : (itoaL (u / 1000)).length ≤ 8 + 1 := itoa_len (by omega) (by omega)
  have lw : L8 (sG g ++ itoaB (u / 1000)) = mP g (itoaL (u / 1000)) := by cases g <;> rfl
  unfold showB
  simp only [mx, hg, hu]
  by_cases q : u % 1000 = 0
  · rw [if_pos q, lw, numF_wh Dd D1 D9, Dn]
    have : u / 1000 * 1000 = u := by omega
    rw [this, su]
  · rw [if_neg q, L8_append, L8_append, lw]
    obtain ⟨t3, td, tn⟩ := three (B := u % 1000) (by omega) (by omega)
    have e46 : L8 (⟨#[46]⟩ : ByteArray) = [46] := rfl
    rw [e46, L8_byA]
    generalize (itoaL (1000 + u % 1000)).drop 1 = l at *
    match l, t3, td, tn with
    | [x, y, z], _, td, tn =>
      obtain ⟨r1, r2, r3, r4⟩ := trim3 (td x (by simp)) (td y (by simp)) (td z (by simp)) (by rw [tn]; exact q)
      have em : mP g (itoaL (u / 1000)) ++ [46] ++ trR [x, y, z] 48 = mP g (itoaL (u / 1000) ++ 46 :: trR [x, y, z] 48) := by
        cases g
        · show (itoaL (u / 1000) ++ [46]) ++ _ = itoaL (u / 1000) ++ 46 :: _
          rw [List.append_assoc]; rfl
        · show ((45 :: itoaL (u / 1000)) ++ [46]) ++ _ = 45 :: (itoaL (u / 1000) ++ 46 :: _)
          rw [List.append_assoc]; rfl
      rw [em, numF_ptn Dd D1 D9 r3 r1 r2, Dn, r4, tn]
      have : u / 1000 * 1000 + u % 1000 = u := by omega
      rw [this, su]
end Go.Proofs.YtdangjhbkffbnaaDoor.Txt

/- Layer 4: settings printed. -/
namespace Go.Proofs.YtdangjhbkffbnaaDoor.Txt
open Go.Eng Go.RowKit
set_option linter.unusedVariables false
set_option linter.unusedSimpArgs false
set_option maxRecDepth 100000
noncomputable def R1 : Cfg := ⟨Tryd.prog, lookG [(63, .val itoaS), (15, .val shoS)], [], 0⟩
theorem R1_ok : R1.Ok := Cfg.ok ⟨itoaS_ok, shoS_ok, trivial⟩ trivial
noncomputable def tlpX : Eng.Obj := execO R1 noLoops 39
theorem tlpX_ok : ObjOk Tryd.prog 39 tlpX := execO_plain R1_ok mixed Tryd.func39 (by kernel_rfl) (by kernel_rfl)
noncomputable def R2 : Cfg := ⟨Tryd.prog, lookG [(32, .val Conf.mayS), (38, .obj wrR), (41, .obj txtS), (40, .obj plcX), (39, .obj tlpX), (37, .val namR)], [], 0⟩
theorem R2_ok : R2.Ok := Cfg.ok ⟨Conf.may_ok, wrR_ok, txtS_ok, plcX_ok, tlpX_ok, namR_ok, trivial⟩ trivial
noncomputable def priX : Eng.Spec := execS R2 (rounds R2 21 1) 13
theorem priX_ok : SpecOk Tryd.prog 13 priX := execS_rounds R2_ok mixed 21 1 Tryd.func13 (by kernel_rfl) (by kernel_rfl)
/-- a part's value -/
def valC (c : Conf.Cf) : Nat → Int
  | 0 => c.target
  | 1 => c.util
  | 2 => c.stable
  | 3 => c.panic
  | 4 => c.grain
  | 5 => c.threshold
  | 6 => c.up
  | 7 => c.down
  | 8 => c.min
  | 9 => c.max
  | 10 => c.initial
  | 11 => c.grace
  | 12 => c.delay
  | 13 => c.burst
  | 14 => c.limit
  | 15 => c.queue
  | 16 => c.timeout
  | 17 => c.ready
  | 18 => c.subset
  | 19 => c.sample
  | _ => 0
def toldB (c : Conf.Cf) (k : Nat) : ByteArray := bif thin k then showB (valC c k) else itoaB (valC c k)
abbrev clB : ByteArray := ⟨#[58, 32]⟩
abbrev nlB : ByteArray := ⟨#[10]⟩
/-- a part's line -/
def lnB (c : Conf.Cf) (k : Nat) : ByteArray := nmK k ++ clB ++ toldB c k ++ nlB
def cnA (c : Conf.Cf) : Nat → Nat
  | 0 => (lnB c 0).size
  | k + 1 => cnA c k + (lnB c (k + 1)).size
def lA (c : Conf.Cf) : Nat → List (Row [.int .u8])
  | 0 => u8 (strRow (lnB c 0))
  | k + 1 => List.take (cnA c k) (List.drop 0 (lA c k)) ++ u8 (strRow (lnB c (k + 1)))
def apA (c : Conf.Cf) : Nat → Bool
  | 0 => decide ((lnB c 0).size ≤ 1000000)
  | k + 1 => decide (0 + cnA c k ≤ (lA c k).length) && decide (cnA c k + (lnB c (k + 1)).size ≤ 1000000)
def cdA (c : Conf.Cf) (k : Nat) : List (Bool × Bool) := (over ((nmK k).size + clB.size), false) :: (nmC k (nmK k) ++ [(eB (nmK k) (nmK k), true), (in64 (valC c k), true), (over ((nmK k ++ clB).size + (toldB c k).size), false), (over ((nmK k ++ clB ++ toldB c k).size + nlB.size), false), (apA c k, true)])
def wdA (k : Nat) : List Bool := false :: (List.replicate k false ++ [true, true, false, false, true])
theorem pri_n (c : Conf.Cf) : T.path [true] (T.anon (priX [Conf.confV c])) = some ([(!Conf.mayB c, true)], .tup [.s (.str ⟨#[]⟩), iv 1]) := by kernel_rfl
end Go.Proofs.YtdangjhbkffbnaaDoor.Txt

/- Layer 4: settings printed: its way. -/
namespace Go.Proofs.YtdangjhbkffbnaaDoor.Txt
open Go.Eng Go.RowKit
set_option maxRecDepth 100000
theorem pri_w (c : Conf.Cf) : T.path (false :: ((List.range 20).flatMap wdA ++ [true])) (T.anon (priX [Conf.confV c])) = some ((!Conf.mayB c, false) :: ((List.range 20).flatMap (cdA c) ++ [(byB (lA c 19) && (decide (cnA c 19 = (lA c 19).length) && decide (0 < cnA c 19)), true)]), .tup [.s (.str (rowStr (lA c 19))), iv 0]) := by kernel_rfl
end Go.Proofs.YtdangjhbkffbnaaDoor.Txt

/- Layer 4: what is printed is read: lines. -/
namespace Go.Proofs.YtdangjhbkffbnaaDoor.Txt
open Go.Eng Go.RowKit
set_option linter.unusedVariables false
set_option linter.unusedSimpArgs false
set_option maxRecDepth 100000
theorem pre_cons (c : UInt8) (p : List UInt8) (b : UInt8) (l : List UInt8) : List.isPrefixOf (c :: p) (b :: l) = (c == b && List.isPrefixOf p l) := rfl
theorem idx_one (c : UInt8) : ∀ (D t : List UInt8), (∀ b ∈ D, b ≠ c) → idxF (D ++ c :: t) [c] = some D.length
  | [], t, _ => by
    show idxF (c :: t) [c] = _
    unfold idxF
    rw [pre_one, if_pos (beq_self_eq_true c)]; rfl
  | b :: D, t, h => by
    show idxF (b :: (D ++ c :: t)) [c] = _
    unfold idxF
    rw [pre_one, if_neg (by rw [beq_iff_eq]; exact fun q => h b List.mem_cons_self q.symm), idx_one c D t (fun b hb => h b (List.mem_cons_of_mem _ hb))]
    rfl
theorem idx_two : ∀ (D t : List UInt8), (∀ b ∈ D, b ≠ 58) → idxF (D ++ 58 :: 32 :: t) [58, 32] = some D.length
  | [], t, _ => by
    show idxF (58 :: 32 :: t) [58, 32] = _
    unfold idxF
    rw [pre_cons, pre_one]; rfl
  | b :: D, t, h => by
    show idxF (b :: (D ++ 58 :: 32 :: t)) [58, 32] = _
    unfold idxF
    have hb : ((58 : UInt8) == b) = false := by rw [beq_eq_false_iff_ne]; exact fun q => h b List.mem_cons_self q.symm
    rw [pre_cons, hb, idx_two D t (fun b hb => h b (List.mem_cons_of_mem _ hb))]
    rfl
theorem cut_one (c : UInt8) (D t : List UInt8) (h : ∀ b ∈ D, b ≠ c) : cutF (D ++ c :: t) [c] = (D, t, true) := by
  unfold cutF
  rw [idx_one c D t h]
  show (List.take D.length (D ++ c :: t), List.drop (D.length + 1) (D ++ c :: t), true) = _
  rw [List.take_left, ← List.drop_drop, List.drop_left]
  rfl
theorem cut_two (D t : List UInt8) (h : ∀ b ∈ D, b ≠ 58) : cutF (D ++ 58 :: 32 :: t) [58, 32] = (D, t, true) := by
  unfold cutF
  rw [idx_two D t h]
  show (List.take D.length (D ++ 58 :: 32 :: t), List.drop (D.length + 2) (D ++ 58 :: 32 :: t), true) = _
  rw [List.take_left, ← List.drop_drop, List.drop_left]
  rfl
/-- a line with no blanks at its ends -/
theorem trB_same {X : List UInt8} {a b : UInt8} {M : List UInt8} (h1 : X = a :: M) (h2 : ∃ M', X = M' ++ [b]) (ha : a ≠ 32) (hb : b ≠ 32) : trB X 32 = X := by
  obtain ⟨M', h2⟩ := h2
  have e : trR X 32 = X := by
    unfold trR
    rw [revF_is X [], List.append_nil, h2, List.reverse_append]
    show revF (dropW 32 (b :: M'.reverse)) [] = _
    unfold dropW
    rw [if_neg hb, revF_is, List.append_nil, List.reverse_cons, List.reverse_reverse]
  unfold trB
  rw [e, h1]
  unfold dropW
  rw [if_neg ha]
end Go.Proofs.YtdangjhbkffbnaaDoor.Txt

/- Layer 4: settings printed: contract. -/
namespace Go.Proofs.YtdangjhbkffbnaaDoor.Txt
open Go.Eng Go.RowKit
set_option linter.unusedVariables false
set_option linter.unusedSimpArgs false
set_option maxRecDepth 100000
theorem rowStr_strRow (s : ByteArray) : rowStr (strRow s) = s := by
  obtain ⟨d⟩ := s
  unfold rowStr strRow
  congr 1
  apply Array.ext'
  simp only [List.map_map]
  conv => rhs; rw [← List.map_id d.toList]
  refine List.map_congr_left fun b _ => ?_
  show UInt8.ofNat ((b.toNat : Int)).toNat = b
  simp
theorem byB_strRow (s : ByteArray) : byB (strRow s) = true := by
  unfold byB strRow
  rw [List.all_eq_true]
  intro x hx
  obtain ⟨b, _, rfl⟩ := List.mem_map.1 hx
  have := b.toNat_lt
  rw [Bool.and_eq_true, decide_eq_true_eq, decide_eq_true_eq]
  omega
theorem strRow_size (s : ByteArray) : (strRow s).length = s.size := by
  unfold strRow; rw [List.length_map]; rfl
theorem strRow_append (a b : ByteArray) : strRow (a ++ b) = strRow a ++ strRow b := by
  unfold strRow
  rw [ByteArray.data_append, Array.toList_append, List.map_append]
theorem u8_row (s : ByteArray) : rowStr (u8 (strRow s)) = s := rowStr_strRow s
theorem u8_len (s : ByteArray) : (u8 (strRow s)).length = s.size := strRow_size s
theorem u8_by (s : ByteArray) : byB (u8 (strRow s)) = true := byB_strRow s
/-- lines in a row -/
def lnsB (c : Cf) : Nat → ByteArray
  | 0 => lnB c 0
  | k + 1 => lnsB c k ++ lnB c (k + 1)
theorem lA_is (c : Cf) : ∀ k, lA c k = u8 (strRow (lnsB c k)) ∧ cnA c k = (lnsB c k).size
  | 0 => ⟨rfl, rfl⟩
  | k + 1 => by
    obtain ⟨h1, h2⟩ := lA_is c k
    refine ⟨?_, ?_⟩
    · show List.take (cnA c k) (List.drop 0 (lA c k)) ++ u8 (strRow (lnB c (k + 1))) = _
      rw [h1, h2, List.drop_zero]
      show List.take (lnsB c k).size (strRow (lnsB c k)) ++ strRow (lnB c (k + 1)) = strRow (lnsB c k ++ lnB c (k + 1))
      rw [← strRow_size, List.take_length, strRow_append]
    · show cnA c k + (lnB c (k + 1)).size = (lnsB c k ++ lnB c (k + 1)).size
      rw [h2, ByteArray.size_append]
theorem showB_size (n : Int) : (showB n).size ≤ 60 := by
  unfold showB
  generalize decide (MX n < 0) = g
  generalize (if MX n < 0 then -MX n else MX n) = u
  have hg : (sG g).size ≤ 1 := by cases g <;> decide
  have hi := (itoaB_size (u / 1000)).1
  have h1 : (⟨#[46]⟩ : ByteArray).size = 1 := rfl
  have hj := (itoaB_size (1000 + u % 1000)).1
  have e : (itoaB (1000 + u % 1000)).size = (itoaL (1000 + u % 1000)).length := by rw [← L8_len]; unfold itoaB; exact congrArg List.length (L8_byA _)
  have ht := trR_len ((itoaL (1000 + u % 1000)).drop 1) 48
  rw [List.length_drop] at ht
  dsimp only
  split
  · rw [ByteArray.size_append]; omega
  · rw [ByteArray.size_append, ByteArray.size_append, ByteArray.size_append, byA_size, h1]; omega
theorem toldB_size (c : Cf) (k : Nat) : (toldB c k).size ≤ 60 := by
  unfold toldB
  cases thin k with
  | true => exact showB_size _
  | false =>
    have := (itoaB_size (valC c k)).1
    show (itoaB (valC c k)).size ≤ 60
    omega
theorem nmK_size : ∀ k, (nmK k).size ≤ 9
  | 0 | 1 | 2 | 3 | 4 | 5 | 6 | 7 | 8 | 9 | 10 | 11 | 12 | 13 | 14 | 15 | 16 | 17 | 18 | 19 => by decide
  | k + 20 => by show (⟨#[]⟩ : ByteArray).size ≤ 9; decide
theorem cl_size : clB.size = 2 := rfl
theorem nl_size : nlB.size = 1 := rfl
theorem lnB_size (c : Cf) (k : Nat) : (lnB c k).size ≤ 72 := by
  have h1 := nmK_size k
  have h2 := toldB_size c k
  unfold lnB
  rw [ByteArray.size_append, ByteArray.size_append, ByteArray.size_append, cl_size, nl_size]
  omega
theorem lnsB_size (c : Cf) : ∀ k, (lnsB c k).size ≤ 72 * (k + 1)
  | 0 => by have := lnB_size c 0; show (lnB c 0).size ≤ _; omega
  | k + 1 => by
    have h1 := lnsB_size c k
    have h2 := lnB_size c (k + 1)
    show (lnsB c k ++ lnB c (k + 1)).size ≤ _
    rw [ByteArray.size_append]; omega
/-- bounds of all parts -/
theorem val_of {c : Cf} (h : Conf.mayB c = true) (k : Nat) : (valC c k = -1000 ∧ k = 13) ∨ (0 ≤ valC c k ∧ valC c k ≤ 100000000 ∧ (thin k = false → valC c k ≤ 10000)) := by
  have m := Conf.may_of h
  have hi : Conf.mostC c ≤ 100 := by
    unfold Conf.mostC
    have := m.max
    split <;> omega
  have h1 := m.target
  have h2 := m.util
  have h3 := m.stable
  have h4 := m.panic
  have h5 := m.grain
  have h6 := m.threshold
  have h7 := m.up
  have h8 := m.down
  have h9 := m.min
  have h10 := m.max
  have h11 := m.initial
  have h12 := m.grace
  have h13 := m.delay
  have h14 := m.burst
  have h15 := m.limit
  have h16 := m.queue
  have h17 := m.timeout
  have h18 := m.ready
  have h19 := m.subset
  have h20 := m.sample
  match k with
  | 0 => exact .inr ⟨by show 0 ≤ c.target; omega, by show c.target ≤ _; omega, fun h => by cases h⟩
  | 1 => exact .inr ⟨by show 0 ≤ c.util; omega, by show c.util ≤ _; omega, fun h => by cases h⟩
  | 2 => exact .inr ⟨by show 0 ≤ c.stable; omega, by show c.stable ≤ _; omega, fun _ => by show c.stable ≤ _; omega⟩
  | 3 => exact .inr ⟨by show 0 ≤ c.panic; omega, by show c.panic ≤ _; omega, fun _ => by show c.panic ≤ _; omega⟩
  | 4 => exact .inr ⟨by show 0 ≤ c.grain; omega, by show c.grain ≤ _; omega, fun _ => by show c.grain ≤ _; omega⟩
  | 5 => exact .inr ⟨by show 0 ≤ c.threshold; omega, by show c.threshold ≤ _; omega, fun h => by cases h⟩
  | 6 => exact .inr ⟨by show 0 ≤ c.up; omega, by show c.up ≤ _; omega, fun h => by cases h⟩
  | 7 => exact .inr ⟨by show 0 ≤ c.down; omega, by show c.down ≤ _; omega, fun h => by cases h⟩
  | 8 => exact .inr ⟨by show 0 ≤ c.min; omega, by show c.min ≤ _; omega, fun _ => by show c.min ≤ _; omega⟩
  | 9 => exact .inr ⟨by show 0 ≤ c.max; omega, by show c.max ≤ _; omega, fun _ => by show c.max ≤ _; omega⟩
  | 10 => exact .inr ⟨by show 0 ≤ c.initial; omega, by show c.initial ≤ _; omega, fun _ => by show c.initial ≤ _; omega⟩
  | 11 => exact .inr ⟨by show 0 ≤ c.grace; omega, by show c.grace ≤ _; omega, fun _ => by show c.grace ≤ _; omega⟩
  | 12 => exact .inr ⟨by show 0 ≤ c.delay; omega, by show c.delay ≤ _; omega, fun _ => by show c.delay ≤ _; omega⟩
  | 13 =>
    rcases h14 with q | q
    · exact .inl ⟨q, rfl⟩
    · exact .inr ⟨by show 0 ≤ c.burst; omega, by show c.burst ≤ _; omega, fun h => by cases h⟩
  | 14 => exact .inr ⟨by show 0 ≤ c.limit; omega, by show c.limit ≤ _; omega, fun _ => by show c.limit ≤ _; omega⟩
  | 15 => exact .inr ⟨by show 0 ≤ c.queue; omega, by show c.queue ≤ _; omega, fun _ => by show c.queue ≤ _; omega⟩
  | 16 => exact .inr ⟨by show 0 ≤ c.timeout; omega, by show c.timeout ≤ _; omega, fun _ => by show c.timeout ≤ _; omega⟩
  | 17 => exact .inr ⟨by show 0 ≤ c.ready; omega, by show c.ready ≤ _; omega, fun _ => by show c.ready ≤ _; omega⟩
  | 18 => exact .inr ⟨by show 0 ≤ c.subset; omega, by show c.subset ≤ _; omega, fun _ => by show c.subset ≤ _; omega⟩
  | 19 => exact .inr ⟨by show 0 ≤ c.sample; omega, by show c.sample ≤ _; omega, fun _ => by show c.sample ≤ _; omega⟩
  | k + 20 => exact .inr ⟨Int.le_refl 0, by show (0 : Int) ≤ _; decide, fun _ => by show (0 : Int) ≤ _; decide⟩
theorem nm_diff : (List.range 20).all (fun k => (List.range k).all fun j => !eB (nmK k) (nmK j)) = true := by kernel_rfl
theorem nm_ne {j k : Nat} (hk : k < 20) (hj : j < k) : eB (nmK k) (nmK j) = false := by
  have := List.all_eq_true.1 (List.all_eq_true.1 nm_diff k (List.mem_range.2 hk)) j (List.mem_range.2 hj)
  simpa using this
theorem cdA_say {c : Cf} (hm : Conf.mayB c = true) {k : Nat} (hk : k < 20) : allSay (cdA c k) := by
  have h1 := nmK_size k
  have h2 := toldB_size c k
  have h4 := lnB_size c k
  have hv := val_of hm k
  unfold cdA
  refine ⟨by rw [cl_size]; exact over_no (by omega), allSay_append (nmC_say fun j hj => nm_ne hk hj) ⟨eB_is.2 rfl, ?_, ?_, ?_, ?_, trivial⟩⟩
  · unfold in64
    rw [Bool.and_eq_true, decide_eq_true_eq, decide_eq_true_eq]; omega
  · rw [ByteArray.size_append, cl_size]; exact over_no (by omega)
  · rw [ByteArray.size_append, ByteArray.size_append, cl_size, nl_size]; exact over_no (by omega)
  · match k, h4 with
    | 0, h4 => exact decide_eq_true (by omega)
    | k + 1, h4 =>
      obtain ⟨a1, a2⟩ := lA_is c k
      have h3 := lnsB_size c k
      show (decide (0 + cnA c k ≤ (lA c k).length) && decide (cnA c k + (lnB c (k + 1)).size ≤ 1000000)) = true
      have : (lA c k).length = (lnsB c k).size := by rw [a1, u8_len]
      rw [this, a2, decide_eq_true (by omega), decide_eq_true (by omega)]; rfl
/-- settings printed -/
def prB (c : Cf) : ByteArray := lnsB c 19
theorem pri_run {c : Cf} (hm : Conf.mayB c = true) : (priX [Conf.confV c]).eval = some (.tup [.s (.str (prB c)), iv 0]) := by
  rw [← T.eval_anon (t := priX _)]
  obtain ⟨a1, a2⟩ := lA_is c 19
  have ha : allSay ((List.range 20).flatMap (cdA c)) := by
    have : ∀ l : List Nat, (∀ k ∈ l, k < 20) → allSay (l.flatMap (cdA c)) := by
      intro l
      induction l with
      | nil => exact fun _ => trivial
      | cons a r ih => exact fun hl => allSay_append (cdA_say hm (hl a List.mem_cons_self)) (ih fun i hi => hl i (List.mem_cons_of_mem _ hi))
    exact this _ fun k hk => List.mem_range.1 hk
  have z : 0 < (lnsB c 19).size := by
    show 0 < (lnsB c 18 ++ lnB c 19).size
    rw [ByteArray.size_append]
    have : 0 < (lnB c 19).size := by
      unfold lnB
      rw [ByteArray.size_append, nl_size]; omega
    omega
  have e : rowStr (lA c 19) = prB c := by
    show rowStr (lA c 19) = lnsB c 19
    rw [a1, u8_row]
  have hl : (lA c 19).length = (lnsB c 19).size := by rw [a1, u8_len]
  have hb : byB (lA c 19) = true := by rw [a1, u8_by]
  have hz : (byB (lA c 19) && (decide (cnA c 19 = (lA c 19).length) && decide (0 < cnA c 19))) = true := by
    rw [hb, hl, a2, decide_eq_true rfl, decide_eq_true z]; rfl
  have way := pri_w c
  rw [e] at way
  generalize (byB (lA c 19) && (decide (cnA c 19 = (lA c 19).length) && decide (0 < cnA c 19))) = q at way hz
  generalize (List.range 20).flatMap (cdA c) = L at way ha
  generalize (List.range 20).flatMap wdA = W at way
  exact T.path_eval way ⟨by rw [hm]; rfl, allSay_append ha ⟨hz, trivial⟩⟩
theorem pri_off {c : Cf} (hm : Conf.mayB c = false) : (priX [Conf.confV c]).eval = some (.tup [.s (.str ⟨#[]⟩), iv 1]) := by
  rw [← T.eval_anon (t := priX _)]
  exact T.path_eval (pri_n c) ⟨by rw [hm]; rfl, trivial⟩
def priS : Eng.Spec
  | [x] => Conf.asConf x fun c => .ite none (Conf.mayB c) (.ret (.tup [.s (.str (prB c)), iv 0])) (.ret (.tup [.s (.str ⟨#[]⟩), iv 1]))
  | _ => .fail
theorem priS_ok : SpecOk Tryd.prog 13 priS := priX_ok.of_den fun args v hfl h => by
  clear hfl
  unfold priS at h
  split at h
  · obtain ⟨c, rfl, h2⟩ := Conf.asConf_some h
    cases hm : Conf.mayB c with
    | true =>
      rw [hm] at h2
      obtain rfl := Option.some.inj h2
      exact ⟨_, pri_run hm, ⟨rfl, rfl⟩, rfl⟩
    | false =>
      rw [hm] at h2
      obtain rfl := Option.some.inj h2
      exact ⟨_, pri_off hm, ⟨rfl, rfl⟩, rfl⟩
  · cases h
end Go.Proofs.YtdangjhbkffbnaaDoor.Txt

/- Layer 4: what is printed of settings is read as these. -/
namespace Go.Proofs.YtdangjhbkffbnaaDoor.Txt
open Go.Eng Go.RowKit
set_option linter.unusedVariables false
set_option linter.unusedSimpArgs false
set_option maxRecDepth 100000
/-- a digit, a sign, a point -/
def shn (b : UInt8) : Bool := dig b || (b == 45 || b == 46)
theorem shn_ne {b : UInt8} (h : shn b = true) : b ≠ 10 ∧ b ≠ 32 := by
  refine ⟨?_, ?_⟩
  · rintro rfl; exact absurd h (by decide)
  · rintro rfl; exact absurd h (by decide)
theorem shn_dig {b : UInt8} (h : dig b = true) : shn b = true := by unfold shn; rw [h]; rfl
theorem trR_mem {b c : UInt8} {l : List UInt8} (h : b ∈ trR l c) : b ∈ l := by
  unfold trR at h
  rw [revF_is, List.append_nil, List.mem_reverse, ← dropW_is] at h
  have := (List.dropWhile_sublist (l := revF l []) (· == c)).mem h
  rw [revF_is, List.append_nil, List.mem_reverse] at this
  exact this
theorem mP_shn {g : Bool} {D : List UInt8} (h : ∀ b ∈ D, dig b = true) : ∀ b ∈ mP g D, shn b = true := by
  intro b hb
  cases g with
  | false => exact shn_dig (h b hb)
  | true =>
    have hb : b ∈ 45 :: D := hb
    rcases List.mem_cons.1 hb with rfl | hb
    · decide
    · exact shn_dig (h b hb)
theorem show_shn {n : Int} (h0 : -1000000000000 < n) (h1 : n < 1000000000000) : (∀ b ∈ L8 (showB n), shn b = true) ∧ L8 (showB n) ≠ [] := by
  have mx : MX n = n := by unfold MX; rw [if_neg (by omega)]
  obtain ⟨g, hg⟩ : ∃ g, decide (n < 0) = g := ⟨_, rfl⟩
  obtain ⟨u, hu⟩ : ∃ u, (if n < 0 then -n else n) = u := ⟨_, rfl⟩
  have u0 : 0 ≤ u ∧ u < 1000000000000 := by rw [← hu]; split <;> omega
  obtain ⟨Dd, Dn, D1⟩ := itoaL_ok (n := u / 1000) (by omega) (by omega)
  have lw : L8 (sG g ++ itoaB (u / 1000)) = mP g (itoaL (u / 1000)) := by cases g <;> rfl
  have ne : mP g (itoaL (u / 1000)) ≠ [] := by
    intro q
    cases g with
    | true => cases q
    | false =>
      have q : itoaL (u / 1000) = [] := q
      rw [q] at D1
      exact absurd D1 (by decide)
  unfold showB
  simp only [mx, hg, hu]
  by_cases q : u % 1000 = 0
  · rw [if_pos q, lw]
    exact ⟨mP_shn Dd, ne⟩
  · rw [if_neg q, L8_append, L8_append, lw]
    obtain ⟨t3, td, tn⟩ := three (B := u % 1000) (by omega) (by omega)
    have e46 : L8 (⟨#[46]⟩ : ByteArray) = [46] := rfl
    rw [e46, L8_byA]
    refine ⟨fun b hb => ?_, fun h => ?_⟩
    · rw [List.mem_append, List.mem_append, List.mem_singleton] at hb
      rcases hb with (hb | rfl) | hb
      · exact mP_shn Dd b hb
      · decide
      · exact shn_dig (td b (trR_mem hb))
    · rw [List.append_eq_nil_iff, List.append_eq_nil_iff] at h
      exact ne h.1.1
theorem told_shn {c : Cf} (hm : Conf.mayB c = true) (k : Nat) : (∀ b ∈ L8 (toldB c k), shn b = true) ∧ L8 (toldB c k) ≠ [] := by
  have hv := val_of hm k
  unfold toldB
  cases ht : thin k with
  | true => exact show_shn (by omega) (by omega)
  | false =>
    rcases hv with ⟨-, rfl⟩ | ⟨v0, -, v1⟩
    · cases ht
    · have v1 := v1 ht
      obtain ⟨Dd, Dn, D1⟩ := itoaL_ok (n := valC c k) v0 (by omega)
      refine ⟨fun b hb => shn_dig (Dd b hb), fun h => ?_⟩
      have h : itoaL (valC c k) = [] := h
      rw [h] at D1
      exact absurd D1 (by decide)
theorem told_read {c : Cf} (hm : Conf.mayB c = true) (k : Nat) : qK k (toldB c k) = true ∧ vK k (toldB c k) = valC c k := by
  have hv := val_of hm k
  unfold qK vK toldB
  cases ht : thin k with
  | true =>
    show (numF (L8 (showB (valC c k)))).isSome = true ∧ (numF (L8 (showB (valC c k)))).getD 0 = _
    rw [show_read (by omega) (by omega)]
    exact ⟨rfl, rfl⟩
  | false =>
    rcases hv with ⟨-, rfl⟩ | ⟨v0, -, v1⟩
    · cases ht
    · have v1 := v1 ht
      obtain ⟨Dd, Dn, D1⟩ := itoaL_ok (n := valC c k) v0 (by omega)
      have p6 : (10 : Int) ^ (5 + 1) = 1000000 := by decide
      have D6 := itoa_len (n := valC c k) (k := 5) v0 (by omega)
      have o : natO (itoaL (valC c k)) 6 = true := natO_of D1 (by omega) Dd
      show natO (itoaL (valC c k)) 6 = true ∧ natI (itoaL (valC c k)) 6 = _
      refine ⟨o, ?_⟩
      unfold natI
      rw [o]
      exact Dn
theorem nm_all : (List.range 20).all (fun k => (L8 (nmK k)).all (fun b => b != 10 && (b != 32 && (b != 58 && b != 35))) && !(L8 (nmK k)).isEmpty) = true := by kernel_rfl
theorem nm_is {k : Nat} (hk : k < 20) : (∀ b ∈ L8 (nmK k), b ≠ 10 ∧ b ≠ 32 ∧ b ≠ 58 ∧ b ≠ 35) ∧ L8 (nmK k) ≠ [] := by
  have h := List.all_eq_true.1 nm_all k (List.mem_range.2 hk)
  rw [Bool.and_eq_true] at h
  refine ⟨fun b hb => ?_, fun e => ?_⟩
  · have := List.all_eq_true.1 h.1 b hb
    simpa using this
  · have := h.2
    rw [e] at this
    cases this
/-- a line without its end -/
def lineL (c : Cf) (k : Nat) : List UInt8 := L8 (nmK k) ++ 58 :: 32 :: L8 (toldB c k)
theorem lnB_L8 (c : Cf) (k : Nat) : L8 (lnB c k) = lineL c k ++ [10] := by
  have e1 : L8 clB = [58, 32] := rfl
  have e2 : L8 nlB = [10] := rfl
  unfold lnB lineL
  rw [L8_append, L8_append, L8_append, e1, e2, List.append_assoc (L8 (nmK k))]
  rfl
theorem line_is {c : Cf} (hm : Conf.mayB c = true) {k : Nat} (hk : k < 20) : (∀ b ∈ lineL c k, b ≠ 10) ∧ trB (lineL c k) 32 = lineL c k ∧ ∃ a t, lineL c k = a :: t ∧ a ≠ 35 := by
  obtain ⟨n1, n2⟩ := nm_is hk
  obtain ⟨t1, t2⟩ := told_shn hm k
  obtain ⟨a, t, hn⟩ := List.exists_cons_of_ne_nil n2
  have ha := n1 a (by rw [hn]; exact List.mem_cons_self)
  have hX : lineL c k = a :: (t ++ 58 :: 32 :: L8 (toldB c k)) := by unfold lineL; rw [hn]; rfl
  refine ⟨fun b hb => ?_, ?_, a, _, hX, ha.2.2.2⟩
  · unfold lineL at hb
    rw [List.mem_append, List.mem_cons, List.mem_cons] at hb
    rcases hb with hb | rfl | rfl | hb
    · exact (n1 b hb).1
    · decide
    · decide
    · exact (shn_ne (t1 b hb)).1
  · refine trB_same (b := (L8 (toldB c k)).getLast t2) hX ⟨L8 (nmK k) ++ 58 :: 32 :: (L8 (toldB c k)).dropLast, ?_⟩ ha.2.1 (shn_ne (t1 _ (List.getLast_mem t2))).2
    unfold lineL
    rw [List.append_assoc]
    congr 1
    show 58 :: 32 :: L8 (toldB c k) = 58 :: 32 :: ((L8 (toldB c k)).dropLast ++ [(L8 (toldB c k)).getLast t2])
    rw [List.dropLast_concat_getLast]
theorem byA_L8 (s : ByteArray) : byA (L8 s) = s := by
  obtain ⟨⟨l⟩⟩ := s
  rfl
theorem prtI_at {k : Nat} (hk : k < 20) : prtI (nmK k) = some k := by
  unfold prtI
  rw [List.find?_range_eq_some]
  exact ⟨eB_is.2 rfl, List.mem_range.2 hk, fun j hj => by rw [nm_ne hk hj]; rfl⟩
theorem byteAt_byA (a : UInt8) (t : List UInt8) : byteAt (byA (a :: t)) 0 = ((a.toNat : Nat) : Int) := rfl
theorem tak_line {c : Cf} (hm : Conf.mayB c = true) {k : Nat} (hk : k < 20) : takF ((List.range k).map nmK) (byA (lineL c k)) = .set k (valC c k) (nmK k) := by
  obtain ⟨n1, n2⟩ := nm_is hk
  obtain ⟨-, -, a, t, hX, ha⟩ := line_is hm hk
  have hc : cutF (L8 (byA (lineL c k))) [58, 32] = (L8 (nmK k), L8 (toldB c k), true) := by
    rw [L8_byA]
    exact cut_two _ _ fun b hb => (n1 b hb).2.2.1
  have e1 : NAM (byA (lineL c k)) = nmK k := by unfold NAM; rw [hc]; exact byA_L8 _
  have e2 : VAL (byA (lineL c k)) = toldB c k := by unfold VAL; rw [hc]; exact byA_L8 _
  have e3 : OKc (byA (lineL c k)) = true := by unfold OKc; rw [hc]
  have e4 : noteB (byA (lineL c k)) = false := by
    have z : e0B (byA (lineL c k)) = false := by
      cases h : e0B (byA (lineL c k)) with
      | false => rfl
      | true =>
        have h := eB_is.1 h
        have : L8 (byA (lineL c k)) = L8 ⟨#[]⟩ := congrArg L8 h
        rw [L8_byA, hX] at this
        cases this
    unfold noteB
    rw [z, hX, byteAt_byA]
    show (((a.toNat : Nat) : Int) == 35) = false
    rw [beq_eq_false_iff_ne]
    intro q
    apply ha
    have : a.toNat = (35 : UInt8).toNat := by show a.toNat = 35; omega
    exact UInt8.toNat_inj.1 this
  have e5 : ((List.range k).map nmK).any (eB (nmK k)) = false := by
    rw [List.any_eq_false]
    intro x hx
    obtain ⟨j, hj, rfl⟩ := List.mem_map.1 hx
    rw [nm_ne hk (List.mem_range.1 hj)]
    decide
  obtain ⟨q1, q2⟩ := told_read hm k
  unfold takF
  rw [e4, e3, e1, e2, e5, prtI_at hk]
  show (bif qK k (toldB c k) then Tk.set k (vK k (toldB c k)) (nmK k) else .no) = _
  rw [q1, q2]
  rfl
/-- the last m lines -/
def tlB (c : Cf) : Nat → ByteArray
  | 0 => ⟨#[]⟩
  | m + 1 => lnB c (19 - m) ++ tlB c m
theorem lns_tl (c : Cf) : ∀ k, k ≤ 19 → lnsB c k ++ tlB c (19 - k) = tlB c 20
  | 0, _ => rfl
  | k + 1, h => by
    rw [← lns_tl c k (by omega)]
    show (lnsB c k ++ lnB c (k + 1)) ++ tlB c (19 - (k + 1)) = _
    have e : 19 - k = (19 - (k + 1)) + 1 := by omega
    rw [e, ByteArray.append_assoc]
    show _ = lnsB c k ++ (lnB c (19 - (19 - (k + 1))) ++ tlB c (19 - (k + 1)))
    rw [show 19 - (19 - (k + 1)) = k + 1 by omega]
theorem pr_tl (c : Cf) : prB c = tlB c 20 := by
  have := lns_tl c 19 (Nat.le_refl _)
  rw [← this]
  show lnsB c 19 = lnsB c 19 ++ ⟨#[]⟩
  exact ByteArray.append_empty.symm
theorem tl_size (c : Cf) : ∀ m, m ≤ (tlB c m).size
  | 0 => Nat.zero_le _
  | m + 1 => by
    have := tl_size c m
    show m + 1 ≤ (lnB c (19 - m) ++ tlB c m).size
    have h : 0 < (lnB c (19 - m)).size := by
      unfold lnB
      rw [ByteArray.size_append, nl_size]; omega
    rw [ByteArray.size_append]; omega
/-- the first k parts set -/
def fld (c d : Cf) : Nat → Cf
  | 0 => d
  | k + 1 => setC k (valC c k) (fld c d k)
theorem fld_all (c d : Cf) : fld c d 20 = c := by cases c; cases d; rfl
theorem one_line {c : Cf} (hm : Conf.mayB c = true) {k : Nat} (hk : k < 20) (r : ByteArray) : cuP (lnB c k ++ r) = (lineL c k, L8 r, true) := by
  unfold cuP
  rw [L8_append, lnB_L8, List.append_assoc]
  exact cut_one 10 _ _ (line_is hm hk).1
theorem pG_none (f : Nat) (r : Cf) (l : List ByteArray) (i : Int) : pG (f + 1) r l ⟨#[]⟩ i = (some r, 0) := by
  have e : lnP ⟨#[]⟩ = ⟨#[]⟩ := rfl
  have n : noteB ⟨#[]⟩ = true := by
    unfold noteB e0B
    rw [eB_is.2 rfl]; rfl
  have t : ttP l ⟨#[]⟩ = .same := by
    unfold ttP
    rw [e]
    unfold takF
    rw [n]; rfl
  unfold pG
  rw [t]
  rfl
theorem pG_tl {c : Cf} (hm : Conf.mayB c = true) (d : Cf) : ∀ (m f : Nat) (i : Int), m ≤ 20 → m < f → pG f (fld c d (20 - m)) ((List.range (20 - m)).map nmK) (tlB c m) i = (some c, 0)
  | 0, 0, i, _, h => absurd h (Nat.lt_irrefl _)
  | 0, f + 1, i, _, _ => by
    rw [show fld c d (20 - 0) = c from fld_all c d]
    exact pG_none f c _ i
  | m + 1, 0, i, _, h => by omega
  | m + 1, f + 1, i, h1, h2 => by
    have hk : 19 - m < 20 := by omega
    have e1 := one_line hm hk (tlB c m)
    have et : ttP ((List.range (20 - (m + 1))).map nmK) (tlB c (m + 1)) = .set (19 - m) (valC c (19 - m)) (nmK (19 - m)) := by
      unfold ttP lnP
      show takF _ (byA (trB (L8 (byA (cuP (lnB c (19 - m) ++ tlB c m)).1)) 32)) = _
      rw [e1, L8_byA, (line_is hm hk).2.1, show 20 - (m + 1) = 19 - m by omega]
      exact tak_line hm hk
    have em : moP (tlB c (m + 1)) = true := by
      unfold moP
      show (cuP (lnB c (19 - m) ++ tlB c m)).2.2 = true
      rw [e1]
    have er : rsP (tlB c (m + 1)) = tlB c m := by
      unfold rsP
      show byA (cuP (lnB c (19 - m) ++ tlB c m)).2.1 = _
      rw [e1]
      exact byA_L8 _
    unfold pG
    rw [et]
    show (bif moP (tlB c (m + 1)) then pG f (setC (19 - m) (valC c (19 - m)) (fld c d (20 - (m + 1)))) ((List.range (20 - (m + 1))).map nmK ++ [nmK (19 - m)]) (rsP (tlB c (m + 1))) (i + 1) else _) = _
    rw [em, er]
    have en : (List.range (20 - (m + 1))).map nmK ++ [nmK (19 - m)] = (List.range (20 - m)).map nmK := by
      rw [show 20 - m = (19 - m) + 1 by omega, show 20 - (m + 1) = 19 - m by omega, List.range_succ, List.map_append]
      rfl
    have ef : setC (19 - m) (valC c (19 - m)) (fld c d (20 - (m + 1))) = fld c d (20 - m) := by
      rw [show 20 - m = (19 - m) + 1 by omega, show 20 - (m + 1) = 19 - m by omega]
      rfl
    rw [en, ef]
    exact pG_tl hm d m f (i + 1) (by omega) (by omega)
theorem par_back {c : Cf} (hm : Conf.mayB c = true) (d : Cf) : parF d (prB c) = (c, 0, 0) := by
  have h : pAll d (prB c) = (some c, 0) := by
    unfold pAll
    have hs := tl_size c 20
    rw [pr_tl]
    exact pG_tl hm d 20 _ 1 (Nat.le_refl _) (by omega)
  unfold parF
  rw [h]
  show (bif Conf.mayB c then (c, 0, 0) else (d, 5, 0)) = _
  rw [hm]; rfl
theorem par_none {c : Cf} (hm : Conf.mayB c = true) : parF c ⟨#[]⟩ = (c, 0, 0) := by
  have h : pAll c ⟨#[]⟩ = (some c, 0) := pG_none 0 c [] 1
  unfold parF
  rw [h]
  show (bif Conf.mayB c then (c, 0, 0) else (c, 5, 0)) = _
  rw [hm]; rfl
theorem pr_size (c : Cf) : (prB c).size ≤ 90000 := by
  have := lnsB_size c 19
  show (lnsB c 19).size ≤ _
  omega
end Go.Proofs.YtdangjhbkffbnaaDoor.Txt

/- Layer 4: the document's Show: contract. -/
namespace Go.Proofs.YtdangjhbkffbnaaDoor.Txt
open Go.Eng Go.RowKit
set_option linter.unusedVariables false
set_option linter.unusedSimpArgs false
set_option maxRecDepth 100000
def uR (g : Bool) (n : Int) : Int := bif g then W (0 - MX n) else n
def hdU (u : Int) : ByteArray := itoaB (W (Int.tdiv u 1000))
def dgU (u : Int) : ByteArray := itoaB (W (1000 + Int.tmod u 1000))
def exU (u : Int) : ByteArray := (dgU u).extract (Int.toNat 1) (Int.toNat ((dgU u).size : Int))
def lastU (t : ByteArray) : Int := W ((t.size : Int) - 1)
def cu1 (t : ByteArray) : ByteArray := t.extract (Int.toNat 0) (Int.toNat (lastU t))
def cuJ : Nat → ByteArray → ByteArray
  | 0, t => t
  | j + 1, t => cuJ j (cu1 t)
def stU (t : ByteArray) (c : Bool) : List (Bool × Bool) := [(decide (0 ≤ lastU t) && decide (lastU t < (t.size : Int)), true), (byteAt t (lastU t) == 48, c)]
def ctU (t : ByteArray) : Bool := decide ((0 : Int) ≤ 0) && (decide (0 ≤ lastU t) && decide (lastU t ≤ (t.size : Int)))
def lpU : Nat → ByteArray → List (Bool × Bool)
  | 0, t => stU t false
  | j + 1, t => stU t true ++ ((ctU t, true) :: lpU j (cu1 t))
def po (x : Int) : Bool := decide (0 ≤ x) && decide (x ≤ 9223372036854775807)
def hU (g : Bool) (n u : Int) (c : Bool) : List (Bool × Bool) := [(decide (n < 0), g), ((1000 : Int) == 0, false), (po (W (Int.tdiv u 1000)), true), (over ((sG g).size + (hdU u).size), false), ((1000 : Int) == 0, false), (Int.tmod u 1000 == 0, c)]
def miU (u : Int) : List (Bool × Bool) := [((1000 : Int) == 0, false), (po (W (1000 + Int.tmod u 1000)), true), (decide ((0 : Int) ≤ 1) && (decide ((1 : Int) ≤ ((dgU u).size : Int)) && decide (((dgU u).size : Int) ≤ ((dgU u).size : Int))), true)]
def enU (g : Bool) (u : Int) (t : ByteArray) : List (Bool × Bool) := [(over ((sG g ++ hdU u).size + (⟨#[46]⟩ : ByteArray).size), false), (over ((sG g ++ hdU u ++ ⟨#[46]⟩).size + t.size), false)]
def wdU : Nat → List Bool
  | 0 => [true, false]
  | j + 1 => true :: true :: true :: wdU j
theorem rsh_0 (g : Bool) (n : Int) : T.path [g, false, true, false, false, true] (T.anon (rshR [.s (.int .i64 n)])) = some (hU g n (uR g n) true, .s (.str (sG g ++ hdU (uR g n)))) := by cases g <;> kernel_rfl
theorem rsh_j (g : Bool) (n : Int) : ∀ j : Nat, j < 3 → T.path ([g, false, true, false, false, false, false, true, true] ++ (wdU j ++ [false, false])) (T.anon (rshR [.s (.int .i64 n)])) = some (hU g n (uR g n) false ++ (miU (uR g n) ++ (lpU j (exU (uR g n)) ++ enU g (uR g n) (cuJ j (exU (uR g n))))), .s (.str (sG g ++ hdU (uR g n) ++ ⟨#[46]⟩ ++ cuJ j (exU (uR g n)))))
  | 0, _ => by cases g <;> kernel_rfl
  | 1, _ => by cases g <;> kernel_rfl
  | 2, _ => by cases g <;> kernel_rfl
  | j + 3, h => by omega
theorem cu_3 (x y z : UInt8) : cu1 (byA [x, y, z]) = byA [x, y] := by kernel_rfl
theorem cu_2 (x y : UInt8) : cu1 (byA [x, y]) = byA [x] := by kernel_rfl
theorem la_3 (x y z : UInt8) : byteAt (byA [x, y, z]) (lastU (byA [x, y, z])) = ((z.toNat : Nat) : Int) := by kernel_rfl
theorem la_2 (x y : UInt8) : byteAt (byA [x, y]) (lastU (byA [x, y])) = ((y.toNat : Nat) : Int) := by kernel_rfl
theorem la_1 (x : UInt8) : byteAt (byA [x]) (lastU (byA [x])) = ((x.toNat : Nat) : Int) := by kernel_rfl
theorem b48 {x : UInt8} : (((x.toNat : Nat) : Int) == 48) = decide (x = 48) := by
  rw [Bool.eq_iff_iff, beq_iff_eq, decide_eq_true_eq]
  refine ⟨fun h => UInt8.toNat_inj.1 (by show x.toNat = 48; omega), fun h => by rw [h]; rfl⟩
/-- how many noughts are cut, and what is left -/
theorem cut_U {x y z : UInt8} (hx : dig x = true) (hy : dig y = true) (hz : dig z = true) (hn : natL [x, y, z] ≠ 0) : ∃ j, j < 3 ∧ cuJ j (byA [x, y, z]) = byA (trR [x, y, z] 48) ∧ allSay (lpU j (byA [x, y, z])) := by
  have e : trR [x, y, z] 48 = revF (dropW 48 [z, y, x]) [] := rfl
  have i3 : (decide (0 ≤ lastU (byA [x, y, z])) && decide (lastU (byA [x, y, z]) < ((byA [x, y, z]).size : Int))) = true := by kernel_rfl
  have i2 : (decide (0 ≤ lastU (byA [x, y])) && decide (lastU (byA [x, y]) < ((byA [x, y]).size : Int))) = true := by kernel_rfl
  have i1 : (decide (0 ≤ lastU (byA [x])) && decide (lastU (byA [x]) < ((byA [x]).size : Int))) = true := by kernel_rfl
  have c3 : ctU (byA [x, y, z]) = true := by kernel_rfl
  have c2 : ctU (byA [x, y]) = true := by kernel_rfl
  have z48 : ∀ b : UInt8, b = 48 → b.toNat = 48 := fun b h => by rw [h]; rfl
  by_cases h1 : z = 48
  · by_cases h2 : y = 48
    · by_cases h3 : x = 48
      · exfalso
        apply hn
        rw [h1, h2, h3]; rfl
      · have t : trR [x, y, z] 48 = [x] := by
          rw [e]; unfold dropW; rw [if_pos h1]; unfold dropW; rw [if_pos h2]; unfold dropW; rw [if_neg h3]; rfl
        refine ⟨2, by decide, ?_, ?_⟩
        · show cu1 (cu1 (byA [x, y, z])) = _
          rw [cu_3, cu_2, t]
        · unfold lpU stU
          rw [la_3, b48, cu_3]
          refine ⟨i3, decide_eq_true h1, c3, ?_⟩
          unfold lpU stU
          rw [la_2, b48, cu_2]
          refine ⟨i2, decide_eq_true h2, c2, ?_⟩
          unfold lpU stU
          rw [la_1, b48]
          exact ⟨i1, decide_eq_false h3, trivial⟩
    · have t : trR [x, y, z] 48 = [x, y] := by
        rw [e]; unfold dropW; rw [if_pos h1]; unfold dropW; rw [if_neg h2]; rfl
      refine ⟨1, by decide, ?_, ?_⟩
      · show cu1 (byA [x, y, z]) = _
        rw [cu_3, t]
      · unfold lpU stU
        rw [la_3, b48, cu_3]
        refine ⟨i3, decide_eq_true h1, c3, ?_⟩
        unfold lpU stU
        rw [la_2, b48]
        exact ⟨i2, decide_eq_false h2, trivial⟩
  · have t : trR [x, y, z] 48 = [x, y, z] := by
      rw [e]; unfold dropW; rw [if_neg h1]; rfl
    refine ⟨0, by decide, ?_, ?_⟩
    · rw [t]; rfl
    · unfold lpU stU
      rw [la_3, b48]
      exact ⟨i3, decide_eq_false h1, trivial⟩
theorem rsh_run {n : Int} (h0 : -9223372036854775808 ≤ n) (h1 : n ≤ 9223372036854775807) : (rshR [.s (.int .i64 n)]).eval = some (.s (.str (showB n))) := by
  rw [← T.eval_anon (t := rshR _)]
  have m0 : -9223372036854775807 ≤ MX n ∧ MX n ≤ 9223372036854775807 := by unfold MX; split <;> omega
  obtain ⟨g, hg⟩ : ∃ g, decide (MX n < 0) = g := ⟨_, rfl⟩
  obtain ⟨u, hu⟩ : ∃ u, (if MX n < 0 then -MX n else MX n) = u := ⟨_, rfl⟩
  have hs : MX n < 0 ↔ n < 0 := by unfold MX; split <;> omega
  have hgn : decide (n < 0) = g := by rw [← hg]; exact decide_eq_decide.2 hs.symm
  have eu : uR g n = u := by
    unfold uR
    rw [← hu, ← hg]
    by_cases q : MX n < 0
    · rw [decide_eq_true q, if_pos q]
      show W (0 - MX n) = _
      rw [Wi (by omega) (by omega), Int.zero_sub]
    · rw [decide_eq_false q, if_neg q]
      show n = MX n
      unfold MX at *
      split at q <;> omega
  have u0 : 0 ≤ u ∧ u ≤ 9223372036854775807 := by rw [← hu]; split <;> omega
  have e1 : W (Int.tdiv u 1000) = u / 1000 := by
    rw [Int.tdiv_eq_ediv_of_nonneg u0.1]
    exact Wi (by omega) (by omega)
  have e2 : Int.tmod u 1000 = u % 1000 := Int.tmod_eq_emod_of_nonneg u0.1
  have e3 : W (1000 + Int.tmod u 1000) = 1000 + u % 1000 := by rw [e2]; exact Wi (by omega) (by omega)
  have pos : ∀ x : Int, 0 ≤ x → x ≤ 9223372036854775807 → po x = true := fun x x0 x1 => by
    unfold po; rw [decide_eq_true x0, decide_eq_true x1]; rfl
  have z0 : (sG g).size ≤ 1 := by cases g <;> decide
  have z1 : hdU u = itoaB (u / 1000) := by unfold hdU; rw [e1]
  have z2 : dgU u = itoaB (1000 + u % 1000) := by unfold dgU; rw [e3]
  have s1 := itoaB_size (u / 1000)
  have s2 := itoaB_size (1000 + u % 1000)
  have hh : ∀ c, (Int.tmod u 1000 == 0) = c → allSay (hU g n u c) := fun c hc => ⟨hgn, rfl, by rw [e1]; exact pos _ (by omega) (by omega), over_no (by rw [z1]; omega), rfl, hc, trivial⟩
  unfold showB
  simp only [hu, hg]
  by_cases q : u % 1000 = 0
  · have way := rsh_0 g n
    rw [eu] at way
    rw [if_pos q, T.path_eval way (hh true (by rw [e2, q]; rfl)), z1]
  · have z3 : exU u = (itoaB (1000 + u % 1000)).extract (Int.toNat 1) (Int.toNat ((itoaB (1000 + u % 1000)).size : Int)) := by unfold exU; rw [z2]
    have z4 : L8 (exU u) = (itoaL (1000 + u % 1000)).drop 1 := by rw [z3, extract_L8]; rfl
    obtain ⟨t3, td, tn⟩ := three (B := u % 1000) (by omega) (by omega)
    have z7 : (sG g ++ hdU u).size ≤ 22 := by rw [ByteArray.size_append, z1]; omega
    have o1 : (⟨#[46]⟩ : ByteArray).size = 1 := rfl
    have a0 : (Int.tmod u 1000 == 0) = false := by rw [e2]; simpa using q
    have hm : allSay (miU u) := by
      refine ⟨rfl, by rw [e3]; exact pos _ (by omega) (by omega), ?_, trivial⟩
      rw [z2, decide_eq_true (show (1 : Int) ≤ ((itoaB (1000 + u % 1000)).size : Int) by omega), decide_eq_true (Int.le_refl _)]; rfl
    rw [if_neg q]
    have z5 : exU u = byA ((itoaL (1000 + u % 1000)).drop 1) := by rw [← z4, byA_L8]
    generalize (itoaL (1000 + u % 1000)).drop 1 = l at *
    match l, t3, td, tn with
    | [x, y, z], _, td, tn =>
      obtain ⟨j, j3, ej, ja⟩ := cut_U (td x (by simp)) (td y (by simp)) (td z (by simp)) (by rw [tn]; exact q)
      have way := rsh_j g n j j3
      rw [eu] at way
      rw [← z5] at ej ja
      have z6 : (cuJ j (exU u)).size ≤ 3 := by
        rw [ej, byA_size]
        exact trR_len [x, y, z] 48
      have he : allSay (enU g u (cuJ j (exU u))) := ⟨by rw [o1]; exact over_no (by omega), by rw [ByteArray.size_append, o1]; exact over_no (by omega), trivial⟩
      rw [T.path_eval way (allSay_append (hh false a0) (allSay_append hm (allSay_append ja he))), ej, z1]
def rshS : Eng.Spec
  | [.s (.int .i64 n)] => .ite none (in64 n) (.ret (.s (.str (showB n)))) .fail
  | _ => .fail
theorem rshS_ok : SpecOk Tryd.prog 16 rshS := rshR_ok.of_den fun args v hfl h => by
  clear hfl
  unfold rshS at h
  split at h
  · obtain ⟨hb, h⟩ := ite_T' h
    obtain rfl := Option.some.inj h
    obtain ⟨b0, b1⟩ := in64_is hb
    exact ⟨_, rsh_run b0 b1, ⟨rfl, rfl⟩, rfl⟩
  · cases h
end Go.Proofs.YtdangjhbkffbnaaDoor.Txt

/- The document's own answer for settings, in a seat of texts. -/
namespace Go.Proofs.YtdangjhbkffbnaaDoor.Conf
open Go.Eng Go.RowKit Mil
set_option linter.unusedVariables false
set_option linter.unusedSimpArgs false

set_option maxRecDepth 100000
noncomputable def valuesS : Eng.Spec := execS Txt.K0 noLoops 33
noncomputable def namesS : Eng.Spec := execS Txt.K0 noLoops 44
noncomputable def betweenS : Eng.Spec := execS Txt.K0 noLoops 76
theorem values_ok : SpecOk Tryd.prog 33 valuesS := execS_plain Txt.K0_ok Txt.mixed Tryd.func33 (by kernel_rfl) (by kernel_rfl)
theorem names_ok : SpecOk Tryd.prog 44 namesS := execS_plain Txt.K0_ok Txt.mixed Tryd.func44 (by kernel_rfl) (by kernel_rfl)
theorem between_ok : SpecOk Tryd.prog 76 betweenS := execS_plain Txt.K0_ok Txt.mixed Tryd.func76 (by kernel_rfl) (by kernel_rfl)
noncomputable def R1 : Cfg := ⟨Tryd.prog, lookG [(33, .val valuesS), (44, .val namesS), (76, .val betweenS)], [], 0⟩
theorem R1_ok : R1.Ok := Cfg.ok ⟨values_ok, names_ok, between_ok, trivial⟩ trivial
def rwT (top : Int) (c : Cf) : T V :=
  .ite none (!bif decide (10 ≤ c.target) then decide (c.target ≤ 1000000) else false) (.ret (strV [116, 97, 114, 103, 101, 116])) (
  .ite none (!bif decide (100 ≤ c.util) then decide (c.util ≤ 1000) else false) (.ret (strV [117, 116, 105, 108])) (
  .ite none (!bif decide (6 ≤ c.stable) then decide (c.stable ≤ 600) else false) (.ret (strV [115, 116, 97, 98, 108, 101])) (
  .ite none (!bif decide (1 ≤ c.panic) then decide (c.panic ≤ c.stable) else false) (.ret (strV [112, 97, 110, 105, 99])) (
  .ite none (!bif decide (1 ≤ c.grain) then decide (c.grain ≤ c.panic) else false) (.ret (strV [103, 114, 97, 105, 110])) (
  .ite none (!bif decide (1100 ≤ c.threshold) then decide (c.threshold ≤ 10000) else false) (.ret (strV [116, 104, 114, 101, 115, 104, 111, 108, 100])) (
  .ite none (!bif decide (1001 ≤ c.up) then decide (c.up ≤ 1000000) else false) (.ret (strV [117, 112])) (
  .ite none (!bif decide (1001 ≤ c.down) then decide (c.down ≤ 1000000) else false) (.ret (strV [100, 111, 119, 110])) (
  .ite none (!bif decide (0 ≤ c.min) then decide (c.min ≤ 100) else false) (.ret (strV [109, 105, 110])) (
  .ite none (!bif c.max == 0 then true else bif decide ((if 1 > c.min then 1 else c.min) ≤ c.max) then decide (c.max ≤ 100) else false) (.ret (strV [109, 97, 120])) (
  .ite none (!bif decide (0 ≤ c.initial) then decide (c.initial ≤ top) else false) (.ret (strV [105, 110, 105, 116, 105, 97, 108])) (
  .ite none (!bif decide (0 ≤ c.grace) then decide (c.grace ≤ 600) else false) (.ret (strV [103, 114, 97, 99, 101])) (
  .ite none (!bif decide (0 ≤ c.delay) then decide (c.delay ≤ 600) else false) (.ret (strV [100, 101, 108, 97, 121])) (
  .ite none (!bif c.burst == -1000 then true else bif decide (0 ≤ c.burst) then decide (c.burst ≤ 100000000) else false) (.ret (strV [98, 117, 114, 115, 116])) (
  .ite none (!bif decide (1 ≤ c.limit) then decide (c.limit ≤ 1000) else false) (.ret (strV [108, 105, 109, 105, 116])) (
  .ite none (!bif decide (0 ≤ c.queue) then decide (c.queue ≤ 200) else false) (.ret (strV [113, 117, 101, 117, 101])) (
  .ite none (!bif decide (1 ≤ c.timeout) then decide (c.timeout ≤ 10000) else false) (.ret (strV [116, 105, 109, 101, 111, 117, 116])) (
  .ite none (!bif decide (0 ≤ c.ready) then decide (c.ready ≤ 100) else false) (.ret (strV [114, 101, 97, 100, 121])) (
  .ite none (!bif decide (0 ≤ c.subset) then decide (c.subset ≤ 100) else false) (.ret (strV [115, 117, 98, 115, 101, 116])) (
  .ite none (!bif decide (0 ≤ c.sample) then decide (c.sample ≤ 100) else false) (.ret (strV [115, 97, 109, 112, 108, 101])) (
  .ret (strV [])))))))))))))))))))))
def rwL (top : Int) (c : Cf) : List UInt8 :=
  if outB c.target 10 1000000 = true then [116, 97, 114, 103, 101, 116] else
  if outB c.util 100 1000 = true then [117, 116, 105, 108] else
  if outB c.stable 6 600 = true then [115, 116, 97, 98, 108, 101] else
  if outB c.panic 1 c.stable = true then [112, 97, 110, 105, 99] else
  if outB c.grain 1 c.panic = true then [103, 114, 97, 105, 110] else
  if outB c.threshold 1100 10000 = true then [116, 104, 114, 101, 115, 104, 111, 108, 100] else
  if outB c.up 1001 1000000 = true then [117, 112] else
  if outB c.down 1001 1000000 = true then [100, 111, 119, 110] else
  if outB c.min 0 100 = true then [109, 105, 110] else
  if (!(c.max == 0) && outB c.max (max c.min 1) 100) = true then [109, 97, 120] else
  if outB c.initial 0 top = true then [105, 110, 105, 116, 105, 97, 108] else
  if outB c.grace 0 600 = true then [103, 114, 97, 99, 101] else
  if outB c.delay 0 600 = true then [100, 101, 108, 97, 121] else
  if (!(c.burst == -1000) && outB c.burst 0 100000000) = true then [98, 117, 114, 115, 116] else
  if outB c.limit 1 1000 = true then [108, 105, 109, 105, 116] else
  if outB c.queue 0 200 = true then [113, 117, 101, 117, 101] else
  if outB c.timeout 1 10000 = true then [116, 105, 109, 101, 111, 117, 116] else
  if outB c.ready 0 100 = true then [114, 101, 97, 100, 121] else
  if outB c.subset 0 100 = true then [115, 117, 98, 115, 101, 116] else
  if outB c.sample 0 100 = true then [115, 97, 109, 112, 108, 101] else
  []
theorem in_out (n lo hi : Int) : (!bif decide (lo ≤ n) then decide (n ≤ hi) else false) = outB n lo hi := by
  unfold outB
  rw [bif_and, Bool.not_and, ← decide_not, ← decide_not]
  congr 1 <;> (congr 1; exact propext (by omega))
theorem or_out (n m lo hi : Int) : (!bif n == m then true else bif decide (lo ≤ n) then decide (n ≤ hi) else false) = (!(n == m) && outB n lo hi) := by
  rw [← in_out]
  cases n == m <;> rfl
theorem rw_eval (top : Int) (c : Cf) : (rwT top c).eval = some (strV (rwL top c)) := by
  unfold rwT rwL
  simp only [in_out, or_out]
  rw [max_one]
  exact T_step rfl (T_step rfl (T_step rfl (T_step rfl (T_step rfl (T_step rfl (T_step rfl (T_step rfl (T_step rfl (T_step rfl (T_step rfl (T_step rfl (T_step rfl (T_step rfl (T_step rfl (T_step rfl (T_step rfl (T_step rfl (T_step rfl (T_step rfl (rfl))))))))))))))))))))
theorem rwL_most (c : Cf) : rwL (mostC c) c = wrongL c := rfl
theorem rwL_neg (a b : Int) (c : Cf) (h : c.max < 0) : rwL a c = rwL b c := by
  have e : (!(c.max == 0) && outB c.max (max c.min 1) 100) = true := by
    have h1 : (c.max == 0) = false := by simp; omega
    have h2 : outB c.max (max c.min 1) 100 = true := by
      unfold outB
      rw [decide_eq_true (by omega)]; rfl
    rw [h1, h2]; rfl
  unfold rwL
  rw [e]
  rfl
theorem rw_all (c : Cf) : (T.ite none (decide (0 < c.max)) (rwT c.max c) (rwT 100 c)).eval = some (strV (wrongL c)) := by
  by_cases h : 0 < c.max
  · rw [decide_eq_true h]
    show (rwT c.max c).eval = _
    rw [rw_eval, ← rwL_most, show mostC c = c.max from if_neg (by omega)]
  · rw [decide_eq_false h]
    show (rwT 100 c).eval = _
    rw [rw_eval, ← rwL_most]
    by_cases h0 : c.max = 0
    · rw [show mostC c = 100 from if_pos h0]
    · rw [rwL_neg 100 (mostC c) c (by omega)]
theorem refwrong_ok : SpecOk Tryd.prog 61 wrongS := by
  refine (execS_rounds R1_ok Txt.mixed 21 1 Tryd.func61 (by kernel_rfl) (by kernel_rfl)).of_den fun args v hfl h => ?_
  clear hfl
  unfold wrongS at h
  split at h
  · obtain ⟨c, rfl, h2⟩ := asConf_some h
    obtain rfl := Option.some.inj h2
    clear h h2
    have e : T.anon (execS R1 (rounds R1 21 1) 61 [confV c]) = T.ite none (decide (0 < c.max)) (rwT c.max c) (rwT 100 c) := by kernel_rfl
    rw [← T.eval_anon, e, rw_all]
    exact ⟨_, rfl, ⟨rfl, rfl⟩, rfl⟩
  · cases h
noncomputable def R2 : Cfg := ⟨Tryd.prog, lookG [(61, .val wrongS)], [], 0⟩
theorem R2_ok : R2.Ok := Cfg.ok ⟨refwrong_ok, trivial⟩ trivial
theorem refmay_ok : SpecOk Tryd.prog 36 mayS := by
  refine (execS_plain R2_ok Txt.mixed Tryd.func36 (by kernel_rfl) (by kernel_rfl)).of_den fun args v hfl h => ?_
  clear hfl
  unfold mayS at h
  split at h
  · obtain ⟨c, rfl, h2⟩ := asConf_some h
    obtain rfl := Option.some.inj h2
    clear h h2
    have e : execS R2 noLoops 36 [confV c] = .ret (.s (.bool ((⟨⟨wrongL c⟩⟩ : ByteArray).toList == (⟨#[]⟩ : ByteArray).toList))) := by kernel_rfl
    rw [e, bytes_empty]
    exact ⟨_, rfl, ⟨rfl, rfl⟩, rfl⟩
  · cases h
end Go.Proofs.YtdangjhbkffbnaaDoor.Conf

