import Derived.Test.YtdangjhbkffbnaaDoorRows
import Derived.OpenShut
import Derived.LaidMore
import Derived.Lay
import Derived.Lib.LaidTab
import Derived.Stop.LaidErr
import Derived.Shelf.Vars
import Derived.Shelf.Strings.Builder1
import Derived.Shelf.Strings.Builder2
import Derived.Shelf.Strings.OnBuilder
import Derived.Shelf.Strings.Trim
import Derived.Shelf.Small.Utf8
import Derived.Shelf.Small.Strs
import Derived.Shelf.Small.Wraps
import Derived.Shelf.Strconv.Itoa0
import Derived.Shelf.Strconv.Itoa1
import Derived.Shelf.LaysM
import Derived.Shelf.Strconv.Itoa2
import Derived.Shelf.Strconv.Itoa3
import Derived.Shelf.Strconv.Itoa4
import Derived.Shelf.Strings.Search1
import Derived.Shelf.Strings.Search2
import Derived.Shelf.Strings.Cut
import Derived.Shelf.Strings.Shaped
import Derived.Shelf.Strings.Prefix
import Derived.Shelf.Unicode.Decode
import Derived.Shelf.Strings.Runes
import Derived.Shelf.Strings.AsciiSet
import Derived.Shelf.Unicode.DecodeSlow
import Derived.Shelf.Unicode.DecodeAny
import Derived.Shelf.Unicode.DecodeLast
import Derived.Shelf.Slices.Turned
import Derived.Test.YtdangjhbkffbnaaDoorProg
import Derived.Lib.AppendIntMem
import Derived.Test.YtdangjhbkffbnaaDoorGE
/- What laws' frames want at a door: what is listed of package-level variables, from the row to the machine. -/
namespace Go.Proofs.YtdangjhbkffbnaaDoor.Law.Gl
open Go.Joins Go.ChangeShapes Go.WideShapes Go.ChangeAt Go.RowKit Go.Deep
set_option linter.unusedVariables false
variable {H : Type} {enc : TypeId × Value → H}
/-- the wrap, with what the row lists, and the world's shape -/
theorem of_change_and {a : Assume} {C : Checked} {os : Os} {f : FuncId} {fn : Func} {s : ChangeSpec} {conds : List PathCond} {apart fresh handsOn again : Bool} {X : World → Array Value → Prop}
    (hX : ∀ (w w' : World) (args : Array Value), w.heap = w'.heap → X w args → X w' args)
    (own : ownKnob C.prog.godebug = none) (started : os.Started) (noInit : C.prog.inits.idxOf? f = none) (hfn : C.prog.funcs[f]? = some fn)
    (witness : ∃ (w : World) (tape : Tape) (i : Input), w.os = os ∧ (w.forCall tape i).Shaped C.prog ∧ i.vars = [] ∧ Input.okWide C.prog (w.forCall tape i) .any w.heap.size f i ∧
      ((s.pre enc C.prog fn conds apart (w.forCall tape i).memory i.args ∧ X (w.forCall tape i).memory i.args) ∧ sizedMet enc C.prog fn (OpenSpec.ofChange s) apart (w.forCall tape i).memory i.args) ∧ a.holds C.prog (lone (Frame.enter C.prog f i.args .normal) [] (w.forCall tape i)))
    (contract : ∀ (W : World) (base : Nat) (args : Array Value) (ds gs : List (DataW H)) (before : List MemPlace),
      (∀ (j : Nat) t v, fn.params[j]? = some t → args[j]? = some v → Value.okWide C.prog W .any base t v) →
      DataW.Whole enc C.prog fn.params.toList s.vars apart W args.toList ds gs before → X W args → W.ShapedOpen C.prog →
      Calls C.prog f args W fun e W' => ∃ v, e = .returned v ∧ s.post enc C.prog fn apart fresh handsOn again W args v W') :
    ReturnsInHanded a C os f .any (fun w args => (s.pre enc C.prog fn conds apart w args ∧ X w args) ∧ sizedMet enc C.prog fn (OpenSpec.ofChange s) apart w args) (s.post enc C.prog fn apart fresh handsOn again) := by
  refine returnsInHanded_of_calls own started noInit witness ?_
  intro w tape i _ hsh _ hok hpre _
  obtain ⟨_, _, _, fn', hfn', _, _, _, _, hval⟩ := hok
  obtain rfl : fn' = fn := Option.some.inj (hfn'.symm.trans hfn)
  obtain ⟨⟨⟨ds, gs, before, hw, _⟩, hx⟩, _⟩ := hpre
  have hw' := DataW.Whole.of_heap (w' := w.forCall tape i) (by rfl) hw
  refine (contract (w.forCall tape i) w.heap.size i.args ds gs before hval hw' (hX _ _ _ (by rfl) hx) hsh).mono fun e W' ⟨v, he, hp⟩ => ?_
  subst he
  exact ChangeSpec.post_blind hp
theorem glob0 {W : World} {rest : List (String × DataW Unit)} (h3 : laidMet Tryd.prog (("internal/strconv.uint64pow10", Lib.tabData .u64 Lib.pow10Tab) :: rest) W) (hsh : W.ShapedOpen Tryd.prog) : Eng.Glob W := by
  have ht : Lib.TabIs Tryd.prog W "internal/strconv.uint64pow10" .u64 Lib.pow10Tab := Lib.tabIs_of_head (g := 1) (by kernel_rfl) (t := ((Tryd.prog.globals[1]?).map (·.type)).getD 0) (by kernel_rfl) (n := 20) (e := 121) (by kernel_rfl) (by kernel_rfl) (by kernel_rfl) (by kernel_rfl) h3
  refine ⟨?_, ?_, ?_⟩
  · obtain ⟨cs, hh, -⟩ := hsh.1 5 ((((begin Tryd.prog (fun _ _ => 0) default).world.heap[5]?).bind Obj.row?).getD (#[], 0)).1 ((((begin Tryd.prog (fun _ _ => 0) default).world.heap[5]?).bind Obj.row?).getD (#[], 0)).2 (of_decide_eq_true (by kernel_rfl)) (by kernel_rfl)
    have := (Array.getElem?_eq_some_iff.1 hh).1
    show 6 ≤ _
    omega
  · unfold Lib.TabIs World.var? at ht
    rw [show Tryd.prog.globalNamed "internal/strconv.uint64pow10" = some 1 by kernel_rfl] at ht
    have ht : (match W.heap[1]? with | some (Obj.cells cs _ _) => some cs | _ => none) = some (Lib.pow10Tab.map fun z => Value.int .u64 z).toArray := ht
    split at ht
    · rename_i cs t s e
      obtain rfl := Option.some.inj ht
      exact ⟨t, s, e⟩
    · cases ht
  · exact cell_of_shapedOpen_int (P := Tryd.prog) (g := 0) (t := 3) (zero := #[.int .i64 0]) hsh (of_decide_eq_true (by kernel_rfl)) (by kernel_rfl) rfl (by kernel_rfl) (by kernel_rfl) Tryd.underlying3
theorem glob {W : World} (hL : laidMetH Tryd.prog Rows.textAsksRow.laid W) (hsh : W.ShapedOpen Tryd.prog) : Eng.Glob W := by
  rw [MakeChecks.laidMetH_plain _ _ _ (by kernel_rfl)] at hL
  exact glob0 (rest := [("unicode/utf8.acceptRanges", Rows.laid_unicode_utf8_acceptRanges), ("unicode/utf8.first", Rows.laid_unicode_utf8_first)]) hL.tail.tail hsh
theorem globR {W : World} (hL : laidMetH Tryd.prog Rows.reportCountsRow.laid W) (hsh : W.ShapedOpen Tryd.prog) : Eng.Glob W := by
  rw [MakeChecks.laidMetH_plain _ _ _ (by kernel_rfl)] at hL
  exact glob0 (rest := []) hL.tail.tail hsh
end Go.Proofs.YtdangjhbkffbnaaDoor.Law.Gl

/- The library's functions that this program calls, told to be those that the library's contracts speak of. -/
namespace Go.Proofs
open Go.Shelf
def Tryd.lays169_ren : Go.Shelf.Ren := ⟨fun | 169 => 41 | n => n, fun | 70 => 70 | 9 => 9 | 0 => 0 | 72 => 73 | 37 => 71 | 127 => 105 | 3 => 3 | 5 => 5 | n => n, fun | n => n⟩
theorem Tryd.lays169 : Go.Proofs.Lays.n169 Tryd.prog Tryd.lays169_ren := {
  mixed := by kernel_rfl
  f169 := Tryd.func41.trans (congrArg some (by kernel_rfl))
  t0 := Tryd.underlying0
  a0 := Tryd.isAgg0
  z0 := Tryd.sizeOf0
  v0 := Tryd.zeroValue0
  t3 := Tryd.underlying3
  a3 := Tryd.isAgg3
  z3 := Tryd.sizeOf3
  v3 := Tryd.zeroValue3
  t9 := Tryd.underlying9
  a9 := Tryd.isAgg9
  z9 := Tryd.sizeOf9
  v9 := Tryd.zeroValue9
  t37 := Tryd.underlying71
  a37 := Tryd.isAgg71
  z37 := Tryd.sizeOf71
  v37 := Tryd.zeroValue71
  t70 := Tryd.underlying70
  a70 := Tryd.isAgg70
  z70 := Tryd.sizeOf70
  v70 := Tryd.zeroValue70
  t72 := Tryd.underlying73
  a72 := Tryd.isAgg73
  z72 := Tryd.sizeOf73
  v72 := Tryd.zeroValue73
  t127 := Tryd.underlying105
  a127 := Tryd.isAgg105
  z127 := Tryd.sizeOf105
  v127 := Tryd.zeroValue105 }
theorem Tryd.Builder_Extra_169 : Builder.Extra Tryd.prog Tryd.lays169_ren := {
  sizeBuilder := by kernel_rfl
  liesBuilder := by kernel_rfl
  t5 := Tryd.underlying5
  a5 := Tryd.isAgg5
  z5 := Tryd.sizeOf5
  v5 := Tryd.zeroValue5
  infoByte := by kernel_rfl
  cellsByte := by kernel_rfl
  sizeByte := by kernel_rfl
  neB5 := by decide }
def Tryd.lays156_ren : Go.Shelf.Ren := ⟨fun | 156 => 65 | 165 => 83 | 166 => 38 | 169 => 41 | 240 => 62 | 241 => 96 | 276 => 77 | 277 => 103 | n => n, fun | 31 => 24 | 9 => 9 | 3 => 3 | 4 => 4 | 0 => 0 | 20 => 20 | 72 => 73 | 76 => 77 | 70 => 70 | 37 => 71 | 75 => 76 | 127 => 105 | 164 => 118 | 5 => 5 | 80 => 82 | n => n, fun | n => n⟩
theorem Tryd.lays156 : Go.Proofs.Lays.n156 Tryd.prog Tryd.lays156_ren := {
  mixed := by kernel_rfl
  f156 := Tryd.func65.trans (congrArg some (by kernel_rfl))
  f165 := Tryd.func83.trans (congrArg some (by kernel_rfl))
  f166 := Tryd.func38.trans (congrArg some (by kernel_rfl))
  f169 := Tryd.func41.trans (congrArg some (by kernel_rfl))
  f240 := Tryd.func62.trans (congrArg some (by kernel_rfl))
  f241 := Tryd.func96.trans (congrArg some (by kernel_rfl))
  f276 := Tryd.func77.trans (congrArg some (by kernel_rfl))
  f277 := Tryd.func103.trans (congrArg some (by kernel_rfl))
  t0 := Tryd.underlying0
  a0 := Tryd.isAgg0
  z0 := Tryd.sizeOf0
  v0 := Tryd.zeroValue0
  t3 := Tryd.underlying3
  a3 := Tryd.isAgg3
  z3 := Tryd.sizeOf3
  v3 := Tryd.zeroValue3
  t4 := Tryd.underlying4
  a4 := Tryd.isAgg4
  z4 := Tryd.sizeOf4
  v4 := Tryd.zeroValue4
  t9 := Tryd.underlying9
  a9 := Tryd.isAgg9
  z9 := Tryd.sizeOf9
  v9 := Tryd.zeroValue9
  t20 := Tryd.underlying20
  a20 := Tryd.isAgg20
  z20 := Tryd.sizeOf20
  v20 := Tryd.zeroValue20
  t31 := Tryd.underlying24
  a31 := Tryd.isAgg24
  z31 := Tryd.sizeOf24
  v31 := Tryd.zeroValue24
  t37 := Tryd.underlying71
  a37 := Tryd.isAgg71
  z37 := Tryd.sizeOf71
  v37 := Tryd.zeroValue71
  t70 := Tryd.underlying70
  a70 := Tryd.isAgg70
  z70 := Tryd.sizeOf70
  v70 := Tryd.zeroValue70
  t72 := Tryd.underlying73
  a72 := Tryd.isAgg73
  z72 := Tryd.sizeOf73
  v72 := Tryd.zeroValue73
  t75 := Tryd.underlying76
  a75 := Tryd.isAgg76
  z75 := Tryd.sizeOf76
  v75 := Tryd.zeroValue76
  t76 := Tryd.underlying77
  a76 := Tryd.isAgg77
  z76 := Tryd.sizeOf77
  v76 := Tryd.zeroValue77
  t127 := Tryd.underlying105
  a127 := Tryd.isAgg105
  z127 := Tryd.sizeOf105
  v127 := Tryd.zeroValue105
  t164 := Tryd.underlying118
  a164 := Tryd.isAgg118
  z164 := Tryd.sizeOf118
  v164 := Tryd.zeroValue118 }
theorem Tryd.Builder_Extra_156 : Builder.Extra Tryd.prog Tryd.lays156_ren := {
  sizeBuilder := by kernel_rfl
  liesBuilder := by kernel_rfl
  t5 := Tryd.underlying5
  a5 := Tryd.isAgg5
  z5 := Tryd.sizeOf5
  v5 := Tryd.zeroValue5
  infoByte := by kernel_rfl
  cellsByte := by kernel_rfl
  sizeByte := by kernel_rfl
  neB5 := by decide }
def Tryd.lays162_ren : Go.Shelf.Ren := ⟨fun | 162 => 46 | 232 => 54 | 227 => 55 | 234 => 57 | 236 => 59 | 228 => 70 | 271 => 73 | 151 => 72 | 120 => 90 | 197 => 71 | 152 => 89 | 260 => 88 | 137 => 99 | 119 => 100 | 224 => 86 | 225 => 85 | 217 => 84 | 266 => 97 | n => n, fun | 9 => 9 | 4 => 4 | 3 => 3 | 5 => 5 | 117 => 95 | 116 => 94 | 0 => 0 | 124 => 98 | 21 => 21 | 105 => 112 | 46 => 34 | 119 => 137 | 139 => 140 | 138 => 139 | n => n, fun | 3 => 2 | 4 => 3 | n => n⟩
theorem Tryd.lays162 : Go.Proofs.Lays.n162 Tryd.prog Tryd.lays162_ren := {
  mixed := by kernel_rfl
  f119 := Tryd.func100.trans (congrArg some (by kernel_rfl))
  f120 := Tryd.func90.trans (congrArg some (by kernel_rfl))
  f137 := Tryd.func99.trans (congrArg some (by kernel_rfl))
  f151 := Tryd.func72.trans (congrArg some (by kernel_rfl))
  f152 := Tryd.func89.trans (congrArg some (by kernel_rfl))
  f162 := Tryd.func46.trans (congrArg some (by kernel_rfl))
  f197 := Tryd.func71.trans (congrArg some (by kernel_rfl))
  f217 := Tryd.func84.trans (congrArg some (by kernel_rfl))
  f224 := Tryd.func86.trans (congrArg some (by kernel_rfl))
  f225 := Tryd.func85.trans (congrArg some (by kernel_rfl))
  f227 := Tryd.func55.trans (congrArg some (by kernel_rfl))
  f228 := Tryd.func70.trans (congrArg some (by kernel_rfl))
  f232 := Tryd.func54.trans (congrArg some (by kernel_rfl))
  f234 := Tryd.func57.trans (congrArg some (by kernel_rfl))
  f236 := Tryd.func59.trans (congrArg some (by kernel_rfl))
  f260 := Tryd.func88.trans (congrArg some (by kernel_rfl))
  f266 := Tryd.func97.trans (congrArg some (by kernel_rfl))
  f271 := Tryd.func73.trans (congrArg some (by kernel_rfl))
  t0 := Tryd.underlying0
  a0 := Tryd.isAgg0
  z0 := Tryd.sizeOf0
  v0 := Tryd.zeroValue0
  t3 := Tryd.underlying3
  a3 := Tryd.isAgg3
  z3 := Tryd.sizeOf3
  v3 := Tryd.zeroValue3
  t4 := Tryd.underlying4
  a4 := Tryd.isAgg4
  z4 := Tryd.sizeOf4
  v4 := Tryd.zeroValue4
  t5 := Tryd.underlying5
  a5 := Tryd.isAgg5
  z5 := Tryd.sizeOf5
  v5 := Tryd.zeroValue5
  t9 := Tryd.underlying9
  a9 := Tryd.isAgg9
  z9 := Tryd.sizeOf9
  v9 := Tryd.zeroValue9
  t21 := Tryd.underlying21
  a21 := Tryd.isAgg21
  z21 := Tryd.sizeOf21
  v21 := Tryd.zeroValue21
  t46 := Tryd.underlying34
  a46 := Tryd.isAgg34
  z46 := Tryd.sizeOf34
  v46 := Tryd.zeroValue34
  t105 := Tryd.underlying112
  a105 := Tryd.isAgg112
  z105 := Tryd.sizeOf112
  v105 := Tryd.zeroValue112
  t116 := Tryd.underlying94
  a116 := Tryd.isAgg94
  z116 := Tryd.sizeOf94
  t117 := Tryd.underlying95
  a117 := Tryd.isAgg95
  z117 := Tryd.sizeOf95
  v117 := Tryd.zeroValue95
  t119 := Tryd.underlying137
  a119 := Tryd.isAgg137
  z119 := Tryd.sizeOf137
  t124 := Tryd.underlying98
  a124 := Tryd.isAgg98
  z124 := Tryd.sizeOf98
  v124 := Tryd.zeroValue98
  t138 := Tryd.underlying139
  a138 := Tryd.isAgg139
  z138 := Tryd.sizeOf139
  v138 := Tryd.zeroValue139
  t139 := Tryd.underlying140
  a139 := Tryd.isAgg140
  z139 := Tryd.sizeOf140
  v139 := Tryd.zeroValue140
  g3 := by kernel_rfl
  g4 := by kernel_rfl }
def Tryd.lays160_ren : Go.Shelf.Ren := ⟨fun | 160 => 31 | 232 => 54 | 231 => 53 | 227 => 55 | 234 => 57 | 233 => 56 | 236 => 59 | 235 => 58 | 228 => 70 | 271 => 73 | 151 => 72 | 197 => 71 | 120 => 90 | 152 => 89 | 260 => 88 | 137 => 99 | 119 => 100 | 224 => 86 | 225 => 85 | 217 => 84 | 266 => 97 | n => n, fun | 9 => 9 | 4 => 4 | 3 => 3 | 5 => 5 | 117 => 95 | 116 => 94 | 0 => 0 | 124 => 98 | 21 => 21 | 105 => 112 | 46 => 34 | 119 => 137 | 139 => 140 | 138 => 139 | n => n, fun | 3 => 2 | 4 => 3 | n => n⟩
theorem Tryd.lays160 : Go.Proofs.Lays.n160 Tryd.prog Tryd.lays160_ren := {
  mixed := by kernel_rfl
  f119 := Tryd.func100.trans (congrArg some (by kernel_rfl))
  f120 := Tryd.func90.trans (congrArg some (by kernel_rfl))
  f137 := Tryd.func99.trans (congrArg some (by kernel_rfl))
  f151 := Tryd.func72.trans (congrArg some (by kernel_rfl))
  f152 := Tryd.func89.trans (congrArg some (by kernel_rfl))
  f160 := Tryd.func31.trans (congrArg some (by kernel_rfl))
  f197 := Tryd.func71.trans (congrArg some (by kernel_rfl))
  f217 := Tryd.func84.trans (congrArg some (by kernel_rfl))
  f224 := Tryd.func86.trans (congrArg some (by kernel_rfl))
  f225 := Tryd.func85.trans (congrArg some (by kernel_rfl))
  f227 := Tryd.func55.trans (congrArg some (by kernel_rfl))
  f228 := Tryd.func70.trans (congrArg some (by kernel_rfl))
  f231 := Tryd.func53.trans (congrArg some (by kernel_rfl))
  f232 := Tryd.func54.trans (congrArg some (by kernel_rfl))
  f233 := Tryd.func56.trans (congrArg some (by kernel_rfl))
  f234 := Tryd.func57.trans (congrArg some (by kernel_rfl))
  f235 := Tryd.func58.trans (congrArg some (by kernel_rfl))
  f236 := Tryd.func59.trans (congrArg some (by kernel_rfl))
  f260 := Tryd.func88.trans (congrArg some (by kernel_rfl))
  f266 := Tryd.func97.trans (congrArg some (by kernel_rfl))
  f271 := Tryd.func73.trans (congrArg some (by kernel_rfl))
  t0 := Tryd.underlying0
  a0 := Tryd.isAgg0
  z0 := Tryd.sizeOf0
  v0 := Tryd.zeroValue0
  t3 := Tryd.underlying3
  a3 := Tryd.isAgg3
  z3 := Tryd.sizeOf3
  v3 := Tryd.zeroValue3
  t4 := Tryd.underlying4
  a4 := Tryd.isAgg4
  z4 := Tryd.sizeOf4
  v4 := Tryd.zeroValue4
  t5 := Tryd.underlying5
  a5 := Tryd.isAgg5
  z5 := Tryd.sizeOf5
  v5 := Tryd.zeroValue5
  t9 := Tryd.underlying9
  a9 := Tryd.isAgg9
  z9 := Tryd.sizeOf9
  v9 := Tryd.zeroValue9
  t21 := Tryd.underlying21
  a21 := Tryd.isAgg21
  z21 := Tryd.sizeOf21
  v21 := Tryd.zeroValue21
  t46 := Tryd.underlying34
  a46 := Tryd.isAgg34
  z46 := Tryd.sizeOf34
  v46 := Tryd.zeroValue34
  t105 := Tryd.underlying112
  a105 := Tryd.isAgg112
  z105 := Tryd.sizeOf112
  v105 := Tryd.zeroValue112
  t116 := Tryd.underlying94
  a116 := Tryd.isAgg94
  z116 := Tryd.sizeOf94
  t117 := Tryd.underlying95
  a117 := Tryd.isAgg95
  z117 := Tryd.sizeOf95
  v117 := Tryd.zeroValue95
  t119 := Tryd.underlying137
  a119 := Tryd.isAgg137
  z119 := Tryd.sizeOf137
  t124 := Tryd.underlying98
  a124 := Tryd.isAgg98
  z124 := Tryd.sizeOf98
  v124 := Tryd.zeroValue98
  t138 := Tryd.underlying139
  a138 := Tryd.isAgg139
  z138 := Tryd.sizeOf139
  v138 := Tryd.zeroValue139
  t139 := Tryd.underlying140
  a139 := Tryd.isAgg140
  z139 := Tryd.sizeOf140
  v139 := Tryd.zeroValue140
  g3 := by kernel_rfl
  g4 := by kernel_rfl }
def Tryd.lays103_ren : Go.Shelf.Ren := ⟨fun | 103 => 26 | 210 => 49 | 206 => 67 | n => n, fun | 9 => 9 | 4 => 4 | 24 => 53 | 3 => 3 | n => n, fun | n => n⟩
theorem Tryd.lays103 : Go.Proofs.Lays.n103 Tryd.prog Tryd.lays103_ren := {
  mixed := by kernel_rfl
  f103 := Tryd.func26.trans (congrArg some (by kernel_rfl))
  f206 := Tryd.func67.trans (congrArg some (by kernel_rfl))
  f210 := Tryd.func49.trans (congrArg some (by kernel_rfl))
  t3 := Tryd.underlying3
  a3 := Tryd.isAgg3
  z3 := Tryd.sizeOf3
  v3 := Tryd.zeroValue3
  t4 := Tryd.underlying4
  a4 := Tryd.isAgg4
  z4 := Tryd.sizeOf4
  v4 := Tryd.zeroValue4
  t9 := Tryd.underlying9
  a9 := Tryd.isAgg9
  z9 := Tryd.sizeOf9
  v9 := Tryd.zeroValue9
  t24 := Tryd.underlying53
  a24 := Tryd.isAgg53
  z24 := Tryd.sizeOf53
  v24 := Tryd.zeroValue53 }
def Tryd.laysM171_ren : Go.Shelf.Ren := ⟨fun | 171 => 63 | 243 => 78 | 246 => 64 | 283 => 79 | 284 => 80 | 285 => 81 | 286 => 82 | 129 => 92 | 317 => 91 | 318 => 93 | 319 => 94 | 320 => 95 | 337 => 101 | 338 => 102 | n => n, fun | 3 => 3 | 9 => 9 | 2 => 2 | 4 => 4 | 171 => 120 | 0 => 0 | 53 => 121 | 37 => 71 | 5 => 5 | 173 => 124 | 212 => 131 | 51 => 132 | 20 => 20 | 213 => 133 | 46 => 34 | 232 => 144 | 233 => 145 | n => n, fun | 17 => 1 | 18 => 4 | 19 => 5 | n => n⟩
theorem Tryd.laysM171 : Go.Proofs.LaysM.n171 Tryd.prog Tryd.laysM171_ren := {
  mixed := by kernel_rfl
  f129 := Tryd.func92.trans (congrArg some (by kernel_rfl))
  f171 := Tryd.func63.trans (congrArg some (by kernel_rfl))
  f243 := Tryd.func78.trans (congrArg some (by kernel_rfl))
  f246 := Tryd.func64.trans (congrArg some (by kernel_rfl))
  f283 := Tryd.func79.trans (congrArg some (by kernel_rfl))
  f284 := Tryd.func80.trans (congrArg some (by kernel_rfl))
  f285 := Tryd.func81.trans (congrArg some (by kernel_rfl))
  f286 := Tryd.func82.trans (congrArg some (by kernel_rfl))
  f317 := Tryd.func91.trans (congrArg some (by kernel_rfl))
  f318 := Tryd.func93.trans (congrArg some (by kernel_rfl))
  f319 := Tryd.func94.trans (congrArg some (by kernel_rfl))
  f320 := Tryd.func95.trans (congrArg some (by kernel_rfl))
  f337 := Tryd.func101.trans (congrArg some (by kernel_rfl))
  f338 := Tryd.func102.trans (congrArg some (by kernel_rfl))
  t0 := Tryd.underlying0
  a0 := Tryd.isAgg0
  z0 := Tryd.sizeOf0
  v0 := Tryd.zeroValue0
  t2 := Tryd.underlying2
  a2 := Tryd.isAgg2
  z2 := Tryd.sizeOf2
  v2 := Tryd.zeroValue2
  t3 := Tryd.underlying3
  a3 := Tryd.isAgg3
  z3 := Tryd.sizeOf3
  v3 := Tryd.zeroValue3
  t4 := Tryd.underlying4
  a4 := Tryd.isAgg4
  z4 := Tryd.sizeOf4
  v4 := Tryd.zeroValue4
  t5 := Tryd.underlying5
  a5 := Tryd.isAgg5
  z5 := Tryd.sizeOf5
  v5 := Tryd.zeroValue5
  t9 := Tryd.underlying9
  a9 := Tryd.isAgg9
  z9 := Tryd.sizeOf9
  v9 := Tryd.zeroValue9
  t20 := Tryd.underlying20
  a20 := Tryd.isAgg20
  z20 := Tryd.sizeOf20
  v20 := Tryd.zeroValue20
  t37 := Tryd.underlying71
  a37 := Tryd.isAgg71
  z37 := Tryd.sizeOf71
  v37 := Tryd.zeroValue71
  t46 := Tryd.underlying34
  a46 := Tryd.isAgg34
  z46 := Tryd.sizeOf34
  v46 := Tryd.zeroValue34
  t51 := Tryd.underlying132
  a51 := Tryd.isAgg132
  z51 := Tryd.sizeOf132
  v51 := Tryd.zeroValue132
  t53 := Tryd.underlying121
  a53 := Tryd.isAgg121
  z53 := Tryd.sizeOf121
  v53 := Tryd.zeroValue121
  t171 := Tryd.underlying120
  a171 := Tryd.isAgg120
  z171 := Tryd.sizeOf120
  v171 := Tryd.zeroValue120
  t173 := Tryd.underlying124
  a173 := Tryd.isAgg124
  z173 := Tryd.sizeOf124
  v173 := Tryd.zeroValue124
  t212 := Tryd.underlying131
  a212 := Tryd.isAgg131
  z212 := Tryd.sizeOf131
  v212 := Tryd.zeroValue131
  t213 := Tryd.underlying133
  a213 := Tryd.isAgg133
  z213 := Tryd.sizeOf133
  t232 := Tryd.underlying144
  a232 := Tryd.isAgg144
  z232 := Tryd.sizeOf144
  v232 := Tryd.zeroValue144
  t233 := Tryd.underlying145
  a233 := Tryd.isAgg145
  z233 := Tryd.sizeOf145
  v233 := Tryd.zeroValue145
  g17 := by kernel_rfl
  g18 := by kernel_rfl
  g19 := by kernel_rfl
  i0 := by kernel_rfl
  i2 := by kernel_rfl
  i3 := by kernel_rfl
  i4 := by kernel_rfl
  i5 := by kernel_rfl
  i9 := by kernel_rfl
  i20 := by kernel_rfl
  i37 := by kernel_rfl
  i46 := by kernel_rfl
  i51 := by kernel_rfl
  i53 := by kernel_rfl
  i171 := by kernel_rfl
  i173 := by kernel_rfl
  i212 := by kernel_rfl
  i232 := by kernel_rfl
  i233 := by kernel_rfl
  m17 := by kernel_rfl
  m18 := by kernel_rfl
  m19 := by kernel_rfl }
def Tryd.laysM173_ren : Go.Shelf.Ren := ⟨fun | 173 => 45 | 246 => 64 | 283 => 79 | 284 => 80 | 285 => 81 | 286 => 82 | 129 => 92 | 317 => 91 | 318 => 93 | 319 => 94 | 320 => 95 | 337 => 101 | 338 => 102 | n => n, fun | 2 => 2 | 3 => 3 | 9 => 9 | 4 => 4 | 171 => 120 | 0 => 0 | 53 => 121 | 37 => 71 | 5 => 5 | 173 => 124 | 212 => 131 | 51 => 132 | 20 => 20 | 213 => 133 | 46 => 34 | 232 => 144 | 233 => 145 | n => n, fun | 17 => 1 | 18 => 4 | 19 => 5 | n => n⟩
theorem Tryd.laysM173 : Go.Proofs.LaysM.n173 Tryd.prog Tryd.laysM173_ren := {
  mixed := by kernel_rfl
  f129 := Tryd.func92.trans (congrArg some (by kernel_rfl))
  f173 := Tryd.func45.trans (congrArg some (by kernel_rfl))
  f246 := Tryd.func64.trans (congrArg some (by kernel_rfl))
  f283 := Tryd.func79.trans (congrArg some (by kernel_rfl))
  f284 := Tryd.func80.trans (congrArg some (by kernel_rfl))
  f285 := Tryd.func81.trans (congrArg some (by kernel_rfl))
  f286 := Tryd.func82.trans (congrArg some (by kernel_rfl))
  f317 := Tryd.func91.trans (congrArg some (by kernel_rfl))
  f318 := Tryd.func93.trans (congrArg some (by kernel_rfl))
  f319 := Tryd.func94.trans (congrArg some (by kernel_rfl))
  f320 := Tryd.func95.trans (congrArg some (by kernel_rfl))
  f337 := Tryd.func101.trans (congrArg some (by kernel_rfl))
  f338 := Tryd.func102.trans (congrArg some (by kernel_rfl))
  t0 := Tryd.underlying0
  a0 := Tryd.isAgg0
  z0 := Tryd.sizeOf0
  v0 := Tryd.zeroValue0
  t2 := Tryd.underlying2
  a2 := Tryd.isAgg2
  z2 := Tryd.sizeOf2
  v2 := Tryd.zeroValue2
  t3 := Tryd.underlying3
  a3 := Tryd.isAgg3
  z3 := Tryd.sizeOf3
  v3 := Tryd.zeroValue3
  t4 := Tryd.underlying4
  a4 := Tryd.isAgg4
  z4 := Tryd.sizeOf4
  v4 := Tryd.zeroValue4
  t5 := Tryd.underlying5
  a5 := Tryd.isAgg5
  z5 := Tryd.sizeOf5
  v5 := Tryd.zeroValue5
  t9 := Tryd.underlying9
  a9 := Tryd.isAgg9
  z9 := Tryd.sizeOf9
  v9 := Tryd.zeroValue9
  t20 := Tryd.underlying20
  a20 := Tryd.isAgg20
  z20 := Tryd.sizeOf20
  v20 := Tryd.zeroValue20
  t37 := Tryd.underlying71
  a37 := Tryd.isAgg71
  z37 := Tryd.sizeOf71
  v37 := Tryd.zeroValue71
  t46 := Tryd.underlying34
  a46 := Tryd.isAgg34
  z46 := Tryd.sizeOf34
  v46 := Tryd.zeroValue34
  t51 := Tryd.underlying132
  a51 := Tryd.isAgg132
  z51 := Tryd.sizeOf132
  v51 := Tryd.zeroValue132
  t53 := Tryd.underlying121
  a53 := Tryd.isAgg121
  z53 := Tryd.sizeOf121
  v53 := Tryd.zeroValue121
  t171 := Tryd.underlying120
  a171 := Tryd.isAgg120
  z171 := Tryd.sizeOf120
  v171 := Tryd.zeroValue120
  t173 := Tryd.underlying124
  a173 := Tryd.isAgg124
  z173 := Tryd.sizeOf124
  v173 := Tryd.zeroValue124
  t212 := Tryd.underlying131
  a212 := Tryd.isAgg131
  z212 := Tryd.sizeOf131
  v212 := Tryd.zeroValue131
  t213 := Tryd.underlying133
  a213 := Tryd.isAgg133
  z213 := Tryd.sizeOf133
  t232 := Tryd.underlying144
  a232 := Tryd.isAgg144
  z232 := Tryd.sizeOf144
  v232 := Tryd.zeroValue144
  t233 := Tryd.underlying145
  a233 := Tryd.isAgg145
  z233 := Tryd.sizeOf145
  v233 := Tryd.zeroValue145
  g17 := by kernel_rfl
  g18 := by kernel_rfl
  g19 := by kernel_rfl
  i0 := by kernel_rfl
  i2 := by kernel_rfl
  i3 := by kernel_rfl
  i4 := by kernel_rfl
  i5 := by kernel_rfl
  i9 := by kernel_rfl
  i20 := by kernel_rfl
  i37 := by kernel_rfl
  i46 := by kernel_rfl
  i51 := by kernel_rfl
  i53 := by kernel_rfl
  i171 := by kernel_rfl
  i173 := by kernel_rfl
  i212 := by kernel_rfl
  i232 := by kernel_rfl
  i233 := by kernel_rfl
  m17 := by kernel_rfl
  m18 := by kernel_rfl
  m19 := by kernel_rfl }
def Tryd.lays145_ren : Go.Shelf.Ren := ⟨fun | 145 => 27 | 220 => 50 | 219 => 68 | 217 => 84 | 225 => 85 | 224 => 86 | 267 => 87 | 266 => 97 | 314 => 98 | n => n, fun | 9 => 9 | 4 => 4 | 59 => 55 | 3 => 3 | 5 => 5 | 46 => 34 | 146 => 135 | 51 => 132 | n => n, fun | 1 => 0 | n => n⟩
theorem Tryd.lays145 : Go.Proofs.Lays.n145 Tryd.prog Tryd.lays145_ren := {
  mixed := by kernel_rfl
  f145 := Tryd.func27.trans (congrArg some (by kernel_rfl))
  f217 := Tryd.func84.trans (congrArg some (by kernel_rfl))
  f219 := Tryd.func68.trans (congrArg some (by kernel_rfl))
  f220 := Tryd.func50.trans (congrArg some (by kernel_rfl))
  f224 := Tryd.func86.trans (congrArg some (by kernel_rfl))
  f225 := Tryd.func85.trans (congrArg some (by kernel_rfl))
  f266 := Tryd.func97.trans (congrArg some (by kernel_rfl))
  f267 := Tryd.func87.trans (congrArg some (by kernel_rfl))
  f314 := Tryd.func98.trans (congrArg some (by kernel_rfl))
  t3 := Tryd.underlying3
  a3 := Tryd.isAgg3
  z3 := Tryd.sizeOf3
  v3 := Tryd.zeroValue3
  t4 := Tryd.underlying4
  a4 := Tryd.isAgg4
  z4 := Tryd.sizeOf4
  v4 := Tryd.zeroValue4
  t5 := Tryd.underlying5
  a5 := Tryd.isAgg5
  z5 := Tryd.sizeOf5
  v5 := Tryd.zeroValue5
  t9 := Tryd.underlying9
  a9 := Tryd.isAgg9
  z9 := Tryd.sizeOf9
  v9 := Tryd.zeroValue9
  t46 := Tryd.underlying34
  a46 := Tryd.isAgg34
  z46 := Tryd.sizeOf34
  v46 := Tryd.zeroValue34
  t51 := Tryd.underlying132
  a51 := Tryd.isAgg132
  z51 := Tryd.sizeOf132
  v51 := Tryd.zeroValue132
  t59 := Tryd.underlying55
  a59 := Tryd.isAgg55
  z59 := Tryd.sizeOf55
  v59 := Tryd.zeroValue55
  t146 := Tryd.underlying135
  a146 := Tryd.isAgg135
  z146 := Tryd.sizeOf135
  v146 := Tryd.zeroValue135
  g1 := by kernel_rfl }
def Tryd.lays110_ren : Go.Shelf.Ren := ⟨fun | 110 => 51 | 109 => 69 | n => n, fun | 31 => 24 | 9 => 9 | 4 => 4 | 3 => 3 | 0 => 0 | n => n, fun | n => n⟩
theorem Tryd.lays110 : Go.Proofs.Lays.n110 Tryd.prog Tryd.lays110_ren := {
  mixed := by kernel_rfl
  f109 := Tryd.func69.trans (congrArg some (by kernel_rfl))
  f110 := Tryd.func51.trans (congrArg some (by kernel_rfl))
  t0 := Tryd.underlying0
  a0 := Tryd.isAgg0
  z0 := Tryd.sizeOf0
  v0 := Tryd.zeroValue0
  t3 := Tryd.underlying3
  a3 := Tryd.isAgg3
  z3 := Tryd.sizeOf3
  v3 := Tryd.zeroValue3
  t4 := Tryd.underlying4
  a4 := Tryd.isAgg4
  z4 := Tryd.sizeOf4
  v4 := Tryd.zeroValue4
  t9 := Tryd.underlying9
  a9 := Tryd.isAgg9
  z9 := Tryd.sizeOf9
  v9 := Tryd.zeroValue9
  t31 := Tryd.underlying24
  a31 := Tryd.isAgg24
  z31 := Tryd.sizeOf24
  v31 := Tryd.zeroValue24 }
end Go.Proofs

/- Texts: the library's contracts, as the machine has them. -/
namespace Go.Eng
open Go.RowKit
/-- a contract as the model has it, of what stands in variables, too -/
theorem SpecOk.of_callsG {P : Program} {f : Nat} {fn : Func} {sp : Spec} (hf : P.funcs[f]? = some fn) (hb : fn.body.isSome = true) (hn : (fn.name == "runtime.NumGoroutine") = false)
    (hpl : ∀ args v, (sp args).eval = some v → flatL args = true ∧ flat v = true)
    (h : ∀ args v w, Glob w → (sp args).eval = some v → Calls P f (denL nu0 args).toArray w fun e w' => e = .returned (v.den nu0) ∧ Below w.heap.size w w') : SpecOk P f sp :=
  ⟨⟨fn, hf, hb, hn⟩, fun args v xs w hG hfl hv hfv hh => by
    obtain ⟨p1, p2⟩ := hpl args v hv
    rw [holdsL_den p1 hh]
    refine (h args v w hG hv).mono ?_
    rintro e w' ⟨rfl, hbl⟩
    exact ⟨_, rfl, (holds_flat p2).2 rfl, hbl⟩⟩
end Go.Eng
namespace Go.Proofs.YtdangjhbkffbnaaDoor.Txt
open Go.Eng Go.RowKit
set_option linter.unusedVariables false
set_option linter.unusedSimpArgs false
set_option maxRecDepth 100000
/-! ### numbers in digits -/
def decF : Nat → Nat → List UInt8
  | 0, u => [UInt8.ofNat (48 + u % 10)]
  | f + 1, u => if u < 10 then [UInt8.ofNat (48 + u)] else decF f (u / 10) ++ [UInt8.ofNat (48 + u % 10)]
theorem decF_is : ∀ (f u : Nat), u < 10 ^ (f + 1) → Lib.decDigits u = decF f u
  | 0, u, h => by
    rw [Lib.decDigits, dif_pos (by omega)]
    unfold decF
    rw [Nat.mod_eq_of_lt (by omega)]
  | f + 1, u, h => by
    rw [Lib.decDigits]
    unfold decF
    by_cases q : u < 10
    · rw [dif_pos q, if_pos q]
    · rw [dif_neg q, if_neg q, decF_is f (u / 10) (by rw [Nat.pow_succ] at h; omega)]
/-- a number's digits, its sign ahead -/
def itoaL (n : Int) : List UInt8 := if n < 0 then 45 :: decF 19 n.natAbs else decF 19 n.toNat
def itoaB (n : Int) : ByteArray := ⟨(itoaL n).toArray⟩
def in64 (n : Int) : Bool := decide (-9223372036854775808 ≤ n) && decide (n ≤ 9223372036854775807)
theorem in64_is {n : Int} (h : in64 n = true) : -9223372036854775808 ≤ n ∧ n ≤ 9223372036854775807 := by
  unfold in64 at h
  rw [Bool.and_eq_true, decide_eq_true_eq, decide_eq_true_eq] at h
  exact h
theorem itoaL_is {n : Int} (h : in64 n = true) : Lib.itoa n = itoaL n := by
  obtain ⟨h0, h1⟩ := in64_is h
  unfold Lib.itoa itoaL
  rw [decF_is 19 n.natAbs (by omega), decF_is 19 n.toNat (by omega)]
theorem glob_tab {w : World} (h : Glob w) : Lib.TabIs Tryd.prog w "internal/strconv.uint64pow10" .u64 Lib.pow10Tab := by
  obtain ⟨t, s, ht⟩ := h.tab
  unfold Lib.TabIs World.var?
  have : Tryd.prog.globalNamed "internal/strconv.uint64pow10" = some 1 := by kernel_rfl
  rw [this]
  show (match w.heap[1]? with | some (.cells cs _ _) => some cs | _ => none) = _
  rw [ht]
theorem below_grow' {w w' : World} (h : ∃ k os, w' = Sort.grow (w.drewN k) os) : Below w.heap.size w w' := by
  obtain ⟨k, os, rfl⟩ := h
  exact Lib.below_grow _ w (Nat.le_refl _) k os
theorem ite_T' {α : Type} {c : Bool} {x : T α} {r : α} (h : (T.ite none c x .fail).eval = some r) : c = true ∧ x.eval = some r := by
  cases c with
  | true => exact ⟨rfl, h⟩
  | false => cases h
def i64Of : V → Option Int
  | .n .i64 n => some n
  | .s (.int .i64 n) => some n
  | _ => none
theorem i64Of_is {v : V} {n : Int} (h : i64Of v = some n) : flat v = true ∧ v.den nu0 = .int .i64 n := by
  unfold i64Of at h
  split at h
  · cases h; exact ⟨rfl, rfl⟩
  · cases h; exact ⟨rfl, rfl⟩
  · cases h
def strOf : V → Option ByteArray
  | .s (.str s) => some s
  | _ => none
theorem strOf_is {v : V} {s : ByteArray} (h : strOf v = some s) : v = .s (.str s) := by
  unfold strOf at h
  split at h
  · cases h; rfl
  · cases h
/-- a contract of one number and, it may be, another -/
def itoaS : Eng.Spec
  | [a] => match i64Of a with
    | some n => .ite none (in64 n) (.ret (.s (.str (itoaB n)))) .fail
    | none => .fail
  | _ => .fail
theorem itoaS_is {args : List V} {v : V} (h : (itoaS args).eval = some v) : ∃ a n, args = [a] ∧ i64Of a = some n ∧ in64 n = true ∧ v = .s (.str (itoaB n)) := by
  unfold itoaS at h
  split at h
  · split at h
    · rename_i hn
      obtain ⟨h1, h2⟩ := ite_T' h
      exact ⟨_, _, rfl, hn, h1, (Option.some.inj h2).symm⟩
    · cases h
  · cases h
theorem itoaS_ok : SpecOk Tryd.prog 63 itoaS := SpecOk.of_callsG Tryd.func63 (by kernel_rfl) (by kernel_rfl)
  (fun args v h => by
    obtain ⟨a, n, rfl, ha, -, rfl⟩ := itoaS_is h
    exact ⟨by simp only [flatL, okL, Bool.and_eq_true]; exact ⟨(i64Of_is ha).1, trivial⟩, rfl⟩)
  (fun args v w hG h => by
    obtain ⟨a, n, rfl, ha, hn, rfl⟩ := itoaS_is h
    have c := Any.strconv_Itoa Tryd.laysM171 n (in64_is hn).1 (in64_is hn).2 w (glob_tab hG)
    rw [itoaL_is hn] at c
    simp only [denL, (i64Of_is ha).2]
    refine c.mono ?_
    rintro e w' ⟨rfl, hw⟩
    exact ⟨rfl, below_grow' hw⟩)
def fmtS : Eng.Spec
  | [a, b] => match i64Of a, i64Of b with
    | some n, some m => if m = 10 then .ite none (in64 n) (.ret (.s (.str (itoaB n)))) .fail else .fail
    | _, _ => .fail
  | _ => .fail
theorem fmtS_is {args : List V} {v : V} (h : (fmtS args).eval = some v) : ∃ a b n, args = [a, b] ∧ i64Of a = some n ∧ i64Of b = some 10 ∧ in64 n = true ∧ v = .s (.str (itoaB n)) := by
  unfold fmtS at h
  split at h
  · split at h
    · rename_i hn hm
      split at h
      · rename_i hz
        obtain ⟨h1, h2⟩ := ite_T' h
        exact ⟨_, _, _, rfl, hn, hz ▸ hm, h1, (Option.some.inj h2).symm⟩
      · cases h
    · cases h
  · cases h
theorem fmtS_ok : SpecOk Tryd.prog 45 fmtS := SpecOk.of_callsG Tryd.func45 (by kernel_rfl) (by kernel_rfl)
  (fun args v h => by
    obtain ⟨a, b, n, rfl, ha, hb, -, rfl⟩ := fmtS_is h
    exact ⟨by simp only [flatL, okL, Bool.and_eq_true]; exact ⟨(i64Of_is ha).1, (i64Of_is hb).1, trivial⟩, rfl⟩)
  (fun args v w hG h => by
    obtain ⟨a, b, n, rfl, ha, hb, hn, rfl⟩ := fmtS_is h
    have c := Any.strconv_FormatInt_10 Tryd.laysM173 n (in64_is hn).1 (in64_is hn).2 w (glob_tab hG)
    rw [itoaL_is hn] at c
    simp only [denL, (i64Of_is ha).2, (i64Of_is hb).2]
    refine c.mono ?_
    rintro e w' ⟨rfl, hw⟩
    exact ⟨rfl, below_grow' hw⟩)
/-! ### texts cut -/
def idxF : List UInt8 → List UInt8 → Option Nat
  | [], sub => if sub.isEmpty then some 0 else none
  | b :: l, sub => if sub.isPrefixOf (b :: l) then some 0 else (idxF l sub).map (· + 1)
theorem idxF_is : ∀ (l sub : List UInt8), Lib.index l sub = match idxF l sub with
    | some k => (k : Int)
    | none => -1
  | [], sub => by unfold Lib.index idxF; split <;> rfl
  | b :: l, sub => by
    unfold Lib.index idxF
    split
    · rfl
    · rw [idxF_is l sub]
      cases idxF l sub with
      | none => rfl
      | some k =>
        have : (((k : Nat) : Int) == -1) = false := by rw [beq_eq_false_iff_ne]; omega
        simp only [this]
        rfl
def cutF (s sep : List UInt8) : List UInt8 × List UInt8 × Bool := match idxF s sep with
  | some k => (s.take k, s.drop (k + sep.length), true)
  | none => (s, [], false)
theorem cutF_is (s sep : List UInt8) : Lib.cut s sep = cutF s sep := by
  unfold Lib.cut cutF
  rw [idxF_is]
  cases idxF s sep with
  | none => rfl
  | some k =>
    show (if (0 : Int) ≤ (k : Int) then _ else _) = _
    rw [if_pos (by omega)]
    rfl
def byA (l : List UInt8) : ByteArray := ⟨l.toArray⟩
def cutV (s sep : ByteArray) : V := .tup [.s (.str (byA (cutF s.data.toList sep.data.toList).1)), .s (.str (byA (cutF s.data.toList sep.data.toList).2.1)), .s (.bool (cutF s.data.toList sep.data.toList).2.2)]
def cutS : Eng.Spec
  | [.s (.str s), .s (.str sep)] => .ite none (decide (s.size < 4294967281)) (.ret (cutV s sep)) .fail
  | _ => .fail
theorem cutS_is {args : List V} {v : V} (h : (cutS args).eval = some v) : ∃ s sep, args = [.s (.str s), .s (.str sep)] ∧ s.size < 4294967281 ∧ v = cutV s sep := by
  unfold cutS at h
  split at h
  · obtain ⟨h1, h2⟩ := ite_T' h
    exact ⟨_, _, rfl, of_decide_eq_true h1, (Option.some.inj h2).symm⟩
  · cases h
theorem cutS_ok : SpecOk Tryd.prog 27 cutS := SpecOk.of_callsG Tryd.func27 (by kernel_rfl) (by kernel_rfl)
  (fun args v h => by obtain ⟨s, sep, rfl, -, rfl⟩ := cutS_is h; exact ⟨rfl, rfl⟩)
  (fun args v w hG h => by
    obtain ⟨s, sep, rfl, hs, rfl⟩ := cutS_is h
    obtain ⟨m, hm⟩ := hG.len
    have c := Any.strings_Cut Tryd.lays145 s sep m w hs hm
    rw [cutF_is] at c
    refine c.mono ?_
    rintro e w' ⟨rfl, n, rfl⟩
    exact ⟨rfl, rfl, rfl, rfl, Nat.le_refl _, fun _ _ => rfl⟩)
def preV (s p : ByteArray) : V := .tup [.s (.str (byA (Lib.trimPrefix s.data.toList p.data.toList))), .s (.bool (Lib.hasPrefix s.data.toList p.data.toList))]
def preS : Eng.Spec
  | [.s (.str s), .s (.str p)] => .ret (preV s p)
  | _ => .fail
theorem preS_is {args : List V} {v : V} (h : (preS args).eval = some v) : ∃ s p, args = [.s (.str s), .s (.str p)] ∧ v = preV s p := by
  unfold preS at h
  split at h
  · exact ⟨_, _, rfl, (Option.some.inj h).symm⟩
  · cases h
theorem preS_ok : SpecOk Tryd.prog 26 preS := SpecOk.of_callsG Tryd.func26 (by kernel_rfl) (by kernel_rfl)
  (fun args v h => by obtain ⟨s, sep, rfl, rfl⟩ := preS_is h; exact ⟨rfl, rfl⟩)
  (fun args v w hG h => by
    obtain ⟨s, p, rfl, rfl⟩ := preS_is h
    refine (Any.strings_CutPrefix Tryd.lays103 s p w).mono ?_
    rintro e w' ⟨rfl, rfl⟩
    exact ⟨rfl, Below.refl _ _⟩)
/-! ### texts trimmed of one letter -/
def dropW (c : UInt8) : List UInt8 → List UInt8
  | [] => []
  | b :: l => if b = c then dropW c l else b :: l
theorem dropW_is (c : UInt8) : ∀ l : List UInt8, l.dropWhile (· == c) = dropW c l
  | [] => rfl
  | b :: l => by
    unfold dropW
    rw [List.dropWhile_cons]
    by_cases h : b = c
    · rw [if_pos h, if_pos (by simpa using h)]; exact dropW_is c l
    · rw [if_neg h, if_neg (by simpa using h)]
def revF (l a : List UInt8) : List UInt8 := match l with
  | [] => a
  | b :: l => revF l (b :: a)
theorem revF_is : ∀ (l a : List UInt8), revF l a = l.reverse ++ a
  | [], a => rfl
  | b :: l, a => by unfold revF; rw [revF_is l]; simp
def trR (l : List UInt8) (c : UInt8) : List UInt8 := revF (dropW c (revF l [])) []
theorem trR_is (l : List UInt8) (c : UInt8) : Lib.trimRightB l c = trR l c := by
  unfold Lib.trimRightB trR
  rw [revF_is, revF_is, dropW_is]; simp
def oneOf (s : ByteArray) : Option UInt8 := match s.data.toList with
  | [c] => if c.toNat < 128 then some c else none
  | _ => none
theorem oneOf_is {s : ByteArray} {c : UInt8} (h : oneOf s = some c) : s = ⟨#[c]⟩ ∧ c.toNat < 128 := by
  unfold oneOf at h
  split at h
  · rename_i x hx
    split at h
    · rename_i hc
      cases h
      refine ⟨?_, hc⟩
      obtain ⟨d⟩ := s
      have hx : d.toList = [c] := hx
      congr 1
      apply Array.ext'
      rw [hx]
    · cases h
  · cases h
def trimRS : Eng.Spec
  | [.s (.str s), .s (.str p)] => match oneOf p with
    | some c => .ite none (decide (s.size ≤ 9223372036854775807)) (.ret (.s (.str (byA (trR s.data.toList c))))) .fail
    | none => .fail
  | _ => .fail
theorem trimRS_is {args : List V} {v : V} (h : (trimRS args).eval = some v) : ∃ s c, args = [.s (.str s), .s (.str ⟨#[c]⟩)] ∧ c.toNat < 128 ∧ s.size ≤ 9223372036854775807 ∧ v = .s (.str (byA (trR s.data.toList c))) := by
  unfold trimRS at h
  split at h
  · split at h
    · rename_i hc
      obtain ⟨rfl, hc'⟩ := oneOf_is hc
      obtain ⟨h1, h2⟩ := ite_T' h
      exact ⟨_, _, rfl, hc', of_decide_eq_true h1, (Option.some.inj h2).symm⟩
    · cases h
  · cases h
theorem trimRS_ok : SpecOk Tryd.prog 46 trimRS := SpecOk.of_callsG Tryd.func46 (by kernel_rfl) (by kernel_rfl)
  (fun args v h => by obtain ⟨s, c, rfl, -, -, rfl⟩ := trimRS_is h; exact ⟨rfl, rfl⟩)
  (fun args v w hG h => by
    obtain ⟨s, c, rfl, hc, hs, rfl⟩ := trimRS_is h
    have k := Any.strings_TrimRight_one Tryd.lays162 s c hc w hs
    rw [trR_is] at k
    refine k.mono ?_
    rintro e w' ⟨rfl, rfl⟩
    exact ⟨rfl, Below.refl _ _⟩)
def trB (l : List UInt8) (c : UInt8) : List UInt8 := dropW c (trR l c)
theorem trB_is (l : List UInt8) (c : UInt8) : Lib.trimB l c = trB l c := by
  unfold Lib.trimB trB Lib.trimLeftB
  rw [trR_is, dropW_is]
def trimS : Eng.Spec
  | [.s (.str s), .s (.str p)] => match oneOf p with
    | some c => .ite none (decide (s.size ≤ 9223372036854775807)) (.ret (.s (.str (byA (trB s.data.toList c))))) .fail
    | none => .fail
  | _ => .fail
theorem trimS_is {args : List V} {v : V} (h : (trimS args).eval = some v) : ∃ s c, args = [.s (.str s), .s (.str ⟨#[c]⟩)] ∧ c.toNat < 128 ∧ s.size ≤ 9223372036854775807 ∧ v = .s (.str (byA (trB s.data.toList c))) := by
  unfold trimS at h
  split at h
  · split at h
    · rename_i hc
      obtain ⟨rfl, hc'⟩ := oneOf_is hc
      obtain ⟨h1, h2⟩ := ite_T' h
      exact ⟨_, _, rfl, hc', of_decide_eq_true h1, (Option.some.inj h2).symm⟩
    · cases h
  · cases h
theorem trimS_ok : SpecOk Tryd.prog 31 trimS := SpecOk.of_callsG Tryd.func31 (by kernel_rfl) (by kernel_rfl)
  (fun args v h => by obtain ⟨s, c, rfl, -, -, rfl⟩ := trimS_is h; exact ⟨rfl, rfl⟩)
  (fun args v w hG h => by
    obtain ⟨s, c, rfl, hc, hs, rfl⟩ := trimS_is h
    have k := Any.strings_Trim_one Tryd.lays160 s c hc w hs
    rw [trB_is] at k
    refine k.mono ?_
    rintro e w' ⟨rfl, hw⟩
    refine ⟨rfl, ?_⟩
    rcases hw with rfl | rfl
    · exact Below.refl _ _
    · exact (Below.refl _ _).drew)
end Go.Proofs.YtdangjhbkffbnaaDoor.Txt

/- Texts: the library's builder of texts, as the machine has it. -/
namespace Go.Proofs.YtdangjhbkffbnaaDoor.Txt
open Go.Eng Go.RowKit Go.Shelf
set_option linter.unusedVariables false
set_option linter.unusedSimpArgs false
set_option maxRecDepth 100000
theorem lays240 : Lays.n240 Tryd.prog Tryd.lays156_ren := { Tryd.lays156 with }
abbrev TB : TypeId := 73
def ccS : Eng.Obj
  | [.ptr 0 0], [(0, .cells t [.nilPtr, .nilSl])] => if t = TB then .ret (.tup [], [(0, .cells t [.ptr 0 0, .nilSl])]) else .fail
  | [.ptr 0 0], [(0, .cells t [.ptr 0 0, .nilSl])] => if t = TB then .ret (.tup [], [(0, .cells t [.ptr 0 0, .nilSl])]) else .fail
  | [.ptr 0 0], [(0, .cells t [.ptr 0 0, .sub 1 1 0 n]), (1, .lst true t' [.int .u8] l)] => if t = TB then .ret (.tup [], [(0, .cells t [.ptr 0 0, .sub 1 1 0 n]), (1, .lst true t' [.int .u8] l)]) else .fail
  | _, _ => .fail
theorem owned_of_outO {h : Eng.Heap} {v : V} {h' : Eng.Heap} (ho : outO h v h' = true) {i : Nat} {b : Blk} (e : Eng.look h' i = some b) : b.owned = true := by
  unfold outO at ho
  rw [Bool.and_eq_true, List.all_eq_true] at ho
  have := ho.2 _ (mem_of_look e)
  simp only [Bool.and_eq_true] at this
  exact this.1.1
theorem heap_setCell {w : World} {b : Nat} {c : Array Value} {t : TypeId} (hb : w.heap[b]? = some (.cells c t (0, 0))) (j : Nat) (v : Value) : (w.setCell ⟨b, j, none⟩ v).heap[b]? = some (.cells (c.setIfInBounds j v) t (0, 0)) := by
  simp [World.setCell, Array.getElem?_modify, hb]
theorem heap_setCell_ne {w : World} {b k : Nat} (hk : k ≠ b) (j : Nat) (v : Value) : (w.setCell ⟨b, j, none⟩ v).heap[k]? = w.heap[k]? := by
  simp [World.setCell, Array.getElem?_modify, Ne.symm hk]
theorem ccS_ok : ObjOk Tryd.prog 62 ccS := by
  refine ⟨⟨_, Tryd.func62, by kernel_rfl, by kernel_rfl⟩, fun args h v h' ν w hG hgs hok hb hr hv ho => ?_⟩
  have used : ∀ (t : TypeId) (r : List V) (hp : Eng.Heap), t = TB → (∀ i b, Eng.look hp i = some b → b.owned = true) → Eng.look hp 0 = some (.cells t (.ptr 0 0 :: r)) → Rel ν (Eng.look hp) w → Calls Tryd.prog 62 (denL ν [.ptr 0 0]).toArray w fun e w' => ∃ ν' : Eng.Env, e = .returned ((V.tup []).den ν') ∧ (∀ i, inH hp i = true → (ν' i).core = (ν i).core) ∧ Rel ν' (Eng.look hp) w' ∧
      (∀ i b, Eng.look hp i = some b → ∀ k, (ν' i).fp k → ownFp ν hp k ∨ w.heap.size ≤ k) ∧ Prog w w' (ownFp ν hp) := by
    intro t r hp ht ho hl hr
    obtain ⟨d0, d1, d2⟩ := hr.den 0 _ hl
    have hc : w.cell? ⟨(ν 0).core.blk, 0, none⟩ = some (.pointer (some ⟨(ν 0).core.blk, 0, none⟩)) := by
      rw [Lib.cell_of_heap d2]
      simp [denL, V.den, d0]
    have ea : (denL ν [.ptr 0 0]).toArray = #[.pointer (some ⟨(ν 0).core.blk, 0, none⟩)] := by simp [denL, V.den, d0]
    rw [ea]
    refine (Any.Builder_copyCheck_used lays240 Tryd.Builder_Extra_156.toX72 _ w hc).mono ?_
    rintro e w' ⟨rfl, rfl⟩
    exact ⟨ν, rfl, fun _ _ => rfl, hr, fun i b e k hk => .inl ⟨i, b, e, ho i b e, hk⟩, Prog.refl _ _⟩
  unfold ccS at hv
  split at hv
  · split at hv
    · rename_i t ht
      obtain ⟨rfl, rfl⟩ : V.tup [] = v ∧ [(0, Blk.cells t [.ptr 0 0, .nilSl])] = h' := by
        have := Option.some.inj hv
        exact ⟨congrArg Prod.fst this, congrArg Prod.snd this⟩
      obtain ⟨d0, d1, d2⟩ := hr.den 0 _ rfl
      have d2 : w.heap[(ν 0).core.blk]? = some (.cells #[.pointer none, .slice none 0 0] t (0, 0)) := d2
      have ea : (denL ν [.ptr 0 0]).toArray = #[.pointer (some ⟨(ν 0).core.blk, 0, none⟩)] := by simp [denL, V.den, d0]
      rw [ea]
      have hsh : w.shape? (ν 0).core.blk = some (t, 2) := by simp [World.shape?, d2]
      refine (Any.Builder_copyCheck_fresh lays240 Tryd.Builder_Extra_156.toX72 _ w (by rw [Lib.cell_of_heap d2]; rfl) (by rw [hsh, ht]; rfl) (Lib.frozen_of_heap d2 0)).mono ?_
      rintro e w' ⟨rfl, rfl⟩
      have one : ∀ i b, Eng.look [(0, Blk.cells t [.ptr 0 0, .nilSl])] i = some b → i = 0 ∧ b = .cells t [.ptr 0 0, .nilSl] := by
        intro i b e
        simp only [Eng.look] at e
        split at e
        · rename_i q
          exact ⟨(by simpa using q : 0 = i).symm, (Option.some.inj e).symm⟩
        · cases e
      have own : ∀ k, (ν 0).fp k → ownFp ν [(0, Blk.cells t [.nilPtr, .nilSl])] k := fun k hk => ⟨0, _, rfl, rfl, hk⟩
      refine ⟨ν, rfl, fun _ _ => rfl, ⟨fun i b e => ?_, fun i j bi bj ne ei ej => absurd ((one i bi ei).1.trans (one j bj ej).1.symm) ne⟩, fun i b e k hk => ?_, rfl, rfl, rfl, ?_, fun k hk hn => ?_⟩
      · obtain ⟨rfl, rfl⟩ := one i b e
        refine ⟨d0, d1, ?_⟩
        rw [heap_setCell d2]
        simp [denL, V.den, d0]
      · obtain ⟨rfl, rfl⟩ := one i b e
        exact .inl (own k hk)
      · simp [World.setCell]
      · exact heap_setCell_ne (fun q => hn (own k ((d1 k).2 q))) _ _
    · cases hv
  · split at hv
    · rename_i t ht
      obtain ⟨rfl, rfl⟩ : V.tup [] = v ∧ [(0, Blk.cells t [.ptr 0 0, .nilSl])] = h' := by
        have := Option.some.inj hv
        exact ⟨congrArg Prod.fst this, congrArg Prod.snd this⟩
      exact used t [.nilSl] _ ht (fun i b e => owned_of_outO ho e) rfl hr
    · cases hv
  · split at hv
    · rename_i t n t' l ht
      obtain ⟨rfl, rfl⟩ : V.tup [] = v ∧ [(0, Blk.cells t [.ptr 0 0, .sub 1 1 0 n]), (1, .lst true t' [.int .u8] l)] = h' := by
        have := Option.some.inj hv
        exact ⟨congrArg Prod.fst this, congrArg Prod.snd this⟩
      exact used t [.sub 1 1 0 n] _ ht (fun i b e => owned_of_outO ho e) rfl hr
    · cases hv
  · cases hv
/-! ### the text at the end -/
theorem lies_off {P : Program} {e : TypeId} (hc : P.cellsOf e = 1) (count off n : Nat) (hn : off + n ≤ count) (h0 : 0 < n) : liesAt P P.depth e count off e n = true := by
  have hd : P.depth = (2 * (P.types.size + Made.depth) + 1) + 1 := rfl
  rw [hd]
  simp only [liesAt, Bool.or_eq_true]
  left
  rw [hd]
  simp [rowAt, hc, sameLayout, hn, Nat.mod_one]
theorem unsafe_text {P : Program} (w : World) (pt it ty e : TypeId) (hp : P.underlying pt = some (.pointer e)) (hc : P.cellsOf e = 1) (g off cells : Nat) (hsh : w.shape? g = some (e, cells)) (l : List UInt8) (h0 : l ≠ []) (hn : off + l.length ≤ cells) (h63 : l.length ≤ 9223372036854775807)
    (hcell : ∀ (j : Nat) x, l[j]? = some x → w.cell? ((⟨g, off, none⟩ : Addr).add j) = some (.int .u8 x.toNat)) :
    (Builtin.unsafeString_ #[pt, it] ty #[.pointer (some ⟨g, off, none⟩), .int .i64 l.length]).run P w = .ok (.string ⟨l.toArray⟩) (w.freeze ⟨g, off, none⟩ l.length) := by
  have hl : l.length ≠ 0 := by simpa using h0
  have hlb := Lib.run_loadBytes (P := P) w l ⟨g, off, none⟩ .empty hcell
  have hlies := lies_off (P := P) hc (cells / P.cellsOf e) off l.length (by rw [hc]; simpa using hn) (by omega)
  have h63' : ¬ (9223372036854775807 : Int) < (l.length : Int) := by omega
  have hmax : IntKind.i64.max = 9223372036854775807 := rfl
  have hneg : ¬ (l.length : Int) < 0 := by omega
  conv in (Builtin.unsafeString_ _ _ _) => whnf
  generalize (IntKind.max .i64).decLt (l.length : Int) = D
  cases D with
  | isTrue h => exact absurd h h63'
  | isFalse h =>
    dsimp only
    simp [hl, variablesAt, hsh, elemOf, run_underlying hp, hlies, hlb]
set_option maxHeartbeats 2000000 in
theorem text_at {P : Program} {ρ : Go.Shelf.Ren} (L : Lays.n169 P ρ) (X : Builder.Extra P ρ) (b g off cap : Nat) (p : Value) (cur : Array Value) (l : List UInt8) (w : World) (h0 : l ≠ []) (hb : w.heap[b]? = some (.cells #[p, .slice (some ⟨g, off, none⟩) l.length cap] (ρ.t 72) (0, 0)))
    (hg : w.heap[g]? = some (.cells cur (ρ.t 5) (0, 0))) (hcap : l.length ≤ cap) (hm : cap ≤ maxLen) (hcur : off + cap ≤ cur.size) (hx : ∀ (j : Nat) x, l[j]? = some x → cur[off + j]? = some (.int .u8 x.toNat)) :
    Calls P (ρ.f 169) #[.pointer (some ⟨b, 0, none⟩)] w fun e w' => e = .returned (.string ⟨l.toArray⟩) ∧ w' = w.drew.freeze ⟨g, off, none⟩ l.length := by
  have hl0 : l.length ≠ 0 := by simpa using h0
  have c1 : w.drew.cell? ⟨b, 1, none⟩ = some (.slice (some ⟨g, off, none⟩) l.length cap) := by
    rw [Lib.cell_of_heap (w := w.drew) hb]; rfl
  have hSD : (Builtin.unsafeSliceData_ #[(ρ.t 37)] (ρ.t 127) #[.slice (some ⟨g, off, none⟩) l.length cap]).run P w.drew = .ok (.pointer (some ⟨g, off, none⟩)) w.drew :=
    Lib.run_unsafeSliceData_row _ _ _ _ _ _ (by omega)
  have hUS : (Builtin.unsafeString_ #[(ρ.t 127), (ρ.t 3)] (ρ.t 9) #[.pointer (some ⟨g, off, none⟩), .int .i64 l.length]).run P w.drew = .ok (.string ⟨l.toArray⟩) (w.drew.freeze ⟨g, off, none⟩ l.length) := by
    refine unsafe_text w.drew (ρ.t 127) (ρ.t 3) (ρ.t 9) (ρ.t 5) L.t127 X.cellsByte g off cur.size (by have hg' : w.drew.heap[g]? = some (.cells cur (ρ.t 5) (0, 0)) := hg; simp [World.shape?, hg']) l h0 (by omega) (by unfold maxLen at hm; omega) ?_
    intro j x hj
    rw [addr_add, Lib.cell_of_heap (w := w.drew) hg]
    exact hx j x hj
  have mixed := L.mixed
  have t72 := L.t72; have a72 := L.a72; have z72 := L.z72; have v72 := L.v72; have u72 := run_underlying L.t72
  have t70 := L.t70; have a70 := L.a70; have z70 := L.z70; have v70 := L.v70; have u70 := run_underlying L.t70
  have t37 := L.t37; have a37 := L.a37; have z37 := L.z37; have v37 := L.v37; have u37 := run_underlying L.t37
  have t127 := L.t127; have a127 := L.a127; have z127 := L.z127; have v127 := L.v127; have u127 := run_underlying L.t127
  have t3 := L.t3; have a3 := L.a3; have z3 := L.z3; have v3 := L.v3; have u3 := run_underlying L.t3
  have t9 := L.t9; have a9 := L.a9; have z9 := L.z9; have v9 := L.v9; have u9 := run_underlying L.t9
  have t5 := X.t5; have a5 := X.a5; have z5 := X.z5; have v5 := X.v5; have u5 := run_underlying X.t5
  go_enter L.f169, Body.n169_ntmps ρ
  go_wp2
  go_region_o
  all_goals (go_wp2; go_ret; exact ⟨rfl, rfl⟩)
def byB (l : List Int) : Bool := l.all fun x => decide (0 ≤ x) && decide (x < 256)
def txtS : Eng.Obj
  | [.ptr 0 0], [(0, .cells t [p, .sub 1 1 0 n]), (1, .lst true t' [.int .u8] l)] => if t = TB ∧ t' = 5 then .ite none (byB l && (decide (n = List.length l) && decide (0 < n))) (.ret (.s (.str (rowStr l)), [])) .fail else .fail
  | _, _ => .fail
theorem byte_back {l : List Int} (h : byB l = true) (j : Nat) (x : UInt8) (hx : (l.map fun n => UInt8.ofNat n.toNat)[j]? = some x) : l[j]? = some ((x.toNat : Nat) : Int) := by
  rw [List.getElem?_map] at hx
  obtain ⟨n, hn, rfl⟩ := Option.map_eq_some_iff.1 hx
  have := List.all_eq_true.1 h n (List.mem_of_getElem? hn)
  rw [Bool.and_eq_true, decide_eq_true_eq, decide_eq_true_eq] at this
  rw [hn]
  congr 1
  rw [UInt8.toNat_ofNat']
  omega
theorem byte_cell {l : List Int} {j : Nat} {n : Int} (h : l[j]? = some n) : (rowsV [.int .u8] (u8 l))[j]? = some (Value.int .u8 n) := by
  rw [rowsV_u8, List.getElem?_map, h]; rfl
theorem txtS_ok : ObjOk Tryd.prog 41 txtS := by
  refine ⟨⟨_, Tryd.func41, by kernel_rfl, by kernel_rfl⟩, fun args h v h' ν w hG hgs hok hb hr hv ho => ?_⟩
  unfold txtS at hv
  split at hv
  · rename_i t p n t' l
    split at hv
    · rename_i ht
      obtain ⟨rfl, rfl⟩ := ht
      obtain ⟨hc, hv⟩ := ite_T' hv
      rw [Bool.and_eq_true, Bool.and_eq_true, decide_eq_true_eq, decide_eq_true_eq] at hc
      obtain ⟨c1, c2, c3⟩ := hc
      obtain ⟨rfl, rfl⟩ : V.s (.str (rowStr l)) = v ∧ ([] : Eng.Heap) = h' := by
        have := Option.some.inj hv
        exact ⟨congrArg Prod.fst this, congrArg Prod.snd this⟩
      obtain ⟨d0, d1, d2⟩ := hr.den 0 _ rfl
      obtain ⟨e0, e1⟩ := hr.den 1 (.lst true 5 [.int .u8] l) rfl
      have rl : (rowsV [.int .u8] l).length = l.length := by rw [rowsV_length]; simp
      rcases e0.2 with ⟨_, q⟩ | ⟨g, off, cap, cur, q1, q2, q3, q4, q5, q6, q7⟩
      · omega
      · simp only [Value.slice.injEq, true_and] at q1
        obtain ⟨qa, qc⟩ := q1
        have q6 : off + cap ≤ cur.size := by simpa using q6
        have q7 : (cur.toList.drop off).take l.length = rowsV [.int .u8] l := by simpa using q7
        have d2 : w.heap[(ν 0).core.blk]? = some (.cells #[p.den ν, .slice (some ⟨g, off, none⟩) n cap] TB (0, 0)) := by
          rw [d2]
          congr 2
          simp [denL, V.den, qa, qc, addr_add]
        have ea : (denL ν [.ptr 0 0]).toArray = #[.pointer (some ⟨(ν 0).core.blk, 0, none⟩)] := by simp [denL, V.den, d0]
        rw [ea]
        have hb8 : (l.map fun n => UInt8.ofNat n.toNat).length = n := by rw [List.length_map, c2]
        rw [← hb8] at d2
        refine (text_at Tryd.lays169 Tryd.Builder_Extra_169 _ g off cap _ cur (l.map fun n => UInt8.ofNat n.toNat) w (fun q => by rw [q] at hb8; simp at hb8; omega) d2 q3 (by rw [hb8]; omega) q5 q6 (fun j x hx => ?_)).mono ?_
        · have hj : j < l.length := by
            have := (List.getElem?_eq_some_iff.1 hx).1
            simpa using this
          have hl := byte_back c1 j x hx
          have : (rowsV [.int .u8] l)[j]? = some (Value.int .u8 ((x.toNat : Nat) : Int)) := by
            exact byte_cell hl
          rw [← q7, List.getElem?_take_of_lt hj, List.getElem?_drop, Array.getElem?_toList] at this
          exact this
        · rintro e w' ⟨rfl, rfl⟩
          have gfp : ownFp ν [(0, .cells TB [p, .sub 1 1 0 n]), (1, .lst true 5 [.int .u8] l)] g := ⟨1, _, rfl, rfl, (e1 g).2 ⟨_, qa, rfl⟩⟩
          refine ⟨ν, rfl, fun _ _ => rfl, ⟨fun i b e => (by cases e), fun i j bi bj ne ei ej => (by cases ei)⟩, fun i b e => (by cases e), ?_⟩
          refine ⟨?_, ?_, ?_, ?_, fun k hk hn => ?_⟩
          · unfold World.freeze; split <;> rfl
          · unfold World.freeze; split <;> rfl
          · unfold World.freeze; split <;> rfl
          · unfold World.freeze
            split
            · exact Nat.le_refl _
            · show w.heap.size ≤ (Array.modify w.heap _ _).size
              rw [Array.size_modify]; exact Nat.le_refl _
          · unfold World.freeze
            split
            · rfl
            · simp only [Array.getElem?_modify]
              rw [if_neg (fun q => hn (by rw [← q]; exact gfp))]
              rfl
    · cases hv
  · cases hv
end Go.Proofs.YtdangjhbkffbnaaDoor.Txt

/- Layer 27: the library's Join; what is told of a few: closed runs. -/
namespace Go.Proofs.YtdangjhbkffbnaaDoor.Rep
open Go.Eng Go.RowKit Go.Proofs.YtdangjhbkffbnaaDoor.Txt
set_option linter.unusedVariables false
set_option linter.unusedSimpArgs false
set_option maxRecDepth 100000
/-- texts, one behind the other, with another between -/
def joinF : List (List UInt8) → List UInt8 → List UInt8
  | [], _ => []
  | [x], _ => x
  | x :: y :: r, s => x ++ (s ++ joinF (y :: r) s)
theorem joinF_is : ∀ (xs : List (List UInt8)) (s : List UInt8), Lib.join xs s = joinF xs s
  | [], s => rfl
  | [x], s => Lib.join_one x s
  | x :: y :: r, s => by
    show _ = x ++ (s ++ joinF (y :: r) s)
    rw [← joinF_is (y :: r) s, Lib.join_cons, Lib.join_cons]
    simp [Lib.joinTail]
def joV (l : List ByteArray) (s : ByteArray) : ByteArray := byA (joinF (l.map fun x => x.data.toList) s.data.toList)
def joinS : Eng.Spec
  | [.orow t [.str] l, .s (.str s)] => if t = 9 then .ite none (decide (List.length l ≤ 100000) && decide ((joinF (List.map (fun x : ByteArray => x.data.toList) l) s.data.toList).length ≤ 140737488355328)) (.ret (.s (.str (joV l s)))) .fail else .fail
  | _ => .fail
theorem rowsV_str : ∀ (l : List (Row [.str])) (j : Nat) (x : ByteArray), l[j]? = some x → (rowsV [.str] l)[j]? = some (.string x)
  | [], j, x, h => by simp at h
  | a :: r, 0, x, h => by
    rw [rowsV_cons]
    have h : some a = some x := h
    obtain rfl := Option.some.inj h
    rfl
  | a :: r, j + 1, x, h => by
    rw [rowsV_cons]
    exact rowsV_str r j x (by simpa using h)
theorem joinS_ok : SpecOk Tryd.prog 65 joinS := by
  refine ⟨⟨_, Tryd.func65, by kernel_rfl, by kernel_rfl⟩, fun args v xs w hG hrow hv hrv hh => ?_⟩
  unfold joinS at hv
  split at hv
  · rename_i t l s
    split at hv
    · rename_i ht
      subst ht
      obtain ⟨hb, hv⟩ := ite_T' hv
      rw [Bool.and_eq_true, decide_eq_true_eq, decide_eq_true_eq] at hb
      obtain ⟨h1, h2⟩ := hb
      obtain rfl := Option.some.inj hv
      obtain ⟨x, rfl, hx⟩ : ∃ x, xs = [x, .string s] ∧ holdsP 0 w (.orow 9 [.str] l) x := by
        match xs, hh with
        | [], hh => exact hh.elim
        | [x], hh => exact hh.2.elim
        | [x, y], hh => exact ⟨x, by rw [show y = .string s from (holdsP_flat (v := .s (.str s)) rfl).1 hh.2.1], hh.1⟩
        | _ :: _ :: _ :: _, hh => exact hh.2.2.elim
      obtain ⟨at_, cap, rfl, ⟨hc, hc0⟩, hr⟩ := hx
      have key : Calls Tryd.prog 65 #[.slice at_ l.length cap, .string s] w fun e w' => e = .returned (.string (joV l s)) ∧ Below w.heap.size w w' := by
        cases l with
        | nil =>
          refine (Any.strings_Join_none Tryd.lays156 Tryd.Builder_Extra_156 at_ cap s w).mono ?_
          rintro e w' ⟨rfl, rfl⟩
          exact ⟨rfl, Below.refl _ _⟩
        | cons a r =>
          obtain ⟨b0, hb0, hcell⟩ := hr 0 _ (rowsV_str (a :: r) 0 a rfl)
          obtain ⟨bk, o, sp⟩ := b0
          have hlt := cell_lt hcell
          rw [add_block] at hlt
          have hsp : sp = none := by
            cases sp with
            | none => rfl
            | some q =>
              exfalso
              have e0 : (Addr.mk bk o (some q)).add 0 = ⟨bk, o, some q⟩ := by unfold Addr.add; simp
              rw [e0] at hcell
              unfold World.cell? at hcell
              split at hcell
              · simp at hcell
              · cases hcell
          subst hsp
          subst hb0
          have cj := Any.strings_Join Tryd.lays156 Tryd.Builder_Extra_156 bk o cap (a :: r) s w (fun j x hj => by
            obtain ⟨b1, hb1, hc1⟩ := hr j _ (rowsV_str (a :: r) j x hj)
            cases hb1
            rw [addr_add] at hc1; exact hc1) hlt (Nat.le_trans h1 (by decide)) hc (by rw [joinF_is]; exact h2)
          refine cj.mono ?_
          rintro e w' ⟨rfl, hw⟩
          refine ⟨?_, hw⟩
          rw [joinF_is]; rfl
      refine key.mono ?_
      rintro e w' ⟨rfl, hw⟩
      exact ⟨_, rfl, (holds_flat (v := .s (.str (joV l s))) rfl).2 rfl, hw⟩
    · cases hv
  · cases hv
theorem mixed : Tryd.prog.follows .mixedOrders = true := by kernel_rfl
theorem eA : EOk Tryd.prog [anyK] := ⟨⟨by kernel_rfl, by kernel_rfl⟩, trivial⟩
noncomputable def R0 : Cfg := ⟨Tryd.prog, lookG [(63, .val itoaS), (45, .val fmtS), (65, .val joinS)], [anyK], 0⟩
theorem R0_ok : R0.Ok := Cfg.ok ⟨itoaS_ok, fmtS_ok, joinS_ok, trivial⟩ eA
noncomputable def jnX : Eng.Spec := execS R0 (rounds R0 9 1) 47
theorem jnX_ok : SpecOk Tryd.prog 47 jnX := execS_rounds R0_ok mixed 9 1 Tryd.func47 (by kernel_rfl) (by kernel_rfl)
noncomputable def R1 : Cfg := ⟨Tryd.prog, lookG [(47, .val jnX)], [anyK], 0⟩
theorem R1_ok : R1.Ok := Cfg.ok ⟨jnX_ok, trivial⟩ eA
noncomputable def lnE : Eng.Obj := execO R1 (rounds R1 4 1) 20
theorem lnE_ok : ObjOk Tryd.prog 20 lnE := execO_rounds R1_ok mixed 4 1 Tryd.func20 (by kernel_rfl) (by kernel_rfl)
noncomputable def smE : Eng.Obj := execO R1 (rounds R1 4 1) 22
theorem smE_ok : ObjOk Tryd.prog 22 smE := execO_rounds R1_ok mixed 4 1 Tryd.func22 (by kernel_rfl) (by kernel_rfl)
noncomputable def enE : Eng.Obj := execO R1 (rounds R1 4 1) 24
theorem enE_ok : ObjOk Tryd.prog 24 enE := execO_rounds R1_ok mixed 4 1 Tryd.func24 (by kernel_rfl) (by kernel_rfl)
noncomputable def R2 : Cfg := ⟨Tryd.prog, lookG [(20, .obj (Eng.Obj.plain lnE)), (22, .obj (Eng.Obj.plain smE)), (24, .obj (Eng.Obj.plain enE))], [anyK], 0⟩
theorem R2_ok : R2.Ok := Cfg.ok ⟨lnE_ok.plain, smE_ok.plain, enE_ok.plain, trivial⟩ eA
noncomputable def rtX : Eng.Spec := execS R2 noLoops 19
theorem rtX_ok : SpecOk Tryd.prog 19 rtX := execS_plain R2_ok mixed Tryd.func19 (by kernel_rfl) (by kernel_rfl)
end Go.Proofs.YtdangjhbkffbnaaDoor.Rep

/- Layer 27: Ends: counts by states. -/
namespace Go.Proofs.YtdangjhbkffbnaaDoor.Rep
open Go.Eng Go.RowKit Go.Proofs.YtdangjhbkffbnaaDoor.Txt
set_option linter.unusedVariables false
set_option linter.unusedSimpArgs false
set_option maxRecDepth 100000
theorem eB : EOk Tryd.prog [arrK] := ⟨⟨by kernel_rfl, by kernel_rfl⟩, trivial⟩
noncomputable def E0 : Cfg := ⟨Tryd.prog, lookG [], [arrK], 0⟩
theorem E0_ok : E0.Ok := Cfg.ok trivial eB
abbrev Rq : Type := Int × Int × Int × Int
noncomputable def lpEn : Code := loopAt Tryd.prog 24 0
structure PEn where (n : Nat) (l : List Rq) (z : Int) (g : List Int)
structure AEn where (i : Int) (e : List Int)
abbrev SEn : List (Nat × Src) := [(0, .same), (1, .same), (9, .same)]
def vsEn (p : PEn) (a : AEn) : List V := [.pr 1 1 0 0, .pr 9 1 0 0, .sub 0 4 0 p.n, iv p.z, iv a.i]
def bsEn (p : PEn) (a : AEn) : List Blk := [.lst false 51 [.int .i64, .int .i64, .int .i64, .int .i64] p.l, .lst true 42 [.int .i64] p.g, .lst true 42 [.int .i64] a.e]
noncomputable def FEn (p : PEn) (a : AEn) : St := mkSt [2,3,6,7,8] (keysR SEn) 4000 28 (vsEn p a) (bsEn p a)
abbrev SEnx : List (Nat × Src) := [(0, .same), (1, .same), (9, .same)]
noncomputable def rdEn (p : PEn) (a : AEn) : T (Ex × St) := T.anon (roundX E0 noLoops lpEn [2,3,6,7,8] SEn [2,3] SEnx 4000 4000 (mkSt [2,3,6,7,8] (keysR SEn) 4000 28 (vsEn p a) (bsEn p a)))
def decEn_v0 : V → Option (Unit)
  | .pr 1 1 0 0 => some ()
  | _ => none
theorem decEn_v0_ok (b : V) (x0 : Unit) (h : decEn_v0 b = some x0) : b = .pr 1 1 0 0 := by
  unfold decEn_v0 at h
  split at h
  · cases h
    rfl
  · cases h
def decEn_v1 : V → Option (Unit)
  | .pr 9 1 0 0 => some ()
  | _ => none
theorem decEn_v1_ok (b : V) (x1 : Unit) (h : decEn_v1 b = some x1) : b = .pr 9 1 0 0 := by
  unfold decEn_v1 at h
  split at h
  · cases h
    rfl
  · cases h
def decEn_v2 : V → Option ((Nat))
  | .sub 0 4 0 n => some (n)
  | _ => none
theorem decEn_v2_ok (b : V) (x2 : (Nat)) (h : decEn_v2 b = some x2) : b = .sub 0 4 0 (x2) := by
  unfold decEn_v2 at h
  split at h
  · cases h
    rfl
  · cases h
def decEn_v3 : V → Option ((Int))
  | .s (.int .i64 z) => some (z)
  | _ => none
theorem decEn_v3_ok (b : V) (x3 : (Int)) (h : decEn_v3 b = some x3) : b = iv (x3) := by
  unfold decEn_v3 at h
  split at h
  · cases h
    rfl
  · cases h
def decEn_v4 : V → Option ((Int))
  | .s (.int .i64 i) => some (i)
  | _ => none
theorem decEn_v4_ok (b : V) (x4 : (Int)) (h : decEn_v4 b = some x4) : b = iv (x4) := by
  unfold decEn_v4 at h
  split at h
  · cases h
    rfl
  · cases h
def decEn_b0 : Blk → Option ((List Rq))
  | .lst false tt0 [.int .i64, .int .i64, .int .i64, .int .i64] l => if tt0 = 51 then some (l) else none
  | _ => none
theorem decEn_b0_ok (b : Blk) (y0 : (List Rq)) (h : decEn_b0 b = some y0) : b = .lst false 51 [.int .i64, .int .i64, .int .i64, .int .i64] (y0) := by
  unfold decEn_b0 at h
  split at h
  · obtain ⟨e0, h⟩ := ite_some0 h
    subst e0
    cases h
    rfl
  · cases h
def decEn_b1 : Blk → Option ((List Int))
  | .lst true tt0 [.int .i64] g => if tt0 = 42 then some (g) else none
  | _ => none
theorem decEn_b1_ok (b : Blk) (y1 : (List Int)) (h : decEn_b1 b = some y1) : b = .lst true 42 [.int .i64] (y1) := by
  unfold decEn_b1 at h
  split at h
  · obtain ⟨e0, h⟩ := ite_some0 h
    subst e0
    cases h
    rfl
  · cases h
def decEn_b2 : Blk → Option ((List Int))
  | .lst true tt0 [.int .i64] e => if tt0 = 42 then some (e) else none
  | _ => none
theorem decEn_b2_ok (b : Blk) (y2 : (List Int)) (h : decEn_b2 b = some y2) : b = .lst true 42 [.int .i64] (y2) := by
  unfold decEn_b2 at h
  split at h
  · obtain ⟨e0, h⟩ := ite_some0 h
    subst e0
    cases h
    rfl
  · cases h
def decEn : List V → List Blk → Option (PEn × AEn)
  | [v0, v1, v2, v3, v4], [b0, b1, b2] => (decEn_v0 v0).bind fun x0 => (decEn_v1 v1).bind fun x1 => (decEn_v2 v2).bind fun x2 => (decEn_v3 v3).bind fun x3 => (decEn_v4 v4).bind fun x4 => (decEn_b0 b0).bind fun y0 => (decEn_b1 b1).bind fun y1 => (decEn_b2 b2).bind fun y2 => some (⟨(x2), (y0), (x3), (y1)⟩, ⟨(x4), (y2)⟩)
  | _, _ => none
theorem decEn_ok (l : List V) (b : List Blk) (d : PEn × AEn) (h : decEn l b = some d) : l = vsEn d.1 d.2 ∧ b = bsEn d.1 d.2 := by
  unfold decEn at h
  split at h
  · obtain ⟨x0, hx0, h⟩ := Option.bind_eq_some_iff.1 h
    obtain ⟨x1, hx1, h⟩ := Option.bind_eq_some_iff.1 h
    obtain ⟨x2, hx2, h⟩ := Option.bind_eq_some_iff.1 h
    obtain ⟨x3, hx3, h⟩ := Option.bind_eq_some_iff.1 h
    obtain ⟨x4, hx4, h⟩ := Option.bind_eq_some_iff.1 h
    obtain ⟨y0, hy0, h⟩ := Option.bind_eq_some_iff.1 h
    obtain ⟨y1, hy1, h⟩ := Option.bind_eq_some_iff.1 h
    obtain ⟨y2, hy2, h⟩ := Option.bind_eq_some_iff.1 h
    have ex0 := decEn_v0_ok _ _ hx0
    have ex1 := decEn_v1_ok _ _ hx1
    have ex2 := decEn_v2_ok _ _ hx2
    have ex3 := decEn_v3_ok _ _ hx3
    have ex4 := decEn_v4_ok _ _ hx4
    have ey0 := decEn_b0_ok _ _ hy0
    have ey1 := decEn_b1_ok _ _ hy1
    have ey2 := decEn_b2_ok _ _ hy2
    cases h
    subst ex0 ex1 ex2 ex3 ex4 ey0 ey1 ey2
    exact ⟨rfl, rfl⟩
  · cases h
noncomputable def rgEn : Nat := (firstReg lpEn).getD 0
theorem rgEn_is : firstReg lpEn = some rgEn := by kernel_rfl
def sE (p : PEn) (a : AEn) : Int := (p.l.getD (0 + Int.toNat a.i) ((0, 0, 0, 0) : Rq)).2.2.1
def inE (s : Int) : Bool := bif decide (1 ≤ s) then decide (s ≤ 6) else false
def ixE (e : List Int) (s : Int) : Bool := decide (0 ≤ s) && (decide (s < ((7 : Nat) : Int)) && decide (s.toNat < e.length))
def hEn (p : PEn) (a : AEn) (b : Bool) : List (Bool × Bool) := [(decide (a.i < p.z), true), (idR p.l p.n a.i, true), (ldR p.l a.i, true), (inE (sE p a), b)]
def kEn (p : PEn) (a : AEn) : List (Bool × Bool) := [(ixE a.e (sE p a), true), (decide ((sE p a).toNat < a.e.length), true), (ixE a.e (sE p a), true), (decide ((sE p a).toNat < a.e.length), true)]
theorem en_y (p : PEn) (a : AEn) : T.path [true, true, true, true, true, true, true, true] (rdEn p a) = some (hEn p a true ++ kEn p a, (.normal, FEn p ⟨IntKind.wrap .i64 (a.i + 1), a.e.set (sE p a).toNat (IntKind.wrap .i64 (a.e.getD (sE p a).toNat 0 + 1))⟩)) := by kernel_rfl
theorem en_n (p : PEn) (a : AEn) : T.path [true, true, true, false] (rdEn p a) = some (hEn p a false, (.normal, FEn p ⟨IntKind.wrap .i64 (a.i + 1), a.e⟩)) := by kernel_rfl
def stEn (p : PEn) (a : AEn) : St := mkSt [2, 3] (keysR SEn) 4000 28 [.pr 1 1 0 0, .pr 9 1 0 0] (bsEn p a)
theorem en_x (p : PEn) (a : AEn) : T.path [false] (rdEn p a) = some ([(decide (a.i < p.z), false)], (.exit 0, stEn p a)) := by kernel_rfl
def cN (l : List Rq) (k : Nat) : Nat := l.countP fun x => inE x.2.2.1 && decide (x.2.2.1 = (k : Int))
def cntE (l : List Rq) : List Int := (List.range 7).map fun k => (cN l k : Int)
theorem cN_le (l : List Rq) (k : Nat) : cN l k ≤ l.length := List.countP_le_length
theorem cN_add (l : List Rq) (x : Rq) (k : Nat) : cN (l ++ [x]) k = cN l k + (if inE x.2.2.1 = true ∧ x.2.2.1 = (k : Int) then 1 else 0) := by
  unfold cN
  rw [List.countP_append, List.countP_singleton]
  simp
theorem cntE_no (l : List Rq) (x : Rq) (h : inE x.2.2.1 = false) : cntE (l ++ [x]) = cntE l := by
  unfold cntE
  refine List.map_congr_left fun k _ => ?_
  rw [cN_add, h]; simp
theorem cntE_at (l : List Rq) (k : Nat) (hk : k < 7) : (cntE l).getD k 0 = (cN l k : Int) := by
  unfold cntE
  rw [List.getD_eq_getElem?_getD, List.getElem?_map, List.getElem?_range hk]; rfl
theorem cntE_get (l : List Rq) (k : Nat) (h : k < (cntE l).length) : (cntE l)[k] = (cN l k : Int) := by
  simp only [cntE, List.getElem_map, List.getElem_range]
theorem inE_is {s : Int} (h : inE s = true) : 1 ≤ s ∧ s ≤ 6 := by
  unfold inE at h
  by_cases q : 1 ≤ s
  · rw [decide_eq_true q] at h
    exact ⟨q, of_decide_eq_true h⟩
  · rw [decide_eq_false q] at h; cases h
theorem cntE_yes (l : List Rq) (x : Rq) (h : inE x.2.2.1 = true) : (cntE l).set x.2.2.1.toNat ((cntE l).getD x.2.2.1.toNat 0 + 1) = cntE (l ++ [x]) := by
  obtain ⟨h1, h2⟩ := inE_is h
  rw [cntE_at _ _ (by omega)]
  refine List.ext_getElem (by unfold cntE; simp) fun k k1 k2 => ?_
  have hk : k < 7 := by unfold cntE at k2; simpa using k2
  rw [List.getElem_set]
  rw [cntE_get _ k k2, cN_add]
  by_cases q : x.2.2.1.toNat = k
  · rw [if_pos q, if_pos ⟨h, by omega⟩, q]; omega
  · rw [if_neg q, cntE_get, if_neg (fun e => q (by have := e.2; omega))]; omega
theorem cntE_len (l : List Rq) : (cntE l).length = 7 := by unfold cntE; simp
structure okEn (p : PEn) (a : AEn) : Prop where
  n : p.n = p.l.length
  z : p.z = (p.n : Int)
  n1 : p.n ≤ 1000000000
  i0 : 0 ≤ a.i
  i1 : a.i ≤ p.z
  e : a.e = cntE (p.l.take a.i.toNat)
def goEn (p : PEn) (a : AEn) : Bool := decide (a.i < p.z)
def muEn (p : PEn) (a : AEn) : Nat := (p.z - a.i).toNat
theorem stepEn (p : PEn) (a : AEn) (h : okEn p a) (hg : goEn p a = true) : ∃ b, stepC okEn rdEn FEn muEn p a b := by
  have hg : a.i < p.z := of_decide_eq_true hg
  obtain ⟨h1, h2, h3, h4, h5, h6⟩ := h
  have hl : a.i.toNat < p.l.length := by omega
  obtain ⟨y1, y2⟩ := idR_is (g := p.l) (k := p.n) (i := a.i) h1 h4 (by omega)
  have w : IntKind.wrap .i64 (a.i + 1) = a.i + 1 := wrap64_in (by omega) (by omega)
  have es : sE p a = (p.l[a.i.toNat]).2.2.1 := by
    unfold sE
    rw [List.getD_eq_getElem?_getD, Nat.zero_add, List.getElem?_eq_getElem hl]; rfl
  have ek : p.l.take (a.i + 1).toNat = p.l.take a.i.toNat ++ [p.l[a.i.toNat]] := by
    rw [show (a.i + 1).toNat = a.i.toNat + 1 by omega, List.take_add_one, List.getElem?_eq_getElem hl]; rfl
  have hd : ∀ b, inE (sE p a) = b → allSay (hEn p a b) := fun b hb => ⟨decide_eq_true hg, y1, y2, hb, trivial⟩
  have mu : ∀ e, muEn p ⟨a.i + 1, e⟩ < muEn p a := fun e => by show (p.z - (a.i + 1)).toNat < (p.z - a.i).toNat; omega
  cases hb : inE (sE p a) with
  | false =>
    have way := en_n p a
    rw [w] at way
    refine ⟨_, T.path_eval way (hd _ hb), ⟨h1, h2, h3, by show 0 ≤ a.i + 1; omega, by show a.i + 1 ≤ p.z; omega, ?_⟩, mu _⟩
    show a.e = cntE (p.l.take (a.i + 1).toNat)
    rw [ek, cntE_no _ _ (by rw [← es]; exact hb)]; exact h6
  | true =>
    obtain ⟨s1, s2⟩ := inE_is hb
    have way := en_y p a
    have el : a.e.length = 7 := by rw [h6]; exact cntE_len _
    have eg : a.e.getD (sE p a).toNat 0 = (cN (p.l.take a.i.toNat) (sE p a).toNat : Int) := by rw [h6]; exact cntE_at _ _ (by omega)
    have eb := cN_le (p.l.take a.i.toNat) (sE p a).toNat
    have et : (p.l.take a.i.toNat).length ≤ 1000000000 := by rw [List.length_take]; omega
    have w2 : IntKind.wrap .i64 (a.e.getD (sE p a).toNat 0 + 1) = a.e.getD (sE p a).toNat 0 + 1 := wrap64_in (by omega) (by omega)
    rw [w, w2] at way
    have c1 : ixE a.e (sE p a) = true := by
      unfold ixE
      rw [decide_eq_true (show 0 ≤ sE p a by omega), decide_eq_true (show sE p a < ((7 : Nat) : Int) by omega), decide_eq_true (show (sE p a).toNat < a.e.length by omega)]; rfl
    have c2 : decide ((sE p a).toNat < a.e.length) = true := decide_eq_true (by omega)
    refine ⟨_, T.path_eval way (allSay_append (hd _ hb) ⟨c1, c2, c1, c2, trivial⟩), ⟨h1, h2, h3, by show 0 ≤ a.i + 1; omega, by show a.i + 1 ≤ p.z; omega, ?_⟩, mu _⟩
    show a.e.set (sE p a).toNat (a.e.getD (sE p a).toNat 0 + 1) = cntE (p.l.take (a.i + 1).toNat)
    rw [ek, h6, es]
    exact cntE_yes _ _ (by rw [← es]; exact hb)
def outEn (p : PEn) (a : AEn) : T (Ex × St) := .ret (.exit 0, stEn p a)
theorem exEn (p : PEn) (a : AEn) (h : okEn p a) (hg : goEn p a = false) (r : Ex × St) (hr : (outEn p a).eval = some r) : r.1 ≠ .normal ∧ (rdEn p a).eval = some r := by
  obtain rfl := Option.some.inj hr
  exact ⟨by simp, T.path_eval (en_x p a) ⟨hg, trivial⟩⟩
noncomputable def famEn : LSpec := famE [2,3,6,7,8] SEn SEnx 4000 4000 28 decEn okEn goEn rdEn FEn muEn outEn
theorem lpEn_ok : LoopOk E0 lpEn famEn := famE_ok (vs := vsEn) (bs := bsEn) E0_ok mixed (noLoops_ok _) decEn_ok (fun _ _ => rfl) (fun _ _ => rfl) stepEn exEn
noncomputable def enX : Eng.Spec := execS E0 (byReg [(rgEn, famEn)]) 24
theorem enX_ok : SpecOk Tryd.prog 24 enX := execS_loops E0_ok mixed Tryd.func24 (by kernel_rfl) (by kernel_rfl) (one_lp (c := lpEn) (by kernel_rfl) rgEn_is lpEn_ok)
def arrI (g : List Int) : V := .agg [iv (g.getD 0 0), iv (g.getD 1 0), iv (g.getD 2 0), iv (g.getD 3 0), iv (g.getD 4 0), iv (g.getD 5 0), iv (g.getD 6 0)]
def pE (l : List Rq) : PEn := ⟨l.length, l, (l.length : Int), [0, 0, 0, 0, 0, 0, 0]⟩
def aE : AEn := ⟨0, [0, 0, 0, 0, 0, 0, 0]⟩
noncomputable def eE (l : List Rq) : AEn := endW (nxtC okEn goEn rdEn FEn muEn (pE l)) aE
def rowE (l : List Rq) : V := .orow 51 [.int .i64, .int .i64, .int .i64, .int .i64] l
theorem en_way (l : List Rq) : T.path [true, true, true, true] (T.anon (enX [rowE l])) = some ([(invC okEn (pE l) aE, true), (decide (7 ≤ (eE l).e.length), true), (true, true), (true, true)], arrI (eE l).e) := by kernel_rfl
theorem en_run {l : List Rq} (h : l.length ≤ 1000000000) : (enX [rowE l]).eval = some (arrI (cntE l)) := by
  rw [← T.eval_anon (t := enX _)]
  have h0 : okEn (pE l) aE := ⟨rfl, rfl, h, Int.le_refl _, Int.natCast_nonneg _, rfl⟩
  obtain ⟨k1, k2⟩ := endC stepEn h0
  have k1 : okEn (pE l) (eE l) := k1
  have k2 : goEn (pE l) (eE l) = false := k2
  obtain ⟨-, z, -, i0, i1, e⟩ := k1
  have z : (pE l).z = (l.length : Int) := z
  have hi : ¬ (eE l).i < (pE l).z := of_decide_eq_false k2
  have ee : (eE l).e = cntE l := by
    rw [e, List.take_of_length_le (by show l.length ≤ _; omega)]; rfl
  have way := en_way l
  have hlen : decide (7 ≤ (eE l).e.length) = true := by rw [ee, cntE_len]; rfl
  rw [ee] at way hlen
  exact T.path_eval way ⟨invC_is h0, hlen, rfl, rfl, trivial⟩
def endsS : Eng.Spec
  | [.orow t [.int .i64, .int .i64, .int .i64, .int .i64] l] => if t = 51 then .ite none (decide (List.length l ≤ 1000000000)) (.ret (arrI (cntE l))) .fail else .fail
  | _ => .fail
theorem endsS_ok : SpecOk Tryd.prog 24 endsS := enX_ok.of_den fun args v hfl h => by
  clear hfl
  unfold endsS at h
  split at h
  · rename_i t l
    split at h
    · rename_i ht
      subst ht
      obtain ⟨hb, h2⟩ := ite_T' h
      obtain rfl := Option.some.inj h2
      exact ⟨_, en_run (of_decide_eq_true hb), ⟨rfl, rfl⟩, rfl⟩
    · cases h
  · cases h
end Go.Proofs.YtdangjhbkffbnaaDoor.Rep

/- Layer 27: what is told of a few, run. -/
namespace Go.Proofs.YtdangjhbkffbnaaDoor.Rep
open Go.Eng Go.RowKit Go.Proofs.YtdangjhbkffbnaaDoor.Txt
set_option linter.unusedVariables false
set_option linter.unusedSimpArgs false
set_option maxRecDepth 100000
theorem rt_run : (rtX []).eval = some (.s (.bool true)) := by kernel_rfl
def rtS : Eng.Spec
  | [] => .ret (.s (.bool true))
  | _ => .fail
theorem rtS_ok : SpecOk Tryd.prog 19 rtS := rtX_ok.of_den fun args v hfl h => by
  clear hfl
  unfold rtS at h
  split at h
  · obtain rfl := Option.some.inj h
    exact ⟨_, rt_run, ⟨rfl, rfl⟩, rfl⟩
  · cases h
end Go.Proofs.YtdangjhbkffbnaaDoor.Rep

/- Layer 27: ReportCounts: its loop. -/
namespace Go.Proofs.YtdangjhbkffbnaaDoor.Rep
open Go.Eng Go.RowKit Go.Proofs.YtdangjhbkffbnaaDoor.Txt
set_option linter.unusedVariables false
set_option linter.unusedSimpArgs false
set_option maxRecDepth 100000
noncomputable def F0 : Cfg := ⟨Tryd.prog, lookG [(24, .val endsS), (19, .val rtS)], [], 0⟩
theorem F0_ok : F0.Ok := Cfg.ok ⟨endsS_ok, rtS_ok, trivial⟩ trivial
noncomputable def lpRc : Code := loopAt Tryd.prog 7 0
structure PRc where (n : Nat) (g : List Int)
structure ARc where (k : Nat) (c : Int) (i : Int) (r : List Rq)
abbrev SRc : List (Nat × Src) := [(0, .same), (4000, .tmp 3)]
def vsRc (p : PRc) (a : ARc) : List V := [.sub 0 1 0 p.n, .sub 4000 4 0 a.k, iv a.c, iv a.i]
def bsRc (p : PRc) (a : ARc) : List Blk := [.lst false 3 [.int .i64] p.g, .lst true 51 [.int .i64, .int .i64, .int .i64, .int .i64] a.r]
noncomputable def FRc (p : PRc) (a : ARc) : St := mkSt [0,3,4,5] (keysR SRc) 4001 63 (vsRc p a) (bsRc p a)
abbrev SRcx : List (Nat × Src) := [(0, .same), (4000, .tmp 3)]
noncomputable def rdRc (p : PRc) (a : ARc) : T (Ex × St) := T.anon (roundX F0 noLoops lpRc [0,3,4,5] SRc [3,4] SRcx 4000 4001 (mkSt [0,3,4,5] (keysR SRc) 4001 63 (vsRc p a) (bsRc p a)))
def decRc_v0 : V → Option ((Nat))
  | .sub 0 1 0 n => some (n)
  | _ => none
theorem decRc_v0_ok (b : V) (x0 : (Nat)) (h : decRc_v0 b = some x0) : b = .sub 0 1 0 (x0) := by
  unfold decRc_v0 at h
  split at h
  · cases h
    rfl
  · cases h
def decRc_v1 : V → Option ((Nat))
  | .sub 4000 4 0 k => some (k)
  | _ => none
theorem decRc_v1_ok (b : V) (x1 : (Nat)) (h : decRc_v1 b = some x1) : b = .sub 4000 4 0 (x1) := by
  unfold decRc_v1 at h
  split at h
  · cases h
    rfl
  · cases h
def decRc_v2 : V → Option ((Int))
  | .s (.int .i64 c) => some (c)
  | _ => none
theorem decRc_v2_ok (b : V) (x2 : (Int)) (h : decRc_v2 b = some x2) : b = iv (x2) := by
  unfold decRc_v2 at h
  split at h
  · cases h
    rfl
  · cases h
def decRc_v3 : V → Option ((Int))
  | .s (.int .i64 i) => some (i)
  | _ => none
theorem decRc_v3_ok (b : V) (x3 : (Int)) (h : decRc_v3 b = some x3) : b = iv (x3) := by
  unfold decRc_v3 at h
  split at h
  · cases h
    rfl
  · cases h
def decRc_b0 : Blk → Option ((List Int))
  | .lst false tt0 [.int .i64] g => if tt0 = 3 then some (g) else none
  | _ => none
theorem decRc_b0_ok (b : Blk) (y0 : (List Int)) (h : decRc_b0 b = some y0) : b = .lst false 3 [.int .i64] (y0) := by
  unfold decRc_b0 at h
  split at h
  · obtain ⟨e0, h⟩ := ite_some0 h
    subst e0
    cases h
    rfl
  · cases h
def decRc_b1 : Blk → Option ((List Rq))
  | .lst true tt0 [.int .i64, .int .i64, .int .i64, .int .i64] r => if tt0 = 51 then some (r) else none
  | _ => none
theorem decRc_b1_ok (b : Blk) (y1 : (List Rq)) (h : decRc_b1 b = some y1) : b = .lst true 51 [.int .i64, .int .i64, .int .i64, .int .i64] (y1) := by
  unfold decRc_b1 at h
  split at h
  · obtain ⟨e0, h⟩ := ite_some0 h
    subst e0
    cases h
    rfl
  · cases h
def decRc : List V → List Blk → Option (PRc × ARc)
  | [v0, v1, v2, v3], [b0, b1] => (decRc_v0 v0).bind fun x0 => (decRc_v1 v1).bind fun x1 => (decRc_v2 v2).bind fun x2 => (decRc_v3 v3).bind fun x3 => (decRc_b0 b0).bind fun y0 => (decRc_b1 b1).bind fun y1 => some (⟨(x0), (y0)⟩, ⟨(x1), (x2), (x3), (y1)⟩)
  | _, _ => none
theorem decRc_ok (l : List V) (b : List Blk) (d : PRc × ARc) (h : decRc l b = some d) : l = vsRc d.1 d.2 ∧ b = bsRc d.1 d.2 := by
  unfold decRc at h
  split at h
  · obtain ⟨x0, hx0, h⟩ := Option.bind_eq_some_iff.1 h
    obtain ⟨x1, hx1, h⟩ := Option.bind_eq_some_iff.1 h
    obtain ⟨x2, hx2, h⟩ := Option.bind_eq_some_iff.1 h
    obtain ⟨x3, hx3, h⟩ := Option.bind_eq_some_iff.1 h
    obtain ⟨y0, hy0, h⟩ := Option.bind_eq_some_iff.1 h
    obtain ⟨y1, hy1, h⟩ := Option.bind_eq_some_iff.1 h
    have ex0 := decRc_v0_ok _ _ hx0
    have ex1 := decRc_v1_ok _ _ hx1
    have ex2 := decRc_v2_ok _ _ hx2
    have ex3 := decRc_v3_ok _ _ hx3
    have ey0 := decRc_b0_ok _ _ hy0
    have ey1 := decRc_b1_ok _ _ hy1
    cases h
    subst ex0 ex1 ex2 ex3 ey0 ey1
    exact ⟨rfl, rfl⟩
  · cases h
noncomputable def rgRc : Nat := (firstReg lpRc).getD 0
theorem rgRc_is : firstReg lpRc = some rgRc := by kernel_rfl
def vv (x : Int) : Int := IntKind.wrap .i64 (IntKind.wrap .i64 (Int.tmod (IntKind.wrap .u64 x) 9) - 1)
def vC (p : PRc) (a : ARc) : Int := vv (p.g.getD (0 + Int.toNat a.i) 0)
def rqC (v : Int) : Rq := (0, 0, v, 0)
def apR (k : Nat) (r : List Rq) (x : Rq) : Bool := true && (decide (k ≤ r.length) && decide (k + [x].length ≤ 1000000))
def mrC (p : PRc) (a : ARc) : Bool := bif decide (a.i < (p.n : Int)) then decide (a.i < 60) else false
def hRc (p : PRc) (a : ARc) (b : Bool) : List (Bool × Bool) := [(mrC p a, true), (idR p.g p.n a.i, true), (ldR p.g a.i, true), ((9 : Int) == 0, false), (apR a.k a.r (rqC (vC p a)), true), (inE (vC p a), b)]
theorem rc_y (p : PRc) (a : ARc) : T.path [true, true, true, false, true, true] (rdRc p a) = some (hRc p a true, (.normal, FRc p ⟨a.k + [rqC (vC p a)].length, IntKind.wrap .i64 (a.c + 1), IntKind.wrap .i64 (a.i + 1), a.r.take a.k ++ [rqC (vC p a)]⟩)) := by kernel_rfl
theorem rc_n (p : PRc) (a : ARc) : T.path [true, true, true, false, true, false] (rdRc p a) = some (hRc p a false, (.normal, FRc p ⟨a.k + [rqC (vC p a)].length, a.c, IntKind.wrap .i64 (a.i + 1), a.r.take a.k ++ [rqC (vC p a)]⟩)) := by kernel_rfl
def stRc (p : PRc) (a : ARc) : St := mkSt [3, 4] (keysR SRc) 4001 63 [.sub 4000 4 0 a.k, iv a.c] (bsRc p a)
theorem rc_x (p : PRc) (a : ARc) : T.path [false] (rdRc p a) = some ([(mrC p a, false)], (.exit 0, stRc p a)) := by kernel_rfl
def rowC (l : List Int) : List Rq := l.map fun x => rqC (vv x)
def cC (l : List Int) : Nat := l.countP fun x => inE (vv x)
structure okRc (p : PRc) (a : ARc) : Prop where
  n : p.n = p.g.length
  i0 : 0 ≤ a.i
  i1 : a.i ≤ (p.n : Int)
  i2 : a.i ≤ 60
  r : a.r = rowC (p.g.take a.i.toNat)
  k : a.k = a.r.length
  c : a.c = (cC (p.g.take a.i.toNat) : Int)
def goRc (p : PRc) (a : ARc) : Bool := mrC p a
def muRc (p : PRc) (a : ARc) : Nat := (60 - a.i).toNat
theorem stepRc (p : PRc) (a : ARc) (h : okRc p a) (hg : goRc p a = true) : ∃ b, stepC okRc rdRc FRc muRc p a b := by
  have hg : mrC p a = true := hg
  obtain ⟨h1, h2, h3, h4, h5, h6, h7⟩ := h
  have hi : a.i < (p.n : Int) ∧ a.i < 60 := by
    unfold mrC at hg
    by_cases q : a.i < (p.n : Int)
    · rw [decide_eq_true q] at hg
      exact ⟨q, of_decide_eq_true hg⟩
    · rw [decide_eq_false q] at hg; cases hg
  have hl : a.i.toNat < p.g.length := by omega
  obtain ⟨y1, y2⟩ := idR_is (g := p.g) (k := p.n) (i := a.i) h1 h2 (by omega)
  have w : IntKind.wrap .i64 (a.i + 1) = a.i + 1 := wrap64_in (by omega) (by omega)
  have es : vC p a = vv (p.g[a.i.toNat]) := by
    unfold vC
    rw [List.getD_eq_getElem?_getD, Nat.zero_add, List.getElem?_eq_getElem hl]; rfl
  have ek : p.g.take (a.i + 1).toNat = p.g.take a.i.toNat ++ [p.g[a.i.toNat]] := by
    rw [show (a.i + 1).toNat = a.i.toNat + 1 by omega, List.take_add_one, List.getElem?_eq_getElem hl]; rfl
  have et : (p.g.take a.i.toNat).length ≤ 60 := by rw [List.length_take]; omega
  have er : a.r.length ≤ 60 := by rw [h5]; unfold rowC; rw [List.length_map]; exact et
  have ec : cC (p.g.take a.i.toNat) ≤ 60 := Nat.le_trans List.countP_le_length et
  have ap : apR a.k a.r (rqC (vC p a)) = true := by
    unfold apR
    rw [decide_eq_true (show a.k ≤ a.r.length by omega), decide_eq_true (show a.k + [rqC (vC p a)].length ≤ 1000000 by simp only [List.length_singleton]; omega)]; rfl
  have tk : a.r.take a.k = a.r := List.take_of_length_le (by omega)
  have rr : a.r.take a.k ++ [rqC (vC p a)] = rowC (p.g.take (a.i + 1).toNat) := by
    rw [tk, h5, ek, es]
    unfold rowC
    rw [List.map_append]; rfl
  have kk : a.k + [rqC (vC p a)].length = (rowC (p.g.take (a.i + 1).toNat)).length := by
    rw [← rr, tk, List.length_append]; omega
  have cc : (cC (p.g.take (a.i + 1).toNat) : Int) = a.c + (if inE (vC p a) = true then 1 else 0) := by
    rw [h7, ek, es]
    unfold cC
    rw [List.countP_append, List.countP_singleton]
    split <;> simp
  have hd : ∀ b, inE (vC p a) = b → allSay (hRc p a b) := fun b hb => ⟨hg, y1, y2, by decide, ap, hb, trivial⟩
  have mu : ∀ (k : Nat) (c : Int) (r : List Rq), muRc p ⟨k, c, a.i + 1, r⟩ < muRc p a := fun k c r => by show (60 - (a.i + 1)).toNat < (60 - a.i).toNat; omega
  cases hb : inE (vC p a) with
  | false =>
    have way := rc_n p a
    rw [w, rr, kk] at way
    refine ⟨_, T.path_eval way (hd _ hb), ⟨h1, by show 0 ≤ a.i + 1; omega, by show a.i + 1 ≤ _; omega, by show a.i + 1 ≤ 60; omega, rfl, rfl, ?_⟩, mu _ _ _⟩
    show a.c = (cC (p.g.take (a.i + 1).toNat) : Int)
    rw [cc, hb]; simp
  | true =>
    have way := rc_y p a
    have wc : IntKind.wrap .i64 (a.c + 1) = a.c + 1 := wrap64_in (by omega) (by omega)
    rw [w, wc, rr, kk] at way
    refine ⟨_, T.path_eval way (hd _ hb), ⟨h1, by show 0 ≤ a.i + 1; omega, by show a.i + 1 ≤ _; omega, by show a.i + 1 ≤ 60; omega, rfl, rfl, ?_⟩, mu _ _ _⟩
    show a.c + 1 = (cC (p.g.take (a.i + 1).toNat) : Int)
    rw [cc, hb]; simp
def outRc (p : PRc) (a : ARc) : T (Ex × St) := .ret (.exit 0, stRc p a)
theorem exRc (p : PRc) (a : ARc) (h : okRc p a) (hg : goRc p a = false) (r : Ex × St) (hr : (outRc p a).eval = some r) : r.1 ≠ .normal ∧ (rdRc p a).eval = some r := by
  obtain rfl := Option.some.inj hr
  exact ⟨by simp, T.path_eval (rc_x p a) ⟨hg, trivial⟩⟩
noncomputable def famRc : LSpec := famE [0,3,4,5] SRc SRcx 4000 4001 63 decRc okRc goRc rdRc FRc muRc outRc
theorem lpRc_ok : LoopOk F0 lpRc famRc := famE_ok (vs := vsRc) (bs := bsRc) F0_ok mixed (noLoops_ok _) decRc_ok (fun _ _ => rfl) (fun _ _ => rfl) stepRc exRc
end Go.Proofs.YtdangjhbkffbnaaDoor.Rep

/- Layer 27: ReportCounts: the law run. -/
namespace Go.Proofs.YtdangjhbkffbnaaDoor.Rep
open Go.Eng Go.RowKit Go.Proofs.YtdangjhbkffbnaaDoor.Txt
set_option linter.unusedVariables false
set_option linter.unusedSimpArgs false
set_option maxRecDepth 100000
noncomputable def lpR2 : Code := loopAt Tryd.prog 7 1
noncomputable def rgR2 : Nat := (firstReg lpR2).getD 0
theorem rgR2_is : firstReg lpR2 = some rgR2 := by kernel_rfl
noncomputable def rcX : Eng.Spec := execS F0 (byReg [(rgRc, famRc), (rgR2, unroll F0 noLoops lpR2 9)]) 7
theorem rcX_ok : SpecOk Tryd.prog 7 rcX := execS_loops F0_ok mixed Tryd.func7 (by kernel_rfl) (by kernel_rfl) (two_lp (c := lpRc) (c' := lpR2) (by kernel_rfl) rgRc_is rgR2_is (by kernel_rfl) lpRc_ok (unroll_loop F0_ok mixed 9 lpR2))
theorem sum7_is {a0 a1 a2 a3 a4 a5 a6 : Int} (h0 : 0 ≤ a0 ∧ a0 ≤ 60) (h1 : 0 ≤ a1 ∧ a1 ≤ 60) (h2 : 0 ≤ a2 ∧ a2 ≤ 60) (h3 : 0 ≤ a3 ∧ a3 ≤ 60) (h4 : 0 ≤ a4 ∧ a4 ≤ 60) (h5 : 0 ≤ a5 ∧ a5 ≤ 60) (h6 : 0 ≤ a6 ∧ a6 ≤ 60) :
    IntKind.wrap .i64 (IntKind.wrap .i64 (IntKind.wrap .i64 (IntKind.wrap .i64 (IntKind.wrap .i64 (IntKind.wrap .i64 (IntKind.wrap .i64 (0 + a0) + a1) + a2) + a3) + a4) + a5) + a6) = 0 + a0 + a1 + a2 + a3 + a4 + a5 + a6 := by
  rw [wrap64_in (n := 0 + a0) (by omega) (by omega), wrap64_in (n := 0 + a0 + a1) (by omega) (by omega), wrap64_in (n := 0 + a0 + a1 + a2) (by omega) (by omega), wrap64_in (n := 0 + a0 + a1 + a2 + a3) (by omega) (by omega), wrap64_in (n := 0 + a0 + a1 + a2 + a3 + a4) (by omega) (by omega), wrap64_in (n := 0 + a0 + a1 + a2 + a3 + a4 + a5) (by omega) (by omega), wrap64_in (n := 0 + a0 + a1 + a2 + a3 + a4 + a5 + a6) (by omega) (by omega)]
def sum7 (M : List Int) : Int := IntKind.wrap .i64 (IntKind.wrap .i64 (IntKind.wrap .i64 (IntKind.wrap .i64 (IntKind.wrap .i64 (IntKind.wrap .i64 (IntKind.wrap .i64 (0 + M.getD 0 0) + M.getD 1 0) + M.getD 2 0) + M.getD 3 0) + M.getD 4 0) + M.getD 5 0) + M.getD 6 0)
theorem cN_sum : ∀ l : List Rq, cN l 0 = 0 ∧ cN l 1 + cN l 2 + cN l 3 + cN l 4 + cN l 5 + cN l 6 = l.countP (fun x => inE x.2.2.1)
  | [] => ⟨rfl, rfl⟩
  | x :: l => by
    obtain ⟨h0, h1⟩ := cN_sum l
    have hc : ∀ k, cN (x :: l) k = cN l k + (if inE x.2.2.1 = true ∧ x.2.2.1 = (k : Int) then 1 else 0) := fun k => by
      unfold cN
      rw [List.countP_cons]; simp
    rw [hc, hc, hc, hc, hc, hc, hc, List.countP_cons, ← h1, h0]
    cases hb : inE x.2.2.1 with
    | false => simp
    | true =>
      obtain ⟨s1, s2⟩ := inE_is hb
      have q : x.2.2.1 = 1 ∨ x.2.2.1 = 2 ∨ x.2.2.1 = 3 ∨ x.2.2.1 = 4 ∨ x.2.2.1 = 5 ∨ x.2.2.1 = 6 := by omega
      rcases q with q | q | q | q | q | q <;> rw [q] <;> simp <;> omega
def pR (g : List Int) : PRc := ⟨g.length, g⟩
def aR : ARc := ⟨0, 0, 0, []⟩
noncomputable def eR (g : List Int) : ARc := endW (nxtC okRc goRc rdRc FRc muRc (pR g)) aR
noncomputable def lR (g : List Int) : List Rq := List.take (eR g).k (List.drop 0 (eR g).r)
def finR (M : List Int) (c : Int) : Bool := bif sum7 M == c then M.getD 0 0 == 0 else false
theorem rc_way (g : List Int) : T.path [true, true, true] (T.anon (rcX [.orow 3 [.int .i64] g])) = some ([(invC okRc (pR g) aR, true), (decide (0 + (eR g).k ≤ (eR g).r.length), true), (decide ((lR g).length ≤ 1000000000), true)], .s (.bool (finR (cntE (lR g)) (eR g).c))) := by kernel_rfl
theorem rc_run (g : List Int) : (rcX [.orow 3 [.int .i64] g]).yes := by
  unfold T.yes
  rw [← T.eval_anon (t := rcX _)]
  refine .inr ?_
  have h0 : okRc (pR g) aR := ⟨rfl, Int.le_refl _, Int.natCast_nonneg _, by decide, rfl, rfl, rfl⟩
  obtain ⟨k1, k2⟩ := endC stepRc h0
  have k1 : okRc (pR g) (eR g) := k1
  obtain ⟨-, i0, i1, i2, r, k, c⟩ := k1
  have eL : lR g = (eR g).r := by
    unfold lR
    rw [List.drop_zero, List.take_of_length_le (by omega)]
  have hr : (eR g).r.length ≤ 60 := by
    rw [r]; unfold rowC
    rw [List.length_map, List.length_take]; omega
  have way := rc_way g
  rw [eL] at way
  have hf : finR (cntE (eR g).r) (eR g).c = true := by
    obtain ⟨s0, s1⟩ := cN_sum (eR g).r
    have hc : (eR g).r.countP (fun x => inE x.2.2.1) = cC (List.take (eR g).i.toNat (pR g).g) := by
      rw [r]; unfold rowC
      rw [List.countP_map]; rfl
    have hb : ∀ j, 0 ≤ ((cN (eR g).r j : Nat) : Int) ∧ ((cN (eR g).r j : Nat) : Int) ≤ 60 := fun j => by
      have := cN_le (eR g).r j
      omega
    have hs : sum7 (cntE (eR g).r) = (eR g).c := by
      unfold sum7
      rw [cntE_at _ 0 (by decide), cntE_at _ 1 (by decide), cntE_at _ 2 (by decide), cntE_at _ 3 (by decide), cntE_at _ 4 (by decide), cntE_at _ 5 (by decide), cntE_at _ 6 (by decide), sum7_is (hb 0) (hb 1) (hb 2) (hb 3) (hb 4) (hb 5) (hb 6), c, ← hc, ← s1]
      omega
    unfold finR
    rw [hs, cntE_at _ 0 (by decide), s0]
    simp
  rw [hf] at way
  exact T.path_eval way ⟨invC_is h0, decide_eq_true (by omega), decide_eq_true (by omega), trivial⟩
theorem rc_walk (a0 : List Int) (z0 : a0.length ≤ maxLen) (w0 : ∀ x ∈ a0, (Lit.int .i64 x).wf = true) (x0 : Value) (w : World) (hG : Glob w) (hx : holdsP 0 w (.orow 3 [.int .i64] a0) x0) :
    Calls Tryd.prog 7 #[x0] w fun e w' => e = .returned (.bool true) ∧ Below w.heap.size w w' :=
  Law.law_rows (args := [.orow 3 [.int .i64] a0]) (xs := [x0]) rcX_ok rfl (rc_run a0) w ⟨hx, trivial⟩ hG
end Go.Proofs.YtdangjhbkffbnaaDoor.Rep

