import Derived.Test.YtdangjhbkffbnaaDoorRows
import Derived.OpenShut
import Derived.LaidMore
import Derived.Lay
import Derived.Lib.LaidTab
import Derived.Stop.LaidErr
import Derived.Shelf.Vars
import Derived.Shelf.Strings.Builder1
import Derived.Shelf.Strings.Builder2
import Derived.Shelf.Strings.OnBuilder
import Derived.Shelf.Strings.Trim
import Derived.Shelf.Small.Utf8
import Derived.Shelf.Small.Strs
import Derived.Shelf.Small.Wraps
import Derived.Shelf.Strconv.Itoa0
import Derived.Shelf.Strconv.Itoa1
import Derived.Shelf.LaysM
import Derived.Shelf.Strconv.Itoa2
import Derived.Shelf.Strconv.Itoa3
import Derived.Shelf.Strconv.Itoa4
import Derived.Shelf.Strings.Search1
import Derived.Shelf.Strings.Search2
import Derived.Shelf.Strings.Cut
import Derived.Shelf.Strings.Shaped
import Derived.Shelf.Strings.Prefix
import Derived.Shelf.Unicode.Decode
import Derived.Shelf.Strings.Runes
import Derived.Shelf.Strings.AsciiSet
import Derived.Shelf.Unicode.DecodeSlow
import Derived.Shelf.Unicode.DecodeAny
import Derived.Shelf.Unicode.DecodeLast
import Derived.Shelf.Slices.Turned
import Derived.Test.YtdangjhbkffbnaaDoorProg
import Derived.Lib.AppendIntMem
import Derived.Test.YtdangjhbkffbnaaDoorGE
/- What laws' frames want at a door: what is listed of package-level variables, from the row to the machine. -/
namespace Go.Proofs.YtdangjhbkffbnaaDoor.Law.Gl
open Go.Joins Go.ChangeShapes Go.WideShapes Go.ChangeAt Go.RowKit Go.Deep
set_option linter.unusedVariables false
variable {H : Type} {enc : TypeId × Value → H}
/-- the wrap, with what the row lists, and the world's shape -/
theorem of_change_and {a : Assume} {C : Checked} {os : Os} {f : FuncId} {fn : Func} {s : ChangeSpec} {conds : List PathCond} {apart fresh handsOn again : Bool} {X : World → Array Value → Prop}
    (hX : ∀ (w w' : World) (args : Array Value), w.heap = w'.heap → X w args → X w' args)
    (own : ownKnob C.prog.godebug = none) (started : os.Started) (noInit : C.prog.inits.idxOf? f = none) (hfn : C.prog.funcs[f]? = some fn)
    (witness : ∃ (w : World) (tape : Tape) (i : Input), w.os = os ∧ (w.forCall tape i).Shaped C.prog ∧ i.vars = [] ∧ Input.okWide C.prog (w.forCall tape i) .any w.heap.size f i ∧
      ((s.pre enc C.prog fn conds apart (w.forCall tape i).memory i.args ∧ X (w.forCall tape i).memory i.args) ∧ sizedMet enc C.prog fn (OpenSpec.ofChange s) apart (w.forCall tape i).memory i.args) ∧ a.holds C.prog (lone (Frame.enter C.prog f i.args .normal) [] (w.forCall tape i)))
    (contract : ∀ (W : World) (base : Nat) (args : Array Value) (ds gs : List (DataW H)) (before : List MemPlace),
      (∀ (j : Nat) t v, fn.params[j]? = some t → args[j]? = some v → Value.okWide C.prog W .any base t v) →
      DataW.Whole enc C.prog fn.params.toList s.vars apart W args.toList ds gs before → X W args → W.ShapedOpen C.prog →
      Calls C.prog f args W fun e W' => ∃ v, e = .returned v ∧ s.post enc C.prog fn apart fresh handsOn again W args v W') :
    ReturnsInHanded a C os f .any (fun w args => (s.pre enc C.prog fn conds apart w args ∧ X w args) ∧ sizedMet enc C.prog fn (OpenSpec.ofChange s) apart w args) (s.post enc C.prog fn apart fresh handsOn again) := by
  refine returnsInHanded_of_calls own started noInit witness ?_
  intro w tape i _ hsh _ hok hpre _
  obtain ⟨_, _, _, fn', hfn', _, _, _, _, hval⟩ := hok
  obtain rfl : fn' = fn := Option.some.inj (hfn'.symm.trans hfn)
  obtain ⟨⟨⟨ds, gs, before, hw, _⟩, hx⟩, _⟩ := hpre
  have hw' := DataW.Whole.of_heap (w' := w.forCall tape i) (by rfl) hw
  refine (contract (w.forCall tape i) w.heap.size i.args ds gs before hval hw' (hX _ _ _ (by rfl) hx) hsh).mono fun e W' ⟨v, he, hp⟩ => ?_
  subst he
  exact ChangeSpec.post_blind hp
theorem glob0 {W : World} {rest : List (String × DataW Unit)} (h3 : laidMet Tryd.prog (("internal/strconv.uint64pow10", Lib.tabData .u64 Lib.pow10Tab) :: rest) W) (hsh : W.ShapedOpen Tryd.prog) : Eng.Glob W := by
  have ht : Lib.TabIs Tryd.prog W "internal/strconv.uint64pow10" .u64 Lib.pow10Tab := Lib.tabIs_of_head (g := 1) (by kernel_rfl) (t := ((Tryd.prog.globals[1]?).map (·.type)).getD 0) (by kernel_rfl) (n := 20) (e := 121) (by kernel_rfl) (by kernel_rfl) (by kernel_rfl) (by kernel_rfl) h3
  refine ⟨?_, ?_, ?_⟩
  · obtain ⟨cs, hh, -⟩ := hsh.1 5 ((((begin Tryd.prog (fun _ _ => 0) default).world.heap[5]?).bind Obj.row?).getD (#[], 0)).1 ((((begin Tryd.prog (fun _ _ => 0) default).world.heap[5]?).bind Obj.row?).getD (#[], 0)).2 (of_decide_eq_true (by kernel_rfl)) (by kernel_rfl)
    have := (Array.getElem?_eq_some_iff.1 hh).1
    show 6 ≤ _
    omega
  · unfold Lib.TabIs World.var? at ht
    rw [show Tryd.prog.globalNamed "internal/strconv.uint64pow10" = some 1 by kernel_rfl] at ht
    have ht : (match W.heap[1]? with | some (Obj.cells cs _ _) => some cs | _ => none) = some (Lib.pow10Tab.map fun z => Value.int .u64 z).toArray := ht
    split at ht
    · rename_i cs t s e
      obtain rfl := Option.some.inj ht
      exact ⟨t, s, e⟩
    · cases ht
  · exact cell_of_shapedOpen_int (P := Tryd.prog) (g := 0) (t := 3) (zero := #[.int .i64 0]) hsh (of_decide_eq_true (by kernel_rfl)) (by kernel_rfl) rfl (by kernel_rfl) (by kernel_rfl) Tryd.underlying3
theorem glob {W : World} (hL : laidMetH Tryd.prog Rows.textAsksRow.laid W) (hsh : W.ShapedOpen Tryd.prog) : Eng.Glob W := by
  rw [MakeChecks.laidMetH_plain _ _ _ (by kernel_rfl)] at hL
  exact glob0 (rest := [("unicode/utf8.acceptRanges", Rows.laid_unicode_utf8_acceptRanges), ("unicode/utf8.first", Rows.laid_unicode_utf8_first)]) hL.tail.tail hsh
theorem globR {W : World} (hL : laidMetH Tryd.prog Rows.reportCountsRow.laid W) (hsh : W.ShapedOpen Tryd.prog) : Eng.Glob W := by
  rw [MakeChecks.laidMetH_plain _ _ _ (by kernel_rfl)] at hL
  exact glob0 (rest := []) hL.tail.tail hsh
end Go.Proofs.YtdangjhbkffbnaaDoor.Law.Gl

/- The library's functions that this program calls, told to be those that the library's contracts speak of. -/
namespace Go.Proofs
open Go.Shelf
def Tryd.lays169_ren : Go.Shelf.Ren := ⟨fun | 169 => 41 | n => n, fun | 70 => 70 | 9 => 9 | 0 => 0 | 72 => 73 | 37 => 71 | 127 => 105 | 3 => 3 | 5 => 5 | n => n, fun | n => n⟩
theorem Tryd.lays169 : Go.Proofs.Lays.n169 Tryd.prog Tryd.lays169_ren := {
  mixed := by kernel_rfl
  f169 := Tryd.func41.trans (congrArg some (by kernel_rfl))
  t0 := Tryd.underlying0
  a0 := Tryd.isAgg0
  z0 := Tryd.sizeOf0
  v0 := Tryd.zeroValue0
  t3 := Tryd.underlying3
  a3 := Tryd.isAgg3
  z3 := Tryd.sizeOf3
  v3 := Tryd.zeroValue3
  t9 := Tryd.underlying9
  a9 := Tryd.isAgg9
  z9 := Tryd.sizeOf9
  v9 := Tryd.zeroValue9
  t37 := Tryd.underlying71
  a37 := Tryd.isAgg71
  z37 := Tryd.sizeOf71
  v37 := Tryd.zeroValue71
  t70 := Tryd.underlying70
  a70 := Tryd.isAgg70
  z70 := Tryd.sizeOf70
  v70 := Tryd.zeroValue70
  t72 := Tryd.underlying73
  a72 := Tryd.isAgg73
  z72 := Tryd.sizeOf73
  v72 := Tryd.zeroValue73
  t127 := Tryd.underlying105
  a127 := Tryd.isAgg105
  z127 := Tryd.sizeOf105
  v127 := Tryd.zeroValue105 }
theorem Tryd.Builder_Extra_169 : Builder.Extra Tryd.prog Tryd.lays169_ren := {
  sizeBuilder := by kernel_rfl
  liesBuilder := by kernel_rfl
  t5 := Tryd.underlying5
  a5 := Tryd.isAgg5
  z5 := Tryd.sizeOf5
  v5 := Tryd.zeroValue5
  infoByte := by kernel_rfl
  cellsByte := by kernel_rfl
  sizeByte := by kernel_rfl
  neB5 := by decide }
def Tryd.lays156_ren : Go.Shelf.Ren := ⟨fun | 156 => 65 | 165 => 83 | 166 => 38 | 169 => 41 | 240 => 62 | 241 => 96 | 276 => 77 | 277 => 103 | n => n, fun | 31 => 24 | 9 => 9 | 3 => 3 | 4 => 4 | 0 => 0 | 20 => 20 | 72 => 73 | 76 => 77 | 70 => 70 | 37 => 71 | 75 => 76 | 127 => 105 | 164 => 118 | 5 => 5 | 80 => 82 | n => n, fun | n => n⟩
theorem Tryd.lays156 : Go.Proofs.Lays.n156 Tryd.prog Tryd.lays156_ren := {
  mixed := by kernel_rfl
  f156 := Tryd.func65.trans (congrArg some (by kernel_rfl))
  f165 := Tryd.func83.trans (congrArg some (by kernel_rfl))
  f166 := Tryd.func38.trans (congrArg some (by kernel_rfl))
  f169 := Tryd.func41.trans (congrArg some (by kernel_rfl))
  f240 := Tryd.func62.trans (congrArg some (by kernel_rfl))
  f241 := Tryd.func96.trans (congrArg some (by kernel_rfl))
  f276 := Tryd.func77.trans (congrArg some (by kernel_rfl))
  f277 := Tryd.func103.trans (congrArg some (by kernel_rfl))
  t0 := Tryd.underlying0
  a0 := Tryd.isAgg0
  z0 := Tryd.sizeOf0
  v0 := Tryd.zeroValue0
  t3 := Tryd.underlying3
  a3 := Tryd.isAgg3
  z3 := Tryd.sizeOf3
  v3 := Tryd.zeroValue3
  t4 := Tryd.underlying4
  a4 := Tryd.isAgg4
  z4 := Tryd.sizeOf4
  v4 := Tryd.zeroValue4
  t9 := Tryd.underlying9
  a9 := Tryd.isAgg9
  z9 := Tryd.sizeOf9
  v9 := Tryd.zeroValue9
  t20 := Tryd.underlying20
  a20 := Tryd.isAgg20
  z20 := Tryd.sizeOf20
  v20 := Tryd.zeroValue20
  t31 := Tryd.underlying24
  a31 := Tryd.isAgg24
  z31 := Tryd.sizeOf24
  v31 := Tryd.zeroValue24
  t37 := Tryd.underlying71
  a37 := Tryd.isAgg71
  z37 := Tryd.sizeOf71
  v37 := Tryd.zeroValue71
  t70 := Tryd.underlying70
  a70 := Tryd.isAgg70
  z70 := Tryd.sizeOf70
  v70 := Tryd.zeroValue70
  t72 := Tryd.underlying73
  a72 := Tryd.isAgg73
  z72 := Tryd.sizeOf73
  v72 := Tryd.zeroValue73
  t75 := Tryd.underlying76
  a75 := Tryd.isAgg76
  z75 := Tryd.sizeOf76
  v75 := Tryd.zeroValue76
  t76 := Tryd.underlying77
  a76 := Tryd.isAgg77
  z76 := Tryd.sizeOf77
  v76 := Tryd.zeroValue77
  t127 := Tryd.underlying105
  a127 := Tryd.isAgg105
  z127 := Tryd.sizeOf105
  v127 := Tryd.zeroValue105
  t164 := Tryd.underlying118
  a164 := Tryd.isAgg118
  z164 := Tryd.sizeOf118
  v164 := Tryd.zeroValue118 }
theorem Tryd.Builder_Extra_156 : Builder.Extra Tryd.prog Tryd.lays156_ren := {
  sizeBuilder := by kernel_rfl
  liesBuilder := by kernel_rfl
  t5 := Tryd.underlying5
  a5 := Tryd.isAgg5
  z5 := Tryd.sizeOf5
  v5 := Tryd.zeroValue5
  infoByte := by kernel_rfl
  cellsByte := by kernel_rfl
  sizeByte := by kernel_rfl
  neB5 := by decide }
def Tryd.lays162_ren : Go.Shelf.Ren := ⟨fun | 162 => 46 | 232 => 54 | 227 => 55 | 234 => 57 | 236 => 59 | 228 => 70 | 271 => 73 | 151 => 72 | 120 => 90 | 197 => 71 | 152 => 89 | 260 => 88 | 137 => 99 | 119 => 100 | 224 => 86 | 225 => 85 | 217 => 84 | 266 => 97 | n => n, fun | 9 => 9 | 4 => 4 | 3 => 3 | 5 => 5 | 117 => 95 | 116 => 94 | 0 => 0 | 124 => 98 | 21 => 21 | 105 => 112 | 46 => 34 | 119 => 137 | 139 => 140 | 138 => 139 | n => n, fun | 3 => 2 | 4 => 3 | n => n⟩
theorem Tryd.lays162 : Go.Proofs.Lays.n162 Tryd.prog Tryd.lays162_ren := {
  mixed := by kernel_rfl
  f119 := Tryd.func100.trans (congrArg some (by kernel_rfl))
  f120 := Tryd.func90.trans (congrArg some (by kernel_rfl))
  f137 := Tryd.func99.trans (congrArg some (by kernel_rfl))
  f151 := Tryd.func72.trans (congrArg some (by kernel_rfl))
  f152 := Tryd.func89.trans (congrArg some (by kernel_rfl))
  f162 := Tryd.func46.trans (congrArg some (by kernel_rfl))
  f197 := Tryd.func71.trans (congrArg some (by kernel_rfl))
  f217 := Tryd.func84.trans (congrArg some (by kernel_rfl))
  f224 := Tryd.func86.trans (congrArg some (by kernel_rfl))
  f225 := Tryd.func85.trans (congrArg some (by kernel_rfl))
  f227 := Tryd.func55.trans (congrArg some (by kernel_rfl))
  f228 := Tryd.func70.trans (congrArg some (by kernel_rfl))
  f232 := Tryd.func54.trans (congrArg some (by kernel_rfl))
  f234 := Tryd.func57.trans (congrArg some (by kernel_rfl))
  f236 := Tryd.func59.trans (congrArg some (by kernel_rfl))
  f260 := Tryd.func88.trans (congrArg some (by kernel_rfl))
  f266 := Tryd.func97.trans (congrArg some (by kernel_rfl))
  f271 := Tryd.func73.trans (congrArg some (by kernel_rfl))
  t0 := Tryd.underlying0
  a0 := Tryd.isAgg0
  z0 := Tryd.sizeOf0
  v0 := Tryd.zeroValue0
  t3 := Tryd.underlying3
  a3 := Tryd.isAgg3
  z3 := Tryd.sizeOf3
  v3 := Tryd.zeroValue3
  t4 := Tryd.underlying4
  a4 := Tryd.isAgg4
  z4 := Tryd.sizeOf4
  v4 := Tryd.zeroValue4
  t5 := Tryd.underlying5
  a5 := Tryd.isAgg5
  z5 := Tryd.sizeOf5
  v5 := Tryd.zeroValue5
  t9 := Tryd.underlying9
  a9 := Tryd.isAgg9
  z9 := Tryd.sizeOf9
  v9 := Tryd.zeroValue9
  t21 := Tryd.underlying21
  a21 := Tryd.isAgg21
  z21 := Tryd.sizeOf21
  v21 := Tryd.zeroValue21
  t46 := Tryd.underlying34
  a46 := Tryd.isAgg34
  z46 := Tryd.sizeOf34
  v46 := Tryd.zeroValue34
  t105 := Tryd.underlying112
  a105 := Tryd.isAgg112
  z105 := Tryd.sizeOf112
  v105 := Tryd.zeroValue112
  t116 := Tryd.underlying94
  a116 := Tryd.isAgg94
  z116 := Tryd.sizeOf94
  t117 := Tryd.underlying95
  a117 := Tryd.isAgg95
  z117 := Tryd.sizeOf95
  v117 := Tryd.zeroValue95
  t119 := Tryd.underlying137
  a119 := Tryd.isAgg137
  z119 := Tryd.sizeOf137
  t124 := Tryd.underlying98
  a124 := Tryd.isAgg98
  z124 := Tryd.sizeOf98
  v124 := Tryd.zeroValue98
  t138 := Tryd.underlying139
  a138 := Tryd.isAgg139
  z138 := Tryd.sizeOf139
  v138 := Tryd.zeroValue139
  t139 := Tryd.underlying140
  a139 := Tryd.isAgg140
  z139 := Tryd.sizeOf140
  v139 := Tryd.zeroValue140
  g3 := by kernel_rfl
  g4 := by kernel_rfl }
def Tryd.lays160_ren : Go.Shelf.Ren := ⟨fun | 160 => 31 | 232 => 54 | 231 => 53 | 227 => 55 | 234 => 57 | 233 => 56 | 236 => 59 | 235 => 58 | 228 => 70 | 271 => 73 | 151 => 72 | 197 => 71 | 120 => 90 | 152 => 89 | 260 => 88 | 137 => 99 | 119 => 100 | 224 => 86 | 225 => 85 | 217 => 84 | 266 => 97 | n => n, fun | 9 => 9 | 4 => 4 | 3 => 3 | 5 => 5 | 117 => 95 | 116 => 94 | 0 => 0 | 124 => 98 | 21 => 21 | 105 => 112 | 46 => 34 | 119 => 137 | 139 => 140 | 138 => 139 | n => n, fun | 3 => 2 | 4 => 3 | n => n⟩
theorem Tryd.lays160 : Go.Proofs.Lays.n160 Tryd.prog Tryd.lays160_ren := {
  mixed := by kernel_rfl
  f119 := Tryd.func100.trans (congrArg some (by kernel_rfl))
  f120 := Tryd.func90.trans (congrArg some (by kernel_rfl))
  f137 := Tryd.func99.trans (congrArg some (by kernel_rfl))
  f151 := Tryd.func72.trans (congrArg some (by kernel_rfl))
  f152 := Tryd.func89.trans (congrArg some (by kernel_rfl))
  f160 := Tryd.func31.trans (congrArg some (by kernel_rfl))
  f197 := Tryd.func71.trans (congrArg some (by kernel_rfl))
  f217 := Tryd.func84.trans (congrArg some (by kernel_rfl))
  f224 := Tryd.func86.trans (congrArg some (by kernel_rfl))
  f225 := Tryd.func85.trans (congrArg some (by kernel_rfl))
  f227 := Tryd.func55.trans (congrArg some (by kernel_rfl))
  f228 := Tryd.func70.trans (congrArg some (by kernel_rfl))
  f231 := Tryd.func53.trans (congrArg some (by kernel_rfl))
  f232 := Tryd.func54.trans (congrArg some (by kernel_rfl))
  f233 := Tryd.func56.trans (congrArg some (by kernel_rfl))
  f234 := Tryd.func57.trans (congrArg some (by kernel_rfl))
  f235 := Tryd.func58.trans (congrArg some (by kernel_rfl))
  f236 := Tryd.func59.trans (congrArg some (by kernel_rfl))
  f260 := Tryd.func88.trans (congrArg some (by kernel_rfl))
  f266 := Tryd.func97.trans (congrArg some (by kernel_rfl))
  f271 := Tryd.func73.trans (congrArg some (by kernel_rfl))
  t0 := Tryd.underlying0
  a0 := Tryd.isAgg0
  z0 := Tryd.sizeOf0
  v0 := Tryd.zeroValue0
  t3 := Tryd.underlying3
  a3 := Tryd.isAgg3
  z3 := Tryd.sizeOf3
  v3 := Tryd.zeroValue3
  t4 := Tryd.underlying4
  a4 := Tryd.isAgg4
  z4 := Tryd.sizeOf4
  v4 := Tryd.zeroValue4
  t5 := Tryd.underlying5
  a5 := Tryd.isAgg5
  z5 := Tryd.sizeOf5
  v5 := Tryd.zeroValue5
  t9 := Tryd.underlying9
  a9 := Tryd.isAgg9
  z9 := Tryd.sizeOf9
  v9 := Tryd.zeroValue9
  t21 := Tryd.underlying21
  a21 := Tryd.isAgg21
  z21 := Tryd.sizeOf21
  v21 := Tryd.zeroValue21
  t46 := Tryd.underlying34
  a46 := Tryd.isAgg34
  z46 := Tryd.sizeOf34
  v46 := Tryd.zeroValue34
  t105 := Tryd.underlying112
  a105 := Tryd.isAgg112
  z105 := Tryd.sizeOf112
  v105 := Tryd.zeroValue112
  t116 := Tryd.underlying94
  a116 := Tryd.isAgg94
  z116 := Tryd.sizeOf94
  t117 := Tryd.underlying95
  a117 := Tryd.isAgg95
  z117 := Tryd.sizeOf95
  v117 := Tryd.zeroValue95
  t119 := Tryd.underlying137
  a119 := Tryd.isAgg137
  z119 := Tryd.sizeOf137
  t124 := Tryd.underlying98
  a124 := Tryd.isAgg98
  z124 := Tryd.sizeOf98
  v124 := Tryd.zeroValue98
  t138 := Tryd.underlying139
  a138 := Tryd.isAgg139
  z138 := Tryd.sizeOf139
  v138 := Tryd.zeroValue139
  t139 := Tryd.underlying140
  a139 := Tryd.isAgg140
  z139 := Tryd.sizeOf140
  v139 := Tryd.zeroValue140
  g3 := by kernel_rfl
  g4 := by kernel_rfl }
def Tryd.lays103_ren : Go.Shelf.Ren := ⟨fun | 103 => 26 | 210 => 49 | 206 => 67 | n => n, fun | 9 => 9 | 4 => 4 | 24 => 53 | 3 => 3 | n => n, fun | n => n⟩
theorem Tryd.lays103 : Go.Proofs.Lays.n103 Tryd.prog Tryd.lays103_ren := {
  mixed := by kernel_rfl
  f103 := Tryd.func26.trans (congrArg some (by kernel_rfl))
  f206 := Tryd.func67.trans (congrArg some (by kernel_rfl))
  f210 := Tryd.func49.trans (congrArg some (by kernel_rfl))
  t3 := Tryd.underlying3
  a3 := Tryd.isAgg3
  z3 := Tryd.sizeOf3
  v3 := Tryd.zeroValue3
  t4 := Tryd.underlying4
  a4 := Tryd.isAgg4
  z4 := Tryd.sizeOf4
  v4 := Tryd.zeroValue4
  t9 := Tryd.underlying9
  a9 := Tryd.isAgg9
  z9 := Tryd.sizeOf9
  v9 := Tryd.zeroValue9
  t24 := Tryd.underlying53
  a24 := Tryd.isAgg53
  z24 := Tryd.sizeOf53
  v24 := Tryd.zeroValue53 }
def Tryd.laysM171_ren : Go.Shelf.Ren := ⟨fun | 171 => 63 | 243 => 78 | 246 => 64 | 283 => 79 | 284 => 80 | 285 => 81 | 286 => 82 | 129 => 92 | 317 => 91 | 318 => 93 | 319 => 94 | 320 => 95 | 337 => 101 | 338 => 102 | n => n, fun | 3 => 3 | 9 => 9 | 2 => 2 | 4 => 4 | 171 => 120 | 0 => 0 | 53 => 121 | 37 => 71 | 5 => 5 | 173 => 124 | 212 => 131 | 51 => 132 | 20 => 20 | 213 => 133 | 46 => 34 | 232 => 144 | 233 => 145 | n => n, fun | 17 => 1 | 18 => 4 | 19 => 5 | n => n⟩
theorem Tryd.laysM171 : Go.Proofs.LaysM.n171 Tryd.prog Tryd.laysM171_ren := {
  mixed := by kernel_rfl
  f129 := Tryd.func92.trans (congrArg some (by kernel_rfl))
  f171 := Tryd.func63.trans (congrArg some (by kernel_rfl))
  f243 := Tryd.func78.trans (congrArg some (by kernel_rfl))
  f246 := Tryd.func64.trans (congrArg some (by kernel_rfl))
  f283 := Tryd.func79.trans (congrArg some (by kernel_rfl))
  f284 := Tryd.func80.trans (congrArg some (by kernel_rfl))
  f285 := Tryd.func81.trans (congrArg some (by kernel_rfl))
  f286 := Tryd.func82.trans (congrArg some (by kernel_rfl))
  f317 := Tryd.func91.trans (congrArg some (by kernel_rfl))
  f318 := Tryd.func93.trans (congrArg some (by kernel_rfl))
  f319 := Tryd.func94.trans (congrArg some (by kernel_rfl))
  f320 := Tryd.func95.trans (congrArg some (by kernel_rfl))
  f337 := Tryd.func101.trans (congrArg some (by kernel_rfl))
  f338 := Tryd.func102.trans (congrArg some (by kernel_rfl))
  t0 := Tryd.underlying0
  a0 := Tryd.isAgg0
  z0 := Tryd.sizeOf0
  v0 := Tryd.zeroValue0
  t2 := Tryd.underlying2
  a2 := Tryd.isAgg2
  z2 := Tryd.sizeOf2
  v2 := Tryd.zeroValue2
  t3 := Tryd.underlying3
  a3 := Tryd.isAgg3
  z3 := Tryd.sizeOf3
  v3 := Tryd.zeroValue3
  t4 := Tryd.underlying4
  a4 := Tryd.isAgg4
  z4 := Tryd.sizeOf4
  v4 := Tryd.zeroValue4
  t5 := Tryd.underlying5
  a5 := Tryd.isAgg5
  z5 := Tryd.sizeOf5
  v5 := Tryd.zeroValue5
  t9 := Tryd.underlying9
  a9 := Tryd.isAgg9
  z9 := Tryd.sizeOf9
  v9 := Tryd.zeroValue9
  t20 := Tryd.underlying20
  a20 := Tryd.isAgg20
  z20 := Tryd.sizeOf20
  v20 := Tryd.zeroValue20
  t37 := Tryd.underlying71
  a37 := Tryd.isAgg71
  z37 := Tryd.sizeOf71
  v37 := Tryd.zeroValue71
  t46 := Tryd.underlying34
  a46 := Tryd.isAgg34
  z46 := Tryd.sizeOf34
  v46 := Tryd.zeroValue34
  t51 := Tryd.underlying132
  a51 := Tryd.isAgg132
  z51 := Tryd.sizeOf132
  v51 := Tryd.zeroValue132
  t53 := Tryd.underlying121
  a53 := Tryd.isAgg121
  z53 := Tryd.sizeOf121
  v53 := Tryd.zeroValue121
  t171 := Tryd.underlying120
  a171 := Tryd.isAgg120
  z171 := Tryd.sizeOf120
  v171 := Tryd.zeroValue120
  t173 := Tryd.underlying124
  a173 := Tryd.isAgg124
  z173 := Tryd.sizeOf124
  v173 := Tryd.zeroValue124
  t212 := Tryd.underlying131
  a212 := Tryd.isAgg131
  z212 := Tryd.sizeOf131
  v212 := Tryd.zeroValue131
  t213 := Tryd.underlying133
  a213 := Tryd.isAgg133
  z213 := Tryd.sizeOf133
  t232 := Tryd.underlying144
  a232 := Tryd.isAgg144
  z232 := Tryd.sizeOf144
  v232 := Tryd.zeroValue144
  t233 := Tryd.underlying145
  a233 := Tryd.isAgg145
  z233 := Tryd.sizeOf145
  v233 := Tryd.zeroValue145
  g17 := by kernel_rfl
  g18 := by kernel_rfl
  g19 := by kernel_rfl
  i0 := by kernel_rfl
  i2 := by kernel_rfl
  i3 := by kernel_rfl
  i4 := by kernel_rfl
  i5 := by kernel_rfl
  i9 := by kernel_rfl
  i20 := by kernel_rfl
  i37 := by kernel_rfl
  i46 := by kernel_rfl
  i51 := by kernel_rfl
  i53 := by kernel_rfl
  i171 := by kernel_rfl
  i173 := by kernel_rfl
  i212 := by kernel_rfl
  i232 := by kernel_rfl
  i233 := by kernel_rfl
  m17 := by kernel_rfl
  m18 := by kernel_rfl
  m19 := by kernel_rfl }
def Tryd.laysM173_ren : Go.Shelf.Ren := ⟨fun | 173 => 45 | 246 => 64 | 283 => 79 | 284 => 80 | 285 => 81 | 286 => 82 | 129 => 92 | 317 => 91 | 318 => 93 | 319 => 94 | 320 => 95 | 337 => 101 | 338 => 102 | n => n, fun | 2 => 2 | 3 => 3 | 9 => 9 | 4 => 4 | 171 => 120 | 0 => 0 | 53 => 121 | 37 => 71 | 5 => 5 | 173 => 124 | 212 => 131 | 51 => 132 | 20 => 20 | 213 => 133 | 46 => 34 | 232 => 144 | 233 => 145 | n => n, fun | 17 => 1 | 18 => 4 | 19 => 5 | n => n⟩
theorem Tryd.laysM173 : Go.Proofs.LaysM.n173 Tryd.prog Tryd.laysM173_ren := {
  mixed := by kernel_rfl
  f129 := Tryd.func92.trans (congrArg some (by kernel_rfl))
  f173 := Tryd.func45.trans (congrArg some (by kernel_rfl))
  f246 := Tryd.func64.trans (congrArg some (by kernel_rfl))
  f283 := Tryd.func79.trans (congrArg some (by kernel_rfl))
  f284 := Tryd.func80.trans (congrArg some (by kernel_rfl))
  f285 := Tryd.func81.trans (congrArg some (by kernel_rfl))
  f286 := Tryd.func82.trans (congrArg some (by kernel_rfl))
  f317 := Tryd.func91.trans (congrArg some (by kernel_rfl))
  f318 := Tryd.func93.trans (congrArg some (by kernel_rfl))
  f319 := Tryd.func94.trans (congrArg some (by kernel_rfl))
  f320 := Tryd.func95.trans (congrArg some (by kernel_rfl))
  f337 := Tryd.func101.trans (congrArg some (by kernel_rfl))
  f338 := Tryd.func102.trans (congrArg some (by kernel_rfl))
  t0 := Tryd.underlying0
  a0 := Tryd.isAgg0
  z0 := Tryd.sizeOf0
  v0 := Tryd.zeroValue0
  t2 := Tryd.underlying2
  a2 := Tryd.isAgg2
  z2 := Tryd.sizeOf2
  v2 := Tryd.zeroValue2
  t3 := Tryd.underlying3
  a3 := Tryd.isAgg3
  z3 := Tryd.sizeOf3
  v3 := Tryd.zeroValue3
  t4 := Tryd.underlying4
  a4 := Tryd.isAgg4
  z4 := Tryd.sizeOf4
  v4 := Tryd.zeroValue4
  t5 := Tryd.underlying5
  a5 := Tryd.isAgg5
  z5 := Tryd.sizeOf5
  v5 := Tryd.zeroValue5
  t9 := Tryd.underlying9
  a9 := Tryd.isAgg9
  z9 := Tryd.sizeOf9
  v9 := Tryd.zeroValue9
  t20 := Tryd.underlying20
  a20 := Tryd.isAgg20
  z20 := Tryd.sizeOf20
  v20 := Tryd.zeroValue20
  t37 := Tryd.underlying71
  a37 := Tryd.isAgg71
  z37 := Tryd.sizeOf71
  v37 := Tryd.zeroValue71
  t46 := Tryd.underlying34
  a46 := Tryd.isAgg34
  z46 := Tryd.sizeOf34
  v46 := Tryd.zeroValue34
  t51 := Tryd.underlying132
  a51 := Tryd.isAgg132
  z51 := Tryd.sizeOf132
  v51 := Tryd.zeroValue132
  t53 := Tryd.underlying121
  a53 := Tryd.isAgg121
  z53 := Tryd.sizeOf121
  v53 := Tryd.zeroValue121
  t171 := Tryd.underlying120
  a171 := Tryd.isAgg120
  z171 := Tryd.sizeOf120
  v171 := Tryd.zeroValue120
  t173 := Tryd.underlying124
  a173 := Tryd.isAgg124
  z173 := Tryd.sizeOf124
  v173 := Tryd.zeroValue124
  t212 := Tryd.underlying131
  a212 := Tryd.isAgg131
  z212 := Tryd.sizeOf131
  v212 := Tryd.zeroValue131
  t213 := Tryd.underlying133
  a213 := Tryd.isAgg133
  z213 := Tryd.sizeOf133
  t232 := Tryd.underlying144
  a232 := Tryd.isAgg144
  z232 := Tryd.sizeOf144
  v232 := Tryd.zeroValue144
  t233 := Tryd.underlying145
  a233 := Tryd.isAgg145
  z233 := Tryd.sizeOf145
  v233 := Tryd.zeroValue145
  g17 := by kernel_rfl
  g18 := by kernel_rfl
  g19 := by kernel_rfl
  i0 := by kernel_rfl
  i2 := by kernel_rfl
  i3 := by kernel_rfl
  i4 := by kernel_rfl
  i5 := by kernel_rfl
  i9 := by kernel_rfl
  i20 := by kernel_rfl
  i37 := by kernel_rfl
  i46 := by kernel_rfl
  i51 := by kernel_rfl
  i53 := by kernel_rfl
  i171 := by kernel_rfl
  i173 := by kernel_rfl
  i212 := by kernel_rfl
  i232 := by kernel_rfl
  i233 := by kernel_rfl
  m17 := by kernel_rfl
  m18 := by kernel_rfl
  m19 := by kernel_rfl }
def Tryd.lays145_ren : Go.Shelf.Ren := ⟨fun | 145 => 27 | 220 => 50 | 219 => 68 | 217 => 84 | 225 => 85 | 224 => 86 | 267 => 87 | 266 => 97 | 314 => 98 | n => n, fun | 9 => 9 | 4 => 4 | 59 => 55 | 3 => 3 | 5 => 5 | 46 => 34 | 146 => 135 | 51 => 132 | n => n, fun | 1 => 0 | n => n⟩
theorem Tryd.lays145 : Go.Proofs.Lays.n145 Tryd.prog Tryd.lays145_ren := {
  mixed := by kernel_rfl
  f145 := Tryd.func27.trans (congrArg some (by kernel_rfl))
  f217 := Tryd.func84.trans (congrArg some (by kernel_rfl))
  f219 := Tryd.func68.trans (congrArg some (by kernel_rfl))
  f220 := Tryd.func50.trans (congrArg some (by kernel_rfl))
  f224 := Tryd.func86.trans (congrArg some (by kernel_rfl))
  f225 := Tryd.func85.trans (congrArg some (by kernel_rfl))
  f266 := Tryd.func97.trans (congrArg some (by kernel_rfl))
  f267 := Tryd.func87.trans (congrArg some (by kernel_rfl))
  f314 := Tryd.func98.trans (congrArg some (by kernel_rfl))
  t3 := Tryd.underlying3
  a3 := Tryd.isAgg3
  z3 := Tryd.sizeOf3
  v3 := Tryd.zeroValue3
  t4 := Tryd.underlying4
  a4 := Tryd.isAgg4
  z4 := Tryd.sizeOf4
  v4 := Tryd.zeroValue4
  t5 := Tryd.underlying5
  a5 := Tryd.isAgg5
  z5 := Tryd.sizeOf5
  v5 := Tryd.zeroValue5
  t9 := Tryd.underlying9
  a9 := Tryd.isAgg9
  z9 := Tryd.sizeOf9
  v9 := Tryd.zeroValue9
  t46 := Tryd.underlying34
  a46 := Tryd.isAgg34
  z46 := Tryd.sizeOf34
  v46 := Tryd.zeroValue34
  t51 := Tryd.underlying132
  a51 := Tryd.isAgg132
  z51 := Tryd.sizeOf132
  v51 := Tryd.zeroValue132
  t59 := Tryd.underlying55
  a59 := Tryd.isAgg55
  z59 := Tryd.sizeOf55
  v59 := Tryd.zeroValue55
  t146 := Tryd.underlying135
  a146 := Tryd.isAgg135
  z146 := Tryd.sizeOf135
  v146 := Tryd.zeroValue135
  g1 := by kernel_rfl }
def Tryd.lays110_ren : Go.Shelf.Ren := ⟨fun | 110 => 51 | 109 => 69 | n => n, fun | 31 => 24 | 9 => 9 | 4 => 4 | 3 => 3 | 0 => 0 | n => n, fun | n => n⟩
theorem Tryd.lays110 : Go.Proofs.Lays.n110 Tryd.prog Tryd.lays110_ren := {
  mixed := by kernel_rfl
  f109 := Tryd.func69.trans (congrArg some (by kernel_rfl))
  f110 := Tryd.func51.trans (congrArg some (by kernel_rfl))
  t0 := Tryd.underlying0
  a0 := Tryd.isAgg0
  z0 := Tryd.sizeOf0
  v0 := Tryd.zeroValue0
  t3 := Tryd.underlying3
  a3 := Tryd.isAgg3
  z3 := Tryd.sizeOf3
  v3 := Tryd.zeroValue3
  t4 := Tryd.underlying4
  a4 := Tryd.isAgg4
  z4 := Tryd.sizeOf4
  v4 := Tryd.zeroValue4
  t9 := Tryd.underlying9
  a9 := Tryd.isAgg9
  z9 := Tryd.sizeOf9
  v9 := Tryd.zeroValue9
  t31 := Tryd.underlying24
  a31 := Tryd.isAgg24
  z31 := Tryd.sizeOf24
  v31 := Tryd.zeroValue24 }
end Go.Proofs

/- Texts: the library's contracts, as the machine has them. -/
namespace Go.Eng
open Go.RowKit
/-- a contract as the model has it, of what stands in variables, too -/
theorem SpecOk.of_callsG {P : Program} {f : Nat} {fn : Func} {sp : Spec} (hf : P.funcs[f]? = some fn) (hb : fn.body.isSome = true) (hn : (fn.name == "runtime.NumGoroutine") = false)
    (hpl : ∀ args v, (sp args).eval = some v → flatL args = true ∧ flat v = true)
    (h : ∀ args v w, Glob w → (sp args).eval = some v → Calls P f (denL nu0 args).toArray w fun e w' => e = .returned (v.den nu0) ∧ Below w.heap.size w w') : SpecOk P f sp :=
  ⟨⟨fn, hf, hb, hn⟩, fun args v xs w hG hfl hv hfv hh => by
    obtain ⟨p1, p2⟩ := hpl args v hv
    rw [holdsL_den p1 hh]
    refine (h args v w hG hv).mono ?_
    rintro e w' ⟨rfl, hbl⟩
    exact ⟨_, rfl, (holds_flat p2).2 rfl, hbl⟩⟩
end Go.Eng
namespace Go.Proofs.YtdangjhbkffbnaaDoor.Txt
open Go.Eng Go.RowKit
set_option linter.unusedVariables false
set_option linter.unusedSimpArgs false
set_option maxRecDepth 100000
/-! ### numbers in digits -/
def decF : Nat → Nat → List UInt8
  | 0, u => [UInt8.ofNat (48 + u % 10)]
  | f + 1, u => if u < 10 then [UInt8.ofNat (48 + u)] else decF f (u / 10) ++ [UInt8.ofNat (48 + u % 10)]
theorem decF_is : ∀ (f u : Nat), u < 10 ^ (f + 1) → Lib.decDigits u = decF f u
  | 0, u, h => by
    rw [Lib.decDigits, dif_pos (by omega)]
    unfold decF
    rw [Nat.mod_eq_of_lt (by omega)]
  | f + 1, u, h => by
    rw [Lib.decDigits]
    unfold decF
    by_cases q : u < 10
    · rw [dif_pos q, if_pos q]
    · rw [dif_neg q, if_neg q, decF_is f (u / 10) (by rw [Nat.pow_succ] at h; omega)]
/-- a number's digits, its sign ahead -/
def itoaL (n : Int) : List UInt8 := if n < 0 then 45 :: decF 19 n.natAbs else decF 19 n.toNat
def itoaB (n : Int) : ByteArray := ⟨(itoaL n).toArray⟩
def in64 (n : Int) : Bool := decide (-9223372036854775808 ≤ n) && decide (n ≤ 9223372036854775807)
theorem in64_is {n : Int} (h : in64 n = true) : -9223372036854775808 ≤ n ∧ n ≤ 9223372036854775807 := by
  unfold in64 at h
  rw [Bool.and_eq_true, decide_eq_true_eq, decide_eq_true_eq] at h
  exact h
theorem itoaL_is {n : Int} (h : in64 n = true) : Lib.itoa n = itoaL n := by
  obtain ⟨h0, h1⟩ := in64_is h
  unfold Lib.itoa itoaL
  rw [decF_is 19 n.natAbs (by omega), decF_is 19 n.toNat (by omega)]
theorem glob_tab {w : World} (h : Glob w) : Lib.TabIs Tryd.prog w "internal/strconv.uint64pow10" .u64 Lib.pow10Tab := by
  obtain ⟨t, s, ht⟩ := h.tab
  unfold Lib.TabIs World.var?
  have : Tryd.prog.globalNamed "internal/strconv.uint64pow10" = some 1 := by kernel_rfl
  rw [this]
  show (match w.heap[1]? with | some (.cells cs _ _) => some cs | _ => none) = _
  rw [ht]
theorem below_grow' {w w' : World} (h : ∃ k os, w' = Sort.grow (w.drewN k) os) : Below w.heap.size w w' := by
  obtain ⟨k, os, rfl⟩ := h
  exact Lib.below_grow _ w (Nat.le_refl _) k os
theorem ite_T' {α : Type} {c : Bool} {x : T α} {r : α} (h : (T.ite none c x .fail).eval = some r) : c = true ∧ x.eval = some r := by
  cases c with
  | true => exact ⟨rfl, h⟩
  | false => cases h
def i64Of : V → Option Int
  | .n .i64 n => some n
  | .s (.int .i64 n) => some n
  | _ => none
theorem i64Of_is {v : V} {n : Int} (h : i64Of v = some n) : flat v = true ∧ v.den nu0 = .int .i64 n := by
  unfold i64Of at h
  split at h
  · cases h; exact ⟨rfl, rfl⟩
  · cases h; exact ⟨rfl, rfl⟩
  · cases h
def strOf : V → Option ByteArray
  | .s (.str s) => some s
  | _ => none
theorem strOf_is {v : V} {s : ByteArray} (h : strOf v = some s) : v = .s (.str s) := by
  unfold strOf at h
  split at h
  · cases h; rfl
  · cases h
/-- a contract of one number and, it may be, another -/
def itoaS : Eng.Spec
  | [a] => match i64Of a with
    | some n => .ite none (in64 n) (.ret (.s (.str (itoaB n)))) .fail
    | none => .fail
  | _ => .fail
theorem itoaS_is {args : List V} {v : V} (h : (itoaS args).eval = some v) : ∃ a n, args = [a] ∧ i64Of a = some n ∧ in64 n = true ∧ v = .s (.str (itoaB n)) := by
  unfold itoaS at h
  split at h
  · split at h
    · rename_i hn
      obtain ⟨h1, h2⟩ := ite_T' h
      exact ⟨_, _, rfl, hn, h1, (Option.some.inj h2).symm⟩
    · cases h
  · cases h
theorem itoaS_ok : SpecOk Tryd.prog 63 itoaS := SpecOk.of_callsG Tryd.func63 (by kernel_rfl) (by kernel_rfl)
  (fun args v h => by
    obtain ⟨a, n, rfl, ha, -, rfl⟩ := itoaS_is h
    exact ⟨by simp only [flatL, okL, Bool.and_eq_true]; exact ⟨(i64Of_is ha).1, trivial⟩, rfl⟩)
  (fun args v w hG h => by
    obtain ⟨a, n, rfl, ha, hn, rfl⟩ := itoaS_is h
    have c := Any.strconv_Itoa Tryd.laysM171 n (in64_is hn).1 (in64_is hn).2 w (glob_tab hG)
    rw [itoaL_is hn] at c
    simp only [denL, (i64Of_is ha).2]
    refine c.mono ?_
    rintro e w' ⟨rfl, hw⟩
    exact ⟨rfl, below_grow' hw⟩)
def fmtS : Eng.Spec
  | [a, b] => match i64Of a, i64Of b with
    | some n, some m => if m = 10 then .ite none (in64 n) (.ret (.s (.str (itoaB n)))) .fail else .fail
    | _, _ => .fail
  | _ => .fail
theorem fmtS_is {args : List V} {v : V} (h : (fmtS args).eval = some v) : ∃ a b n, args = [a, b] ∧ i64Of a = some n ∧ i64Of b = some 10 ∧ in64 n = true ∧ v = .s (.str (itoaB n)) := by
  unfold fmtS at h
  split at h
  · split at h
    · rename_i hn hm
      split at h
      · rename_i hz
        obtain ⟨h1, h2⟩ := ite_T' h
        exact ⟨_, _, _, rfl, hn, hz ▸ hm, h1, (Option.some.inj h2).symm⟩
      · cases h
    · cases h
  · cases h
theorem fmtS_ok : SpecOk Tryd.prog 45 fmtS := SpecOk.of_callsG Tryd.func45 (by kernel_rfl) (by kernel_rfl)
  (fun args v h => by
    obtain ⟨a, b, n, rfl, ha, hb, -, rfl⟩ := fmtS_is h
    exact ⟨by simp only [flatL, okL, Bool.and_eq_true]; exact ⟨(i64Of_is ha).1, (i64Of_is hb).1, trivial⟩, rfl⟩)
  (fun args v w hG h => by
    obtain ⟨a, b, n, rfl, ha, hb, hn, rfl⟩ := fmtS_is h
    have c := Any.strconv_FormatInt_10 Tryd.laysM173 n (in64_is hn).1 (in64_is hn).2 w (glob_tab hG)
    rw [itoaL_is hn] at c
    simp only [denL, (i64Of_is ha).2, (i64Of_is hb).2]
    refine c.mono ?_
    rintro e w' ⟨rfl, hw⟩
    exact ⟨rfl, below_grow' hw⟩)
/-! ### texts cut -/
def idxF : List UInt8 → List UInt8 → Option Nat
  | [], sub => if sub.isEmpty then some 0 else none
  | b :: l, sub => if sub.isPrefixOf (b :: l) then some 0 else (idxF l sub).map (· + 1)
theorem idxF_is : ∀ (l sub : List UInt8), Lib.index l sub = match idxF l sub with
    | some k => (k : Int)
    | none => -1
  | [], sub => by unfold Lib.index idxF; split <;> rfl
  | b :: l, sub => by
    unfold Lib.index idxF
    split
    · rfl
    · rw [idxF_is l sub]
      cases idxF l sub with
      | none => rfl
      | some k =>
        have : (((k : Nat) : Int) == -1) = false := by rw [beq_eq_false_iff_ne]; omega
        simp only [this]
        rfl
def cutF (s sep : List UInt8) : List UInt8 × List UInt8 × Bool := match idxF s sep with
  | some k => (s.take k, s.drop (k + sep.length), true)
  | none => (s, [], false)
theorem cutF_is (s sep : List UInt8) : Lib.cut s sep = cutF s sep := by
  unfold Lib.cut cutF
  rw [idxF_is]
  cases idxF s sep with
  | none => rfl
  | some k =>
    show (if (0 : Int) ≤ (k : Int) then _ else _) = _
    rw [if_pos (by omega)]
    rfl
def byA (l : List UInt8) : ByteArray := ⟨l.toArray⟩
def cutV (s sep : ByteArray) : V := .tup [.s (.str (byA (cutF s.data.toList sep.data.toList).1)), .s (.str (byA (cutF s.data.toList sep.data.toList).2.1)), .s (.bool (cutF s.data.toList sep.data.toList).2.2)]
def cutS : Eng.Spec
  | [.s (.str s), .s (.str sep)] => .ite none (decide (s.size < 4294967281)) (.ret (cutV s sep)) .fail
  | _ => .fail
theorem cutS_is {args : List V} {v : V} (h : (cutS args).eval = some v) : ∃ s sep, args = [.s (.str s), .s (.str sep)] ∧ s.size < 4294967281 ∧ v = cutV s sep := by
  unfold cutS at h
  split at h
  · obtain ⟨h1, h2⟩ := ite_T' h
    exact ⟨_, _, rfl, of_decide_eq_true h1, (Option.some.inj h2).symm⟩
  · cases h
theorem cutS_ok : SpecOk Tryd.prog 27 cutS := SpecOk.of_callsG Tryd.func27 (by kernel_rfl) (by kernel_rfl)
  (fun args v h => by obtain ⟨s, sep, rfl, -, rfl⟩ := cutS_is h; exact ⟨rfl, rfl⟩)
  (fun args v w hG h => by
    obtain ⟨s, sep, rfl, hs, rfl⟩ := cutS_is h
    obtain ⟨m, hm⟩ := hG.len
    have c := Any.strings_Cut Tryd.lays145 s sep m w hs hm
    rw [cutF_is] at c
    refine c.mono ?_
    rintro e w' ⟨rfl, n, rfl⟩
    exact ⟨rfl, rfl, rfl, rfl, Nat.le_refl _, fun _ _ => rfl⟩)
def preV (s p : ByteArray) : V := .tup [.s (.str (byA (Lib.trimPrefix s.data.toList p.data.toList))), .s (.bool (Lib.hasPrefix s.data.toList p.data.toList))]
def preS : Eng.Spec
  | [.s (.str s), .s (.str p)] => .ret (preV s p)
  | _ => .fail
theorem preS_is {args : List V} {v : V} (h : (preS args).eval = some v) : ∃ s p, args = [.s (.str s), .s (.str p)] ∧ v = preV s p := by
  unfold preS at h
  split at h
  · exact ⟨_, _, rfl, (Option.some.inj h).symm⟩
  · cases h
theorem preS_ok : SpecOk Tryd.prog 26 preS := SpecOk.of_callsG Tryd.func26 (by kernel_rfl) (by kernel_rfl)
  (fun args v h => by obtain ⟨s, sep, rfl, rfl⟩ := preS_is h; exact ⟨rfl, rfl⟩)
  (fun args v w hG h => by
    obtain ⟨s, p, rfl, rfl⟩ := preS_is h
    refine (Any.strings_CutPrefix Tryd.lays103 s p w).mono ?_
    rintro e w' ⟨rfl, rfl⟩
    exact ⟨rfl, Below.refl _ _⟩)
/-! ### texts trimmed of one letter -/
def dropW (c : UInt8) : List UInt8 → List UInt8
  | [] => []
  | b :: l => if b = c then dropW c l else b :: l
theorem dropW_is (c : UInt8) : ∀ l : List UInt8, l.dropWhile (· == c) = dropW c l
  | [] => rfl
  | b :: l => by
    unfold dropW
    rw [List.dropWhile_cons]
    by_cases h : b = c
    · rw [if_pos h, if_pos (by simpa using h)]; exact dropW_is c l
    · rw [if_neg h, if_neg (by simpa using h)]
def revF (l a : List UInt8) : List UInt8 := match l with
  | [] => a
  | b :: l => revF l (b :: a)
theorem revF_is : ∀ (l a : List UInt8), revF l a = l.reverse ++ a
  | [], a => rfl
  | b :: l, a => by unfold revF; rw [revF_is l]; simp
def trR (l : List UInt8) (c : UInt8) : List UInt8 := revF (dropW c (revF l [])) []
theorem trR_is (l : List UInt8) (c : UInt8) : Lib.trimRightB l c = trR l c := by
  unfold Lib.trimRightB trR
  rw [revF_is, revF_is, dropW_is]; simp
def oneOf (s : ByteArray) : Option UInt8 := match s.data.toList with
  | [c] => if c.toNat < 128 then some c else none
  | _ => none
theorem oneOf_is {s : ByteArray} {c : UInt8} (h : oneOf s = some c) : s = ⟨#[c]⟩ ∧ c.toNat < 128 := by
  unfold oneOf at h
  split at h
  · rename_i x hx
    split at h
    · rename_i hc
      cases h
      refine ⟨?_, hc⟩
      obtain ⟨d⟩ := s
      have hx : d.toList = [c] := hx
      congr 1
      apply Array.ext'
      rw [hx]
    · cases h
  · cases h
def trimRS : Eng.Spec
  | [.s (.str s), .s (.str p)] => match oneOf p with
    | some c => .ite none (decide (s.size ≤ 9223372036854775807)) (.ret (.s (.str (byA (trR s.data.toList c))))) .fail
    | none => .fail
  | _ => .fail
theorem trimRS_is {args : List V} {v : V} (h : (trimRS args).eval = some v) : ∃ s c, args = [.s (.str s), .s (.str ⟨#[c]⟩)] ∧ c.toNat < 128 ∧ s.size ≤ 9223372036854775807 ∧ v = .s (.str (byA (trR s.data.toList c))) := by
  unfold trimRS at h
  split at h
  · split at h
    · rename_i hc
      obtain ⟨rfl, hc'⟩ := oneOf_is hc
      obtain ⟨h1, h2⟩ := ite_T' h
      exact ⟨_, _, rfl, hc', of_decide_eq_true h1, (Option.some.inj h2).symm⟩
    · cases h
  · cases h
theorem trimRS_ok : SpecOk Tryd.prog 46 trimRS := SpecOk.of_callsG Tryd.func46 (by kernel_rfl) (by kernel_rfl)
  (fun args v h => by obtain ⟨s, c, rfl, -, -, rfl⟩ := trimRS_is h; exact ⟨rfl, rfl⟩)
  (fun args v w hG h => by
    obtain ⟨s, c, rfl, hc, hs, rfl⟩ := trimRS_is h
    have k := Any.strings_TrimRight_one Tryd.lays162 s c hc w hs
    rw [trR_is] at k
    refine k.mono ?_
    rintro e w' ⟨rfl, rfl⟩
    exact ⟨rfl, Below.refl _ _⟩)
def trB (l : List UInt8) (c : UInt8) : List UInt8 := dropW c (trR l c)
theorem trB_is (l : List UInt8) (c : UInt8) : Lib.trimB l c = trB l c := by
  unfold Lib.trimB trB Lib.trimLeftB
  rw [trR_is, dropW_is]
def trimS : Eng.Spec
  | [.s (.str s), .s (.str p)] => match oneOf p with
    | some c => .ite none (decide (s.size ≤ 9223372036854775807)) (.ret (.s (.str (byA (trB s.data.toList c))))) .fail
    | none => .fail
  | _ => .fail
theorem trimS_is {args : List V} {v : V} (h : (trimS args).eval = some v) : ∃ s c, args = [.s (.str s), .s (.str ⟨#[c]⟩)] ∧ c.toNat < 128 ∧ s.size ≤ 9223372036854775807 ∧ v = .s (.str (byA (trB s.data.toList c))) := by
  unfold trimS at h
  split at h
  · split at h
    · rename_i hc
      obtain ⟨rfl, hc'⟩ := oneOf_is hc
      obtain ⟨h1, h2⟩ := ite_T' h
      exact ⟨_, _, rfl, hc', of_decide_eq_true h1, (Option.some.inj h2).symm⟩
    · cases h
  · cases h
theorem trimS_ok : SpecOk Tryd.prog 31 trimS := SpecOk.of_callsG Tryd.func31 (by kernel_rfl) (by kernel_rfl)
  (fun args v h => by obtain ⟨s, c, rfl, -, -, rfl⟩ := trimS_is h; exact ⟨rfl, rfl⟩)
  (fun args v w hG h => by
    obtain ⟨s, c, rfl, hc, hs, rfl⟩ := trimS_is h
    have k := Any.strings_Trim_one Tryd.lays160 s c hc w hs
    rw [trB_is] at k
    refine k.mono ?_
    rintro e w' ⟨rfl, hw⟩
    refine ⟨rfl, ?_⟩
    rcases hw with rfl | rfl
    · exact Below.refl _ _
    · exact (Below.refl _ _).drew)
end Go.Proofs.YtdangjhbkffbnaaDoor.Txt

/- Texts: the library's builder of texts, as the machine has it. -/
namespace Go.Proofs.YtdangjhbkffbnaaDoor.Txt
open Go.Eng Go.RowKit Go.Shelf
set_option linter.unusedVariables false
set_option linter.unusedSimpArgs false
set_option maxRecDepth 100000
theorem lays240 : Lays.n240 Tryd.prog Tryd.lays156_ren := { Tryd.lays156 with }
abbrev TB : TypeId := 73
def ccS : Eng.Obj
  | [.ptr 0 0], [(0, .cells t [.nilPtr, .nilSl])] => if t = TB then .ret (.tup [], [(0, .cells t [.ptr 0 0, .nilSl])]) else .fail
  | [.ptr 0 0], [(0, .cells t [.ptr 0 0, .nilSl])] => if t = TB then .ret (.tup [], [(0, .cells t [.ptr 0 0, .nilSl])]) else .fail
  | [.ptr 0 0], [(0, .cells t [.ptr 0 0, .sub 1 1 0 n]), (1, .lst true t' [.int .u8] l)] => if t = TB then .ret (.tup [], [(0, .cells t [.ptr 0 0, .sub 1 1 0 n]), (1, .lst true t' [.int .u8] l)]) else .fail
  | _, _ => .fail
theorem owned_of_outO {h : Eng.Heap} {v : V} {h' : Eng.Heap} (ho : outO h v h' = true) {i : Nat} {b : Blk} (e : Eng.look h' i = some b) : b.owned = true := by
  unfold outO at ho
  rw [Bool.and_eq_true, List.all_eq_true] at ho
  have := ho.2 _ (mem_of_look e)
  simp only [Bool.and_eq_true] at this
  exact this.1.1
theorem heap_setCell {w : World} {b : Nat} {c : Array Value} {t : TypeId} (hb : w.heap[b]? = some (.cells c t (0, 0))) (j : Nat) (v : Value) : (w.setCell ⟨b, j, none⟩ v).heap[b]? = some (.cells (c.setIfInBounds j v) t (0, 0)) := by
  simp [World.setCell, Array.getElem?_modify, hb]
theorem heap_setCell_ne {w : World} {b k : Nat} (hk : k ≠ b) (j : Nat) (v : Value) : (w.setCell ⟨b, j, none⟩ v).heap[k]? = w.heap[k]? := by
  simp [World.setCell, Array.getElem?_modify, Ne.symm hk]
theorem ccS_ok : ObjOk Tryd.prog 62 ccS := by
  refine ⟨⟨_, Tryd.func62, by kernel_rfl, by kernel_rfl⟩, fun args h v h' ν w hG hgs hok hb hr hv ho => ?_⟩
  have used : ∀ (t : TypeId) (r : List V) (hp : Eng.Heap), t = TB → (∀ i b, Eng.look hp i = some b → b.owned = true) → Eng.look hp 0 = some (.cells t (.ptr 0 0 :: r)) → Rel ν (Eng.look hp) w → Calls Tryd.prog 62 (denL ν [.ptr 0 0]).toArray w fun e w' => ∃ ν' : Eng.Env, e = .returned ((V.tup []).den ν') ∧ (∀ i, inH hp i = true → (ν' i).core = (ν i).core) ∧ Rel ν' (Eng.look hp) w' ∧
      (∀ i b, Eng.look hp i = some b → ∀ k, (ν' i).fp k → ownFp ν hp k ∨ w.heap.size ≤ k) ∧ Prog w w' (ownFp ν hp) := by
    intro t r hp ht ho hl hr
    obtain ⟨d0, d1, d2⟩ := hr.den 0 _ hl
    have hc : w.cell? ⟨(ν 0).core.blk, 0, none⟩ = some (.pointer (some ⟨(ν 0).core.blk, 0, none⟩)) := by
      rw [Lib.cell_of_heap d2]
      simp [denL, V.den, d0]
    have ea : (denL ν [.ptr 0 0]).toArray = #[.pointer (some ⟨(ν 0).core.blk, 0, none⟩)] := by simp [denL, V.den, d0]
    rw [ea]
    refine (Any.Builder_copyCheck_used lays240 Tryd.Builder_Extra_156.toX72 _ w hc).mono ?_
    rintro e w' ⟨rfl, rfl⟩
    exact ⟨ν, rfl, fun _ _ => rfl, hr, fun i b e k hk => .inl ⟨i, b, e, ho i b e, hk⟩, Prog.refl _ _⟩
  unfold ccS at hv
  split at hv
  · split at hv
    · rename_i t ht
      obtain ⟨rfl, rfl⟩ : V.tup [] = v ∧ [(0, Blk.cells t [.ptr 0 0, .nilSl])] = h' := by
        have := Option.some.inj hv
        exact ⟨congrArg Prod.fst this, congrArg Prod.snd this⟩
      obtain ⟨d0, d1, d2⟩ := hr.den 0 _ rfl
      have d2 : w.heap[(ν 0).core.blk]? = some (.cells #[.pointer none, .slice none 0 0] t (0, 0)) := d2
      have ea : (denL ν [.ptr 0 0]).toArray = #[.pointer (some ⟨(ν 0).core.blk, 0, none⟩)] := by simp [denL, V.den, d0]
      rw [ea]
      have hsh : w.shape? (ν 0).core.blk = some (t, 2) := by simp [World.shape?, d2]
      refine (Any.Builder_copyCheck_fresh lays240 Tryd.Builder_Extra_156.toX72 _ w (by rw [Lib.cell_of_heap d2]; rfl) (by rw [hsh, ht]; rfl) (Lib.frozen_of_heap d2 0)).mono ?_
      rintro e w' ⟨rfl, rfl⟩
      have one : ∀ i b, Eng.look [(0, Blk.cells t [.ptr 0 0, .nilSl])] i = some b → i = 0 ∧ b = .cells t [.ptr 0 0, .nilSl] := by
        intro i b e
        simp only [Eng.look] at e
        split at e
        · rename_i q
          exact ⟨(by simpa using q : 0 = i).symm, (Option.some.inj e).symm⟩
        · cases e
      have own : ∀ k, (ν 0).fp k → ownFp ν [(0, Blk.cells t [.nilPtr, .nilSl])] k := fun k hk => ⟨0, _, rfl, rfl, hk⟩
      refine ⟨ν, rfl, fun _ _ => rfl, ⟨fun i b e => ?_, fun i j bi bj ne ei ej => absurd ((one i bi ei).1.trans (one j bj ej).1.symm) ne⟩, fun i b e k hk => ?_, rfl, rfl, rfl, ?_, fun k hk hn => ?_⟩
      · obtain ⟨rfl, rfl⟩ := one i b e
        refine ⟨d0, d1, ?_⟩
        rw [heap_setCell d2]
        simp [denL, V.den, d0]
      · obtain ⟨rfl, rfl⟩ := one i b e
        exact .inl (own k hk)
      · simp [World.setCell]
      · exact heap_setCell_ne (fun q => hn (own k ((d1 k).2 q))) _ _
    · cases hv
  · split at hv
    · rename_i t ht
      obtain ⟨rfl, rfl⟩ : V.tup [] = v ∧ [(0, Blk.cells t [.ptr 0 0, .nilSl])] = h' := by
        have := Option.some.inj hv
        exact ⟨congrArg Prod.fst this, congrArg Prod.snd this⟩
      exact used t [.nilSl] _ ht (fun i b e => owned_of_outO ho e) rfl hr
    · cases hv
  · split at hv
    · rename_i t n t' l ht
      obtain ⟨rfl, rfl⟩ : V.tup [] = v ∧ [(0, Blk.cells t [.ptr 0 0, .sub 1 1 0 n]), (1, .lst true t' [.int .u8] l)] = h' := by
        have := Option.some.inj hv
        exact ⟨congrArg Prod.fst this, congrArg Prod.snd this⟩
      exact used t [.sub 1 1 0 n] _ ht (fun i b e => owned_of_outO ho e) rfl hr
    · cases hv
  · cases hv
/-! ### the text at the end -/
theorem lies_off {P : Program} {e : TypeId} (hc : P.cellsOf e = 1) (count off n : Nat) (hn : off + n ≤ count) (h0 : 0 < n) : liesAt P P.depth e count off e n = true := by
  have hd : P.depth = (2 * (P.types.size + Made.depth) + 1) + 1 := rfl
  rw [hd]
  simp only [liesAt, Bool.or_eq_true]
  left
  rw [hd]
  simp [rowAt, hc, sameLayout, hn, Nat.mod_one]
theorem unsafe_text {P : Program} (w : World) (pt it ty e : TypeId) (hp : P.underlying pt = some (.pointer e)) (hc : P.cellsOf e = 1) (g off cells : Nat) (hsh : w.shape? g = some (e, cells)) (l : List UInt8) (h0 : l ≠ []) (hn : off + l.length ≤ cells) (h63 : l.length ≤ 9223372036854775807)
    (hcell : ∀ (j : Nat) x, l[j]? = some x → w.cell? ((⟨g, off, none⟩ : Addr).add j) = some (.int .u8 x.toNat)) :
    (Builtin.unsafeString_ #[pt, it] ty #[.pointer (some ⟨g, off, none⟩), .int .i64 l.length]).run P w = .ok (.string ⟨l.toArray⟩) (w.freeze ⟨g, off, none⟩ l.length) := by
  have hl : l.length ≠ 0 := by simpa using h0
  have hlb := Lib.run_loadBytes (P := P) w l ⟨g, off, none⟩ .empty hcell
  have hlies := lies_off (P := P) hc (cells / P.cellsOf e) off l.length (by rw [hc]; simpa using hn) (by omega)
  have h63' : ¬ (9223372036854775807 : Int) < (l.length : Int) := by omega
  have hmax : IntKind.i64.max = 9223372036854775807 := rfl
  have hneg : ¬ (l.length : Int) < 0 := by omega
  conv in (Builtin.unsafeString_ _ _ _) => whnf
  generalize (IntKind.max .i64).decLt (l.length : Int) = D
  cases D with
  | isTrue h => exact absurd h h63'
  | isFalse h =>
    dsimp only
    simp [hl, variablesAt, hsh, elemOf, run_underlying hp, hlies, hlb]
set_option maxHeartbeats 2000000 in
theorem text_at {P : Program} {ρ : Go.Shelf.Ren} (L : Lays.n169 P ρ) (X : Builder.Extra P ρ) (b g off cap : Nat) (p : Value) (cur : Array Value) (l : List UInt8) (w : World) (h0 : l ≠ []) (hb : w.heap[b]? = some (.cells #[p, .slice (some ⟨g, off, none⟩) l.length cap] (ρ.t 72) (0, 0)))
    (hg : w.heap[g]? = some (.cells cur (ρ.t 5) (0, 0))) (hcap : l.length ≤ cap) (hm : cap ≤ maxLen) (hcur : off + cap ≤ cur.size) (hx : ∀ (j : Nat) x, l[j]? = some x → cur[off + j]? = some (.int .u8 x.toNat)) :
    Calls P (ρ.f 169) #[.pointer (some ⟨b, 0, none⟩)] w fun e w' => e = .returned (.string ⟨l.toArray⟩) ∧ w' = w.drew.freeze ⟨g, off, none⟩ l.length := by
  have hl0 : l.length ≠ 0 := by simpa using h0
  have c1 : w.drew.cell? ⟨b, 1, none⟩ = some (.slice (some ⟨g, off, none⟩) l.length cap) := by
    rw [Lib.cell_of_heap (w := w.drew) hb]; rfl
  have hSD : (Builtin.unsafeSliceData_ #[(ρ.t 37)] (ρ.t 127) #[.slice (some ⟨g, off, none⟩) l.length cap]).run P w.drew = .ok (.pointer (some ⟨g, off, none⟩)) w.drew :=
    Lib.run_unsafeSliceData_row _ _ _ _ _ _ (by omega)
  have hUS : (Builtin.unsafeString_ #[(ρ.t 127), (ρ.t 3)] (ρ.t 9) #[.pointer (some ⟨g, off, none⟩), .int .i64 l.length]).run P w.drew = .ok (.string ⟨l.toArray⟩) (w.drew.freeze ⟨g, off, none⟩ l.length) := by
    refine unsafe_text w.drew (ρ.t 127) (ρ.t 3) (ρ.t 9) (ρ.t 5) L.t127 X.cellsByte g off cur.size (by have hg' : w.drew.heap[g]? = some (.cells cur (ρ.t 5) (0, 0)) := hg; simp [World.shape?, hg']) l h0 (by omega) (by unfold maxLen at hm; omega) ?_
    intro j x hj
    rw [addr_add, Lib.cell_of_heap (w := w.drew) hg]
    exact hx j x hj
  have mixed := L.mixed
  have t72 := L.t72; have a72 := L.a72; have z72 := L.z72; have v72 := L.v72; have u72 := run_underlying L.t72
  have t70 := L.t70; have a70 := L.a70; have z70 := L.z70; have v70 := L.v70; have u70 := run_underlying L.t70
  have t37 := L.t37; have a37 := L.a37; have z37 := L.z37; have v37 := L.v37; have u37 := run_underlying L.t37
  have t127 := L.t127; have a127 := L.a127; have z127 := L.z127; have v127 := L.v127; have u127 := run_underlying L.t127
  have t3 := L.t3; have a3 := L.a3; have z3 := L.z3; have v3 := L.v3; have u3 := run_underlying L.t3
  have t9 := L.t9; have a9 := L.a9; have z9 := L.z9; have v9 := L.v9; have u9 := run_underlying L.t9
  have t5 := X.t5; have a5 := X.a5; have z5 := X.z5; have v5 := X.v5; have u5 := run_underlying X.t5
  go_enter L.f169, Body.n169_ntmps ρ
  go_wp2
  go_region_o
  all_goals (go_wp2; go_ret; exact ⟨rfl, rfl⟩)
def byB (l : List Int) : Bool := l.all fun x => decide (0 ≤ x) && decide (x < 256)
def txtS : Eng.Obj
  | [.ptr 0 0], [(0, .cells t [p, .sub 1 1 0 n]), (1, .lst true t' [.int .u8] l)] => if t = TB ∧ t' = 5 then .ite none (byB l && (decide (n = List.length l) && decide (0 < n))) (.ret (.s (.str (rowStr l)), [])) .fail else .fail
  | _, _ => .fail
theorem byte_back {l : List Int} (h : byB l = true) (j : Nat) (x : UInt8) (hx : (l.map fun n => UInt8.ofNat n.toNat)[j]? = some x) : l[j]? = some ((x.toNat : Nat) : Int) := by
  rw [List.getElem?_map] at hx
  obtain ⟨n, hn, rfl⟩ := Option.map_eq_some_iff.1 hx
  have := List.all_eq_true.1 h n (List.mem_of_getElem? hn)
  rw [Bool.and_eq_true, decide_eq_true_eq, decide_eq_true_eq] at this
  rw [hn]
  congr 1
  rw [UInt8.toNat_ofNat']
  omega
theorem byte_cell {l : List Int} {j : Nat} {n : Int} (h : l[j]? = some n) : (rowsV [.int .u8] (u8 l))[j]? = some (Value.int .u8 n) := by
  rw [rowsV_u8, List.getElem?_map, h]; rfl
theorem txtS_ok : ObjOk Tryd.prog 41 txtS := by
  refine ⟨⟨_, Tryd.func41, by kernel_rfl, by kernel_rfl⟩, fun args h v h' ν w hG hgs hok hb hr hv ho => ?_⟩
  unfold txtS at hv
  split at hv
  · rename_i t p n t' l
    split at hv
    · rename_i ht
      obtain ⟨rfl, rfl⟩ := ht
      obtain ⟨hc, hv⟩ := ite_T' hv
      rw [Bool.and_eq_true, Bool.and_eq_true, decide_eq_true_eq, decide_eq_true_eq] at hc
      obtain ⟨c1, c2, c3⟩ := hc
      obtain ⟨rfl, rfl⟩ : V.s (.str (rowStr l)) = v ∧ ([] : Eng.Heap) = h' := by
        have := Option.some.inj hv
        exact ⟨congrArg Prod.fst this, congrArg Prod.snd this⟩
      obtain ⟨d0, d1, d2⟩ := hr.den 0 _ rfl
      obtain ⟨e0, e1⟩ := hr.den 1 (.lst true 5 [.int .u8] l) rfl
      have rl : (rowsV [.int .u8] l).length = l.length := by rw [rowsV_length]; simp
      rcases e0.2 with ⟨_, q⟩ | ⟨g, off, cap, cur, q1, q2, q3, q4, q5, q6, q7⟩
      · omega
      · simp only [Value.slice.injEq, true_and] at q1
        obtain ⟨qa, qc⟩ := q1
        have q6 : off + cap ≤ cur.size := by simpa using q6
        have q7 : (cur.toList.drop off).take l.length = rowsV [.int .u8] l := by simpa using q7
        have d2 : w.heap[(ν 0).core.blk]? = some (.cells #[p.den ν, .slice (some ⟨g, off, none⟩) n cap] TB (0, 0)) := by
          rw [d2]
          congr 2
          simp [denL, V.den, qa, qc, addr_add]
        have ea : (denL ν [.ptr 0 0]).toArray = #[.pointer (some ⟨(ν 0).core.blk, 0, none⟩)] := by simp [denL, V.den, d0]
        rw [ea]
        have hb8 : (l.map fun n => UInt8.ofNat n.toNat).length = n := by rw [List.length_map, c2]
        rw [← hb8] at d2
        refine (text_at Tryd.lays169 Tryd.Builder_Extra_169 _ g off cap _ cur (l.map fun n => UInt8.ofNat n.toNat) w (fun q => by rw [q] at hb8; simp at hb8; omega) d2 q3 (by rw [hb8]; omega) q5 q6 (fun j x hx => ?_)).mono ?_
        · have hj : j < l.length := by
            have := (List.getElem?_eq_some_iff.1 hx).1
            simpa using this
          have hl := byte_back c1 j x hx
          have : (rowsV [.int .u8] l)[j]? = some (Value.int .u8 ((x.toNat : Nat) : Int)) := by
            exact byte_cell hl
          rw [← q7, List.getElem?_take_of_lt hj, List.getElem?_drop, Array.getElem?_toList] at this
          exact this
        · rintro e w' ⟨rfl, rfl⟩
          have gfp : ownFp ν [(0, .cells TB [p, .sub 1 1 0 n]), (1, .lst true 5 [.int .u8] l)] g := ⟨1, _, rfl, rfl, (e1 g).2 ⟨_, qa, rfl⟩⟩
          refine ⟨ν, rfl, fun _ _ => rfl, ⟨fun i b e => (by cases e), fun i j bi bj ne ei ej => (by cases ei)⟩, fun i b e => (by cases e), ?_⟩
          refine ⟨?_, ?_, ?_, ?_, fun k hk hn => ?_⟩
          · unfold World.freeze; split <;> rfl
          · unfold World.freeze; split <;> rfl
          · unfold World.freeze; split <;> rfl
          · unfold World.freeze
            split
            · exact Nat.le_refl _
            · show w.heap.size ≤ (Array.modify w.heap _ _).size
              rw [Array.size_modify]; exact Nat.le_refl _
          · unfold World.freeze
            split
            · rfl
            · simp only [Array.getElem?_modify]
              rw [if_neg (fun q => hn (by rw [← q]; exact gfp))]
              rfl
    · cases hv
  · cases hv
end Go.Proofs.YtdangjhbkffbnaaDoor.Txt

/- Layer 27: the library's Join; what is told of a few: closed runs. -/
namespace Go.Proofs.YtdangjhbkffbnaaDoor.Rep
open Go.Eng Go.RowKit Go.Proofs.YtdangjhbkffbnaaDoor.Txt
set_option linter.unusedVariables false
set_option linter.unusedSimpArgs false
set_option maxRecDepth 100000
/-- texts, one behind the other, with another between -/
def joinF : List (List UInt8) → List UInt8 → List UInt8
  | [], _ => []
  | [x], _ => x
  | x :: y :: r, s => x ++ (s ++ joinF (y :: r) s)
theorem joinF_is : ∀ (xs : List (List UInt8)) (s : List UInt8), Lib.join xs s = joinF xs s
  | [], s => rfl
  | [x], s => Lib.join_one x s
  | x :: y :: r, s => by
    show _ = x ++ (s ++ joinF (y :: r) s)
    rw [← joinF_is (y :: r) s, Lib.join_cons, Lib.join_cons]
    simp [Lib.joinTail]
def joV (l : List ByteArray) (s : ByteArray) : ByteArray := byA (joinF (l.map fun x => x.data.toList) s.data.toList)
def joinS : Eng.Spec
  | [.orow t [.str] l, .s (.str s)] => if t = 9 then .ite none (decide (List.length l ≤ 100000) && decide ((joinF (List.map (fun x : ByteArray => x.data.toList) l) s.data.toList).length ≤ 140737488355328)) (.ret (.s (.str (joV l s)))) .fail else .fail
  | _ => .fail
theorem rowsV_str : ∀ (l : List (Row [.str])) (j : Nat) (x : ByteArray), l[j]? = some x → (rowsV [.str] l)[j]? = some (.string x)
  | [], j, x, h => by simp at h
  | a :: r, 0, x, h => by
    rw [rowsV_cons]
    have h : some a = some x := h
    obtain rfl := Option.some.inj h
    rfl
  | a :: r, j + 1, x, h => by
    rw [rowsV_cons]
    exact rowsV_str r j x (by simpa using h)
theorem joinS_ok : SpecOk Tryd.prog 65 joinS := by
  refine ⟨⟨_, Tryd.func65, by kernel_rfl, by kernel_rfl⟩, fun args v xs w hG hrow hv hrv hh => ?_⟩
  unfold joinS at hv
  split at hv
  · rename_i t l s
    split at hv
    · rename_i ht
      subst ht
      obtain ⟨hb, hv⟩ := ite_T' hv
      rw [Bool.and_eq_true, decide_eq_true_eq, decide_eq_true_eq] at hb
      obtain ⟨h1, h2⟩ := hb
      obtain rfl := Option.some.inj hv
      obtain ⟨x, rfl, hx⟩ : ∃ x, xs = [x, .string s] ∧ holdsP 0 w (.orow 9 [.str] l) x := by
        match xs, hh with
        | [], hh => exact hh.elim
        | [x], hh => exact hh.2.elim
        | [x, y], hh => exact ⟨x, by rw [show y = .string s from (holdsP_flat (v := .s (.str s)) rfl).1 hh.2.1], hh.1⟩
        | _ :: _ :: _ :: _, hh => exact hh.2.2.elim
      obtain ⟨at_, cap, rfl, ⟨hc, hc0⟩, hr⟩ := hx
      have key : Calls Tryd.prog 65 #[.slice at_ l.length cap, .string s] w fun e w' => e = .returned (.string (joV l s)) ∧ Below w.heap.size w w' := by
        cases l with
        | nil =>
          refine (Any.strings_Join_none Tryd.lays156 Tryd.Builder_Extra_156 at_ cap s w).mono ?_
          rintro e w' ⟨rfl, rfl⟩
          exact ⟨rfl, Below.refl _ _⟩
        | cons a r =>
          obtain ⟨b0, hb0, hcell⟩ := hr 0 _ (rowsV_str (a :: r) 0 a rfl)
          obtain ⟨bk, o, sp⟩ := b0
          have hlt := cell_lt hcell
          rw [add_block] at hlt
          have hsp : sp = none := by
            cases sp with
            | none => rfl
            | some q =>
              exfalso
              have e0 : (Addr.mk bk o (some q)).add 0 = ⟨bk, o, some q⟩ := by unfold Addr.add; simp
              rw [e0] at hcell
              unfold World.cell? at hcell
              split at hcell
              · simp at hcell
              · cases hcell
          subst hsp
          subst hb0
          have cj := Any.strings_Join Tryd.lays156 Tryd.Builder_Extra_156 bk o cap (a :: r) s w (fun j x hj => by
            obtain ⟨b1, hb1, hc1⟩ := hr j _ (rowsV_str (a :: r) j x hj)
            cases hb1
            rw [addr_add] at hc1; exact hc1) hlt (Nat.le_trans h1 (by decide)) hc (by rw [joinF_is]; exact h2)
          refine cj.mono ?_
          rintro e w' ⟨rfl, hw⟩
          refine ⟨?_, hw⟩
          rw [joinF_is]; rfl
      refine key.mono ?_
      rintro e w' ⟨rfl, hw⟩
      exact ⟨_, rfl, (holds_flat (v := .s (.str (joV l s))) rfl).2 rfl, hw⟩
    · cases hv
  · cases hv
theorem mixed : Tryd.prog.follows .mixedOrders = true := by kernel_rfl
theorem eA : EOk Tryd.prog [anyK] := ⟨⟨by kernel_rfl, by kernel_rfl⟩, trivial⟩
noncomputable def R0 : Cfg := ⟨Tryd.prog, lookG [(63, .val itoaS), (45, .val fmtS), (65, .val joinS)], [anyK], 0⟩
theorem R0_ok : R0.Ok := Cfg.ok ⟨itoaS_ok, fmtS_ok, joinS_ok, trivial⟩ eA
noncomputable def jnX : Eng.Spec := execS R0 (rounds R0 9 1) 47
theorem jnX_ok : SpecOk Tryd.prog 47 jnX := execS_rounds R0_ok mixed 9 1 Tryd.func47 (by kernel_rfl) (by kernel_rfl)
noncomputable def R1 : Cfg := ⟨Tryd.prog, lookG [(47, .val jnX)], [anyK], 0⟩
theorem R1_ok : R1.Ok := Cfg.ok ⟨jnX_ok, trivial⟩ eA
noncomputable def lnE : Eng.Obj := execO R1 (rounds R1 4 1) 20
theorem lnE_ok : ObjOk Tryd.prog 20 lnE := execO_rounds R1_ok mixed 4 1 Tryd.func20 (by kernel_rfl) (by kernel_rfl)
noncomputable def smE : Eng.Obj := execO R1 (rounds R1 4 1) 22
theorem smE_ok : ObjOk Tryd.prog 22 smE := execO_rounds R1_ok mixed 4 1 Tryd.func22 (by kernel_rfl) (by kernel_rfl)
noncomputable def enE : Eng.Obj := execO R1 (rounds R1 4 1) 24
theorem enE_ok : ObjOk Tryd.prog 24 enE := execO_rounds R1_ok mixed 4 1 Tryd.func24 (by kernel_rfl) (by kernel_rfl)
noncomputable def R2 : Cfg := ⟨Tryd.prog, lookG [(20, .obj (Eng.Obj.plain lnE)), (22, .obj (Eng.Obj.plain smE)), (24, .obj (Eng.Obj.plain enE))], [anyK], 0⟩
theorem R2_ok : R2.Ok := Cfg.ok ⟨lnE_ok.plain, smE_ok.plain, enE_ok.plain, trivial⟩ eA
noncomputable def rtX : Eng.Spec := execS R2 noLoops 19
theorem rtX_ok : SpecOk Tryd.prog 19 rtX := execS_plain R2_ok mixed Tryd.func19 (by kernel_rfl) (by kernel_rfl)
end Go.Proofs.YtdangjhbkffbnaaDoor.Rep

/- Layer 27: what is told of a few, run. -/
namespace Go.Proofs.YtdangjhbkffbnaaDoor.Rep
open Go.Eng Go.RowKit Go.Proofs.YtdangjhbkffbnaaDoor.Txt
set_option linter.unusedVariables false
set_option linter.unusedSimpArgs false
set_option maxRecDepth 100000
theorem rt_run : (rtX []).eval = some (.s (.bool true)) := by kernel_rfl
def rtS : Eng.Spec
  | [] => .ret (.s (.bool true))
  | _ => .fail
theorem rtS_ok : SpecOk Tryd.prog 19 rtS := rtX_ok.of_den fun args v hfl h => by
  clear hfl
  unfold rtS at h
  split at h
  · obtain rfl := Option.some.inj h
    exact ⟨_, rt_run, ⟨rfl, rfl⟩, rfl⟩
  · cases h
end Go.Proofs.YtdangjhbkffbnaaDoor.Rep

/- Layer 27: Sum over any views; few. -/
namespace Go.Proofs.YtdangjhbkffbnaaDoor.Rep
open Go.Eng Go.RowKit Go.Proofs.YtdangjhbkffbnaaDoor.Txt
set_option linter.unusedVariables false
set_option linter.unusedSimpArgs false
set_option maxRecDepth 100000
noncomputable def H0 : Cfg := ⟨Tryd.prog, lookG [], [], 0⟩
theorem H0_ok : H0.Ok := Cfg.ok trivial trivial
abbrev Vw : Type := Int × Int × Bool × Bool × (Option Addr × Nat × Nat) × Int × Int × Int × Int × Int × Int × Int × Int × Int × Bool
abbrev KV : List K := [.int .i64, .int .i64, .bool, .bool, .sl, .int .i64, .int .i64, .int .i64, .int .i64, .int .i64, .int .i64, .int .i64, .int .i64, .int .i64, .bool]
noncomputable def lpSu : Code := loopAt Tryd.prog 22 0
structure PSu where (n : Nat) (l : List Vw) (z : Int)
structure ASu where (w : Int) (d : Int) (c : Int) (x : Int) (i : Int)
abbrev SSu : List (Nat × Src) := [(0, .same)]
def vsSu (p : PSu) (a : ASu) : List V := [iv a.w, iv a.d, iv a.c, iv a.x, .sub 0 15 0 p.n, iv p.z, iv a.i]
def bsSu (p : PSu) (a : ASu) : List Blk := [.lst false 44 [.int .i64, .int .i64, .bool, .bool, .sl, .int .i64, .int .i64, .int .i64, .int .i64, .int .i64, .int .i64, .int .i64, .int .i64, .int .i64, .bool] p.l]
noncomputable def FSu (p : PSu) (a : ASu) : St := mkSt [6,7,8,9,12,13,14] (keysR SSu) 4000 40 (vsSu p a) (bsSu p a)
abbrev SSux : List (Nat × Src) := [(0, .same)]
noncomputable def rdSu (p : PSu) (a : ASu) : T (Ex × St) := T.anon (roundX H0 noLoops lpSu [6,7,8,9,12,13,14] SSu [6,7,8,9] SSux 4000 4000 (mkSt [6,7,8,9,12,13,14] (keysR SSu) 4000 40 (vsSu p a) (bsSu p a)))
def decSu_v0 : V → Option ((Int))
  | .s (.int .i64 w) => some (w)
  | _ => none
theorem decSu_v0_ok (b : V) (x0 : (Int)) (h : decSu_v0 b = some x0) : b = iv (x0) := by
  unfold decSu_v0 at h
  split at h
  · cases h
    rfl
  · cases h
def decSu_v1 : V → Option ((Int))
  | .s (.int .i64 d) => some (d)
  | _ => none
theorem decSu_v1_ok (b : V) (x1 : (Int)) (h : decSu_v1 b = some x1) : b = iv (x1) := by
  unfold decSu_v1 at h
  split at h
  · cases h
    rfl
  · cases h
def decSu_v2 : V → Option ((Int))
  | .s (.int .i64 c) => some (c)
  | _ => none
theorem decSu_v2_ok (b : V) (x2 : (Int)) (h : decSu_v2 b = some x2) : b = iv (x2) := by
  unfold decSu_v2 at h
  split at h
  · cases h
    rfl
  · cases h
def decSu_v3 : V → Option ((Int))
  | .s (.int .i64 x) => some (x)
  | _ => none
theorem decSu_v3_ok (b : V) (x3 : (Int)) (h : decSu_v3 b = some x3) : b = iv (x3) := by
  unfold decSu_v3 at h
  split at h
  · cases h
    rfl
  · cases h
def decSu_v4 : V → Option ((Nat))
  | .sub 0 15 0 n => some (n)
  | _ => none
theorem decSu_v4_ok (b : V) (x4 : (Nat)) (h : decSu_v4 b = some x4) : b = .sub 0 15 0 (x4) := by
  unfold decSu_v4 at h
  split at h
  · cases h
    rfl
  · cases h
def decSu_v5 : V → Option ((Int))
  | .s (.int .i64 z) => some (z)
  | _ => none
theorem decSu_v5_ok (b : V) (x5 : (Int)) (h : decSu_v5 b = some x5) : b = iv (x5) := by
  unfold decSu_v5 at h
  split at h
  · cases h
    rfl
  · cases h
def decSu_v6 : V → Option ((Int))
  | .s (.int .i64 i) => some (i)
  | _ => none
theorem decSu_v6_ok (b : V) (x6 : (Int)) (h : decSu_v6 b = some x6) : b = iv (x6) := by
  unfold decSu_v6 at h
  split at h
  · cases h
    rfl
  · cases h
def decSu_b0 (b : Blk) : Option ((List Vw)) := rowsOf false 44 [.int .i64, .int .i64, .bool, .bool, .sl, .int .i64, .int .i64, .int .i64, .int .i64, .int .i64, .int .i64, .int .i64, .int .i64, .int .i64, .bool] b
theorem decSu_b0_ok (b : Blk) (y0 : (List Vw)) (h : decSu_b0 b = some y0) : b = .lst false 44 [.int .i64, .int .i64, .bool, .bool, .sl, .int .i64, .int .i64, .int .i64, .int .i64, .int .i64, .int .i64, .int .i64, .int .i64, .int .i64, .bool] (y0) := rowsOf_ok h
def decSu : List V → List Blk → Option (PSu × ASu)
  | [v0, v1, v2, v3, v4, v5, v6], [b0] => (decSu_v0 v0).bind fun x0 => (decSu_v1 v1).bind fun x1 => (decSu_v2 v2).bind fun x2 => (decSu_v3 v3).bind fun x3 => (decSu_v4 v4).bind fun x4 => (decSu_v5 v5).bind fun x5 => (decSu_v6 v6).bind fun x6 => (decSu_b0 b0).bind fun y0 => some (⟨(x4), (y0), (x5)⟩, ⟨(x0), (x1), (x2), (x3), (x6)⟩)
  | _, _ => none
theorem decSu_ok (l : List V) (b : List Blk) (d : PSu × ASu) (h : decSu l b = some d) : l = vsSu d.1 d.2 ∧ b = bsSu d.1 d.2 := by
  unfold decSu at h
  split at h
  · obtain ⟨x0, hx0, h⟩ := Option.bind_eq_some_iff.1 h
    obtain ⟨x1, hx1, h⟩ := Option.bind_eq_some_iff.1 h
    obtain ⟨x2, hx2, h⟩ := Option.bind_eq_some_iff.1 h
    obtain ⟨x3, hx3, h⟩ := Option.bind_eq_some_iff.1 h
    obtain ⟨x4, hx4, h⟩ := Option.bind_eq_some_iff.1 h
    obtain ⟨x5, hx5, h⟩ := Option.bind_eq_some_iff.1 h
    obtain ⟨x6, hx6, h⟩ := Option.bind_eq_some_iff.1 h
    obtain ⟨y0, hy0, h⟩ := Option.bind_eq_some_iff.1 h
    have ex0 := decSu_v0_ok _ _ hx0
    have ex1 := decSu_v1_ok _ _ hx1
    have ex2 := decSu_v2_ok _ _ hx2
    have ex3 := decSu_v3_ok _ _ hx3
    have ex4 := decSu_v4_ok _ _ hx4
    have ex5 := decSu_v5_ok _ _ hx5
    have ex6 := decSu_v6_ok _ _ hx6
    have ey0 := decSu_b0_ok _ _ hy0
    cases h
    subst ex0 ex1 ex2 ex3 ex4 ex5 ex6 ey0
    exact ⟨rfl, rfl⟩
  · cases h
noncomputable def rgSu : Nat := (firstReg lpSu).getD 0
theorem rgSu_is : firstReg lpSu = some rgSu := by kernel_rfl
noncomputable def lpFw : Code := loopAt Tryd.prog 18 0
structure PFw where (n : Nat) (l : List Vw) (z : Int)
structure AFw where (i : Int)
abbrev SFw : List (Nat × Src) := [(0, .same)]
def vsFw (p : PFw) (a : AFw) : List V := [.sub 0 15 0 p.n, iv p.z, iv a.i]
def bsFw (p : PFw) (a : AFw) : List Blk := [.lst false 44 [.int .i64, .int .i64, .bool, .bool, .sl, .int .i64, .int .i64, .int .i64, .int .i64, .int .i64, .int .i64, .int .i64, .int .i64, .int .i64, .bool] p.l]
noncomputable def FFw (p : PFw) (a : AFw) : St := mkSt [0,1,5] (keysR SFw) 4000 23 (vsFw p a) (bsFw p a)
abbrev SFwx : List (Nat × Src) := [(0, .same)]
noncomputable def rdFw (p : PFw) (a : AFw) : T (Ex × St) := T.anon (roundX H0 noLoops lpFw [0,1,5] SFw [0,1,4] SFwx 4000 4000 (mkSt [0,1,5] (keysR SFw) 4000 23 (vsFw p a) (bsFw p a)))
def decFw_v0 : V → Option ((Nat))
  | .sub 0 15 0 n => some (n)
  | _ => none
theorem decFw_v0_ok (b : V) (x0 : (Nat)) (h : decFw_v0 b = some x0) : b = .sub 0 15 0 (x0) := by
  unfold decFw_v0 at h
  split at h
  · cases h
    rfl
  · cases h
def decFw_v1 : V → Option ((Int))
  | .s (.int .i64 z) => some (z)
  | _ => none
theorem decFw_v1_ok (b : V) (x1 : (Int)) (h : decFw_v1 b = some x1) : b = iv (x1) := by
  unfold decFw_v1 at h
  split at h
  · cases h
    rfl
  · cases h
def decFw_v2 : V → Option ((Int))
  | .s (.int .i64 i) => some (i)
  | _ => none
theorem decFw_v2_ok (b : V) (x2 : (Int)) (h : decFw_v2 b = some x2) : b = iv (x2) := by
  unfold decFw_v2 at h
  split at h
  · cases h
    rfl
  · cases h
def decFw_b0 (b : Blk) : Option ((List Vw)) := rowsOf false 44 [.int .i64, .int .i64, .bool, .bool, .sl, .int .i64, .int .i64, .int .i64, .int .i64, .int .i64, .int .i64, .int .i64, .int .i64, .int .i64, .bool] b
theorem decFw_b0_ok (b : Blk) (y0 : (List Vw)) (h : decFw_b0 b = some y0) : b = .lst false 44 [.int .i64, .int .i64, .bool, .bool, .sl, .int .i64, .int .i64, .int .i64, .int .i64, .int .i64, .int .i64, .int .i64, .int .i64, .int .i64, .bool] (y0) := rowsOf_ok h
def decFw : List V → List Blk → Option (PFw × AFw)
  | [v0, v1, v2], [b0] => (decFw_v0 v0).bind fun x0 => (decFw_v1 v1).bind fun x1 => (decFw_v2 v2).bind fun x2 => (decFw_b0 b0).bind fun y0 => some (⟨(x0), (y0), (x1)⟩, ⟨(x2)⟩)
  | _, _ => none
theorem decFw_ok (l : List V) (b : List Blk) (d : PFw × AFw) (h : decFw l b = some d) : l = vsFw d.1 d.2 ∧ b = bsFw d.1 d.2 := by
  unfold decFw at h
  split at h
  · obtain ⟨x0, hx0, h⟩ := Option.bind_eq_some_iff.1 h
    obtain ⟨x1, hx1, h⟩ := Option.bind_eq_some_iff.1 h
    obtain ⟨x2, hx2, h⟩ := Option.bind_eq_some_iff.1 h
    obtain ⟨y0, hy0, h⟩ := Option.bind_eq_some_iff.1 h
    have ex0 := decFw_v0_ok _ _ hx0
    have ex1 := decFw_v1_ok _ _ hx1
    have ex2 := decFw_v2_ok _ _ hx2
    have ey0 := decFw_b0_ok _ _ hy0
    cases h
    subst ex0 ex1 ex2 ey0
    exact ⟨rfl, rfl⟩
  · cases h
noncomputable def rgFw : Nat := (firstReg lpFw).getD 0
theorem rgFw_is : firstReg lpFw = some rgFw := by kernel_rfl
end Go.Proofs.YtdangjhbkffbnaaDoor.Rep

/- Layer 27: Sum over any views; few: contracts. -/
namespace Go.Proofs.YtdangjhbkffbnaaDoor.Rep
open Go.Eng Go.RowKit Go.Proofs.YtdangjhbkffbnaaDoor.Txt
set_option linter.unusedVariables false
set_option linter.unusedSimpArgs false
set_option maxRecDepth 100000
def vD : Vw := (0, 0, false, false, (none, 0, 0), 0, 0, 0, 0, 0, 0, 0, 0, 0, false)
def vA (l : List Vw) (i : Int) : Vw := l.getD (0 + i.toNat) vD
def wOf (v : Vw) : Int := v.2.1
def dOf (v : Vw) : Int := (v.2.2.2.2.1.2.1 : Int)
def pnOf (v : Vw) : Bool := v.2.2.1
def pxOf (v : Vw) : Bool := v.2.2.2.1
def mx (a b : Int) : Int := if b > a then b else a
def up (b : Bool) (c : Int) : Int := bif b then IntKind.wrap .i64 (c + 1) else c
def hSu (p : PSu) (a : ASu) (b1 b2 : Bool) : List (Bool × Bool) := [(decide (a.i < p.z), true), (idR p.l p.n a.i, true), (ldR p.l a.i, true), (pnOf (vA p.l a.i), b1), (pxOf (vA p.l a.i), b2)]
theorem su_w (p : PSu) (a : ASu) (b1 b2 : Bool) : T.path [true, true, true, b1, b2] (rdSu p a) = some (hSu p a b1 b2, (.normal, FSu p ⟨mx a.w (wOf (vA p.l a.i)), mx a.d (dOf (vA p.l a.i)), up b1 a.c, up b2 a.x, IntKind.wrap .i64 (a.i + 1)⟩)) := by
  cases b1 <;> cases b2 <;> kernel_rfl
def stSu (p : PSu) (a : ASu) : St := mkSt [6, 7, 8, 9] (keysR SSu) 4000 40 [iv a.w, iv a.d, iv a.c, iv a.x] (bsSu p a)
theorem su_x (p : PSu) (a : ASu) : T.path [false] (rdSu p a) = some ([(decide (a.i < p.z), false)], (.exit 0, stSu p a)) := by kernel_rfl
def suW (l : List Vw) : Int := l.foldl (fun w v => mx w (wOf v)) 0
def suD (l : List Vw) : Int := l.foldl (fun w v => mx w (dOf v)) 0
def suC (l : List Vw) : Nat := l.countP pnOf
def suX (l : List Vw) : Nat := l.countP pxOf
structure okSu (p : PSu) (a : ASu) : Prop where
  n : p.n = p.l.length
  z : p.z = (p.n : Int)
  n1 : p.n ≤ 1000000000
  i0 : 0 ≤ a.i
  i1 : a.i ≤ p.z
  w : a.w = suW (p.l.take a.i.toNat)
  d : a.d = suD (p.l.take a.i.toNat)
  c : a.c = (suC (p.l.take a.i.toNat) : Int)
  x : a.x = (suX (p.l.take a.i.toNat) : Int)
def goSu (p : PSu) (a : ASu) : Bool := decide (a.i < p.z)
def muSu (p : PSu) (a : ASu) : Nat := (p.z - a.i).toNat
theorem cnt_up (f : Vw → Bool) (l : List Vw) (v : Vw) (hl : l.length ≤ 1000000000) : up (f v) (l.countP f : Int) = ((l ++ [v]).countP f : Int) := by
  have h := List.countP_le_length (p := f) (l := l)
  rw [List.countP_append, List.countP_singleton]
  unfold up
  cases f v with
  | false => simp
  | true =>
    show IntKind.wrap .i64 _ = _
    rw [wrap64_in (by omega) (by omega)]; simp
theorem stepSu (p : PSu) (a : ASu) (h : okSu p a) (hg : goSu p a = true) : ∃ b, stepC okSu rdSu FSu muSu p a b := by
  have hg : a.i < p.z := of_decide_eq_true hg
  obtain ⟨h1, h2, h3, h4, h5, h6, h7, h8, h9⟩ := h
  have hl : a.i.toNat < p.l.length := by omega
  obtain ⟨y1, y2⟩ := idR_is (g := p.l) (k := p.n) (i := a.i) h1 h4 (by omega)
  have w : IntKind.wrap .i64 (a.i + 1) = a.i + 1 := wrap64_in (by omega) (by omega)
  have ev : vA p.l a.i = p.l[a.i.toNat] := by
    unfold vA
    rw [List.getD_eq_getElem?_getD, Nat.zero_add, List.getElem?_eq_getElem hl]; rfl
  have ek : p.l.take (a.i + 1).toNat = p.l.take a.i.toNat ++ [vA p.l a.i] := by
    rw [ev, show (a.i + 1).toNat = a.i.toNat + 1 by omega, List.take_add_one, List.getElem?_eq_getElem hl]; rfl
  have et : (p.l.take a.i.toNat).length ≤ 1000000000 := by rw [List.length_take]; omega
  have way := su_w p a (pnOf (vA p.l a.i)) (pxOf (vA p.l a.i))
  rw [w] at way
  refine ⟨_, T.path_eval way ⟨decide_eq_true hg, y1, y2, rfl, rfl, trivial⟩, ⟨h1, h2, h3, by show 0 ≤ a.i + 1; omega, by show a.i + 1 ≤ p.z; omega, ?_, ?_, ?_, ?_⟩, by show (p.z - (a.i + 1)).toNat < (p.z - a.i).toNat; omega⟩
  · show mx a.w (wOf (vA p.l a.i)) = suW (p.l.take (a.i + 1).toNat)
    rw [ek, h6]; unfold suW; rw [List.foldl_append]; rfl
  · show mx a.d (dOf (vA p.l a.i)) = suD (p.l.take (a.i + 1).toNat)
    rw [ek, h7]; unfold suD; rw [List.foldl_append]; rfl
  · show up (pnOf (vA p.l a.i)) a.c = (suC (p.l.take (a.i + 1).toNat) : Int)
    rw [ek, h8]; exact cnt_up pnOf _ _ et
  · show up (pxOf (vA p.l a.i)) a.x = (suX (p.l.take (a.i + 1).toNat) : Int)
    rw [ek, h9]; exact cnt_up pxOf _ _ et
def outSu (p : PSu) (a : ASu) : T (Ex × St) := .ret (.exit 0, stSu p a)
theorem exSu (p : PSu) (a : ASu) (h : okSu p a) (hg : goSu p a = false) (r : Ex × St) (hr : (outSu p a).eval = some r) : r.1 ≠ .normal ∧ (rdSu p a).eval = some r := by
  obtain rfl := Option.some.inj hr
  exact ⟨by simp, T.path_eval (su_x p a) ⟨hg, trivial⟩⟩
noncomputable def famSu : LSpec := famE [6,7,8,9,12,13,14] SSu SSux 4000 4000 40 decSu okSu goSu rdSu FSu muSu outSu
theorem lpSu_ok : LoopOk H0 lpSu famSu := famE_ok (vs := vsSu) (bs := bsSu) H0_ok mixed (noLoops_ok _) decSu_ok (fun _ _ => rfl) (fun _ _ => rfl) stepSu exSu
noncomputable def suX0 : Eng.Spec := execS H0 (byReg [(rgSu, famSu)]) 22
theorem suX0_ok : SpecOk Tryd.prog 22 suX0 := execS_loops H0_ok mixed Tryd.func22 (by kernel_rfl) (by kernel_rfl) (one_lp (c := lpSu) (by kernel_rfl) rgSu_is lpSu_ok)
def rowV (l : List Vw) : V := .orow 44 KV l
def pS (l : List Vw) : PSu := ⟨l.length, l, (l.length : Int)⟩
def aS : ASu := ⟨0, 0, 0, 0, 0⟩
noncomputable def eS (l : List Vw) : ASu := endW (nxtC okSu goSu rdSu FSu muSu (pS l)) aS
theorem su_way (l : List Vw) : T.path [true] (T.anon (suX0 [rowV l])) = some ([(invC okSu (pS l) aS, true)], .tup [iv (eS l).w, iv (eS l).d, iv (eS l).c, iv (eS l).x]) := by kernel_rfl
def sumV (l : List Vw) : V := .tup [iv (suW l), iv (suD l), iv (suC l), iv (suX l)]
theorem su_run {l : List Vw} (h : l.length ≤ 1000000000) : (suX0 [rowV l]).eval = some (sumV l) := by
  rw [← T.eval_anon (t := suX0 _)]
  have h0 : okSu (pS l) aS := ⟨rfl, rfl, h, Int.le_refl _, Int.natCast_nonneg _, rfl, rfl, rfl, rfl⟩
  obtain ⟨k1, k2⟩ := endC stepSu h0
  have k1 : okSu (pS l) (eS l) := k1
  have k2 : goSu (pS l) (eS l) = false := k2
  obtain ⟨-, z, -, i0, i1, w, d, c, x⟩ := k1
  have z : (pS l).z = (l.length : Int) := z
  have hi : ¬ (eS l).i < (pS l).z := of_decide_eq_false k2
  have et : List.take (eS l).i.toNat (pS l).l = l := List.take_of_length_le (by show l.length ≤ _; omega)
  rw [et] at w d c x
  have way := su_way l
  rw [w, d, c, x] at way
  exact T.path_eval way ⟨invC_is h0, trivial⟩
def sumS : Eng.Spec
  | [.orow t [.int .i64, .int .i64, .bool, .bool, .sl, .int .i64, .int .i64, .int .i64, .int .i64, .int .i64, .int .i64, .int .i64, .int .i64, .int .i64, .bool] l] => if t = 44 then .ite none (decide (List.length l ≤ 1000000000)) (.ret (sumV l)) .fail else .fail
  | _ => .fail
theorem sumS_ok : SpecOk Tryd.prog 22 sumS := suX0_ok.of_den fun args v hfl h => by
  clear hfl
  unfold sumS at h
  split at h
  · rename_i t l
    split at h
    · rename_i ht
      subst ht
      obtain ⟨hb, h2⟩ := ite_T' h
      obtain rfl := Option.some.inj h2
      exact ⟨_, su_run (of_decide_eq_true hb), ⟨rfl, rfl⟩, rfl⟩
    · cases h
  · cases h
end Go.Proofs.YtdangjhbkffbnaaDoor.Rep

/- Layer 27: few: its contract; ReportSums as a tree. -/
namespace Go.Proofs.YtdangjhbkffbnaaDoor.Rep
open Go.Eng Go.RowKit Go.Proofs.YtdangjhbkffbnaaDoor.Txt
set_option linter.unusedVariables false
set_option linter.unusedSimpArgs false
set_option maxRecDepth 100000
def hFw (p : PFw) (a : AFw) (b : Bool) : List (Bool × Bool) := [(decide (a.i < (p.n : Int)), true), (idR p.l p.n a.i, true), (ldR p.l a.i, true), (decide (40 < dOf (vA p.l a.i)), b)]
def stFw (p : PFw) (a : AFw) (v : V) : St := mkSt [0, 1, 4] (keysR SFw) 4000 23 [.sub 0 15 0 p.n, iv p.z, v] (bsFw p a)
theorem fw_n (p : PFw) (a : AFw) : T.path [true, true, true, false] (rdFw p a) = some (hFw p a false, (.normal, FFw p ⟨IntKind.wrap .i64 (a.i + 1)⟩)) := by kernel_rfl
theorem fw_r (p : PFw) (a : AFw) : T.path [true, true, true, true] (rdFw p a) = some (hFw p a true, (.ret, stFw p a (.s (.bool false)))) := by kernel_rfl
theorem fw_x (p : PFw) (a : AFw) : T.path [false] (rdFw p a) = some ([(decide (a.i < (p.n : Int)), false)], (.exit 0, stFw p a .junk)) := by kernel_rfl
structure okFw (p : PFw) (a : AFw) : Prop where
  n : p.n = p.l.length
  n1 : p.n ≤ 9223372036854775807
  i0 : 0 ≤ a.i
  i1 : a.i ≤ (p.n : Int)
  g : ∀ v ∈ p.l.take a.i.toNat, ¬ 40 < dOf v
def goFw (p : PFw) (a : AFw) : Bool := decide (a.i < (p.n : Int)) && !decide (40 < dOf (vA p.l a.i))
def muFw (p : PFw) (a : AFw) : Nat := ((p.n : Int) - a.i).toNat
theorem hFw_say {p : PFw} {a : AFw} (h : okFw p a) (hi : a.i < (p.n : Int)) {b : Bool} (hb : decide (40 < dOf (vA p.l a.i)) = b) : allSay (hFw p a b) := by
  obtain ⟨y1, y2⟩ := idR_is (g := p.l) (k := p.n) (i := a.i) h.n h.i0 (by omega)
  exact ⟨decide_eq_true hi, y1, y2, hb, trivial⟩
theorem vA_at {l : List Vw} {i : Int} (hl : i.toNat < l.length) : vA l i = l[i.toNat] := by
  unfold vA
  rw [List.getD_eq_getElem?_getD, Nat.zero_add, List.getElem?_eq_getElem hl]; rfl
theorem stepFw (p : PFw) (a : AFw) (h : okFw p a) (hg : goFw p a = true) : ∃ b, stepC okFw rdFw FFw muFw p a b := by
  unfold goFw at hg
  rw [Bool.and_eq_true, decide_eq_true_eq, Bool.not_eq_true'] at hg
  obtain ⟨hi, hb⟩ := hg
  have hs := hFw_say h hi hb
  obtain ⟨h1, h2, h3, h4, h5⟩ := h
  have hl : a.i.toNat < p.l.length := by omega
  have w : IntKind.wrap .i64 (a.i + 1) = a.i + 1 := wrap64_in (by omega) (by omega)
  have way := fw_n p a
  rw [w] at way
  refine ⟨_, T.path_eval way hs, ⟨h1, h2, by show 0 ≤ a.i + 1; omega, by show a.i + 1 ≤ _; omega, ?_⟩, by show ((p.n : Int) - (a.i + 1)).toNat < ((p.n : Int) - a.i).toNat; omega⟩
  intro v hv
  have hv : v ∈ p.l.take (a.i + 1).toNat := hv
  rw [show (a.i + 1).toNat = a.i.toNat + 1 by omega, List.take_add_one, List.getElem?_eq_getElem hl] at hv
  rcases List.mem_append.1 hv with q | q
  · exact h5 v q
  · have q : v = p.l[a.i.toNat] := by simpa using q
    rw [q, ← vA_at hl]
    exact of_decide_eq_false hb
def outFw (p : PFw) (a : AFw) : T (Ex × St) := .ite none (decide (a.i < (p.n : Int))) (.ret (.ret, stFw p a (.s (.bool false)))) (.ret (.exit 0, stFw p a .junk))
theorem fw_bad {p : PFw} {a : AFw} (hg : goFw p a = false) (hi : a.i < (p.n : Int)) : decide (40 < dOf (vA p.l a.i)) = true := by
  unfold goFw at hg
  rw [decide_eq_true hi, Bool.true_and, Bool.not_eq_false'] at hg
  exact hg
theorem exFw (p : PFw) (a : AFw) (h : okFw p a) (hg : goFw p a = false) (r : Ex × St) (hr : (outFw p a).eval = some r) : r.1 ≠ .normal ∧ (rdFw p a).eval = some r := by
  unfold outFw at hr
  by_cases hi : a.i < (p.n : Int)
  · rw [decide_eq_true hi] at hr
    obtain rfl := Option.some.inj hr
    exact ⟨by simp, T.path_eval (fw_r p a) (hFw_say h hi (fw_bad hg hi))⟩
  · rw [decide_eq_false hi] at hr
    obtain rfl := Option.some.inj hr
    exact ⟨by simp, T.path_eval (fw_x p a) ⟨decide_eq_false hi, trivial⟩⟩
noncomputable def famFw : LSpec := famE [0,1,5] SFw SFwx 4000 4000 23 decFw okFw goFw rdFw FFw muFw outFw
theorem lpFw_ok : LoopOk H0 lpFw famFw := famE_ok (vs := vsFw) (bs := bsFw) H0_ok mixed (noLoops_ok _) decFw_ok (fun _ _ => rfl) (fun _ _ => rfl) stepFw exFw
noncomputable def fwX : Eng.Spec := execS H0 (byReg [(rgFw, famFw)]) 18
theorem fwX_ok : SpecOk Tryd.prog 18 fwX := execS_loops H0_ok mixed Tryd.func18 (by kernel_rfl) (by kernel_rfl) (one_lp (c := lpFw) (by kernel_rfl) rgFw_is lpFw_ok)
def pF (l : List Vw) (m : Int) : PFw := ⟨l.length, l, m⟩
noncomputable def eF (l : List Vw) (m : Int) : AFw := endW (nxtC okFw goFw rdFw FFw muFw (pF l m)) ⟨0⟩
theorem few_r (l : List Vw) (m : Int) : T.path [true, true] (T.anon (fwX [rowV l, iv m])) = some ([(invC okFw (pF l m) ⟨0⟩, true), (decide ((eF l m).i < (l.length : Int)), true)], .s (.bool false)) := by kernel_rfl
theorem few_x (l : List Vw) (m : Int) : T.path [true, false] (T.anon (fwX [rowV l, iv m])) = some ([(invC okFw (pF l m) ⟨0⟩, true), (decide ((eF l m).i < (l.length : Int)), false)], .s (.bool (decide ((l.length : Int) ≤ m)))) := by kernel_rfl
def fewB (l : List Vw) (m : Int) : Bool := l.all (fun v => !decide (40 < dOf v)) && decide ((l.length : Int) ≤ m)
theorem few_run {l : List Vw} (m : Int) (h : l.length ≤ 9223372036854775807) : (fwX [rowV l, iv m]).eval = some (.s (.bool (fewB l m))) := by
  rw [← T.eval_anon (t := fwX _)]
  have h0 : okFw (pF l m) ⟨0⟩ := ⟨rfl, h, Int.le_refl _, Int.natCast_nonneg _, fun v hv => by
    have hv : v ∈ l.take 0 := hv
    simp at hv⟩
  obtain ⟨k1, k2⟩ := endC stepFw h0
  have k1 : okFw (pF l m) (eF l m) := k1
  have k2 : goFw (pF l m) (eF l m) = false := k2
  obtain ⟨-, -, i0, i1, g⟩ := k1
  have i1 : (eF l m).i ≤ (l.length : Int) := i1
  unfold fewB
  by_cases hi : (eF l m).i < (l.length : Int)
  · have hb := of_decide_eq_true (fw_bad k2 hi)
    have hl : (eF l m).i.toNat < l.length := by omega
    have ex : vA l (eF l m).i = l[(eF l m).i.toNat] := vA_at hl
    have : l.all (fun v => !decide (40 < dOf v)) = false := by
      rw [List.all_eq_false]
      refine ⟨l[(eF l m).i.toNat], List.getElem_mem hl, ?_⟩
      rw [← ex]
      have hb : 40 < dOf (vA l (eF l m).i) := hb
      simp [hb]
    rw [this]
    exact T.path_eval (few_r l m) ⟨invC_is h0, decide_eq_true hi, trivial⟩
  · have : l.all (fun v => !decide (40 < dOf v)) = true := by
      rw [List.all_eq_true]
      intro v hv
      have e : List.take (eF l m).i.toNat (pF l m).l = l := List.take_of_length_le (by show l.length ≤ _; omega)
      have := g v (by rw [e]; exact hv)
      simp only [this, decide_false, Bool.not_false]
    rw [this, Bool.true_and]
    exact T.path_eval (few_x l m) ⟨invC_is h0, decide_eq_false hi, trivial⟩
def fewS : Eng.Spec
  | [.orow t [.int .i64, .int .i64, .bool, .bool, .sl, .int .i64, .int .i64, .int .i64, .int .i64, .int .i64, .int .i64, .int .i64, .int .i64, .int .i64, .bool] l, .s (.int .i64 m)] => if t = 44 then .ite none (decide (List.length l ≤ 9223372036854775807)) (.ret (.s (.bool (fewB l m)))) .fail else .fail
  | _ => .fail
theorem fewS_ok : SpecOk Tryd.prog 18 fewS := fwX_ok.of_den fun args v hfl h => by
  clear hfl
  unfold fewS at h
  split at h
  · rename_i t l m
    split at h
    · rename_i ht
      subst ht
      obtain ⟨hb, h2⟩ := ite_T' h
      obtain rfl := Option.some.inj h2
      exact ⟨_, few_run m (of_decide_eq_true hb), ⟨rfl, rfl⟩, rfl⟩
    · cases h
  · cases h
noncomputable def H1 : Cfg := ⟨Tryd.prog, lookG [(18, .val fewS), (19, .val rtS), (22, .val sumS)], [], 0⟩
theorem H1_ok : H1.Ok := Cfg.ok ⟨fewS_ok, rtS_ok, sumS_ok, trivial⟩ trivial
noncomputable def rsX : Eng.Spec := execS H1 noLoops 6
theorem rsX_ok : SpecOk Tryd.prog 6 rsX := execS_plain H1_ok mixed Tryd.func6 (by kernel_rfl) (by kernel_rfl)
end Go.Proofs.YtdangjhbkffbnaaDoor.Rep

/- Layer 27: ReportSums: the law run. -/
namespace Go.Proofs.YtdangjhbkffbnaaDoor.Rep
open Go.Eng Go.RowKit Go.Proofs.YtdangjhbkffbnaaDoor.Txt
set_option linter.unusedVariables false
set_option linter.unusedSimpArgs false
set_option maxRecDepth 100000
def oneU (l : List Vw) : Int := IntKind.wrap .u64 (IntKind.wrap .i64 ((l.length : Int) + 1))
def kk (l : List Vw) (n : Int) : Int := IntKind.wrap .i64 (Int.tmod (IntKind.wrap .u64 n) (oneU l))
def LL (l : List Vw) : List Vw := List.take l.length (List.drop 0 l)
def FP (l : List Vw) (n : Int) : List Vw := List.take (Int.toNat (kk l n) - Int.toNat 0) (List.drop (Int.toNat 0) l)
def SP (l : List Vw) (n : Int) : List Vw := List.take (Int.toNat (l.length : Int) - Int.toNat (kk l n)) (List.drop (Int.toNat (kk l n)) l)
def b0 (l : List Vw) : Bool := decide (0 + l.length ≤ l.length)
def b1 (l : List Vw) : Bool := decide ((LL l).length ≤ 9223372036854775807)
def b3 (l : List Vw) : Bool := oneU l == 0
def b5 (l : List Vw) : Bool := decide (List.length l ≤ 1000000000)
def b6 (l : List Vw) (n : Int) : Bool := decide ((0 : Int) ≤ 0) && (decide (0 ≤ kk l n) && (decide (kk l n ≤ (l.length : Int)) && decide (l.length ≤ l.length)))
def b7 (l : List Vw) (n : Int) : Bool := decide (Int.toNat 0 + (Int.toNat (kk l n) - Int.toNat 0) ≤ l.length)
def b9 (l : List Vw) (n : Int) : Bool := decide (0 ≤ kk l n) && (decide (kk l n ≤ (l.length : Int)) && (decide ((l.length : Int) ≤ (l.length : Int)) && decide (l.length ≤ l.length)))
def b10 (l : List Vw) (n : Int) : Bool := decide (Int.toNat (kk l n) + (Int.toNat (l.length : Int) - Int.toNat (kk l n)) ≤ l.length)
def finS (l f s : List Vw) : Bool := bif bif bif suW l == mx (suW f) (suW s) then suD l == mx (suD f) (suD s) else false then (suC l : Int) == IntKind.wrap .i64 ((suC f : Int) + (suC s : Int)) else false then (suX l : Int) == IntKind.wrap .i64 ((suX f : Int) + (suX s : Int)) else false
theorem rs_t (l : List Vw) (n : Int) : T.path [true, true, true] (T.anon (rsX [rowV l, iv n])) = some ([(b0 l, true), (b1 l, true), (!fewB (LL l) 12, true)], .s (.bool true)) := by kernel_rfl
theorem rs_w (l : List Vw) (n : Int) : T.path [true, true, false, false, true, true, true, true, true, true, true, true] (T.anon (rsX [rowV l, iv n])) = some ([(b0 l, true), (b1 l, true), (!fewB (LL l) 12, false), (b3 l, false), (b0 l, true), (b5 (LL l), true), (b6 l n, true), (b7 l n, true), (b5 (FP l n), true), (b9 l n, true), (b10 l n, true), (b5 (SP l n), true)], .s (.bool (finS (LL l) (FP l n) (SP l n)))) := by kernel_rfl
theorem mx_fold_nn (f : Vw → Int) : ∀ (l : List Vw) (w : Int), 0 ≤ w → 0 ≤ l.foldl (fun w v => mx w (f v)) w
  | [], w, h => h
  | v :: l, w, h => mx_fold_nn f l (mx w (f v)) (by unfold mx; split <;> omega)
theorem mx_fold (f : Vw → Int) : ∀ (l : List Vw) (w : Int), 0 ≤ w → l.foldl (fun w v => mx w (f v)) w = mx w (l.foldl (fun w v => mx w (f v)) 0)
  | [], w, h => by
    show w = mx w 0
    unfold mx; split <;> omega
  | v :: l, w, h => by
    show l.foldl (fun w v => mx w (f v)) (mx w (f v)) = mx w (l.foldl (fun w v => mx w (f v)) (mx 0 (f v)))
    rw [mx_fold f l (mx w (f v)) (by unfold mx; split <;> omega), mx_fold f l (mx 0 (f v)) (by unfold mx; split <;> omega)]
    generalize l.foldl (fun w v => mx w (f v)) 0 = r
    generalize f v = a
    unfold mx
    repeat' split
    all_goals omega
theorem mx_app (f : Vw → Int) (a b : List Vw) : (a ++ b).foldl (fun w v => mx w (f v)) 0 = mx (a.foldl (fun w v => mx w (f v)) 0) (b.foldl (fun w v => mx w (f v)) 0) := by
  rw [List.foldl_append]
  exact mx_fold f b _ (mx_fold_nn f a 0 (Int.le_refl _))
theorem finS_is {l f s : List Vw} (e : l = f ++ s) (hl : l.length ≤ 1000) : finS l f s = true := by
  have c1 : ∀ g : Vw → Bool, IntKind.wrap .i64 (((f.countP g : Nat) : Int) + ((s.countP g : Nat) : Int)) = ((l.countP g : Nat) : Int) := fun g => by
    have h1 := List.countP_le_length (p := g) (l := l)
    have h2 : l.countP g = f.countP g + s.countP g := by rw [e, List.countP_append]
    rw [wrap64_in (by omega) (by omega)]; omega
  have ew : suW l = mx (suW f) (suW s) := by unfold suW; rw [e]; exact mx_app wOf f s
  have ed : suD l = mx (suD f) (suD s) := by unfold suD; rw [e]; exact mx_app dOf f s
  unfold finS
  rw [← ew, ← ed, show IntKind.wrap .i64 ((suC f : Int) + (suC s : Int)) = (suC l : Int) from c1 pnOf, show IntKind.wrap .i64 ((suX f : Int) + (suX s : Int)) = (suX l : Int) from c1 pxOf]
  simp
theorem LL_is (l : List Vw) : LL l = l := by unfold LL; rw [List.drop_zero, List.take_length]
theorem rs_run (l : List Vw) (n : Int) (hz : l.length ≤ 9223372036854775807) : (rsX [rowV l, iv n]).yes := by
  unfold T.yes
  rw [← T.eval_anon (t := rsX _)]
  refine .inr ?_
  have h0 : b0 l = true := decide_eq_true (by omega)
  have h1 : b1 l = true := decide_eq_true (by rw [LL_is]; exact hz)
  cases hf : fewB (LL l) 12 with
  | false =>
    exact T.path_eval (rs_t l n) ⟨h0, h1, by rw [hf]; rfl, trivial⟩
  | true =>
    have hl : l.length ≤ 12 := by
      rw [LL_is] at hf
      unfold fewB at hf
      rw [Bool.and_eq_true] at hf
      have := of_decide_eq_true hf.2
      omega
    have e1 : oneU l = (l.length : Int) + 1 := by
      unfold oneU
      rw [wrap64_in (by omega) (by omega), wrapu64]
      exact Int.emod_eq_of_lt (by omega) (by omega)
    have ek : kk l n = (n % 18446744073709551616) % ((l.length : Int) + 1) := by
      unfold kk
      rw [e1]
      exact modU (by omega) (by omega)
    have k0 : 0 ≤ kk l n := by rw [ek]; exact Int.emod_nonneg _ (by omega)
    have k1 : kk l n ≤ (l.length : Int) := by
      have := Int.emod_lt_of_pos (n % 18446744073709551616) (show (0 : Int) < (l.length : Int) + 1 by omega)
      rw [ek]; omega
    have ef : FP l n = l.take (kk l n).toNat := by
      unfold FP
      show List.take ((kk l n).toNat - 0) (List.drop 0 l) = _
      rw [List.drop_zero, Nat.sub_zero]
    have es : SP l n = l.drop (kk l n).toNat := by
      unfold SP
      exact List.take_of_length_le (by rw [List.length_drop]; omega)
    have h3 : b3 l = false := by
      unfold b3
      rw [e1]
      exact beq_false_of_ne (by omega)
    have h5 : ∀ q : List Vw, q.length ≤ l.length → b5 q = true := fun q hq => decide_eq_true (by omega)
    have h6 : b6 l n = true := by
      unfold b6
      rw [decide_eq_true k0, decide_eq_true k1, decide_eq_true (Nat.le_refl l.length)]; rfl
    have h9 : b9 l n = true := by
      unfold b9
      rw [decide_eq_true k0, decide_eq_true k1, decide_eq_true (Int.le_refl (l.length : Int)), decide_eq_true (Nat.le_refl l.length)]; rfl
    have h7 : b7 l n = true := decide_eq_true (by
      show 0 + ((kk l n).toNat - 0) ≤ l.length
      omega)
    have h10 : b10 l n = true := decide_eq_true (by omega)
    have way := rs_w l n
    rw [finS_is (l := LL l) (f := FP l n) (s := SP l n) (by rw [LL_is, ef, es, List.take_append_drop]) (by rw [LL_is]; omega)] at way
    exact T.path_eval way ⟨h0, h1, by rw [hf]; rfl, h3, h0, h5 _ (by rw [LL_is]; exact Nat.le_refl _), h6, h7, h5 _ (by rw [ef, List.length_take]; omega), h9, h10, h5 _ (by rw [es, List.length_drop]; omega), trivial⟩
theorem rs_walk (a0 : List Vw) (z0 : a0.length ≤ maxLen) (w0 : ∀ x ∈ a0, Law.Tx.GoodRow KV x) (x0 : Value) (a1 : Int) (w1 : (Lit.int .i64 a1).wf = true) (w : World) (hG : Glob w) (hx : holdsP 0 w (.orow 44 KV a0) x0) :
    Calls Tryd.prog 6 #[x0, .int .i64 a1] w fun e w' => e = .returned (.bool true) ∧ Below w.heap.size w w' :=
  Law.law_rows (args := [rowV a0, iv a1]) (xs := [x0, .int .i64 a1]) rsX_ok rfl (rs_run a0 a1 (Nat.le_trans z0 (by decide))) w ⟨hx, rfl, trivial⟩ hG
end Go.Proofs.YtdangjhbkffbnaaDoor.Rep

