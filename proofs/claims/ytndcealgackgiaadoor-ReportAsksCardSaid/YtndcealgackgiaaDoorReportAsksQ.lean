import Derived.Test.YtndcealgackgiaaDoorRows
import Derived.OpenShut
import Derived.LaidMore
import Derived.Lay
import Derived.Lib.LaidTab
import Derived.Stop.LaidErr
import Derived.Shelf.Vars
import Derived.Test.YtndcealgackgiaaDoorHW
/- What laws' frames want at a door: what is listed of package-level variables, from the row to the machine. -/
namespace Go.Proofs.YtndcealgackgiaaDoor.Law.Gl
open Go.Joins Go.ChangeShapes Go.WideShapes Go.ChangeAt Go.RowKit Go.Deep
set_option linter.unusedVariables false
variable {H : Type} {enc : TypeId × Value → H}
/-- the wrap, with what the row lists, and the world's shape -/
theorem of_change_and {a : Assume} {C : Checked} {os : Os} {f : FuncId} {fn : Func} {s : ChangeSpec} {conds : List PathCond} {apart fresh handsOn again : Bool} {X : World → Array Value → Prop}
    (hX : ∀ (w w' : World) (args : Array Value), w.heap = w'.heap → X w args → X w' args)
    (own : ownKnob C.prog.godebug = none) (started : os.Started) (noInit : C.prog.inits.idxOf? f = none) (hfn : C.prog.funcs[f]? = some fn)
    (witness : ∃ (w : World) (tape : Tape) (i : Input), w.os = os ∧ (w.forCall tape i).Shaped C.prog ∧ i.vars = [] ∧ Input.okWide C.prog (w.forCall tape i) .any w.heap.size f i ∧
      ((s.pre enc C.prog fn conds apart (w.forCall tape i).memory i.args ∧ X (w.forCall tape i).memory i.args) ∧ sizedMet enc C.prog fn (OpenSpec.ofChange s) apart (w.forCall tape i).memory i.args) ∧ a.holds C.prog (lone (Frame.enter C.prog f i.args .normal) [] (w.forCall tape i)))
    (contract : ∀ (W : World) (base : Nat) (args : Array Value) (ds gs : List (DataW H)) (before : List MemPlace),
      (∀ (j : Nat) t v, fn.params[j]? = some t → args[j]? = some v → Value.okWide C.prog W .any base t v) →
      DataW.Whole enc C.prog fn.params.toList s.vars apart W args.toList ds gs before → X W args → W.ShapedOpen C.prog →
      Calls C.prog f args W fun e W' => ∃ v, e = .returned v ∧ s.post enc C.prog fn apart fresh handsOn again W args v W') :
    ReturnsInHanded a C os f .any (fun w args => (s.pre enc C.prog fn conds apart w args ∧ X w args) ∧ sizedMet enc C.prog fn (OpenSpec.ofChange s) apart w args) (s.post enc C.prog fn apart fresh handsOn again) := by
  refine returnsInHanded_of_calls own started noInit witness ?_
  intro w tape i _ hsh _ hok hpre _
  obtain ⟨_, _, _, fn', hfn', _, _, _, _, hval⟩ := hok
  obtain rfl : fn' = fn := Option.some.inj (hfn'.symm.trans hfn)
  obtain ⟨⟨⟨ds, gs, before, hw, _⟩, hx⟩, _⟩ := hpre
  have hw' := DataW.Whole.of_heap (w' := w.forCall tape i) (by rfl) hw
  refine (contract (w.forCall tape i) w.heap.size i.args ds gs before hval hw' (hX _ _ _ (by rfl) hx) hsh).mono fun e W' ⟨v, he, hp⟩ => ?_
  subst he
  exact ChangeSpec.post_blind hp
theorem glob0 {W : World} {rest : List (String × DataW Unit)} (h3 : laidMet Tryd.prog (("internal/strconv.uint64pow10", Lib.tabData .u64 Lib.pow10Tab) :: rest) W) (hsh : W.ShapedOpen Tryd.prog) : Eng.Glob0 W := by
  have ht : Lib.TabIs Tryd.prog W "internal/strconv.uint64pow10" .u64 Lib.pow10Tab := Lib.tabIs_of_head (g := 3) (by kernel_rfl) (t := ((Tryd.prog.globals[3]?).map (·.type)).getD 0) (by kernel_rfl) (n := 20) (e := 114) (by kernel_rfl) (by kernel_rfl) (by kernel_rfl) (by kernel_rfl) h3
  refine ⟨?_, ?_, ?_⟩
  · obtain ⟨cs, hh, -⟩ := hsh.1 (6 - 1) ((((begin Tryd.prog (fun _ _ => 0) default).world.heap[6 - 1]?).bind Obj.row?).getD (#[], 0)).1 ((((begin Tryd.prog (fun _ _ => 0) default).world.heap[6 - 1]?).bind Obj.row?).getD (#[], 0)).2 (of_decide_eq_true (by kernel_rfl)) (by kernel_rfl)
    have := (Array.getElem?_eq_some_iff.1 hh).1
    show 6 ≤ _
    omega
  · unfold Lib.TabIs World.var? at ht
    rw [show Tryd.prog.globalNamed "internal/strconv.uint64pow10" = some 3 by kernel_rfl] at ht
    have ht : (match W.heap[3]? with | some (Obj.cells cs _ _) => some cs | _ => none) = some (Lib.pow10Tab.map fun z => Value.int .u64 z).toArray := ht
    split at ht
    · rename_i cs t s e
      obtain rfl := Option.some.inj ht
      exact ⟨t, s, e⟩
    · cases ht
  · exact cell_of_shapedOpen_int (P := Tryd.prog) (g := 0) (t := 3) (zero := #[.int .i64 0]) hsh (of_decide_eq_true (by kernel_rfl)) (by kernel_rfl) rfl (by kernel_rfl) (by kernel_rfl) Tryd.underlying3
theorem glob {W : World} (hL : laidMetH Tryd.prog Rows.textOrdersRow.laid W) (hsh : W.ShapedOpen Tryd.prog) : Eng.Glob0 W := by
  rw [MakeChecks.laidMetH_plain _ _ _ (by kernel_rfl)] at hL
  exact glob0 (rest := [("unicode/utf8.acceptRanges", Rows.laid_unicode_utf8_acceptRanges), ("unicode/utf8.first", Rows.laid_unicode_utf8_first)]) hL.tail.tail hsh
theorem globR {W : World} (hL : laidMetH Tryd.prog Rows.reportAsksRow.laid W) (hsh : W.ShapedOpen Tryd.prog) : Eng.Glob0 W := by
  rw [MakeChecks.laidMetH_plain _ _ _ (by kernel_rfl)] at hL
  exact glob0 (rest := []) hL.tail.tail hsh
end Go.Proofs.YtndcealgackgiaaDoor.Law.Gl

/- Layer 27: ReportAsks. -/
namespace Go.Proofs.YtndcealgackgiaaDoor.Rep
set_option linter.unusedSectionVars false
variable [Go.Eng.GW]
open Go.Eng Go.RowKit Go.Proofs.YtndcealgackgiaaDoor.Txt
set_option linter.unusedVariables false
set_option linter.unusedSimpArgs false
set_option maxRecDepth 100000
def wL (l : List Vw) : List Vw := List.take l.length (List.drop 0 l)
def wR (r : List Rq) : List Rq := List.take r.length (List.drop 0 r)
theorem wL_is (l : List Vw) : wL l = l := by unfold wL; rw [List.drop_zero, List.take_length]
def raS (s : List Vw) : Bool := bif bif bif suW s == suW s then suD s == suD s else false then ((suC s : Nat) : Int) == (suC s : Nat) else false then ((suX s : Nat) : Int) == (suX s : Nat) else false
def raE (g : List Int) : Bool := g.getD 0 0 == g.getD 0 0 && (g.getD 1 0 == g.getD 1 0 && (g.getD 2 0 == g.getD 2 0 && (g.getD 3 0 == g.getD 3 0 && (g.getD 4 0 == g.getD 4 0 && (g.getD 5 0 == g.getD 5 0 && (g.getD 6 0 == g.getD 6 0 && true))))))
def bigR (l : List Vw) (r : List Rq) : Bool := bif !fewB (wL l) 12 then true else decide (40 < (r.length : Int))
def ra0 (l : List Vw) : Bool := decide (0 + l.length ≤ l.length)
def ra1 (l : List Vw) : Bool := decide ((wL l).length ≤ 9223372036854775807)
def ra2 (l : List Vw) : Bool := decide ((wL l).length ≤ 1000000000)
def ra3 (r : List Rq) : Bool := decide (0 + r.length ≤ r.length)
def ra4 (r : List Rq) : Bool := decide ((wR r).length ≤ 1000000000)
theorem ra_t (l : List Vw) (r : List Rq) : T.path [true, true, true] (T.anon (raX [rowV l, rowE r])) = some ([(ra0 l, true), (ra1 l, true), (bigR l r, true)], .s (.bool true)) := by kernel_rfl
theorem ra_w (l : List Vw) (r : List Rq) : T.path [true, true, false, true, true, true, true, true, true, true, true, true, true] (T.anon (raX [rowV l, rowE r])) = some ([(ra0 l, true), (ra1 l, true), (bigR l r, false), (invC okLa ⟨l, r, l.length, r.length⟩ ⟨0⟩, true), (ra0 l, true), (ra2 l, true), (ra0 l, true), (ra2 l, true), (raS (wL l), true), (ra3 r, true), (ra4 r, true), (ra3 r, true), (ra4 r, true)], .s (.bool (bif raS (wL l) then raE (cntE (wR r)) else false))) := by kernel_rfl
theorem raS_true (s : List Vw) : raS s = true := by unfold raS; simp
theorem raE_true (g : List Int) : raE g = true := by unfold raE; simp
theorem good_vx {v : Vw} (h : Law.Tx.GoodRow KV v) (hn : v.2.2.2.2.1.2.1 ≤ 1000) : VxOk (vxOf v) := by
  have key : ∀ {k : Nat} {m : Int}, (Row.cells KV v)[k]? = some (.int .i64 m) → in64 m = true := fun {k m} e => by
    have := h _ (List.mem_of_getElem? e)
    have := wf64 this
    unfold in64
    rw [decide_eq_true this.1, decide_eq_true this.2]; rfl
  exact ⟨key (k := 0) rfl, key (k := 1) rfl, key (k := 5) rfl, key (k := 6) rfl, hn⟩
theorem ra_run (l : List Vw) (r : List Rq) (hl : l.length ≤ 9223372036854775807) (hg : ∀ v ∈ l, Law.Tx.GoodRow KV v) (hr : ∀ v ∈ l, Law.RowsAt K4 GW.w0 v.2.2.2.2.1) : (raX [rowV l, rowE r]).yes := by
  unfold T.yes
  rw [← T.eval_anon (t := raX _)]
  refine .inr ?_
  have h0 : ra0 l = true := decide_eq_true (by omega)
  have h1 : ra1 l = true := decide_eq_true (by rw [wL_is]; exact hl)
  cases hb : bigR l r with
  | true => exact T.path_eval (ra_t l r) ⟨h0, h1, hb, trivial⟩
  | false =>
    have hb' := hb
    unfold bigR at hb'
    rw [wL_is] at hb'
    have hf : fewB l 12 = true := by
      cases e : fewB l 12
      · rw [e] at hb'; cases hb'
      · rfl
    rw [hf] at hb'
    have hq : ¬ 40 < (r.length : Int) := of_decide_eq_false hb'
    unfold fewB at hf
    rw [Bool.and_eq_true, List.all_eq_true] at hf
    obtain ⟨f1, f2⟩ := hf
    have hl12 : (l.length : Int) ≤ 12 := of_decide_eq_true f2
    have hok : okLa ⟨l, r, l.length, r.length⟩ ⟨0⟩ := ⟨rfl, by show l.length ≤ 1000; omega, Int.le_refl _, by show (0 : Int) ≤ l.length; omega, fun v hv => lnB_is.2 ⟨hr v hv, good_vx (hg v hv) (by
      have h40 : ¬ 40 < dOf v := by
        have := f1 v hv
        simpa using this
      have : dOf v = (v.2.2.2.2.1.2.1 : Int) := rfl
      omega)⟩⟩
    have h2 : ra2 l = true := decide_eq_true (by rw [wL_is]; omega)
    have h3 : ra3 r = true := decide_eq_true (by omega)
    have h4 : ra4 r = true := decide_eq_true (by unfold wR; rw [List.drop_zero, List.take_length]; omega)
    have way := ra_w l r
    rw [raS_true, raE_true] at way
    have hi := invC_is hok
    generalize invC okLa ⟨l, r, l.length, r.length⟩ ⟨0⟩ = q at way hi
    exact T.path_eval way ⟨h0, h1, hb, hi, h0, h2, h0, h2, rfl, h3, h4, h3, h4, trivial⟩
theorem ra_walk (a0 : List Vw) (z0 : a0.length ≤ maxLen) (w0 : ∀ x ∈ a0, Law.Tx.GoodRow KV x) (q0 : ∀ x ∈ a0, Law.RowsAt K4 GW.w0 x.2.2.2.2.1) (x0 : Value) (a1 : List Rq) (z1 : a1.length ≤ maxLen) (w1 : ∀ x ∈ a1, (Lit.int .i64 x.1).wf = true ∧ (Lit.int .i64 x.2.1).wf = true ∧ (Lit.int .i64 x.2.2.1).wf = true ∧ (Lit.int .i64 x.2.2.2).wf = true) (x1 : Value)
    (hx0 : holdsP 0 GW.w0 (.orow 38 KV a0) x0) (hx1 : holdsP 0 GW.w0 (.orow 58 [.int .i64, .int .i64, .int .i64, .int .i64] a1) x1) :
    Calls Tryd.prog 4 #[x0, x1] GW.w0 fun e w' => e = .returned (.bool true) ∧ Below (GW.w0).heap.size GW.w0 w' :=
  Law.law_rows (args := [rowV a0, rowE a1]) (xs := [x0, x1]) raX_ok rfl (ra_run a0 a1 (Nat.le_trans z0 (by decide)) w0 q0) GW.w0 ⟨hx0, hx1, trivial⟩ ⟨Nat.le_refl _, fun _ _ => rfl⟩
end Go.Proofs.YtndcealgackgiaaDoor.Rep

