import Derived.Test.YtndcealgackgiaaDoorRows
import Derived.OpenShut
import Derived.LaidMore
import Derived.Lay
import Derived.Lib.LaidTab
import Derived.Stop.LaidErr
import Derived.Shelf.Vars
import Derived.Test.YtndcealgackgiaaDoorR1
import Derived.Test.YtndcealgackgiaaDoorR2
import Derived.Test.YtndcealgackgiaaDoorR3
import Derived.Test.YtndcealgackgiaaDoorR4
import Derived.Test.YtndcealgackgiaaDoorR5
import Derived.Test.YtndcealgackgiaaDoorR6
import Derived.Test.YtndcealgackgiaaDoorR7
import Derived.Test.YtndcealgackgiaaDoorR8
/- What laws' frames want at a door: what is listed of package-level variables, from the row to the machine. -/
namespace Go.Proofs.YtndcealgackgiaaDoor.Law.Gl
open Go.Joins Go.ChangeShapes Go.WideShapes Go.ChangeAt Go.RowKit Go.Deep
set_option linter.unusedVariables false
variable {H : Type} {enc : TypeId × Value → H}
/-- the wrap, with what the row lists, and the world's shape -/
theorem of_change_and {a : Assume} {C : Checked} {os : Os} {f : FuncId} {fn : Func} {s : ChangeSpec} {conds : List PathCond} {apart fresh handsOn again : Bool} {X : World → Array Value → Prop}
    (hX : ∀ (w w' : World) (args : Array Value), w.heap = w'.heap → X w args → X w' args)
    (own : ownKnob C.prog.godebug = none) (started : os.Started) (noInit : C.prog.inits.idxOf? f = none) (hfn : C.prog.funcs[f]? = some fn)
    (witness : ∃ (w : World) (tape : Tape) (i : Input), w.os = os ∧ (w.forCall tape i).Shaped C.prog ∧ i.vars = [] ∧ Input.okWide C.prog (w.forCall tape i) .any w.heap.size f i ∧
      ((s.pre enc C.prog fn conds apart (w.forCall tape i).memory i.args ∧ X (w.forCall tape i).memory i.args) ∧ sizedMet enc C.prog fn (OpenSpec.ofChange s) apart (w.forCall tape i).memory i.args) ∧ a.holds C.prog (lone (Frame.enter C.prog f i.args .normal) [] (w.forCall tape i)))
    (contract : ∀ (W : World) (base : Nat) (args : Array Value) (ds gs : List (DataW H)) (before : List MemPlace),
      (∀ (j : Nat) t v, fn.params[j]? = some t → args[j]? = some v → Value.okWide C.prog W .any base t v) →
      DataW.Whole enc C.prog fn.params.toList s.vars apart W args.toList ds gs before → X W args → W.ShapedOpen C.prog →
      Calls C.prog f args W fun e W' => ∃ v, e = .returned v ∧ s.post enc C.prog fn apart fresh handsOn again W args v W') :
    ReturnsInHanded a C os f .any (fun w args => (s.pre enc C.prog fn conds apart w args ∧ X w args) ∧ sizedMet enc C.prog fn (OpenSpec.ofChange s) apart w args) (s.post enc C.prog fn apart fresh handsOn again) := by
  refine returnsInHanded_of_calls own started noInit witness ?_
  intro w tape i _ hsh _ hok hpre _
  obtain ⟨_, _, _, fn', hfn', _, _, _, _, hval⟩ := hok
  obtain rfl : fn' = fn := Option.some.inj (hfn'.symm.trans hfn)
  obtain ⟨⟨⟨ds, gs, before, hw, _⟩, hx⟩, _⟩ := hpre
  have hw' := DataW.Whole.of_heap (w' := w.forCall tape i) (by rfl) hw
  refine (contract (w.forCall tape i) w.heap.size i.args ds gs before hval hw' (hX _ _ _ (by rfl) hx) hsh).mono fun e W' ⟨v, he, hp⟩ => ?_
  subst he
  exact ChangeSpec.post_blind hp
theorem glob0 {W : World} {rest : List (String × DataW Unit)} (h3 : laidMet Tryd.prog (("internal/strconv.uint64pow10", Lib.tabData .u64 Lib.pow10Tab) :: rest) W) (hsh : W.ShapedOpen Tryd.prog) : Eng.Glob W := by
  have ht : Lib.TabIs Tryd.prog W "internal/strconv.uint64pow10" .u64 Lib.pow10Tab := Lib.tabIs_of_head (g := 3) (by kernel_rfl) (t := ((Tryd.prog.globals[3]?).map (·.type)).getD 0) (by kernel_rfl) (n := 20) (e := 114) (by kernel_rfl) (by kernel_rfl) (by kernel_rfl) (by kernel_rfl) h3
  refine ⟨?_, ?_, ?_⟩
  · obtain ⟨cs, hh, -⟩ := hsh.1 (6 - 1) ((((begin Tryd.prog (fun _ _ => 0) default).world.heap[6 - 1]?).bind Obj.row?).getD (#[], 0)).1 ((((begin Tryd.prog (fun _ _ => 0) default).world.heap[6 - 1]?).bind Obj.row?).getD (#[], 0)).2 (of_decide_eq_true (by kernel_rfl)) (by kernel_rfl)
    have := (Array.getElem?_eq_some_iff.1 hh).1
    show 6 ≤ _
    omega
  · unfold Lib.TabIs World.var? at ht
    rw [show Tryd.prog.globalNamed "internal/strconv.uint64pow10" = some 3 by kernel_rfl] at ht
    have ht : (match W.heap[3]? with | some (Obj.cells cs _ _) => some cs | _ => none) = some (Lib.pow10Tab.map fun z => Value.int .u64 z).toArray := ht
    split at ht
    · rename_i cs t s e
      obtain rfl := Option.some.inj ht
      exact ⟨t, s, e⟩
    · cases ht
  · exact cell_of_shapedOpen_int (P := Tryd.prog) (g := 0) (t := 3) (zero := #[.int .i64 0]) hsh (of_decide_eq_true (by kernel_rfl)) (by kernel_rfl) rfl (by kernel_rfl) (by kernel_rfl) Tryd.underlying3
theorem glob {W : World} (hL : laidMetH Tryd.prog Rows.textOrdersRow.laid W) (hsh : W.ShapedOpen Tryd.prog) : Eng.Glob W := by
  rw [MakeChecks.laidMetH_plain _ _ _ (by kernel_rfl)] at hL
  exact glob0 (rest := [("unicode/utf8.acceptRanges", Rows.laid_unicode_utf8_acceptRanges), ("unicode/utf8.first", Rows.laid_unicode_utf8_first)]) hL.tail.tail hsh
theorem globR {W : World} (hL : laidMetH Tryd.prog Rows.reportAsksRow.laid W) (hsh : W.ShapedOpen Tryd.prog) : Eng.Glob W := by
  rw [MakeChecks.laidMetH_plain _ _ _ (by kernel_rfl)] at hL
  exact glob0 (rest := []) hL.tail.tail hsh
end Go.Proofs.YtndcealgackgiaaDoor.Law.Gl

/- Layer 4: TextOrders. -/
namespace Go.Proofs.YtndcealgackgiaaDoor.Txt
open Go.Eng Go.RowKit
set_option linter.unusedVariables false
set_option linter.unusedSimpArgs false
set_option maxRecDepth 100000
theorem tabs (k a w : Int) (j : Nat) (hj : j < 5) : ∀ r : Nat, r < 24 → tabL k a w r j = tabR k a w r j
  | 0, _ => o0 k a w j hj
  | 1, _ => o1 k a w j hj
  | 2, _ => o2 k a w j hj
  | 3, _ => o3 k a w j hj
  | 4, _ => o4 k a w j hj
  | 5, _ => o5 k a w j hj
  | 6, _ => o6 k a w j hj
  | 7, _ => o7 k a w j hj
  | 8, _ => o8 k a w j hj
  | 9, _ => o9 k a w j hj
  | 10, _ => o10 k a w j hj
  | 11, _ => o11 k a w j hj
  | 12, _ => o12 k a w j hj
  | 13, _ => o13 k a w j hj
  | 14, _ => o14 k a w j hj
  | 15, _ => o15 k a w j hj
  | 16, _ => o16 k a w j hj
  | 17, _ => o17 k a w j hj
  | 18, _ => o18 k a w j hj
  | 19, _ => o19 k a w j hj
  | 20, _ => o20 k a w j hj
  | 21, _ => o21 k a w j hj
  | 22, _ => o22 k a w j hj
  | 23, _ => o23 k a w j hj
  | n + 24, h => absurd h (by omega)
theorem range_map_eq {α : Type} {f g : Nat → α} {n : Nat} (h : (List.range n).map f = (List.range n).map g) (i : Nat) (hi : i < n) : f i = g i := by
  have := congrArg (fun l => l[i]?) h
  simpa [hi] using this
theorem tab_at (k a w : Int) {r ja jw : Nat} (hr : r < 24) (ha : ja < 5) (hw : jw < 8) : ordW k a w (pre r) jw ja = ordE k a w (r % 4) (r / 4 % 3) (r / 12) jw ja :=
  range_map_eq (tabs k a w ja ha r hr) jw hw
/-- a remainder of what is not below nothing -/
theorem rem_nat {X m : Int} (hX : 0 ≤ X) (hm : 0 < m) (h64 : IntKind.wrap .u64 m = m) : ∃ j : Nat, (j : Int) < m ∧ Int.tmod X (IntKind.wrap .u64 m) = (j : Int) := by
  rw [h64, Int.tmod_eq_emod_of_nonneg hX]
  have a := Int.emod_nonneg X (show m ≠ 0 by omega)
  have b := Int.emod_lt_of_pos X hm
  exact ⟨(X % m).toNat, by omega, by omega⟩
theorem wrapU_nonneg (x : Int) : 0 ≤ IntKind.wrap .u64 x := by
  show 0 ≤ x % 18446744073709551616
  exact Int.emod_nonneg _ (by decide)
theorem ord_run (k a w : Int) : (ordX [iv k, iv a, iv w]).yes := by
  unfold T.yes
  rw [← T.eval_anon (t := ordX _)]
  refine .inr ?_
  obtain ⟨j0, a0, b0⟩ := rem_nat (X := IntKind.wrap .u64 k) (m := 4) (wrapU_nonneg _) (by decide) rfl
  obtain ⟨j1, a1, b1⟩ := rem_nat (X := k1 k) (m := 3) (wrapU_nonneg _) (by decide) rfl
  obtain ⟨j2, a2, b2⟩ := rem_nat (X := k2 k) (m := 2) (wrapU_nonneg _) (by decide) rfl
  obtain ⟨j3, a3, b3⟩ := rem_nat (X := k3 k) (m := 1) (wrapU_nonneg _) (by decide) rfl
  obtain ⟨jw, a4, b4⟩ := rem_nat (X := IntKind.wrap .u64 w) (m := 8) (wrapU_nonneg _) (by decide) rfl
  obtain ⟨ja, a5, b5⟩ := rem_nat (X := IntKind.wrap .u64 a) (m := 5) (wrapU_nonneg _) (by decide) rfl
  have e3 : j3 = 0 := by omega
  subst e3
  have t := tab_at k a w (r := j0 + 4 * j1 + 12 * j2) (ja := ja) (jw := jw) (by omega) (by omega) (by omega)
  rw [show (j0 + 4 * j1 + 12 * j2) % 4 = j0 by omega, show (j0 + 4 * j1 + 12 * j2) / 4 % 3 = j1 by omega, show (j0 + 4 * j1 + 12 * j2) / 12 = j2 by omega] at t
  unfold ordW ordE at t
  have say : ∀ {X : Int} {j : Nat}, X = (j : Int) → allSay (chn X 0 j) := fun h => chn_say (by rw [h]; congr 1; omega)
  refine skp_eval (pw_eval t ?_)
  unfold cnd
  exact allSay_append (say b0) (allSay_append (say b1) (allSay_append (say b2) (allSay_append (say b3) (allSay_append (say b4) (allSay_append (say b5) trivial)))))
theorem ord_walk (a0 : Int) (w0 : (Lit.int .i64 a0).wf = true) (a1 : Int) (w1 : (Lit.int .i64 a1).wf = true) (a2 : Int) (w2 : (Lit.int .i64 a2).wf = true) (w : World) (hG : Glob w) :
    Calls Tryd.prog 3 #[.int .i64 a0, .int .i64 a1, .int .i64 a2] w fun e w' => e = .returned (.bool true) ∧ Below w.heap.size w w' :=
  law_yes ordX_ok (args := [iv a0, iv a1, iv a2]) rfl (ord_run a0 a1 a2) w hG
end Go.Proofs.YtndcealgackgiaaDoor.Txt

