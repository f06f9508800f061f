/- The statement 'StatMany' of the given rows: for every input the law answers true, and each argument reads behind the call as it read before. No condition but the row's own. -/
import Derived.Test.YtndcealgackgiaaRows
import Derived.Test.YtndcealgackgiaaStatManyQ
import Derived.WalkKit
import Derived.ProofKit
import Derived.OpenShut
import Derived.ChangeOld
import Derived.Below
namespace Go.Proofs.Ytndcealgackgiaa.statMany
open Go.ChangeShapes Go.WideShapes Go.ChangeAt Go.RowKit
set_option linter.unusedVariables false
theorem own : ownKnob Try.prog.godebug = none := by kernel_rfl
theorem laid : laidOutB Try.prog = true := by kernel_rfl
theorem walk (a0 : Int) (w0 : (Lit.int .i64 a0).wf = true) (a1 : Int) (w1 : (Lit.int .i64 a1).wf = true) (a2a : Int) (wa2a : (Lit.int .i64 a2a).wf = true) (a2b : Int) (wa2b : (Lit.int .i64 a2b).wf = true) (a2c : Int) (wa2c : (Lit.int .i64 a2c).wf = true) (w : World)  : Calls Try.prog 3 #[.int .i64 a0, .int .i64 a1, .agg #[.int .i64 a2a, .int .i64 a2b, .int .i64 a2c]] w fun e w' => e = .returned (.bool true) ∧ Below w.heap.size w w' :=
  Sta.statMany_walk a0 w0 a1 w1 a2a wa2a a2b wa2b a2c wa2c w 
set_option maxRecDepth 100000 in
theorem lifted (os : Os) (started : os.Started) (H : Type) (enc : TypeId × Value → H) :
    ReturnsInHanded {} Try.checked os 3 .any (Rows.statManySpec.pre6 enc Try.prog Try.f3 Rows.statManyRow.domain false) (Rows.statManySpec.post enc Try.prog Try.f3 false true false false) := by
  refine returnsInHanded_of_change (C := Try.checked) own started (by kernel_rfl) Try.func3
    (ChangeSpec.witness6 (enc := enc) (C := Try.checked) false ⟨#[], #[.int .i64 0, .int .i64 0, .agg #[.int .i64 0, .int .i64 0, .int .i64 0]], []⟩ 8 (by kernel_rfl) (by kernel_rfl) (by kernel_rfl) (by kernel_rfl)) ?_
  intro W base args ds gs before hval0 hW hcnd _
  have hval : ∀ (j : Nat) t v, Try.f3.params[j]? = some t → args[j]? = some v → Value.okWide Try.prog W .any base t v := hval0
  have hW' := hW
  obtain ⟨p, q, hA0, hV, rfl, hfz, hnd⟩ := hW
  have hA : DataW.TrodAll enc Try.prog W 0 (fun _ => true) true Try.f3.params.toList args.toList ds p := hA0
  rw [Try.params3] at hA hval
  obtain ⟨v0, vs0, d0, ds0, p0, q0, hargs, rfl, rfl, h0, r0⟩ := trodAll_cons hA
  obtain ⟨v1, vs1, d1, ds1, p1, q1, rfl, rfl, rfl, h1, r1⟩ := trodAll_cons r0
  obtain ⟨v2, vs2, d2, ds2, p2, q2, rfl, rfl, rfl, h2, r2⟩ := trodAll_cons r1
  obtain ⟨rfl, rfl, rfl⟩ := trodAll_nil r2
  obtain rfl : args = #[v0, v1, v2] := by cases args; simp_all
  obtain ⟨rfl, rfl⟩ := trodVars_none hV
  obtain ⟨a0, rfl, rfl, rfl, w0⟩ := open_int Try.underlying2 (hval 0 2 v0 rfl rfl) h0
  obtain ⟨a1, rfl, rfl, rfl, w1⟩ := open_int Try.underlying3 (hval 1 3 v1 rfl rfl) h1
  obtain ⟨a2a, a2b, a2c, rfl, wa2a, wa2b, wa2c⟩ := Law.open_three Try.underlying23 (by kernel_rfl) (by kernel_rfl) (by kernel_rfl) (by kernel_rfl) (hval 2 23 v2 rfl rfl) h2
  clear hA0 hval0
  refine (walk a0 w0 a1 w1 a2a wa2a a2b wa2b a2c wa2c W ).mono fun e W' ⟨he, hg⟩ => ?_
  subst he
  exact ⟨_, rfl, Law.law_post false true false laid (by kernel_rfl) rfl Try.underlying4 rfl hW' rfl rfl rfl hg⟩
theorem c1 : Rows.statManyRow.wf (OpenSpec.ofChange Rows.statManySpec) = true := by kernel_rfl
theorem c3 : mapsRowed Try.prog = true := by kernel_rfl
theorem c10 : (Rows.statManyRow.inPlace == Try.prog.inPlace 3) = true := by kernel_rfl
theorem c11 : (Rows.statManyRow.unfollowed == Try.prog.unfollowed 3) = true := by kernel_rfl
theorem c12 : (Rows.statManyRow.recurses == Try.prog.recurses 3) = true := by kernel_rfl
theorem c13 : (Rows.statManyRow.named == Try.prog.varsNamed 3) = true := by kernel_rfl
theorem c23 : (Rows.statManyRow.plainKeys == Try.prog.plainKeys) = true := by kernel_rfl
theorem c7 : (Try.prog.stops == []) = true := by kernel_rfl
theorem c9 : (Try.prog.stopKnobs == []) = true := by kernel_rfl
theorem c24 : Try.prog.stopsHeard = true := by kernel_rfl
set_option maxRecDepth 100000 in
theorem words : Try.prog.initOrder.toList = List.map Char.ofNat [104, 97, 114, 110, 101, 115, 115, 32, 48, 53, 99, 54, 102, 51, 55, 48, 51, 102, 57, 50, 48, 50, 54, 102, 54, 51, 98, 99, 56, 55, 98, 97, 97, 102, 100, 98, 102, 49, 56, 55, 51, 48, 50, 48, 97, 49, 50, 53, 98, 100, 98, 102, 97, 54, 48, 53, 97, 97, 50, 101, 52, 48, 53, 57, 49, 101, 49, 100, 49, 100, 100, 55, 32, 99, 117, 116, 32, 97, 116, 32, 115, 112, 105, 110, 110, 97, 107, 101, 114, 47, 115, 112, 105, 110, 110, 97, 107, 101, 114, 108, 97, 119, 57, 46, 83, 116, 97, 116, 77, 97, 110, 121] := by
  have e : Try.prog.initOrder = String.ofList (List.map Char.ofNat [104, 97, 114, 110, 101, 115, 115, 32, 48, 53, 99, 54, 102, 51, 55, 48, 51, 102, 57, 50, 48, 50, 54, 102, 54, 51, 98, 99, 56, 55, 98, 97, 97, 102, 100, 98, 102, 49, 56, 55, 51, 48, 50, 48, 97, 49, 50, 53, 98, 100, 98, 102, 97, 54, 48, 53, 97, 97, 50, 101, 52, 48, 53, 57, 49, 101, 49, 100, 49, 100, 100, 55, 32, 99, 117, 116, 32, 97, 116, 32, 115, 112, 105, 110, 110, 97, 107, 101, 114, 47, 115, 112, 105, 110, 110, 97, 107, 101, 114, 108, 97, 119, 57, 46, 83, 116, 97, 116, 77, 97, 110, 121]) := by kernel_rfl
  rw [e]; exact String.toList_ofList
set_option maxRecDepth 100000 in
theorem ws : behindMainWord (wordsSigns Try.prog.initOrder.toList) = [List.map Char.ofNat [99, 117, 116], List.map Char.ofNat [97, 116], List.map Char.ofNat [115, 112, 105, 110, 110, 97, 107, 101, 114, 47, 115, 112, 105, 110, 110, 97, 107, 101, 114, 108, 97, 119, 57, 46, 83, 116, 97, 116, 77, 97, 110, 121]] := by
  rw [words]; kernel_rfl
theorem make_of {P : Program} {r : List (List Char)} (h : behindMainWord (wordsSigns P.initOrder.toList) = List.map Char.ofNat [99, 117, 116] :: r) : P.make = some .cut := by
  unfold Program.make; rw [h]; rfl
theorem may_of {P : Program} {r : List (List Char)} (h : behindMainWord (wordsSigns P.initOrder.toList) = List.map Char.ofNat [99, 117, 116] :: r) (hs : stripLifts liftWords (List.map Char.ofNat [99, 117, 116] :: r) = ([], List.map Char.ofNat [99, 117, 116] :: r)) (h1 : P.laysLater = false) (h2 : P.bearsReflect = false) (h3 : P.doorFits [] = true) : P.mayEnter = true := by
  unfold Program.mayEnter; rw [h]; simp only [hs, h1, h2, h3]; rfl
theorem may1 : Try.prog.laysLater = false := by kernel_rfl
theorem may2 : Try.prog.bearsReflect = false := by kernel_rfl
theorem may3 : Try.prog.doorFits [] = true := by kernel_rfl
theorem c25 : Try.prog.mayEnter = true := may_of ws (by kernel_rfl) may1 may2 may3
theorem hl : Try.prog.headLifts = [] := by
  unfold Program.headLifts; rw [ws]; kernel_rfl
theorem c26 : (Rows.statManyRow.lifted == Try.prog.liftsFinal) = true := by
  unfold Program.liftsFinal; rw [ws, hl]; kernel_rfl
theorem c27 : (Try.prog.make == some Rows.statManyRow.make) = true := by
  rw [make_of ws]; kernel_rfl
theorem closed : joinedFacts Try.prog 3 Try.f3 Rows.statManySpec Rows.statManyRow = true := by
  simp only [joinedFacts, Bool.and_eq_true]
  and_intros
  all_goals first | with_reducible exact c1 | with_reducible exact laid | with_reducible exact c3 | with_reducible exact c10 | with_reducible exact c11 | with_reducible exact c12 | with_reducible exact c13 | with_reducible exact c23 | with_reducible exact c7 | with_reducible exact c9 | with_reducible exact c24 | with_reducible exact c25 | with_reducible exact c26 | with_reducible exact c27 | kernel_rfl
theorem over : Rows.statManyRow.holds Try.pinned (OpenSpec.ofChange Rows.statManySpec) :=
  OpenClaim.holds_of_wide 3 Try.f3 rfl rfl rfl rfl rfl rfl rfl ⟨rfl, rfl, rfl, rfl, rfl⟩ rfl rfl rfl rfl rfl (by kernel_rfl) Try.func3 closed
    (of_decide_eq_true (by kernel_rfl)) (by unfold Func.isWrapper; first | (rw [if_pos (by decide +kernel)]; kernel_rfl) | (rw [if_neg (by decide +kernel)]; exact ⟨rfl, rfl⟩))
    (fun os started H enc _ => lifted os started H enc)
theorem proved : Rows.StatManySaid :=
  over
end Go.Proofs.Ytndcealgackgiaa.statMany
