/- The statement 'SubsetStays' of the given rows: for every input the law answers true, and each argument reads behind the call as it read before. No condition but the row's own. -/
import Derived.Test.YtjjclmgiehnkbaaRows
import Derived.Test.YtjjclmgiehnkbaaSubsetStaysQ
import Derived.WalkKit
import Derived.ProofKit
import Derived.OpenShut
import Derived.ChangeOld
import Derived.Below
namespace Go.Proofs.Ytjjclmgiehnkbaa.subsetStays
open Go.ChangeShapes Go.WideShapes Go.ChangeAt Go.RowKit
set_option linter.unusedVariables false
theorem own : ownKnob Try.prog.godebug = none := by kernel_rfl
theorem laid : laidOutB Try.prog = true := by kernel_rfl
theorem walk (a0 : Int) (w0 : (Lit.int .i64 a0).wf = true) (a1 : Int) (w1 : (Lit.int .i64 a1).wf = true) (a2 : Int) (w2 : (Lit.int .i64 a2).wf = true) (a3 : Int) (w3 : (Lit.int .i64 a3).wf = true) (w : World)  : Calls Try.prog 6 #[.int .i64 a0, .int .i64 a1, .int .i64 a2, .int .i64 a3] w fun e w' => e = .returned (.bool true) ∧ Below w.heap.size w w' :=
  Sub.stays_walk a0 w0 a1 w1 a2 w2 a3 w3 w 
set_option maxRecDepth 100000 in
theorem lifted (os : Os) (started : os.Started) (H : Type) (enc : TypeId × Value → H) :
    ReturnsInHanded {} Try.checked os 6 .any (Rows.subsetStaysSpec.pre6 enc Try.prog Try.f6 Rows.subsetStaysRow.domain false) (Rows.subsetStaysSpec.post enc Try.prog Try.f6 false true false false) := by
  refine returnsInHanded_of_change (C := Try.checked) own started (by kernel_rfl) Try.func6
    (ChangeSpec.witness6 (enc := enc) (C := Try.checked) false ⟨#[], #[.int .i64 0, .int .i64 0, .int .i64 0, .int .i64 0], []⟩ 8 (by kernel_rfl) (by kernel_rfl) (by kernel_rfl) (by kernel_rfl)) ?_
  intro W base args ds gs before hval0 hW hcnd _
  have hval : ∀ (j : Nat) t v, Try.f6.params[j]? = some t → args[j]? = some v → Value.okWide Try.prog W .any base t v := hval0
  have hW' := hW
  obtain ⟨p, q, hA0, hV, rfl, hfz, hnd⟩ := hW
  have hA : DataW.TrodAll enc Try.prog W 0 (fun _ => true) true Try.f6.params.toList args.toList ds p := hA0
  rw [Try.params6] at hA hval
  obtain ⟨v0, vs0, d0, ds0, p0, q0, hargs, rfl, rfl, h0, r0⟩ := trodAll_cons hA
  obtain ⟨v1, vs1, d1, ds1, p1, q1, rfl, rfl, rfl, h1, r1⟩ := trodAll_cons r0
  obtain ⟨v2, vs2, d2, ds2, p2, q2, rfl, rfl, rfl, h2, r2⟩ := trodAll_cons r1
  obtain ⟨v3, vs3, d3, ds3, p3, q3, rfl, rfl, rfl, h3, r3⟩ := trodAll_cons r2
  obtain ⟨rfl, rfl, rfl⟩ := trodAll_nil r3
  obtain rfl : args = #[v0, v1, v2, v3] := by cases args; simp_all
  obtain ⟨rfl, rfl⟩ := trodVars_none hV
  obtain ⟨a0, rfl, rfl, rfl, w0⟩ := open_int Try.underlying3 (hval 0 3 v0 rfl rfl) h0
  obtain ⟨a1, rfl, rfl, rfl, w1⟩ := open_int Try.underlying3 (hval 1 3 v1 rfl rfl) h1
  obtain ⟨a2, rfl, rfl, rfl, w2⟩ := open_int Try.underlying3 (hval 2 3 v2 rfl rfl) h2
  obtain ⟨a3, rfl, rfl, rfl, w3⟩ := open_int Try.underlying3 (hval 3 3 v3 rfl rfl) h3
  clear hA0 hval0
  refine (walk a0 w0 a1 w1 a2 w2 a3 w3 W ).mono fun e W' ⟨he, hg⟩ => ?_
  subst he
  exact ⟨_, rfl, Law.law_post false true false laid (by kernel_rfl) rfl Try.underlying4 rfl hW' rfl rfl rfl hg⟩
theorem c1 : Rows.subsetStaysRow.wf (OpenSpec.ofChange Rows.subsetStaysSpec) = true := by kernel_rfl
theorem c3 : mapsRowed Try.prog = true := by kernel_rfl
theorem c10 : (Rows.subsetStaysRow.inPlace == Try.prog.inPlace 6) = true := by kernel_rfl
theorem c11 : (Rows.subsetStaysRow.unfollowed == Try.prog.unfollowed 6) = true := by kernel_rfl
theorem c12 : (Rows.subsetStaysRow.recurses == Try.prog.recurses 6) = true := by kernel_rfl
theorem c13 : (Rows.subsetStaysRow.named == Try.prog.varsNamed 6) = true := by kernel_rfl
theorem c23 : (Rows.subsetStaysRow.plainKeys == Try.prog.plainKeys) = true := by kernel_rfl
theorem c7 : (Try.prog.stops == []) = true := by kernel_rfl
theorem c9 : (Try.prog.stopKnobs == []) = true := by kernel_rfl
theorem c24 : Try.prog.stopsHeard = true := by kernel_rfl
set_option maxRecDepth 100000 in
theorem words : Try.prog.initOrder.toList = List.map Char.ofNat [104, 97, 114, 110, 101, 115, 115, 32, 55, 55, 49, 97, 54, 48, 53, 53, 48, 97, 51, 100, 100, 52, 48, 49, 101, 100, 50, 55, 48, 57, 55, 52, 98, 97, 53, 56, 51, 53, 56, 55, 101, 48, 53, 57, 57, 102, 101, 50, 54, 101, 55, 101, 56, 52, 55, 99, 50, 49, 52, 51, 101, 54, 51, 50, 50, 50, 50, 56, 52, 49, 100, 53, 32, 99, 117, 116, 32, 97, 116, 32, 115, 112, 105, 110, 110, 97, 107, 101, 114, 47, 115, 112, 105, 110, 110, 97, 107, 101, 114, 108, 97, 119, 57, 46, 83, 116, 97, 116, 77, 97, 110, 121, 32, 115, 112, 105, 110, 110, 97, 107, 101, 114, 47, 115, 112, 105, 110, 110, 97, 107, 101, 114, 108, 97, 119, 49, 56, 46, 83, 117, 98, 115, 101, 116, 79, 110, 101, 32, 115, 112, 105, 110, 110, 97, 107, 101, 114, 47, 115, 112, 105, 110, 110, 97, 107, 101, 114, 108, 97, 119, 49, 56, 46, 83, 117, 98, 115, 101, 116, 65, 115, 107, 115, 32, 115, 112, 105, 110, 110, 97, 107, 101, 114, 47, 115, 112, 105, 110, 110, 97, 107, 101, 114, 108, 97, 119, 49, 56, 46, 83, 117, 98, 115, 101, 116, 83, 116, 97, 121, 115, 32, 115, 112, 105, 110, 110, 97, 107, 101, 114, 47, 115, 112, 105, 110, 110, 97, 107, 101, 114, 108, 97, 119, 49, 56, 46, 83, 117, 98, 115, 101, 116, 80, 97, 114, 116, 115] := by
  have e : Try.prog.initOrder = String.ofList (List.map Char.ofNat [104, 97, 114, 110, 101, 115, 115, 32, 55, 55, 49, 97, 54, 48, 53, 53, 48, 97, 51, 100, 100, 52, 48, 49, 101, 100, 50, 55, 48, 57, 55, 52, 98, 97, 53, 56, 51, 53, 56, 55, 101, 48, 53, 57, 57, 102, 101, 50, 54, 101, 55, 101, 56, 52, 55, 99, 50, 49, 52, 51, 101, 54, 51, 50, 50, 50, 50, 56, 52, 49, 100, 53, 32, 99, 117, 116, 32, 97, 116, 32, 115, 112, 105, 110, 110, 97, 107, 101, 114, 47, 115, 112, 105, 110, 110, 97, 107, 101, 114, 108, 97, 119, 57, 46, 83, 116, 97, 116, 77, 97, 110, 121, 32, 115, 112, 105, 110, 110, 97, 107, 101, 114, 47, 115, 112, 105, 110, 110, 97, 107, 101, 114, 108, 97, 119, 49, 56, 46, 83, 117, 98, 115, 101, 116, 79, 110, 101, 32, 115, 112, 105, 110, 110, 97, 107, 101, 114, 47, 115, 112, 105, 110, 110, 97, 107, 101, 114, 108, 97, 119, 49, 56, 46, 83, 117, 98, 115, 101, 116, 65, 115, 107, 115, 32, 115, 112, 105, 110, 110, 97, 107, 101, 114, 47, 115, 112, 105, 110, 110, 97, 107, 101, 114, 108, 97, 119, 49, 56, 46, 83, 117, 98, 115, 101, 116, 83, 116, 97, 121, 115, 32, 115, 112, 105, 110, 110, 97, 107, 101, 114, 47, 115, 112, 105, 110, 110, 97, 107, 101, 114, 108, 97, 119, 49, 56, 46, 83, 117, 98, 115, 101, 116, 80, 97, 114, 116, 115]) := by kernel_rfl
  rw [e]; exact String.toList_ofList
set_option maxRecDepth 100000 in
theorem ws : behindMainWord (wordsSigns Try.prog.initOrder.toList) = [List.map Char.ofNat [99, 117, 116], List.map Char.ofNat [97, 116], List.map Char.ofNat [115, 112, 105, 110, 110, 97, 107, 101, 114, 47, 115, 112, 105, 110, 110, 97, 107, 101, 114, 108, 97, 119, 57, 46, 83, 116, 97, 116, 77, 97, 110, 121], List.map Char.ofNat [115, 112, 105, 110, 110, 97, 107, 101, 114, 47, 115, 112, 105, 110, 110, 97, 107, 101, 114, 108, 97, 119, 49, 56, 46, 83, 117, 98, 115, 101, 116, 79, 110, 101], List.map Char.ofNat [115, 112, 105, 110, 110, 97, 107, 101, 114, 47, 115, 112, 105, 110, 110, 97, 107, 101, 114, 108, 97, 119, 49, 56, 46, 83, 117, 98, 115, 101, 116, 65, 115, 107, 115], List.map Char.ofNat [115, 112, 105, 110, 110, 97, 107, 101, 114, 47, 115, 112, 105, 110, 110, 97, 107, 101, 114, 108, 97, 119, 49, 56, 46, 83, 117, 98, 115, 101, 116, 83, 116, 97, 121, 115], List.map Char.ofNat [115, 112, 105, 110, 110, 97, 107, 101, 114, 47, 115, 112, 105, 110, 110, 97, 107, 101, 114, 108, 97, 119, 49, 56, 46, 83, 117, 98, 115, 101, 116, 80, 97, 114, 116, 115]] := by
  rw [words]; kernel_rfl
theorem make_of {P : Program} {r : List (List Char)} (h : behindMainWord (wordsSigns P.initOrder.toList) = List.map Char.ofNat [99, 117, 116] :: r) : P.make = some .cut := by
  unfold Program.make; rw [h]; rfl
theorem may_of {P : Program} {r : List (List Char)} (h : behindMainWord (wordsSigns P.initOrder.toList) = List.map Char.ofNat [99, 117, 116] :: r) (hs : stripLifts liftWords (List.map Char.ofNat [99, 117, 116] :: r) = ([], List.map Char.ofNat [99, 117, 116] :: r)) (h1 : P.laysLater = false) (h2 : P.bearsReflect = false) (h3 : P.doorFits [] = true) : P.mayEnter = true := by
  unfold Program.mayEnter; rw [h]; simp only [hs, h1, h2, h3]; rfl
theorem may1 : Try.prog.laysLater = false := by kernel_rfl
theorem may2 : Try.prog.bearsReflect = false := by kernel_rfl
theorem may3 : Try.prog.doorFits [] = true := by kernel_rfl
theorem c25 : Try.prog.mayEnter = true := may_of ws (by kernel_rfl) may1 may2 may3
theorem hl : Try.prog.headLifts = [] := by
  unfold Program.headLifts; rw [ws]; kernel_rfl
theorem c26 : (Rows.subsetStaysRow.lifted == Try.prog.liftsFinal) = true := by
  unfold Program.liftsFinal; rw [ws, hl]; kernel_rfl
theorem c27 : (Try.prog.make == some Rows.subsetStaysRow.make) = true := by
  rw [make_of ws]; kernel_rfl
theorem closed : joinedFacts Try.prog 6 Try.f6 Rows.subsetStaysSpec Rows.subsetStaysRow = true := by
  simp only [joinedFacts, Bool.and_eq_true]
  and_intros
  all_goals first | with_reducible exact c1 | with_reducible exact laid | with_reducible exact c3 | with_reducible exact c10 | with_reducible exact c11 | with_reducible exact c12 | with_reducible exact c13 | with_reducible exact c23 | with_reducible exact c7 | with_reducible exact c9 | with_reducible exact c24 | with_reducible exact c25 | with_reducible exact c26 | with_reducible exact c27 | kernel_rfl
theorem over : Rows.subsetStaysRow.holds Try.pinned (OpenSpec.ofChange Rows.subsetStaysSpec) :=
  OpenClaim.holds_of_wide 6 Try.f6 rfl rfl rfl rfl rfl rfl rfl ⟨rfl, rfl, rfl, rfl, rfl⟩ rfl rfl rfl rfl rfl (by kernel_rfl) Try.func6 closed
    (of_decide_eq_true (by kernel_rfl)) (by unfold Func.isWrapper; first | (rw [if_pos (by decide +kernel)]; kernel_rfl) | (rw [if_neg (by decide +kernel)]; exact ⟨rfl, rfl⟩))
    (fun os started H enc _ => lifted os started H enc)
theorem proved : Rows.SubsetStaysSaid :=
  over
end Go.Proofs.Ytjjclmgiehnkbaa.subsetStays
