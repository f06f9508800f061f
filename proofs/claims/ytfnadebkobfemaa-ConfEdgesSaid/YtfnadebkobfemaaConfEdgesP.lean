/- The statement 'ConfEdges' of the given rows: for every input the law answers true, and each argument reads behind the call as it read before. No condition but the row's own. -/
import Derived.Test.YtfnadebkobfemaaRows
import Derived.Test.YtfnadebkobfemaaLaw
import Derived.Test.YtfnadebkobfemaaConf3G
import Derived.WalkKit
import Derived.ProofKit
import Derived.OpenShut
import Derived.ChangeOld
import Derived.Below
namespace Go.Proofs.Ytfnadebkobfemaa.confEdges
open Go.ChangeShapes Go.WideShapes Go.ChangeAt Go.RowKit
set_option linter.unusedVariables false
theorem own : ownKnob Try.prog.godebug = none := by kernel_rfl
theorem laid : laidOutB Try.prog = true := by kernel_rfl
theorem walk (a0 : Int) (w0 : (Lit.int .i64 a0).wf = true) (a1 : Int) (w1 : (Lit.int .i64 a1).wf = true) (w : World)  : Calls Try.prog 10 #[.int .i64 a0, .int .i64 a1] w fun e w' => e = .returned (.bool true) ∧ Below w.heap.size w w' :=
  Conf.confEdges_walk a0 w0 a1 w1 w 
set_option maxRecDepth 100000 in
theorem lifted (os : Os) (started : os.Started) (H : Type) (enc : TypeId × Value → H) :
    ReturnsInHanded {} Try.checked os 10 .any (Rows.confEdgesSpec.pre6 enc Try.prog Try.f10 Rows.confEdgesRow.domain false) (Rows.confEdgesSpec.post enc Try.prog Try.f10 false true false false) := by
  refine returnsInHanded_of_change (C := Try.checked) own started (by kernel_rfl) Try.func10
    (ChangeSpec.witness6 (enc := enc) (C := Try.checked) false ⟨#[], #[.int .i64 0, .int .i64 0], []⟩ 8 (by kernel_rfl) (by kernel_rfl) (by kernel_rfl) (by kernel_rfl)) ?_
  intro W base args ds gs before hval0 hW hcnd _
  have hval : ∀ (j : Nat) t v, Try.f10.params[j]? = some t → args[j]? = some v → Value.okWide Try.prog W .any base t v := hval0
  have hW' := hW
  obtain ⟨p, q, hA0, hV, rfl, hfz, hnd⟩ := hW
  have hA : DataW.TrodAll enc Try.prog W 0 (fun _ => true) true Try.f10.params.toList args.toList ds p := hA0
  rw [Try.params10] at hA hval
  obtain ⟨v0, vs0, d0, ds0, p0, q0, hargs, rfl, rfl, h0, r0⟩ := trodAll_cons hA
  obtain ⟨v1, vs1, d1, ds1, p1, q1, rfl, rfl, rfl, h1, r1⟩ := trodAll_cons r0
  obtain ⟨rfl, rfl, rfl⟩ := trodAll_nil r1
  obtain rfl : args = #[v0, v1] := by cases args; simp_all
  obtain ⟨rfl, rfl⟩ := trodVars_none hV
  obtain ⟨a0, rfl, rfl, rfl, w0⟩ := open_int Try.underlying3 (hval 0 3 v0 rfl rfl) h0
  obtain ⟨a1, rfl, rfl, rfl, w1⟩ := open_int Try.underlying3 (hval 1 3 v1 rfl rfl) h1
  clear hA0 hval0
  refine (walk a0 w0 a1 w1 W ).mono fun e W' ⟨he, hg⟩ => ?_
  subst he
  exact ⟨_, rfl, Law.law_post false true false laid (by kernel_rfl) rfl Try.underlying4 rfl hW' rfl rfl rfl hg⟩
theorem c1 : Rows.confEdgesRow.wf (OpenSpec.ofChange Rows.confEdgesSpec) = true := by kernel_rfl
theorem c3 : mapsRowed Try.prog = true := by kernel_rfl
theorem c10 : (Rows.confEdgesRow.inPlace == Try.prog.inPlace 10) = true := by kernel_rfl
theorem c11 : (Rows.confEdgesRow.unfollowed == Try.prog.unfollowed 10) = true := by kernel_rfl
theorem c12 : (Rows.confEdgesRow.recurses == Try.prog.recurses 10) = true := by kernel_rfl
theorem c13 : (Rows.confEdgesRow.named == Try.prog.varsNamed 10) = true := by kernel_rfl
theorem c23 : (Rows.confEdgesRow.plainKeys == Try.prog.plainKeys) = true := by kernel_rfl
theorem closed : joinedFacts Try.prog 10 Try.f10 Rows.confEdgesSpec Rows.confEdgesRow = true := by
  simp only [joinedFacts, Bool.and_eq_true]
  and_intros
  all_goals first | with_reducible exact c1 | with_reducible exact laid | with_reducible exact c3 | with_reducible exact c10 | with_reducible exact c11 | with_reducible exact c12 | with_reducible exact c13 | with_reducible exact c23 | kernel_rfl
theorem over : Rows.confEdgesRow.holds Try.pinned (OpenSpec.ofChange Rows.confEdgesSpec) :=
  OpenClaim.holds_of_wide 10 Try.f10 rfl rfl rfl rfl rfl rfl rfl ⟨rfl, rfl, rfl, rfl, rfl⟩ rfl rfl rfl rfl rfl (by kernel_rfl) Try.func10 closed
    (of_decide_eq_true (by kernel_rfl)) (by unfold Func.isWrapper; first | (rw [if_pos (by decide +kernel)]; kernel_rfl) | (rw [if_neg (by decide +kernel)]; exact ⟨rfl, rfl⟩))
    (fun os started H enc _ => lifted os started H enc)
theorem proved : Rows.ConfEdgesSaid :=
  over
end Go.Proofs.Ytfnadebkobfemaa.confEdges
