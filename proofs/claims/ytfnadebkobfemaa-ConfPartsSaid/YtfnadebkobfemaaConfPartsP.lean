/- The statement 'ConfParts' of the given rows: for every input the law answers true, and each argument reads behind the call as it read before. No condition but the row's own. -/
import Derived.Test.YtfnadebkobfemaaRows
import Derived.Test.YtfnadebkobfemaaLaw
import Derived.Test.YtfnadebkobfemaaConf3H
import Derived.WalkKit
import Derived.ProofKit
import Derived.OpenShut
import Derived.ChangeOld
import Derived.Below
namespace Go.Proofs.Ytfnadebkobfemaa.confParts
open Go.ChangeShapes Go.WideShapes Go.ChangeAt Go.RowKit
set_option linter.unusedVariables false
theorem own : ownKnob Try.prog.godebug = none := by kernel_rfl
theorem laid : laidOutB Try.prog = true := by kernel_rfl
theorem walk (a0 : Conf.Cf) (w0 : a0.Ok) (a1 : Int) (w1 : (Lit.int .i64 a1).wf = true) (a2 : Bool) (w : World)  : Calls Try.prog 11 #[.agg #[.int .i64 a0.target, .int .i64 a0.util, .int .i64 a0.stable, .int .i64 a0.panic, .int .i64 a0.grain, .int .i64 a0.threshold, .int .i64 a0.up, .int .i64 a0.down, .int .i64 a0.min, .int .i64 a0.max, .int .i64 a0.initial, .int .i64 a0.grace, .int .i64 a0.delay, .int .i64 a0.burst, .int .i64 a0.limit, .int .i64 a0.queue, .int .i64 a0.timeout, .int .i64 a0.ready, .int .i64 a0.subset, .int .i64 a0.sample], .int .i64 a1, .bool a2] w fun e w' => e = .returned (.bool true) ∧ Below w.heap.size w w' :=
  Conf.confParts_walk a0 w0 a1 w1 a2 w 
set_option maxRecDepth 100000 in
theorem lifted (os : Os) (started : os.Started) (H : Type) (enc : TypeId × Value → H) :
    ReturnsInHanded {} Try.checked os 11 .any (Rows.confPartsSpec.pre6 enc Try.prog Try.f11 Rows.confPartsRow.domain false) (Rows.confPartsSpec.post enc Try.prog Try.f11 false true false false) := by
  refine returnsInHanded_of_change (C := Try.checked) own started (by kernel_rfl) Try.func11
    (ChangeSpec.witness6 (enc := enc) (C := Try.checked) false ⟨#[], #[.agg #[.int .i64 0, .int .i64 0, .int .i64 0, .int .i64 0, .int .i64 0, .int .i64 0, .int .i64 0, .int .i64 0, .int .i64 0, .int .i64 0, .int .i64 0, .int .i64 0, .int .i64 0, .int .i64 0, .int .i64 0, .int .i64 0, .int .i64 0, .int .i64 0, .int .i64 0, .int .i64 0], .int .i64 0, .bool false], []⟩ 8 (by kernel_rfl) (by kernel_rfl) (by kernel_rfl) (by kernel_rfl)) ?_
  intro W base args ds gs before hval0 hW hcnd _
  have hval : ∀ (j : Nat) t v, Try.f11.params[j]? = some t → args[j]? = some v → Value.okWide Try.prog W .any base t v := hval0
  have hW' := hW
  obtain ⟨p, q, hA0, hV, rfl, hfz, hnd⟩ := hW
  have hA : DataW.TrodAll enc Try.prog W 0 (fun _ => true) true Try.f11.params.toList args.toList ds p := hA0
  rw [Try.params11] at hA hval
  obtain ⟨v0, vs0, d0, ds0, p0, q0, hargs, rfl, rfl, h0, r0⟩ := trodAll_cons hA
  obtain ⟨v1, vs1, d1, ds1, p1, q1, rfl, rfl, rfl, h1, r1⟩ := trodAll_cons r0
  obtain ⟨v2, vs2, d2, ds2, p2, q2, rfl, rfl, rfl, h2, r2⟩ := trodAll_cons r1
  obtain ⟨rfl, rfl, rfl⟩ := trodAll_nil r2
  obtain rfl : args = #[v0, v1, v2] := by cases args; simp_all
  obtain ⟨rfl, rfl⟩ := trodVars_none hV
  obtain ⟨a0, rfl, w0⟩ := Law.open_conf Try.underlying59 (by kernel_rfl) (by kernel_rfl) (by kernel_rfl) (by kernel_rfl) (hval 0 59 v0 rfl rfl) h0
  obtain ⟨a1, rfl, rfl, rfl, w1⟩ := open_int Try.underlying3 (hval 1 3 v1 rfl rfl) h1
  obtain ⟨a2, rfl, rfl, rfl⟩ := open_bool Try.underlying4 (hval 2 4 v2 rfl rfl) h2
  clear hA0 hval0
  refine (walk a0 w0 a1 w1 a2 W ).mono fun e W' ⟨he, hg⟩ => ?_
  subst he
  exact ⟨_, rfl, Law.law_post false true false laid (by kernel_rfl) rfl Try.underlying4 rfl hW' rfl rfl rfl hg⟩
theorem c1 : Rows.confPartsRow.wf (OpenSpec.ofChange Rows.confPartsSpec) = true := by kernel_rfl
theorem c3 : mapsRowed Try.prog = true := by kernel_rfl
theorem c10 : (Rows.confPartsRow.inPlace == Try.prog.inPlace 11) = true := by kernel_rfl
theorem c11 : (Rows.confPartsRow.unfollowed == Try.prog.unfollowed 11) = true := by kernel_rfl
theorem c12 : (Rows.confPartsRow.recurses == Try.prog.recurses 11) = true := by kernel_rfl
theorem c13 : (Rows.confPartsRow.named == Try.prog.varsNamed 11) = true := by kernel_rfl
theorem c23 : (Rows.confPartsRow.plainKeys == Try.prog.plainKeys) = true := by kernel_rfl
theorem closed : joinedFacts Try.prog 11 Try.f11 Rows.confPartsSpec Rows.confPartsRow = true := by
  simp only [joinedFacts, Bool.and_eq_true]
  and_intros
  all_goals first | with_reducible exact c1 | with_reducible exact laid | with_reducible exact c3 | with_reducible exact c10 | with_reducible exact c11 | with_reducible exact c12 | with_reducible exact c13 | with_reducible exact c23 | kernel_rfl
theorem over : Rows.confPartsRow.holds Try.pinned (OpenSpec.ofChange Rows.confPartsSpec) :=
  OpenClaim.holds_of_wide 11 Try.f11 rfl rfl rfl rfl rfl rfl rfl ⟨rfl, rfl, rfl, rfl, rfl⟩ rfl rfl rfl rfl rfl (by kernel_rfl) Try.func11 closed
    (of_decide_eq_true (by kernel_rfl)) (by unfold Func.isWrapper; first | (rw [if_pos (by decide +kernel)]; kernel_rfl) | (rw [if_neg (by decide +kernel)]; exact ⟨rfl, rfl⟩))
    (fun os started H enc _ => lifted os started H enc)
theorem proved : Rows.ConfPartsSaid :=
  over
end Go.Proofs.Ytfnadebkobfemaa.confParts
