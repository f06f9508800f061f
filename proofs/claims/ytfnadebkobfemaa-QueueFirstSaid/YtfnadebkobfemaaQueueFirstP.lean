/- The statement 'QueueFirst' of the given rows: for every input the law answers true, and each argument reads behind the call as it read before. No condition but the row's own. -/
import Derived.Test.YtfnadebkobfemaaRows
import Derived.Test.YtfnadebkobfemaaLaw3
import Derived.Test.YtfnadebkobfemaaQueCg
import Derived.WalkKit
import Derived.ProofKit
import Derived.OpenShut
import Derived.ChangeOld
import Derived.Below
namespace Go.Proofs.Ytfnadebkobfemaa.queueFirst
open Go.ChangeShapes Go.WideShapes Go.ChangeAt Go.RowKit
set_option linter.unusedVariables false
theorem own : ownKnob Try.prog.godebug = none := by kernel_rfl
theorem laid : laidOutB Try.prog = true := by kernel_rfl
theorem walk (a0 : List Int) (z0 : a0.length ≤ maxLen) (w0 : ∀ x ∈ a0, (Lit.int .i64 x).wf = true) (x0 : Value) (a1 : Int) (w1 : (Lit.int .i64 a1).wf = true) (w : World) (hx0 : Eng.holdsP 0 w (.orow 3 [.int .i64] a0) x0) : Calls Try.prog 3 #[x0, .int .i64 a1] w fun e w' => e = .returned (.bool true) ∧ Below w.heap.size w w' :=
  Que.queueFirst_walk a0 z0 w0 x0 a1 w1 w hx0
set_option maxRecDepth 100000 in
theorem lifted (os : Os) (started : os.Started) (H : Type) (enc : TypeId × Value → H) :
    ReturnsInHanded {} Try.checked os 3 .any (Rows.queueFirstSpec.pre6 enc Try.prog Try.f3 Rows.queueFirstRow.domain false) (Rows.queueFirstSpec.post enc Try.prog Try.f3 false true false false) := by
  refine returnsInHanded_of_change (C := Try.checked) own started (by kernel_rfl) Try.func3
    (ChangeSpec.witness6 (enc := enc) (C := Try.checked) false ⟨#[], #[.slice none 0 0, .int .i64 0], []⟩ 8 (by kernel_rfl) (by kernel_rfl) (by kernel_rfl) (by kernel_rfl)) ?_
  intro W base args ds gs before hval0 hW hcnd _
  have hval : ∀ (j : Nat) t v, Try.f3.params[j]? = some t → args[j]? = some v → Value.okWide Try.prog W .any base t v := hval0
  have hW' := hW
  obtain ⟨p, q, hA0, hV, rfl, hfz, hnd⟩ := hW
  have hA : DataW.TrodAll enc Try.prog W 0 (fun _ => true) true Try.f3.params.toList args.toList ds p := hA0
  rw [Try.params3] at hA hval
  obtain ⟨v0, vs0, d0, ds0, p0, q0, hargs, rfl, rfl, h0, r0⟩ := trodAll_cons hA
  obtain ⟨v1, vs1, d1, ds1, p1, q1, rfl, rfl, rfl, h1, r1⟩ := trodAll_cons r0
  obtain ⟨rfl, rfl, rfl⟩ := trodAll_nil r1
  obtain rfl : args = #[v0, v1] := by cases args; simp_all
  obtain ⟨rfl, rfl⟩ := trodVars_none hV
  obtain ⟨a0, z0, w0, hx0⟩ := Law.open_i64s Try.underlying22 Try.underlying3 (by kernel_rfl) (hval 0 22 v0 rfl rfl) h0
  obtain ⟨a1, rfl, rfl, rfl, w1⟩ := open_int Try.underlying3 (hval 1 3 v1 rfl rfl) h1
  clear hA0 hval0
  refine (walk a0 z0 w0 v0 a1 w1 W hx0).mono fun e W' ⟨he, hg⟩ => ?_
  subst he
  exact ⟨_, rfl, Law.law_post false true false laid (by kernel_rfl) rfl Try.underlying4 rfl hW' rfl rfl rfl hg⟩
theorem c1 : Rows.queueFirstRow.wf (OpenSpec.ofChange Rows.queueFirstSpec) = true := by kernel_rfl
theorem c3 : mapsRowed Try.prog = true := by kernel_rfl
theorem c10 : (Rows.queueFirstRow.inPlace == Try.prog.inPlace 3) = true := by kernel_rfl
theorem c11 : (Rows.queueFirstRow.unfollowed == Try.prog.unfollowed 3) = true := by kernel_rfl
theorem c12 : (Rows.queueFirstRow.recurses == Try.prog.recurses 3) = true := by kernel_rfl
theorem c13 : (Rows.queueFirstRow.named == Try.prog.varsNamed 3) = true := by kernel_rfl
theorem c23 : (Rows.queueFirstRow.plainKeys == Try.prog.plainKeys) = true := by kernel_rfl
theorem closed : joinedFacts Try.prog 3 Try.f3 Rows.queueFirstSpec Rows.queueFirstRow = true := by
  simp only [joinedFacts, Bool.and_eq_true]
  and_intros
  all_goals first | with_reducible exact c1 | with_reducible exact laid | with_reducible exact c3 | with_reducible exact c10 | with_reducible exact c11 | with_reducible exact c12 | with_reducible exact c13 | with_reducible exact c23 | kernel_rfl
theorem over : Rows.queueFirstRow.holds Try.pinned (OpenSpec.ofChange Rows.queueFirstSpec) :=
  OpenClaim.holds_of_wide 3 Try.f3 rfl rfl rfl rfl rfl rfl rfl ⟨rfl, rfl, rfl, rfl, rfl⟩ rfl rfl rfl rfl rfl (by kernel_rfl) Try.func3 closed
    (of_decide_eq_true (by kernel_rfl)) (by unfold Func.isWrapper; first | (rw [if_pos (by decide +kernel)]; kernel_rfl) | (rw [if_neg (by decide +kernel)]; exact ⟨rfl, rfl⟩))
    (fun os started H enc _ => lifted os started H enc)
theorem proved : Rows.QueueFirstSaid :=
  over
end Go.Proofs.Ytfnadebkobfemaa.queueFirst
