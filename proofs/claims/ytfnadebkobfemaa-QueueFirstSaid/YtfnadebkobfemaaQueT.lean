/- Layer 20: told. -/
import Derived.Test.YtfnadebkobfemaaQueS
namespace Go.Proofs.Ytfnadebkobfemaa.Que
open Go.Eng Go.RowKit
set_option linter.unusedVariables false
set_option linter.unusedSimpArgs false
noncomputable def newQ : Eng.Obj := fun args h => (newQ0 args h).bind (adoptH 16 2 103 KW h)
theorem newQ_ok : ObjOk Try.prog 18 newQ := newQ0_ok.adopt 16 2 103 KW
noncomputable def lateD : Eng.Obj := execO J1 (rounds J1 6 1) 21
theorem lateD_ok : ObjOk Try.prog 21 lateD := execO_rounds J1_ok mixed 6 1 Try.func21 (by kernel_rfl) (by kernel_rfl)
noncomputable def allD : Eng.Obj := execO J0 (rounds J0 6 1) 23
theorem allD_ok : ObjOk Try.prog 23 allD := execO_rounds J0_ok mixed 6 1 Try.func23 (by kernel_rfl) (by kernel_rfl)
noncomputable def intsD : Eng.Spec := execS J0 (rounds J0 6 1) 39
theorem intsD_ok : SpecOk Try.prog 39 intsD := execS_rounds J0_ok mixed 6 1 Try.func39 (by kernel_rfl) (by kernel_rfl)
noncomputable def J2 : Cfg := ⟨Try.prog, lookG [(18, .obj newQ.plain), (19, .obj putQ.plain), (20, .obj takeQ.plain), (21, .obj lateD.plain), (23, .obj allD.plain), (72, .obj depthQ.plain), (39, .val (Spec.plain intsD))], [], 0⟩
theorem J2_ok : J2.Ok := Cfg.ok ⟨newQ_ok.plain, putQ_ok.plain, takeQ_ok.plain, lateD_ok.plain, allD_ok.plain, depthQ_ok.plain, intsD_ok.plain, trivial⟩ trivial
theorem told_run : (execS J2 noLoops 22 []).eval = some (.s (.bool true)) := by kernel_rfl
end Go.Proofs.Ytfnadebkobfemaa.Que
