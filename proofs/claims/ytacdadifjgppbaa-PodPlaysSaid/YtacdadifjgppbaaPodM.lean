/- Layer 8: the contract of milli.Down where nothing is beyond 64 bits. -/
import Derived.Test.YtacdadifjgppbaaBrkAb
namespace Go.Proofs.Ytacdadifjgppbaa.Pod
open Go.Eng Go.RowKit Go.Flt Lod Brk
set_option linter.unusedVariables false
set_option linter.unusedSimpArgs false
noncomputable def quotS : Eng.Spec := execS R0 noLoops 69
noncomputable def tellS : Eng.Spec := execS R0 noLoops 68
theorem quot_ok : SpecOk Try.prog 69 quotS := execS_plain R0_ok mixed Try.func69 (by kernel_rfl) (by kernel_rfl)
theorem tell_ok : SpecOk Try.prog 68 tellS := execS_plain R0_ok mixed Try.func68 (by kernel_rfl) (by kernel_rfl)
noncomputable def M1 : Cfg := ⟨Try.prog, lookG [(69, .val quotS), (68, .val tellS)], [], 0⟩
theorem M1_ok : M1.Ok := Cfg.ok ⟨quot_ok, tell_ok, trivial⟩ trivial
noncomputable def downS : Eng.Spec := execS M1 noLoops 66
theorem downS_ok : SpecOk Try.prog 66 downS := execS_plain M1_ok mixed Try.func66 (by kernel_rfl) (by kernel_rfl)
end Go.Proofs.Ytacdadifjgppbaa.Pod
