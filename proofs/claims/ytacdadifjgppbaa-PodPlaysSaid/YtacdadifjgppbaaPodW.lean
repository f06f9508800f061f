/- Layer 8: the contracts that the statements call. -/
import Derived.Test.YtacdadifjgppbaaPodV
namespace Go.Proofs.Ytacdadifjgppbaa.Pod
open Go.Eng Go.RowKit Go.Flt Lod Brk
set_option linter.unusedVariables false
set_option linter.unusedSimpArgs false
noncomputable def u64S : Eng.Spec := execS R0 noLoops 43
theorem u64S_ok : SpecOk Try.prog 43 u64S := execS_plain R0_ok mixed Try.func43 (by kernel_rfl) (by kernel_rfl)
noncomputable def D5 : Cfg := ⟨Try.prog, lookG [(48, .val yesD), (43, .val u64S), (44, .obj newP), (53, .see loadS), (45, .obj enterP), (46, .obj leaveP), (47, .obj statP)], [59], 0⟩
theorem D5_ok : D5.Ok := Cfg.ok ⟨told_ok, u64S_ok, newP_ok, loadS_ok, enterP_ok, leaveP_ok, statP_ok, trivial⟩ eS
end Go.Proofs.Ytacdadifjgppbaa.Pod
