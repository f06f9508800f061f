/- Layer 6: what plain tells of a few: closed runs. -/
import Derived.Test.YtheknddbbgjpkaaPlaC
namespace Go.Proofs.Ytheknddbbgjpkaa.Pla
open Go.Eng Go.RowKit Mil Rin
set_option linter.unusedVariables false
set_option linter.unusedSimpArgs false
noncomputable def newT : Eng.Spec := execS P1 (rounds P1 64 1) 61
theorem newT_ok : SpecOk Try.prog 61 newT := execS_rounds P1_ok mixed 64 1 Try.func61 (by kernel_rfl) (by kernel_rfl)
noncomputable def styT : Eng.Spec := execS P1 (rounds P1 64 1) 63
theorem styT_ok : SpecOk Try.prog 63 styT := execS_rounds P1_ok mixed 64 1 Try.func63 (by kernel_rfl) (by kernel_rfl)
noncomputable def T3 : Cfg := ⟨Try.prog, lookG [(98, .val putP0), (61, .val newT), (99, .val Sta.addS)], [], 0⟩
theorem T3_ok : T3.Ok := Cfg.ok ⟨putP0_ok, newT_ok, Sta.add_ok, trivial⟩ trivial
noncomputable def sumT6 : Eng.Spec := execS T3 (rounds T3 64 1) 57
theorem sumT6_ok : SpecOk Try.prog 57 sumT6 := execS_rounds T3_ok mixed 64 1 Try.func57 (by kernel_rfl) (by kernel_rfl)
noncomputable def T4 : Cfg := ⟨Try.prog, lookG [(57, .val sumT6)], [], 0⟩
theorem T4_ok : T4.Ok := Cfg.ok ⟨sumT6_ok, trivial⟩ trivial
noncomputable def meaT6 : Eng.Spec := execS T4 noLoops 60
theorem meaT6_ok : SpecOk Try.prog 60 meaT6 := execS_plain T4_ok mixed Try.func60 (by kernel_rfl) (by kernel_rfl)
noncomputable def T5 : Cfg := ⟨Try.prog, lookG [(57, .val sumT6), (60, .val meaT6), (61, .val newT), (63, .val styT)], [], 0⟩
theorem T5_ok : T5.Ok := Cfg.ok ⟨sumT6_ok, meaT6_ok, newT_ok, styT_ok, trivial⟩ trivial
noncomputable def tolE : Eng.Spec := execS T5 noLoops 58
theorem tolE_ok : SpecOk Try.prog 58 tolE := execS_plain T5_ok mixed Try.func58 (by kernel_rfl) (by kernel_rfl)
theorem tol_run : (tolE []).eval = some (.s (.bool true)) := by kernel_rfl
end Go.Proofs.Ytheknddbbgjpkaa.Pla
