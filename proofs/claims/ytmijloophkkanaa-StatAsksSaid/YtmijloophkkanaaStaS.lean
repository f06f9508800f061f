/- Layer 9: what pods tell together, run by the machine; the few that told asks. -/
import Derived.Test.YtmijloophkkanaaStaU
namespace Go.Proofs.Ytmijloophkkanaa.Sta
open Go.Eng Go.RowKit Mil
set_option linter.unusedVariables false
set_option linter.unusedSimpArgs false
noncomputable def mayS : Eng.Spec := execS P0 noLoops 23
theorem may_ok : SpecOk Try.prog 23 mayS := execS_plain P0_ok mixed Try.func23 (by kernel_rfl) (by kernel_rfl)
noncomputable def P1 : Cfg := ⟨Try.prog, lookG [(23, .val mayS), (80, .val addS), (74, .val mul64S)], [], 0⟩
theorem P1_ok : P1.Ok := Cfg.ok ⟨may_ok, add_ok, mul64_ok, trivial⟩ trivial
noncomputable def addD : Eng.Spec := execS P1 (rounds P1 4 1) 72
theorem addD_ok : SpecOk Try.prog 72 addD := execS_rounds P1_ok mixed 4 1 Try.func72 (by kernel_rfl) (by kernel_rfl)
noncomputable def P2 : Cfg := ⟨Try.prog, lookG [(72, .val addD)], [], 0⟩
theorem P2_ok : P2.Ok := Cfg.ok ⟨addD_ok, trivial⟩ trivial
noncomputable def heardD : Eng.Spec := execS P2 noLoops 54
theorem heardD_ok : SpecOk Try.prog 54 heardD := execS_plain P2_ok mixed Try.func54 (by kernel_rfl) (by kernel_rfl)
noncomputable def timesS : Eng.Spec := execS P1 noLoops 56
theorem times_ok : SpecOk Try.prog 56 timesS := execS_plain P1_ok mixed Try.func56 (by kernel_rfl) (by kernel_rfl)
noncomputable def P3 : Cfg := ⟨Try.prog, lookG [(54, .val heardD), (56, .val timesS)], [], 0⟩
theorem P3_ok : P3.Ok := Cfg.ok ⟨heardD_ok, times_ok, trivial⟩ trivial
noncomputable def meanD : Eng.Spec := execS P3 noLoops 22
theorem meanD_ok : SpecOk Try.prog 22 meanD := execS_plain P3_ok mixed Try.func22 (by kernel_rfl) (by kernel_rfl)
noncomputable def spreadD : Eng.Spec := execS P3 noLoops 27
theorem spreadD_ok : SpecOk Try.prog 27 spreadD := execS_plain P3_ok mixed Try.func27 (by kernel_rfl) (by kernel_rfl)
noncomputable def P4 : Cfg := ⟨Try.prog, lookG [(23, .val mayS), (22, .val meanD), (27, .val spreadD)], [], 0⟩
theorem P4_ok : P4.Ok := Cfg.ok ⟨may_ok, meanD_ok, spreadD_ok, trivial⟩ trivial
theorem told_run : (execS P4 noLoops 24 []).eval = some (.s (.bool true)) := by kernel_rfl
def yesD : Eng.Spec := fun args => match args with
  | [] => .ret .tt
  | _ => .fail
theorem told_ok : SpecOk Try.prog 24 yesD :=
  (execS_plain P4_ok mixed Try.func24 (by kernel_rfl) (by kernel_rfl)).of_den fun args v _ h => by
    unfold yesD at h
    split at h
    · simp only [T.eval, Option.some.injEq] at h
      subst h
      exact ⟨_, told_run, ⟨rfl, rfl⟩, rfl⟩
    · cases h
end Go.Proofs.Ytmijloophkkanaa.Sta
