/- Layer 10: who is asked, run by the machine; the few that told asks. -/
import Derived.Test.YtmijloophkkanaaEngJ
import Derived.Test.YtmijloophkkanaaChecked
namespace Go.Proofs.Ytmijloophkkanaa.Sam
open Go.Eng Go.RowKit
set_option linter.unusedVariables false
set_option linter.unusedSimpArgs false
theorem mixed : Try.prog.follows .mixedOrders = true := Checked.mixed Try.checked
def iv (n : Int) : V := .s (.int .i64 n)
noncomputable def P0 : Cfg := ⟨Try.prog, lookG [], [], 0⟩
theorem P0_ok : P0.Ok := Cfg.ok trivial trivial
noncomputable def sizeD : Eng.Spec := execS P0 noLoops 29
theorem sizeD_ok : SpecOk Try.prog 29 sizeD := execS_plain P0_ok mixed Try.func29 (by kernel_rfl) (by kernel_rfl)
noncomputable def P1 : Cfg := ⟨Try.prog, lookG [(29, .val sizeD)], [], 0⟩
theorem P1_ok : P1.Ok := Cfg.ok ⟨sizeD_ok, trivial⟩ trivial
noncomputable def askedD : Eng.Spec := execS P1 noLoops 57
theorem askedD_ok : SpecOk Try.prog 57 askedD := execS_plain P1_ok mixed Try.func57 (by kernel_rfl) (by kernel_rfl)
noncomputable def P2 : Cfg := ⟨Try.prog, lookG [(57, .val askedD)], [], 0⟩
theorem P2_ok : P2.Ok := Cfg.ok ⟨askedD_ok, trivial⟩ trivial
noncomputable def whichD : Eng.Spec := execS P2 (rounds P2 4 1) 31
theorem whichD_ok : SpecOk Try.prog 31 whichD := execS_rounds P2_ok mixed 4 1 Try.func31 (by kernel_rfl) (by kernel_rfl)
noncomputable def P3 : Cfg := ⟨Try.prog, lookG [(29, .val sizeD), (31, .val whichD)], [], 0⟩
theorem P3_ok : P3.Ok := Cfg.ok ⟨sizeD_ok, whichD_ok, trivial⟩ trivial
theorem told_run : (execS P3 noLoops 30 []).eval = some (.s (.bool true)) := by kernel_rfl
def yesD : Eng.Spec := fun args => match args with
  | [] => .ret .tt
  | _ => .fail
theorem told_ok : SpecOk Try.prog 30 yesD :=
  (execS_plain P3_ok mixed Try.func30 (by kernel_rfl) (by kernel_rfl)).of_den fun args v _ h => by
    unfold yesD at h
    split at h
    · simp only [T.eval, Option.some.injEq] at h
      subst h
      exact ⟨_, told_run, ⟨rfl, rfl⟩, rfl⟩
    · cases h
noncomputable def P4 : Cfg := ⟨Try.prog, lookG [(30, .val yesD), (29, .val sizeD)], [], 0⟩
theorem P4_ok : P4.Ok := Cfg.ok ⟨told_ok, sizeD_ok, trivial⟩ trivial
end Go.Proofs.Ytmijloophkkanaa.Sam
