/- Layer 2: loads, run by the machine; the few that told asks. -/
import Derived.Test.YtacdadifjgppbaaEngK
import Derived.Test.YtacdadifjgppbaaFlt
import Derived.Test.YtacdadifjgppbaaChecked
namespace Go.Proofs.Ytacdadifjgppbaa.Lod
open Go.Eng Go.RowKit Go.Flt
set_option linter.unusedVariables false
set_option linter.unusedSimpArgs false
theorem mixed : Try.prog.follows .mixedOrders = true := Checked.mixed Try.checked
def iv (n : Int) : V := .s (.int .i64 n)
def cx (x y : Nat) : V := .s (.cx .f64 x y)
noncomputable def P0 : Cfg := ⟨Try.prog, lookG [], [], 0⟩
theorem P0_ok : P0.Ok := Cfg.ok trivial trivial
noncomputable def withinE : Eng.Spec := execS P0 noLoops 58
theorem withinE_ok : SpecOk Try.prog 58 withinE := execS_plain P0_ok mixed Try.func58 (by kernel_rfl) (by kernel_rfl)
noncomputable def wholeE : Eng.Spec := execS P0 noLoops 59
theorem wholeE_ok : SpecOk Try.prog 59 wholeE := execS_plain P0_ok mixed Try.func59 (by kernel_rfl) (by kernel_rfl)
noncomputable def P1 : Cfg := ⟨Try.prog, lookG [(58, .val withinE), (59, .val wholeE)], [], 0⟩
theorem P1_ok : P1.Ok := Cfg.ok ⟨withinE_ok, wholeE_ok, trivial⟩ trivial
noncomputable def ofE : Eng.Spec := execS P1 noLoops 19
theorem ofE_ok : SpecOk Try.prog 19 ofE := execS_plain P1_ok mixed Try.func19 (by kernel_rfl) (by kernel_rfl)
noncomputable def busyE : Eng.Spec := execS P1 noLoops 23
theorem busyE_ok : SpecOk Try.prog 23 busyE := execS_plain P1_ok mixed Try.func23 (by kernel_rfl) (by kernel_rfl)
noncomputable def waitE : Eng.Spec := execS P1 noLoops 24
theorem waitE_ok : SpecOk Try.prog 24 waitE := execS_plain P1_ok mixed Try.func24 (by kernel_rfl) (by kernel_rfl)
noncomputable def P2 : Cfg := ⟨Try.prog, lookG [(58, .val withinE), (19, .val ofE), (23, .val busyE), (24, .val waitE)], [], 0⟩
theorem P2_ok : P2.Ok := Cfg.ok ⟨withinE_ok, ofE_ok, busyE_ok, waitE_ok, trivial⟩ trivial
noncomputable def moveE : Eng.Spec := execS P2 noLoops 20
theorem moveE_ok : SpecOk Try.prog 20 moveE := execS_plain P2_ok mixed Try.func20 (by kernel_rfl) (by kernel_rfl)
noncomputable def swapE : Eng.Spec := execS P2 noLoops 25
theorem swapE_ok : SpecOk Try.prog 25 swapE := execS_plain P2_ok mixed Try.func25 (by kernel_rfl) (by kernel_rfl)
noncomputable def lessE : Eng.Spec := execS P2 noLoops 26
theorem lessE_ok : SpecOk Try.prog 26 lessE := execS_plain P2_ok mixed Try.func26 (by kernel_rfl) (by kernel_rfl)
noncomputable def sumD : Eng.Spec := execS P2 (rounds P2 4 1) 27
theorem sumD_ok : SpecOk Try.prog 27 sumD := execS_rounds P2_ok mixed 4 1 Try.func27 (by kernel_rfl) (by kernel_rfl)
noncomputable def P3 : Cfg := ⟨Try.prog, lookG [(19, .val ofE), (23, .val busyE), (24, .val waitE), (20, .val moveE), (25, .val swapE), (26, .val lessE), (27, .val sumD)], [], 0⟩
theorem P3_ok : P3.Ok := Cfg.ok ⟨ofE_ok, busyE_ok, waitE_ok, moveE_ok, swapE_ok, lessE_ok, sumD_ok, trivial⟩ trivial
theorem told_run : (execS P3 noLoops 21 []).eval = some (.s (.bool true)) := by kernel_rfl
def yesD : Eng.Spec := fun args => match args with
  | [] => .ret .tt
  | _ => .fail
theorem told_ok : SpecOk Try.prog 21 yesD :=
  (execS_plain P3_ok mixed Try.func21 (by kernel_rfl) (by kernel_rfl)).of_den fun args v _ h => by
    unfold yesD at h
    split at h
    · simp only [T.eval, Option.some.injEq] at h
      subst h
      exact ⟨_, told_run, ⟨rfl, rfl⟩, rfl⟩
    · cases h
end Go.Proofs.Ytacdadifjgppbaa.Lod
