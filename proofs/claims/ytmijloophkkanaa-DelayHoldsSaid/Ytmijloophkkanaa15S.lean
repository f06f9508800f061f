/- Layer 15: the delay's functions, run by the machine. -/
import Derived.Test.YtmijloophkkanaaEngG
import Derived.Test.YtmijloophkkanaaChecked
namespace Go.Proofs.Ytmijloophkkanaa.Del
open Go.Eng Go.RowKit
set_option linter.unusedVariables false
set_option linter.unusedSimpArgs false
theorem mixed : Try.prog.follows .mixedOrders = true := Checked.mixed Try.checked
noncomputable def D0 : Cfg := ⟨Try.prog, lookG [], [], 0⟩
theorem D0_ok : D0.Ok := Cfg.ok trivial trivial
noncomputable def mayD : Eng.Spec := execS D0 noLoops 68
theorem mayD_ok : SpecOk Try.prog 68 mayD := execS_plain D0_ok mixed Try.func68 (by kernel_rfl) (by kernel_rfl)
noncomputable def D1 : Cfg := ⟨Try.prog, lookG [(68, .val mayD)], [], 0⟩
theorem D1_ok : D1.Ok := Cfg.ok ⟨mayD_ok, trivial⟩ trivial
noncomputable def newD : Eng.Obj := execO D1 noLoops 45
theorem newD_ok : ObjOk Try.prog 45 newD := execO_plain D1_ok mixed Try.func45 (by kernel_rfl) (by kernel_rfl)
noncomputable def spanD : Eng.Obj := execO D1 noLoops 48
theorem spanD_ok : ObjOk Try.prog 48 spanD := execO_plain D1_ok mixed Try.func48 (by kernel_rfl) (by kernel_rfl)
noncomputable def newestD : Eng.Obj := execO D0 noLoops 79
theorem newestD_ok : ObjOk Try.prog 79 newestD := execO_plain D0_ok mixed Try.func79 (by kernel_rfl) (by kernel_rfl)
noncomputable def D2 : Cfg := ⟨Try.prog, lookG [(79, .obj newestD)], [], 0⟩
theorem D2_ok : D2.Ok := Cfg.ok ⟨newestD_ok, trivial⟩ trivial
/- at most five rounds each: for few steps -/
noncomputable def dropD : Eng.Obj := execO D2 (rounds D2 5 1) 69
theorem dropD_ok : ObjOk Try.prog 69 dropD := execO_rounds D2_ok mixed 5 1 Try.func69 (by kernel_rfl) (by kernel_rfl)
noncomputable def forgetD : Eng.Obj := execO D0 (rounds D0 2 1) 70
theorem forgetD_ok : ObjOk Try.prog 70 forgetD := execO_rounds D0_ok mixed 2 1 Try.func70 (by kernel_rfl) (by kernel_rfl)
noncomputable def withinD : Eng.Obj := execO D0 (rounds D0 5 1) 71
theorem withinD_ok : ObjOk Try.prog 71 withinD := execO_rounds D0_ok mixed 5 1 Try.func71 (by kernel_rfl) (by kernel_rfl)
noncomputable def D3 : Cfg := ⟨Try.prog, lookG [(69, .obj dropD), (70, .obj forgetD), (71, .obj withinD)], [], 0⟩
theorem D3_ok : D3.Ok := Cfg.ok ⟨dropD_ok, forgetD_ok, withinD_ok, trivial⟩ trivial
noncomputable def putD : Eng.Obj := execO D3 noLoops 46
theorem putD_ok : ObjOk Try.prog 46 putD := execO_plain D3_ok mixed Try.func46 (by kernel_rfl) (by kernel_rfl)
noncomputable def mostD : Eng.Obj := execO D3 noLoops 47
theorem mostD_ok : ObjOk Try.prog 47 mostD := execO_plain D3_ok mixed Try.func47 (by kernel_rfl) (by kernel_rfl)
noncomputable def D4 : Cfg := ⟨Try.prog, lookG [(45, .obj newD), (46, .obj putD), (47, .obj mostD), (48, .obj spanD)], [], 0⟩
theorem D4_ok : D4.Ok := Cfg.ok ⟨newD_ok, putD_ok, mostD_ok, spanD_ok, trivial⟩ trivial
theorem told_run : (execS D4 noLoops 49 []).eval = some (.s (.bool true)) := by kernel_rfl
def yesD : Eng.Spec := fun args => match args with
  | [] => .ret .tt
  | _ => .fail
theorem told_ok : SpecOk Try.prog 49 yesD :=
  (execS_plain D4_ok mixed Try.func49 (by kernel_rfl) (by kernel_rfl)).of_den fun args v _ h => by
    unfold yesD at h
    split at h
    · simp only [T.eval, Option.some.injEq] at h
      subst h
      exact ⟨_, told_run, ⟨rfl, rfl⟩, rfl⟩
    · cases h
noncomputable def D5 : Cfg := ⟨Try.prog, lookG [(49, .val yesD), (45, .obj newD), (46, .obj putD), (47, .obj mostD), (48, .obj spanD)], [], 0⟩
theorem D5_ok : D5.Ok := Cfg.ok ⟨told_ok, newD_ok, putD_ok, mostD_ok, spanD_ok, trivial⟩ trivial
end Go.Proofs.Ytmijloophkkanaa.Del
