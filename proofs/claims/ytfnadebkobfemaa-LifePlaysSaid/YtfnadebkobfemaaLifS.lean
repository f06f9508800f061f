/- Layer 21: the functions without loops, run by the machine. -/
import Derived.Test.YtfnadebkobfemaaEngO
import Derived.Test.YtfnadebkobfemaaYes
import Derived.Test.YtfnadebkobfemaaFlt
import Derived.Test.YtfnadebkobfemaaChecked
namespace Go.Proofs.Ytfnadebkobfemaa.Lif
open Go.Eng Go.RowKit
set_option linter.unusedVariables false
set_option linter.unusedSimpArgs false
theorem mixed : Try.prog.follows .mixedOrders = true := Checked.mixed Try.checked
abbrev KP : List K := [.int .i64, .int .i64, .int .i64, .int .i64]
theorem eG : EOk Try.prog [growK] := ⟨⟨by kernel_rfl, by kernel_rfl⟩, trivial⟩
noncomputable def J0 : Cfg := ⟨Try.prog, lookG [], [], 0⟩
theorem J0_ok : J0.Ok := Cfg.ok trivial trivial
noncomputable def JG : Cfg := ⟨Try.prog, lookG [], [growK], 0⟩
theorem JG_ok : JG.Ok := Cfg.ok trivial eG
noncomputable def newL0 : Eng.Obj := execO J0 noLoops 24
theorem newL0_ok : ObjOk Try.prog 24 newL0 := execO_plain J0_ok mixed Try.func24 (by kernel_rfl) (by kernel_rfl)
noncomputable def newL : Eng.Obj := fun args h => (newL0 args h).bind (adoptH 0 1 39 KP h)
theorem newL_ok : ObjOk Try.prog 24 newL := newL0_ok.adopt 0 1 39 KP
noncomputable def beforeL : Eng.Spec := execS J0 noLoops 102
theorem beforeL_ok : SpecOk Try.prog 102 beforeL := execS_plain J0_ok mixed Try.func102 (by kernel_rfl) (by kernel_rfl)
noncomputable def cloneE : Eng.Spec := execS J0 noLoops 76
theorem cloneE_ok : SpecOk Try.prog 76 cloneE := execS_plain J0_ok mixed Try.func76 (by kernel_rfl) (by kernel_rfl)
noncomputable def delE : Eng.Obj := execO JG noLoops 96
theorem delE_ok : ObjOk Try.prog 96 delE := execO_plain JG_ok mixed Try.func96 (by kernel_rfl) (by kernel_rfl)
end Go.Proofs.Ytfnadebkobfemaa.Lif
