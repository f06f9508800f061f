/- Layer 20: the queue's functions, run by the machine. -/
import Derived.Test.YtfnadebkobfemaaEngM
import Derived.Test.YtfnadebkobfemaaYes
import Derived.Test.YtfnadebkobfemaaFlt
import Derived.Test.YtfnadebkobfemaaChecked
namespace Go.Proofs.Ytfnadebkobfemaa.Que
open Go.Eng Go.RowKit
set_option linter.unusedVariables false
set_option linter.unusedSimpArgs false
theorem mixed : Try.prog.follows .mixedOrders = true := Checked.mixed Try.checked
def iv (n : Int) : V := .s (.int .i64 n)
abbrev KW : List K := [.int .i64, .int .i64]
theorem eQ : EOk Try.prog [eatK] := ⟨⟨by kernel_rfl, by kernel_rfl⟩, trivial⟩
noncomputable def J0 : Cfg := ⟨Try.prog, lookG [], [], 0⟩
theorem J0_ok : J0.Ok := Cfg.ok trivial trivial
noncomputable def mayQ : Eng.Spec := execS J0 noLoops 69
theorem mayQ_ok : SpecOk Try.prog 69 mayQ := execS_plain J0_ok mixed Try.func69 (by kernel_rfl) (by kernel_rfl)
noncomputable def waitsQ : Eng.Spec := execS J0 noLoops 71
theorem waitsQ_ok : SpecOk Try.prog 71 waitsQ := execS_plain J0_ok mixed Try.func71 (by kernel_rfl) (by kernel_rfl)
noncomputable def firstQ : Eng.Obj := execO J0 noLoops 70
theorem firstQ_ok : ObjOk Try.prog 70 firstQ := execO_plain J0_ok mixed Try.func70 (by kernel_rfl) (by kernel_rfl)
noncomputable def J1 : Cfg := ⟨Try.prog, lookG [(69, .val mayQ), (71, .val waitsQ), (70, .obj firstQ)], [eatK], 0⟩
theorem J1_ok : J1.Ok := Cfg.ok ⟨mayQ_ok, waitsQ_ok, firstQ_ok, trivial⟩ eQ
noncomputable def newQ0 : Eng.Obj := execO J1 noLoops 18
theorem newQ0_ok : ObjOk Try.prog 18 newQ0 := execO_plain J1_ok mixed Try.func18 (by kernel_rfl) (by kernel_rfl)
noncomputable def putQ : Eng.Obj := execO J1 noLoops 19
theorem putQ_ok : ObjOk Try.prog 19 putQ := execO_plain J1_ok mixed Try.func19 (by kernel_rfl) (by kernel_rfl)
noncomputable def takeQ : Eng.Obj := execO J1 noLoops 20
theorem takeQ_ok : ObjOk Try.prog 20 takeQ := execO_plain J1_ok mixed Try.func20 (by kernel_rfl) (by kernel_rfl)
noncomputable def depthQ : Eng.Obj := execO J1 noLoops 72
theorem depthQ_ok : ObjOk Try.prog 72 depthQ := execO_plain J1_ok mixed Try.func72 (by kernel_rfl) (by kernel_rfl)
def qB (d : Int) (v : V) (n : Nat) : Blk := .cells 100 [iv d, v, .sub 1 2 0 n]
def qH (d : Int) (v : V) (n : Nat) (l : List (Int × Int)) : Heap := [(0, qB d v n), (1, .lst true 103 KW l)]
def lastV : Option Int → V
  | none => .nilIface
  | some t => .iface 2 (iv t)
end Go.Proofs.Ytfnadebkobfemaa.Que
