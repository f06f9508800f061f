/- Layer 20: QueuePlays, the document's own queue: contracts of All, Late, Ints. -/
import Derived.Test.YtenifknkahogjaaQueBc
namespace Go.Proofs.Ytenifknkahogjaa.Que
open Go.Eng Go.RowKit
set_option linter.unusedVariables false
set_option linter.unusedSimpArgs false
noncomputable def raReg : Nat := (firstReg lrA).getD 0
theorem ra_reg : firstReg lrA = some raReg := by kernel_rfl
noncomputable def rtReg : Nat := (firstReg lrL).getD 0
theorem rt_reg : firstReg lrL = some rtReg := by kernel_rfl
noncomputable def riReg : Nat := (firstReg lrI).getD 0
theorem ri_reg : firstReg lrI = some riReg := by kernel_rfl
noncomputable def allR : Eng.Obj := execO J5 (byReg [(raReg, famRA)]) 31
theorem allR_ok : ObjOk Try.prog 31 allR := execO_loops J5_ok mixed Try.func31 (by kernel_rfl) (by kernel_rfl) (one_lp (c := lrA) (by kernel_rfl) ra_reg lrA_ok)
noncomputable def lateR : Eng.Obj := execO J5 (byReg [(rtReg, famRT)]) 28
theorem lateR_ok : ObjOk Try.prog 28 lateR := execO_loops J5_ok mixed Try.func28 (by kernel_rfl) (by kernel_rfl) (one_lp (c := lrL) (by kernel_rfl) rt_reg lrL_ok)
noncomputable def intsR : Eng.Spec := execS J5 (byReg [(riReg, famRI)]) 27
theorem intsR_ok : SpecOk Try.prog 27 intsR := execS_loops J5_ok mixed Try.func27 (by kernel_rfl) (by kernel_rfl) (one_lp (c := lrI) (by kernel_rfl) ri_reg lrI_ok)
noncomputable def J6 : Cfg := ⟨Try.prog, lookG [(23, .val yesD), (27, .val intsR), (18, .obj newQ), (19, .obj putQ), (22, .obj takeQ), (21, .obj allQ), (29, .obj depthQ), (20, .obj lateQ),
  (24, .obj newR), (25, .obj putR), (26, .obj takeR), (31, .obj allR), (30, .obj depthR), (28, .obj lateR)], [], 0⟩
theorem J6_ok : J6.Ok := Cfg.ok ⟨told_ok, intsR_ok, newQ_ok, putQ_ok, takeQ_ok, allQ_ok, depthQ_ok, lateQ_ok, newR_ok, putR_ok, takeR_ok, allR_ok, depthR_ok, lateR_ok, trivial⟩ trivial
abbrev K5 : List K := [.int .i64, .int .i64, .int .i64, .int .i64, .int .i64]
abbrev R5 := Int × Int × Int × Int × Int
noncomputable def qpl : Code := loopAt Try.prog 4 0
end Go.Proofs.Ytenifknkahogjaa.Que
