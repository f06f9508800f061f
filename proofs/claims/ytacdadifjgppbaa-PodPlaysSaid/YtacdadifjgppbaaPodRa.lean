/- Layer 8: the document's own pod, run by the machine. -/
import Derived.Test.YtacdadifjgppbaaPodX
namespace Go.Proofs.Ytacdadifjgppbaa.Pod
open Go.Eng Go.RowKit Go.Flt Lod Brk
set_option linter.unusedVariables false
set_option linter.unusedSimpArgs false
noncomputable def onR : Eng.Obj := execO R0 noLoops 67
theorem onR_ok : ObjOk Try.prog 67 onR := execO_plain R0_ok mixed Try.func67 (by kernel_rfl) (by kernel_rfl)
noncomputable def R2 : Cfg := ⟨Try.prog, lookG [(34, .obj rNew), (35, .obj rEnter), (37, .obj rLeave), (67, .obj onR)], [], 0⟩
theorem R2_ok : R2.Ok := Cfg.ok ⟨rNew_ok, rEnter_ok, rLeave_ok, onR_ok, trivial⟩ trivial
noncomputable def newR : Eng.Obj := execO R2 noLoops 49
theorem newR_ok : ObjOk Try.prog 49 newR := execO_plain R2_ok mixed Try.func49 (by kernel_rfl) (by kernel_rfl)
noncomputable def enterR : Eng.Obj := execO R2 noLoops 50
theorem enterR_ok : ObjOk Try.prog 50 enterR := execO_plain R2_ok mixed Try.func50 (by kernel_rfl) (by kernel_rfl)
noncomputable def leaveR : Eng.Obj := execO R2 noLoops 51
theorem leaveR_ok : ObjOk Try.prog 51 leaveR := execO_plain R2_ok mixed Try.func51 (by kernel_rfl) (by kernel_rfl)
noncomputable def statR : Eng.Obj := execO R2 noLoops 52
theorem statR_ok : ObjOk Try.prog 52 statR := execO_plain R2_ok mixed Try.func52 (by kernel_rfl) (by kernel_rfl)
noncomputable def D6 : Cfg := ⟨Try.prog, lookG [(48, .val yesD), (44, .obj newP), (53, .see loadS), (45, .obj enterP), (46, .obj leaveP), (47, .obj statP),
  (49, .obj newR), (50, .obj enterR), (51, .obj leaveR), (52, .obj statR), (41, .val ofRC)], [59], 0⟩
theorem D6_ok : D6.Ok := Cfg.ok ⟨told_ok, newP_ok, loadS_ok, enterP_ok, leaveP_ok, statP_ok, newR_ok, enterR_ok, leaveR_ok, statR_ok, ofRC_ok, trivial⟩ eS
def refB (id m u t s : Int) : Blk := .cells 65 [iv id, .ptr 1 0, iv m, iv u, iv t, iv s]
def rnQ' (q : Nat) (id m t u s : Int) : Blk := .cells 78 [iv id, .ptr q 0, iv m, iv t, iv u, iv s]
def refQ (q : Nat) (id m u t s : Int) : Blk := .cells 65 [iv id, .ptr q 0, iv m, iv u, iv t, iv s]
noncomputable def pl1 : Code := loopAt Try.prog 12 0
abbrev SW : List (Nat × Src) := [(0, .same), (1, .same), (2, .same), (9, .same), (10, .same)]
structure PW where (g : List (Int × Int × Int)) (k : Nat) (id m L D id' m' L' D' : Int)
structure AW where (t u s : Int) (x y : Nat) (u' t' s' b w i : Int)
def opW (g : List (Int × Int × Int)) : Blk := .lst false 67 [.int .i64, .int .i64, .int .i64] g
def vsW (p : PW) (a : AW) : List V := [.sub 0 3 0 p.k, .ptr 1 0, .ptr 9 0, iv a.i]
def bsW (p : PW) (a : AW) : List Blk := [opW p.g, rnQ' 2 p.id p.m a.t a.u a.s, bkB p.L p.D a.x a.y, refQ 10 p.id' p.m' a.u' a.t' a.s', rbB p.L' p.D' a.b a.w]
noncomputable def FW (p : PW) (a : AW) : St := mkSt [4,11,12,13] [0,1,2,9,10] 1000 156 (vsW p a) (bsW p a)
end Go.Proofs.Ytacdadifjgppbaa.Pod
