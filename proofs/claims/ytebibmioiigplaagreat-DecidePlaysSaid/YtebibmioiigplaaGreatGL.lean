import Derived.Test.YtebibmioiigplaaGreatGH
import Derived.Test.YtebibmioiigplaaGreatGJ
/- Layer 11: the program's metric: its functions, run by the machine. -/
namespace Go.Proofs.YtebibmioiigplaaGreat.Met
open Go.Eng Go.RowKit Mil Rin Conf
set_option linter.unusedVariables false
set_option linter.unusedSimpArgs false
theorem mixed : Tryz.prog.follows .mixedOrders = true := Rin.mixed
noncomputable def winE : Eng.Obj := execO R0 noLoops 61
theorem winE_ok : ObjOk Tryz.prog 61 winE := execO_plain R0_ok Rin.mixed Tryz.func61 (by kernel_rfl) (by kernel_rfl)
noncomputable def M0 : Cfg := ⟨Tryz.prog, lookG [(87, .obj newS), (24, .val mayS)], EB, 0⟩
theorem M0_ok : M0.Ok := Cfg.ok ⟨newS_ok, may_ok, trivial⟩ EB_ok
noncomputable def freE : Eng.Obj := execO M0 noLoops 57
theorem freE_ok : ObjOk Tryz.prog 57 freE := execO_plain M0_ok Rin.mixed Tryz.func57 (by kernel_rfl) (by kernel_rfl)
noncomputable def M1 : Cfg := ⟨Tryz.prog, lookG [(57, .obj freE), (61, .obj winE), (24, .val mayS), (62, .obj putS), (97, .obj meanS), (66, .obj resS), (82, .see ovS)], EB, 0⟩
theorem M1_ok : M1.Ok := Cfg.ok ⟨freE_ok, winE_ok, may_ok, putS_ok, meanS_ok, resS_ok, ovS_ok, trivial⟩ EB_ok
noncomputable def newE : Eng.Obj := execO M1 noLoops 25
theorem newE_ok : ObjOk Tryz.prog 25 newE := execO_plain M1_ok Rin.mixed Tryz.func25 (by kernel_rfl) (by kernel_rfl)
noncomputable def putE : Eng.Obj := execO M1 noLoops 33
theorem putE_ok : ObjOk Tryz.prog 33 putE := execO_plain M1_ok Rin.mixed Tryz.func33 (by kernel_rfl) (by kernel_rfl)
noncomputable def meaE : Eng.Obj := execO M1 noLoops 68
theorem meaE_ok : ObjOk Tryz.prog 68 meaE := execO_plain M1_ok Rin.mixed Tryz.func68 (by kernel_rfl) (by kernel_rfl)
noncomputable def ovE : Eng.Obj := execO M1 noLoops 52
theorem ovE_ok : ObjOk Tryz.prog 52 ovE := execO_plain M1_ok Rin.mixed Tryz.func52 (by kernel_rfl) (by kernel_rfl)
noncomputable def M2 : Cfg := ⟨Tryz.prog, lookG [(57, .obj freE), (61, .obj winE), (24, .val mayS), (52, .obj ovE), (66, .obj resS)], EB, 0⟩
theorem M2_ok : M2.Ok := Cfg.ok ⟨freE_ok, winE_ok, may_ok, ovE_ok, resS_ok, trivial⟩ EB_ok
noncomputable def chE : Eng.Obj := execO M2 noLoops 35
theorem chE_ok : ObjOk Tryz.prog 35 chE := execO_plain M2_ok Rin.mixed Tryz.func35 (by kernel_rfl) (by kernel_rfl)
def rB (s : RS) (k : Nat) : Blk := .cells 131 [Eng.iv s.w, Eng.iv s.g, .sub k 1 0 s.n, Eng.iv s.nw, Eng.bv s.ov]
def pairV (i j : Nat) : V := .iface 90 (.agg [.ptr i 0, .ptr j 0])
def metB (i j : Nat) (g : Int) (ov : Bool) : Blk := .cells 93 [pairV i j, Eng.iv g, Eng.bv ov]
/-- a metric with two rings -/
def metH (g : Int) (ov : Bool) (s q : RS) : Heap := [(0, metB 1 2 g ov), (1, rB s 3), (2, rB q 4), (3, bxB s.l [] none), (4, bxB q.l [] none)]
end Go.Proofs.YtebibmioiigplaaGreat.Met

/- Layer 11: what the metric tells of a few: a closed run. -/
namespace Go.Proofs.YtebibmioiigplaaGreat.Met
open Go.Eng Go.RowKit Mil Rin
set_option linter.unusedVariables false
set_option linter.unusedSimpArgs false
noncomputable def TM0 : Cfg := ⟨Tryz.prog, lookG [(87, .obj (Eng.Obj.plain newR1)), (24, .val Conf.mayS)], EB, 0⟩
theorem TM0_ok : TM0.Ok := Cfg.ok ⟨newR1_ok.plain, Conf.may_ok, trivial⟩ EB_ok
noncomputable def freT : Eng.Obj := execO TM0 noLoops 57
theorem freT_ok : ObjOk Tryz.prog 57 freT := execO_plain TM0_ok Rin.mixed Tryz.func57 (by kernel_rfl) (by kernel_rfl)
noncomputable def TM1 : Cfg := ⟨Tryz.prog, lookG [(57, .obj (Eng.Obj.plain freT)), (61, .obj winE), (24, .val Conf.mayS), (62, .obj (Eng.Obj.plain putT)), (97, .obj (Eng.Obj.plain meanT)), (66, .obj (Eng.Obj.plain resT)), (82, .see ovS)], EB, 0⟩
theorem TM1_ok : TM1.Ok := Cfg.ok ⟨freT_ok.plain, winE_ok, Conf.may_ok, putT_ok.plain, meanT_ok.plain, resT_ok.plain, ovS_ok, trivial⟩ EB_ok
noncomputable def newT : Eng.Obj := execO TM1 noLoops 25
theorem newT_ok : ObjOk Tryz.prog 25 newT := execO_plain TM1_ok Rin.mixed Tryz.func25 (by kernel_rfl) (by kernel_rfl)
noncomputable def mputT : Eng.Obj := execO TM1 noLoops 33
theorem mputT_ok : ObjOk Tryz.prog 33 mputT := execO_plain TM1_ok Rin.mixed Tryz.func33 (by kernel_rfl) (by kernel_rfl)
noncomputable def mmeaT : Eng.Obj := execO TM1 noLoops 68
theorem mmeaT_ok : ObjOk Tryz.prog 68 mmeaT := execO_plain TM1_ok Rin.mixed Tryz.func68 (by kernel_rfl) (by kernel_rfl)
noncomputable def TM2 : Cfg := ⟨Tryz.prog, lookG [(57, .obj (Eng.Obj.plain freT)), (61, .obj winE), (24, .val Conf.mayS), (52, .obj ovE), (66, .obj (Eng.Obj.plain resT))], EB, 0⟩
theorem TM2_ok : TM2.Ok := Cfg.ok ⟨freT_ok.plain, winE_ok, Conf.may_ok, ovE_ok, resT_ok.plain, trivial⟩ EB_ok
noncomputable def chT : Eng.Obj := execO TM2 noLoops 35
theorem chT_ok : ObjOk Tryz.prog 35 chT := execO_plain TM2_ok Rin.mixed Tryz.func35 (by kernel_rfl) (by kernel_rfl)
noncomputable def TM3 : Cfg := ⟨Tryz.prog, lookG [(25, .obj (Eng.Obj.plain newT)), (33, .obj (Eng.Obj.plain mputT)), (68, .obj (Eng.Obj.plain mmeaT)), (35, .obj (Eng.Obj.plain chT)), (52, .obj (Eng.Obj.plain ovE)), (31, .val Conf.dfltS)], EB, 0⟩
theorem TM3_ok : TM3.Ok := Cfg.ok ⟨newT_ok.plain, mputT_ok.plain, mmeaT_ok.plain, chT_ok.plain, ovE_ok.plain, Conf.refdflt_ok, trivial⟩ EB_ok
end Go.Proofs.YtebibmioiigplaaGreat.Met

