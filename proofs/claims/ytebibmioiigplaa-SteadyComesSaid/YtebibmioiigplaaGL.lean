import Derived.Test.YtebibmioiigplaaGH
import Derived.Test.YtebibmioiigplaaGJ
/- Layer 11: the program's metric: its functions, run by the machine. -/
namespace Go.Proofs.Ytebibmioiigplaa.Met
open Go.Eng Go.RowKit Mil Rin Conf
set_option linter.unusedVariables false
set_option linter.unusedSimpArgs false
theorem mixed : Try.prog.follows .mixedOrders = true := Rin.mixed
noncomputable def winE : Eng.Obj := execO R0 noLoops 98
theorem winE_ok : ObjOk Try.prog 98 winE := execO_plain R0_ok Rin.mixed Try.func98 (by kernel_rfl) (by kernel_rfl)
noncomputable def M0 : Cfg := ⟨Try.prog, lookG [(30, .obj newS), (96, .val mayS)], EB, 0⟩
theorem M0_ok : M0.Ok := Cfg.ok ⟨newS_ok, may_ok, trivial⟩ EB_ok
noncomputable def freE : Eng.Obj := execO M0 noLoops 97
theorem freE_ok : ObjOk Try.prog 97 freE := execO_plain M0_ok Rin.mixed Try.func97 (by kernel_rfl) (by kernel_rfl)
noncomputable def M1 : Cfg := ⟨Try.prog, lookG [(97, .obj freE), (98, .obj winE), (96, .val mayS), (31, .obj putS), (33, .obj meanS), (99, .obj resS), (101, .see ovS)], EB, 0⟩
theorem M1_ok : M1.Ok := Cfg.ok ⟨freE_ok, winE_ok, may_ok, putS_ok, meanS_ok, resS_ok, ovS_ok, trivial⟩ EB_ok
noncomputable def newE : Eng.Obj := execO M1 noLoops 39
theorem newE_ok : ObjOk Try.prog 39 newE := execO_plain M1_ok Rin.mixed Try.func39 (by kernel_rfl) (by kernel_rfl)
noncomputable def putE : Eng.Obj := execO M1 noLoops 42
theorem putE_ok : ObjOk Try.prog 42 putE := execO_plain M1_ok Rin.mixed Try.func42 (by kernel_rfl) (by kernel_rfl)
noncomputable def meaE : Eng.Obj := execO M1 noLoops 46
theorem meaE_ok : ObjOk Try.prog 46 meaE := execO_plain M1_ok Rin.mixed Try.func46 (by kernel_rfl) (by kernel_rfl)
noncomputable def ovE : Eng.Obj := execO M1 noLoops 48
theorem ovE_ok : ObjOk Try.prog 48 ovE := execO_plain M1_ok Rin.mixed Try.func48 (by kernel_rfl) (by kernel_rfl)
noncomputable def M2 : Cfg := ⟨Try.prog, lookG [(97, .obj freE), (98, .obj winE), (96, .val mayS), (48, .obj ovE), (99, .obj resS)], EB, 0⟩
theorem M2_ok : M2.Ok := Cfg.ok ⟨freE_ok, winE_ok, may_ok, ovE_ok, resS_ok, trivial⟩ EB_ok
noncomputable def chE : Eng.Obj := execO M2 noLoops 44
theorem chE_ok : ObjOk Try.prog 44 chE := execO_plain M2_ok Rin.mixed Try.func44 (by kernel_rfl) (by kernel_rfl)
def rB (s : RS) (k : Nat) : Blk := .cells 123 [Eng.iv s.w, Eng.iv s.g, .sub k 1 0 s.n, Eng.iv s.nw, Eng.bv s.ov]
def pairV (i j : Nat) : V := .iface 142 (.agg [.ptr i 0, .ptr j 0])
def metB (i j : Nat) (g : Int) (ov : Bool) : Blk := .cells 145 [pairV i j, Eng.iv g, Eng.bv ov]
/-- a metric with two rings -/
def metH (g : Int) (ov : Bool) (s q : RS) : Heap := [(0, metB 1 2 g ov), (1, rB s 3), (2, rB q 4), (3, bxB s.l [] none), (4, bxB q.l [] none)]
end Go.Proofs.Ytebibmioiigplaa.Met

/- Layer 11: what the metric tells of a few: a closed run. -/
namespace Go.Proofs.Ytebibmioiigplaa.Met
open Go.Eng Go.RowKit Mil Rin
set_option linter.unusedVariables false
set_option linter.unusedSimpArgs false
noncomputable def TM0 : Cfg := ⟨Try.prog, lookG [(30, .obj (Eng.Obj.plain newR1)), (96, .val Conf.mayS)], EB, 0⟩
theorem TM0_ok : TM0.Ok := Cfg.ok ⟨newR1_ok.plain, Conf.may_ok, trivial⟩ EB_ok
noncomputable def freT : Eng.Obj := execO TM0 noLoops 97
theorem freT_ok : ObjOk Try.prog 97 freT := execO_plain TM0_ok Rin.mixed Try.func97 (by kernel_rfl) (by kernel_rfl)
noncomputable def TM1 : Cfg := ⟨Try.prog, lookG [(97, .obj (Eng.Obj.plain freT)), (98, .obj winE), (96, .val Conf.mayS), (31, .obj (Eng.Obj.plain putT)), (33, .obj (Eng.Obj.plain meanT)), (99, .obj (Eng.Obj.plain resT)), (101, .see ovS)], EB, 0⟩
theorem TM1_ok : TM1.Ok := Cfg.ok ⟨freT_ok.plain, winE_ok, Conf.may_ok, putT_ok.plain, meanT_ok.plain, resT_ok.plain, ovS_ok, trivial⟩ EB_ok
noncomputable def newT : Eng.Obj := execO TM1 noLoops 39
theorem newT_ok : ObjOk Try.prog 39 newT := execO_plain TM1_ok Rin.mixed Try.func39 (by kernel_rfl) (by kernel_rfl)
noncomputable def mputT : Eng.Obj := execO TM1 noLoops 42
theorem mputT_ok : ObjOk Try.prog 42 mputT := execO_plain TM1_ok Rin.mixed Try.func42 (by kernel_rfl) (by kernel_rfl)
noncomputable def mmeaT : Eng.Obj := execO TM1 noLoops 46
theorem mmeaT_ok : ObjOk Try.prog 46 mmeaT := execO_plain TM1_ok Rin.mixed Try.func46 (by kernel_rfl) (by kernel_rfl)
noncomputable def TM2 : Cfg := ⟨Try.prog, lookG [(97, .obj (Eng.Obj.plain freT)), (98, .obj winE), (96, .val Conf.mayS), (48, .obj ovE), (99, .obj (Eng.Obj.plain resT))], EB, 0⟩
theorem TM2_ok : TM2.Ok := Cfg.ok ⟨freT_ok.plain, winE_ok, Conf.may_ok, ovE_ok, resT_ok.plain, trivial⟩ EB_ok
noncomputable def chT : Eng.Obj := execO TM2 noLoops 44
theorem chT_ok : ObjOk Try.prog 44 chT := execO_plain TM2_ok Rin.mixed Try.func44 (by kernel_rfl) (by kernel_rfl)
noncomputable def TM3 : Cfg := ⟨Try.prog, lookG [(39, .obj (Eng.Obj.plain newT)), (42, .obj (Eng.Obj.plain mputT)), (46, .obj (Eng.Obj.plain mmeaT)), (44, .obj (Eng.Obj.plain chT)), (48, .obj (Eng.Obj.plain ovE)), (50, .val Conf.dfltS)], EB, 0⟩
theorem TM3_ok : TM3.Ok := Cfg.ok ⟨newT_ok.plain, mputT_ok.plain, mmeaT_ok.plain, chT_ok.plain, ovE_ok.plain, Conf.refdflt_ok, trivial⟩ EB_ok
noncomputable def tolM : Eng.Spec := execS TM3 noLoops 41
theorem tolM_ok : SpecOk Try.prog 41 tolM := execS_plain TM3_ok Rin.mixed Try.func41 (by kernel_rfl) (by kernel_rfl)
theorem tolM_run : (tolM []).eval = some (.s (.bool true)) := by kernel_rfl
theorem told11_ok : SpecOk Try.prog 41 yesR :=
  tolM_ok.of_den fun args v _ h => by
    unfold yesR at h
    split at h
    · simp only [T.eval, Option.some.injEq] at h
      subst h
      exact ⟨_, tolM_run, ⟨rfl, rfl⟩, rfl⟩
    · cases h
end Go.Proofs.Ytebibmioiigplaa.Met

