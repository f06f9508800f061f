import Derived.Test.YtlklfiolodcbfaaGreatDoorGH
import Derived.Test.YtlklfiolodcbfaaGreatDoorGJ
namespace Go.Proofs.YtlklfiolodcbfaaGreatDoor.Met
open Go.Eng Go.RowKit Mil Rin Conf
set_option linter.unusedVariables false
set_option linter.unusedSimpArgs false
noncomputable def winE:Eng.Obj:=execO R0 noLoops 95
theorem winE_ok:ObjOk Tryz.prog 95 winE:=execO_plain R0_ok Rin.mixed Tryz.func95 (by kernel_rfl) (by kernel_rfl)
noncomputable def M0:Cfg:=⟨Tryz.prog,lookG [(129,.obj newS),(34,.val mayS)],EB,0⟩
theorem M0_ok:M0.Ok:=Cfg.ok ⟨newS_ok,may_ok,trivial⟩ EB_ok
noncomputable def freE:Eng.Obj:=execO M0 noLoops 98
theorem freE_ok:ObjOk Tryz.prog 98 freE:=execO_plain M0_ok Rin.mixed Tryz.func98 (by kernel_rfl) (by kernel_rfl)
noncomputable def M1:Cfg:=⟨Tryz.prog,lookG [(98,.obj freE),(95,.obj winE),(34,.val mayS),(135,.obj putS),(172,.obj meanS),(127,.obj resS),(96,.see ovS)],EB,0⟩
theorem M1_ok:M1.Ok:=Cfg.ok ⟨freE_ok,winE_ok,may_ok,putS_ok,meanS_ok,resS_ok,ovS_ok,trivial⟩ EB_ok
noncomputable def newE:Eng.Obj:=execO M1 noLoops 64
theorem newE_ok:ObjOk Tryz.prog 64 newE:=execO_plain M1_ok Rin.mixed Tryz.func64 (by kernel_rfl) (by kernel_rfl)
noncomputable def putE:Eng.Obj:=execO M1 noLoops 108
theorem putE_ok:ObjOk Tryz.prog 108 putE:=execO_plain M1_ok Rin.mixed Tryz.func108 (by kernel_rfl) (by kernel_rfl)
noncomputable def meaE:Eng.Obj:=execO M1 noLoops 136
theorem meaE_ok:ObjOk Tryz.prog 136 meaE:=execO_plain M1_ok Rin.mixed Tryz.func136 (by kernel_rfl) (by kernel_rfl)
noncomputable def ovE:Eng.Obj:=execO M1 noLoops 61
theorem ovE_ok:ObjOk Tryz.prog 61 ovE:=execO_plain M1_ok Rin.mixed Tryz.func61 (by kernel_rfl) (by kernel_rfl)
noncomputable def M2:Cfg:=⟨Tryz.prog,lookG [(98,.obj freE),(95,.obj winE),(34,.val mayS),(61,.obj ovE),(127,.obj resS)],EB,0⟩
theorem M2_ok:M2.Ok:=Cfg.ok ⟨freE_ok,winE_ok,may_ok,ovE_ok,resS_ok,trivial⟩ EB_ok
noncomputable def chE:Eng.Obj:=execO M2 noLoops 92
theorem chE_ok:ObjOk Tryz.prog 92 chE:=execO_plain M2_ok Rin.mixed Tryz.func92 (by kernel_rfl) (by kernel_rfl)
def rB (s:RS) (k:Nat):Blk:=.cells 205 [Eng.iv s.w,Eng.iv s.g,.sub k 1 0 s.n,Eng.iv s.nw,Eng.bv s.ov]
def pairV (i j:Nat):V:=.iface 157 (.agg [.ptr i 0,.ptr j 0])
def metB (i j:Nat) (g:Int) (ov:Bool):Blk:=.cells 160 [pairV i j,Eng.iv g,Eng.bv ov]
end Go.Proofs.YtlklfiolodcbfaaGreatDoor.Met
namespace Go.Proofs.YtlklfiolodcbfaaGreatDoor.Met
open Go.Eng Go.RowKit Mil Rin
set_option linter.unusedVariables false
set_option linter.unusedSimpArgs false
noncomputable def TM0:Cfg:=⟨Tryz.prog,lookG [(129,.obj (Eng.Obj.plain newR1)),(34,.val Conf.mayS)],EB,0⟩
theorem TM0_ok:TM0.Ok:=Cfg.ok ⟨newR1_ok.plain,Conf.may_ok,trivial⟩ EB_ok
noncomputable def freT:Eng.Obj:=execO TM0 noLoops 98
theorem freT_ok:ObjOk Tryz.prog 98 freT:=execO_plain TM0_ok Rin.mixed Tryz.func98 (by kernel_rfl) (by kernel_rfl)
noncomputable def TM1:Cfg:=⟨Tryz.prog,lookG [(98,.obj (Eng.Obj.plain freT)),(95,.obj winE),(34,.val Conf.mayS),(135,.obj (Eng.Obj.plain putT)),(172,.obj (Eng.Obj.plain meanT)),(127,.obj (Eng.Obj.plain resT)),(96,.see ovS)],EB,0⟩
theorem TM1_ok:TM1.Ok:=Cfg.ok ⟨freT_ok.plain,winE_ok,Conf.may_ok,putT_ok.plain,meanT_ok.plain,resT_ok.plain,ovS_ok,trivial⟩ EB_ok
noncomputable def newT:Eng.Obj:=execO TM1 noLoops 64
theorem newT_ok:ObjOk Tryz.prog 64 newT:=execO_plain TM1_ok Rin.mixed Tryz.func64 (by kernel_rfl) (by kernel_rfl)
noncomputable def mputT:Eng.Obj:=execO TM1 noLoops 108
theorem mputT_ok:ObjOk Tryz.prog 108 mputT:=execO_plain TM1_ok Rin.mixed Tryz.func108 (by kernel_rfl) (by kernel_rfl)
noncomputable def mmeaT:Eng.Obj:=execO TM1 noLoops 136
theorem mmeaT_ok:ObjOk Tryz.prog 136 mmeaT:=execO_plain TM1_ok Rin.mixed Tryz.func136 (by kernel_rfl) (by kernel_rfl)
noncomputable def TM2:Cfg:=⟨Tryz.prog,lookG [(98,.obj (Eng.Obj.plain freT)),(95,.obj winE),(34,.val Conf.mayS),(61,.obj ovE),(127,.obj (Eng.Obj.plain resT))],EB,0⟩
theorem TM2_ok:TM2.Ok:=Cfg.ok ⟨freT_ok.plain,winE_ok,Conf.may_ok,ovE_ok,resT_ok.plain,trivial⟩ EB_ok
noncomputable def chT:Eng.Obj:=execO TM2 noLoops 92
theorem chT_ok:ObjOk Tryz.prog 92 chT:=execO_plain TM2_ok Rin.mixed Tryz.func92 (by kernel_rfl) (by kernel_rfl)
end Go.Proofs.YtlklfiolodcbfaaGreatDoor.Met
