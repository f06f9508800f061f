import Derived.Test.YtggakaogidjjbaaGreatDoorGH
import Derived.Test.YtggakaogidjjbaaGreatDoorGJ
namespace Go.Proofs.YtggakaogidjjbaaGreatDoor.Met
open Go.Eng Go.RowKit Mil Rin Conf
set_option linter.unusedVariables false
set_option linter.unusedSimpArgs false
noncomputable def winE:Eng.Obj:=execO R0 noLoops 88
theorem winE_ok:ObjOk Tryz.prog 88 winE:=execO_plain R0_ok Rin.mixed Tryz.func88 (by kernel_rfl) (by kernel_rfl)
noncomputable def M0:Cfg:=⟨Tryz.prog,lookG [(123,.obj newS),(31,.val mayS)],EB,0⟩
theorem M0_ok:M0.Ok:=Cfg.ok ⟨newS_ok,may_ok,trivial⟩ EB_ok
noncomputable def freE:Eng.Obj:=execO M0 noLoops 92
theorem freE_ok:ObjOk Tryz.prog 92 freE:=execO_plain M0_ok Rin.mixed Tryz.func92 (by kernel_rfl) (by kernel_rfl)
noncomputable def M1:Cfg:=⟨Tryz.prog,lookG [(92,.obj freE),(88,.obj winE),(31,.val mayS),(129,.obj putS),(166,.obj meanS),(121,.obj resS),(89,.see ovS)],EB,0⟩
theorem M1_ok:M1.Ok:=Cfg.ok ⟨freE_ok,winE_ok,may_ok,putS_ok,meanS_ok,resS_ok,ovS_ok,trivial⟩ EB_ok
noncomputable def newE:Eng.Obj:=execO M1 noLoops 62
theorem newE_ok:ObjOk Tryz.prog 62 newE:=execO_plain M1_ok Rin.mixed Tryz.func62 (by kernel_rfl) (by kernel_rfl)
noncomputable def putE:Eng.Obj:=execO M1 noLoops 102
theorem putE_ok:ObjOk Tryz.prog 102 putE:=execO_plain M1_ok Rin.mixed Tryz.func102 (by kernel_rfl) (by kernel_rfl)
noncomputable def meaE:Eng.Obj:=execO M1 noLoops 130
theorem meaE_ok:ObjOk Tryz.prog 130 meaE:=execO_plain M1_ok Rin.mixed Tryz.func130 (by kernel_rfl) (by kernel_rfl)
noncomputable def ovE:Eng.Obj:=execO M1 noLoops 53
theorem ovE_ok:ObjOk Tryz.prog 53 ovE:=execO_plain M1_ok Rin.mixed Tryz.func53 (by kernel_rfl) (by kernel_rfl)
noncomputable def M2:Cfg:=⟨Tryz.prog,lookG [(92,.obj freE),(88,.obj winE),(31,.val mayS),(53,.obj ovE),(121,.obj resS)],EB,0⟩
theorem M2_ok:M2.Ok:=Cfg.ok ⟨freE_ok,winE_ok,may_ok,ovE_ok,resS_ok,trivial⟩ EB_ok
noncomputable def chE:Eng.Obj:=execO M2 noLoops 85
theorem chE_ok:ObjOk Tryz.prog 85 chE:=execO_plain M2_ok Rin.mixed Tryz.func85 (by kernel_rfl) (by kernel_rfl)
def rB (s:RS) (k:Nat):Blk:=.cells 200 [Eng.iv s.w,Eng.iv s.g,.sub k 1 0 s.n,Eng.iv s.nw,Eng.bv s.ov]
def pairV (i j:Nat):V:=.iface 151 (.agg [.ptr i 0,.ptr j 0])
def metB (i j:Nat) (g:Int) (ov:Bool):Blk:=.cells 154 [pairV i j,Eng.iv g,Eng.bv ov]
end Go.Proofs.YtggakaogidjjbaaGreatDoor.Met
namespace Go.Proofs.YtggakaogidjjbaaGreatDoor.Met
open Go.Eng Go.RowKit Mil Rin
set_option linter.unusedVariables false
set_option linter.unusedSimpArgs false
noncomputable def TM0:Cfg:=⟨Tryz.prog,lookG [(123,.obj (Eng.Obj.plain newR1)),(31,.val Conf.mayS)],EB,0⟩
theorem TM0_ok:TM0.Ok:=Cfg.ok ⟨newR1_ok.plain,Conf.may_ok,trivial⟩ EB_ok
noncomputable def freT:Eng.Obj:=execO TM0 noLoops 92
theorem freT_ok:ObjOk Tryz.prog 92 freT:=execO_plain TM0_ok Rin.mixed Tryz.func92 (by kernel_rfl) (by kernel_rfl)
noncomputable def TM1:Cfg:=⟨Tryz.prog,lookG [(92,.obj (Eng.Obj.plain freT)),(88,.obj winE),(31,.val Conf.mayS),(129,.obj (Eng.Obj.plain putT)),(166,.obj (Eng.Obj.plain meanT)),(121,.obj (Eng.Obj.plain resT)),(89,.see ovS)],EB,0⟩
theorem TM1_ok:TM1.Ok:=Cfg.ok ⟨freT_ok.plain,winE_ok,Conf.may_ok,putT_ok.plain,meanT_ok.plain,resT_ok.plain,ovS_ok,trivial⟩ EB_ok
noncomputable def newT:Eng.Obj:=execO TM1 noLoops 62
theorem newT_ok:ObjOk Tryz.prog 62 newT:=execO_plain TM1_ok Rin.mixed Tryz.func62 (by kernel_rfl) (by kernel_rfl)
noncomputable def mputT:Eng.Obj:=execO TM1 noLoops 102
theorem mputT_ok:ObjOk Tryz.prog 102 mputT:=execO_plain TM1_ok Rin.mixed Tryz.func102 (by kernel_rfl) (by kernel_rfl)
noncomputable def mmeaT:Eng.Obj:=execO TM1 noLoops 130
theorem mmeaT_ok:ObjOk Tryz.prog 130 mmeaT:=execO_plain TM1_ok Rin.mixed Tryz.func130 (by kernel_rfl) (by kernel_rfl)
noncomputable def TM2:Cfg:=⟨Tryz.prog,lookG [(92,.obj (Eng.Obj.plain freT)),(88,.obj winE),(31,.val Conf.mayS),(53,.obj ovE),(121,.obj (Eng.Obj.plain resT))],EB,0⟩
theorem TM2_ok:TM2.Ok:=Cfg.ok ⟨freT_ok.plain,winE_ok,Conf.may_ok,ovE_ok,resT_ok.plain,trivial⟩ EB_ok
noncomputable def chT:Eng.Obj:=execO TM2 noLoops 85
theorem chT_ok:ObjOk Tryz.prog 85 chT:=execO_plain TM2_ok Rin.mixed Tryz.func85 (by kernel_rfl) (by kernel_rfl)
end Go.Proofs.YtggakaogidjjbaaGreatDoor.Met
