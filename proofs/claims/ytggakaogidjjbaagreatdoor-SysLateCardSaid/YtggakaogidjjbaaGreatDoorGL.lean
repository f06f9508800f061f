import Derived.Test.YtggakaogidjjbaaGreatDoorGH
import Derived.Test.YtggakaogidjjbaaGreatDoorGJ
namespace Go.Proofs.YtggakaogidjjbaaGreatDoor.Met
open Go.Eng Go.RowKit Mil Rin Conf
set_option linter.unusedVariables false
set_option linter.unusedSimpArgs false
noncomputable def To:Eng.Obj:=az R0 aa 88
theorem sK:ObjOk Tryz.prog 88 To:=ae Ja Rin.mixed Tryz.func88 (by kernel_rfl) (by kernel_rfl)
noncomputable def M0:Cfg:=⟨Tryz.prog,lookG [(123,.obj aa1),(31,.val jN)],EB,0⟩
theorem SC:M0.Ok:=Cfg.ok ⟨Oq,dr,trivial⟩ my
noncomputable def aa7:Eng.Obj:=az M0 aa 92
theorem BH:ObjOk Tryz.prog 92 aa7:=ae SC Rin.mixed Tryz.func92 (by kernel_rfl) (by kernel_rfl)
noncomputable def M1:Cfg:=⟨Tryz.prog,lookG [(92,.obj aa7),(88,.obj To),(31,.val jN),(129,.obj OT),(166,.obj Sa),(121,.obj Zu),(89,.see ovS)],EB,0⟩
theorem vu:M1.Ok:=Cfg.ok ⟨BH,sK,dr,v7,Hs,DK,Lr,trivial⟩ my
noncomputable def afD:Eng.Obj:=az M1 aa 62
theorem Qv:ObjOk Tryz.prog 62 afD:=ae vu Rin.mixed Tryz.func62 (by kernel_rfl) (by kernel_rfl)
noncomputable def afm:Eng.Obj:=az M1 aa 102
theorem PW:ObjOk Tryz.prog 102 afm:=ae vu Rin.mixed Tryz.func102 (by kernel_rfl) (by kernel_rfl)
noncomputable def afK:Eng.Obj:=az M1 aa 130
theorem OL:ObjOk Tryz.prog 130 afK:=ae vu Rin.mixed Tryz.func130 (by kernel_rfl) (by kernel_rfl)
noncomputable def ovE:Eng.Obj:=az M1 aa 53
theorem xT:ObjOk Tryz.prog 53 ovE:=ae vu Rin.mixed Tryz.func53 (by kernel_rfl) (by kernel_rfl)
noncomputable def M2:Cfg:=⟨Tryz.prog,lookG [(92,.obj aa7),(88,.obj To),(31,.val jN),(53,.obj ovE),(121,.obj Zu)],EB,0⟩
theorem RM:M2.Ok:=Cfg.ok ⟨BH,sK,dr,xT,DK,trivial⟩ my
noncomputable def chE:Eng.Obj:=az M2 aa 85
theorem Uu:ObjOk Tryz.prog 85 chE:=ae RM Rin.mixed Tryz.func85 (by kernel_rfl) (by kernel_rfl)
def rB (s:RS) (k:Nat):Blk:=.cells 200 [Eng.iv s.w,Eng.iv s.g,.sub k 1 0 s.n,Eng.iv s.nw,Eng.bv s.ov]
def dP (i j:Nat):V:=.iface 151 (.agg [.ptr i 0,.ptr j 0])
def aeD (i j:Nat) (g:Int) (ov:Bool):Blk:=.cells 154 [dP i j,Eng.iv g,Eng.bv ov]
end Go.Proofs.YtggakaogidjjbaaGreatDoor.Met
namespace Go.Proofs.YtggakaogidjjbaaGreatDoor.Met
open Go.Eng Go.RowKit Mil Rin
set_option linter.unusedVariables false
set_option linter.unusedSimpArgs false
noncomputable def TM0:Cfg:=⟨Tryz.prog,lookG [(123,.obj (Eng.Obj.plain Cz)),(31,.val Conf.jN)],EB,0⟩
theorem WU:TM0.Ok:=Cfg.ok ⟨xM.plain,Conf.dr,trivial⟩ my
noncomputable def aeb:Eng.Obj:=az TM0 aa 92
theorem D6:ObjOk Tryz.prog 92 aeb:=ae WU Rin.mixed Tryz.func92 (by kernel_rfl) (by kernel_rfl)
noncomputable def TM1:Cfg:=⟨Tryz.prog,lookG [(92,.obj (Eng.Obj.plain aeb)),(88,.obj To),(31,.val Conf.jN),(129,.obj (Eng.Obj.plain agB)),(166,.obj (Eng.Obj.plain Wk)),(121,.obj (Eng.Obj.plain acz)),(89,.see ovS)],EB,0⟩
theorem BA:TM1.Ok:=Cfg.ok ⟨D6.plain,sK,Conf.dr,SK.plain,Gk.plain,EO.plain,Lr,trivial⟩ my
noncomputable def agN:Eng.Obj:=az TM1 aa 62
theorem Ru:ObjOk Tryz.prog 62 agN:=ae BA Rin.mixed Tryz.func62 (by kernel_rfl) (by kernel_rfl)
noncomputable def XZ:Eng.Obj:=az TM1 aa 102
theorem IQ:ObjOk Tryz.prog 102 XZ:=ae BA Rin.mixed Tryz.func102 (by kernel_rfl) (by kernel_rfl)
noncomputable def XP:Eng.Obj:=az TM1 aa 130
theorem Ht:ObjOk Tryz.prog 130 XP:=ae BA Rin.mixed Tryz.func130 (by kernel_rfl) (by kernel_rfl)
noncomputable def TM2:Cfg:=⟨Tryz.prog,lookG [(92,.obj (Eng.Obj.plain aeb)),(88,.obj To),(31,.val Conf.jN),(53,.obj ovE),(121,.obj (Eng.Obj.plain acz))],EB,0⟩
theorem T9:TM2.Ok:=Cfg.ok ⟨D6.plain,sK,Conf.dr,xT,EO.plain,trivial⟩ my
noncomputable def chT:Eng.Obj:=az TM2 aa 85
theorem Vo:ObjOk Tryz.prog 85 chT:=ae T9 Rin.mixed Tryz.func85 (by kernel_rfl) (by kernel_rfl)
end Go.Proofs.YtggakaogidjjbaaGreatDoor.Met
