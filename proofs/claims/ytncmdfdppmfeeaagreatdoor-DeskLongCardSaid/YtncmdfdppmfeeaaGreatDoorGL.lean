import Derived.Test.YtncmdfdppmfeeaaGreatDoorGH
import Derived.Test.YtncmdfdppmfeeaaGreatDoorGJ
namespace Go.Proofs.YtncmdfdppmfeeaaGreatDoor.Met
open Go.Eng Go.RowKit Mil Rin Conf
set_option linter.unusedVariables false
set_option linter.unusedSimpArgs false
noncomputable def Ua:Eng.Obj:=ay R0 aa 169
theorem pD:ObjOk Tryz.prog 169 Ua:=ae yS Rin.mixed Tryz.func169 (by kernel_rfl) (by kernel_rfl)
noncomputable def M0:Cfg:=⟨Tryz.prog,lookG [(128,.obj aak),(19,.val lg)],EB,0⟩
theorem MI:M0.Ok:=Cfg.ok ⟨Og,dj,trivial⟩ lf
noncomputable def XR:Eng.Obj:=ay M0 aa 94
theorem BH:ObjOk Tryz.prog 94 XR:=ae MI Rin.mixed Tryz.func94 (by kernel_rfl) (by kernel_rfl)
noncomputable def M1:Cfg:=⟨Tryz.prog,lookG [(94,.obj XR),(169,.obj Ua),(19,.val lg),(178,.obj OJ),(208,.obj Km),(170,.obj Vy),(171,.see ovS)],EB,0⟩
theorem uI:M1.Ok:=Cfg.ok ⟨BH,pD,dj,vj,Eb,DJ,Ip,trivial⟩ lf
noncomputable def aaS:Eng.Obj:=ay M1 aa 54
theorem M3:ObjOk Tryz.prog 54 aaS:=ae uI Rin.mixed Tryz.func54 (by kernel_rfl) (by kernel_rfl)
noncomputable def abD:Eng.Obj:=ay M1 aa 162
theorem Pg:ObjOk Tryz.prog 162 abD:=ae uI Rin.mixed Tryz.func162 (by kernel_rfl) (by kernel_rfl)
noncomputable def aaH:Eng.Obj:=ay M1 aa 179
theorem Lk:ObjOk Tryz.prog 179 aaH:=ae uI Rin.mixed Tryz.func179 (by kernel_rfl) (by kernel_rfl)
noncomputable def ovE:Eng.Obj:=ay M1 aa 147
theorem w8:ObjOk Tryz.prog 147 ovE:=ae uI Rin.mixed Tryz.func147 (by kernel_rfl) (by kernel_rfl)
noncomputable def M2:Cfg:=⟨Tryz.prog,lookG [(94,.obj XR),(169,.obj Ua),(19,.val lg),(147,.obj ovE),(170,.obj Vy)],EB,0⟩
theorem NK:M2.Ok:=Cfg.ok ⟨BH,pD,dj,w8,DJ,trivial⟩ lf
noncomputable def chE:Eng.Obj:=ay M2 aa 143
theorem Vm:ObjOk Tryz.prog 143 chE:=ae NK Rin.mixed Tryz.func143 (by kernel_rfl) (by kernel_rfl)
def rB (s:RS) (k:Nat):Blk:=.cells 240 [Eng.iv s.w,Eng.iv s.g,.sub k 1 0 s.n,Eng.iv s.nw,Eng.bv s.ov]
def du (i j:Nat):V:=.iface 171 (.agg [.ptr i 0,.ptr j 0])
def aba (i j:Nat) (g:Int) (ov:Bool):Blk:=.cells 174 [du i j,Eng.iv g,Eng.bv ov]
end Go.Proofs.YtncmdfdppmfeeaaGreatDoor.Met
namespace Go.Proofs.YtncmdfdppmfeeaaGreatDoor.Met
open Go.Eng Go.RowKit Mil Rin
set_option linter.unusedVariables false
set_option linter.unusedSimpArgs false
noncomputable def TM0:Cfg:=⟨Tryz.prog,lookG [(128,.obj (Eng.Obj.plain B2)),(19,.val Conf.lg)],EB,0⟩
theorem Us:TM0.Ok:=Cfg.ok ⟨w5.plain,Conf.dj,trivial⟩ lf
noncomputable def XT:Eng.Obj:=ay TM0 aa 94
theorem Ad:ObjOk Tryz.prog 94 XT:=ae Us Rin.mixed Tryz.func94 (by kernel_rfl) (by kernel_rfl)
noncomputable def TM1:Cfg:=⟨Tryz.prog,lookG [(94,.obj (Eng.Obj.plain XT)),(169,.obj Ua),(19,.val Conf.lg),(178,.obj (Eng.Obj.plain aaY)),(208,.obj (Eng.Obj.plain SE)),(170,.obj (Eng.Obj.plain Yb)),(171,.see ovS)],EB,0⟩
theorem C5:TM1.Ok:=Cfg.ok ⟨Ad.plain,pD,Conf.dj,JU.plain,G6.plain,DX.plain,Ip,trivial⟩ lf
noncomputable def aas:Eng.Obj:=ay TM1 aa 54
theorem NU:ObjOk Tryz.prog 54 aas:=ae C5 Rin.mixed Tryz.func54 (by kernel_rfl) (by kernel_rfl)
noncomputable def Un:Eng.Obj:=ay TM1 aa 162
theorem Gy:ObjOk Tryz.prog 162 Un:=ae C5 Rin.mixed Tryz.func162 (by kernel_rfl) (by kernel_rfl)
noncomputable def UT:Eng.Obj:=ay TM1 aa 179
theorem FU:ObjOk Tryz.prog 179 UT:=ae C5 Rin.mixed Tryz.func179 (by kernel_rfl) (by kernel_rfl)
noncomputable def TM2:Cfg:=⟨Tryz.prog,lookG [(94,.obj (Eng.Obj.plain XT)),(169,.obj Ua),(19,.val Conf.lg),(147,.obj ovE),(170,.obj (Eng.Obj.plain Yb))],EB,0⟩
theorem SF:TM2.Ok:=Cfg.ok ⟨Ad.plain,pD,Conf.dj,w8,DX.plain,trivial⟩ lf
noncomputable def chT:Eng.Obj:=ay TM2 aa 143
theorem Tk:ObjOk Tryz.prog 143 chT:=ae SF Rin.mixed Tryz.func143 (by kernel_rfl) (by kernel_rfl)
end Go.Proofs.YtncmdfdppmfeeaaGreatDoor.Met
