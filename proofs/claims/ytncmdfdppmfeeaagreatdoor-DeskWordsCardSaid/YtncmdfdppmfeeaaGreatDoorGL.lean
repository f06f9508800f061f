import Derived.Test.YtncmdfdppmfeeaaGreatDoorGH
import Derived.Test.YtncmdfdppmfeeaaGreatDoorGJ
namespace Go.Proofs.YtncmdfdppmfeeaaGreatDoor.Met
open Go.Eng Go.RowKit Mil Rin Conf
set_option linter.unusedVariables false
set_option linter.unusedSimpArgs false
noncomputable def O3:Eng.Obj:=ax R0 aa 169
theorem pI:ObjOk Tryz.prog 169 O3:=af xV Rin.mixed Tryz.func169 (by kernel_rfl) (by kernel_rfl)
noncomputable def M0:Cfg:=⟨Tryz.prog,lookG [(128,.obj Yr),(19,.val kW)],EB,0⟩
theorem Jt:M0.Ok:=Cfg.ok ⟨JU,db,trivial⟩ ld
noncomputable def VJ:Eng.Obj:=ax M0 aa 94
theorem Cm:ObjOk Tryz.prog 94 VJ:=af Jt Rin.mixed Tryz.func94 (by kernel_rfl) (by kernel_rfl)
noncomputable def M1:Cfg:=⟨Tryz.prog,lookG [(94,.obj VJ),(169,.obj O3),(19,.val kW),(178,.obj Jl),(208,.obj JT),(170,.obj Ua),(171,.see ovS)],EB,0⟩
theorem uB:M1.Ok:=Cfg.ok ⟨Cm,pI,db,s7,Dy,Bx,Ig,trivial⟩ ld
noncomputable def ZX:Eng.Obj:=ax M1 aa 54
theorem Jw:ObjOk Tryz.prog 54 ZX:=af uB Rin.mixed Tryz.func54 (by kernel_rfl) (by kernel_rfl)
noncomputable def Z3:Eng.Obj:=ax M1 aa 162
theorem Kw:ObjOk Tryz.prog 162 Z3:=af uB Rin.mixed Tryz.func162 (by kernel_rfl) (by kernel_rfl)
noncomputable def ZA:Eng.Obj:=ax M1 aa 179
theorem NV:ObjOk Tryz.prog 179 ZA:=af uB Rin.mixed Tryz.func179 (by kernel_rfl) (by kernel_rfl)
noncomputable def ovE:Eng.Obj:=ax M1 aa 147
theorem vH:ObjOk Tryz.prog 147 ovE:=af uB Rin.mixed Tryz.func147 (by kernel_rfl) (by kernel_rfl)
noncomputable def M2:Cfg:=⟨Tryz.prog,lookG [(94,.obj VJ),(169,.obj O3),(19,.val kW),(147,.obj ovE),(170,.obj Ua)],EB,0⟩
theorem Kb:M2.Ok:=Cfg.ok ⟨Cm,pI,db,vH,Bx,trivial⟩ ld
noncomputable def chE:Eng.Obj:=ax M2 aa 143
theorem PJ:ObjOk Tryz.prog 143 chE:=af Kb Rin.mixed Tryz.func143 (by kernel_rfl) (by kernel_rfl)
def rB (s:RS) (k:Nat):Blk:=.cells 240 [Eng.iv s.w,Eng.iv s.g,.sub k 1 0 s.n,Eng.iv s.nw,Eng.bv s.ov]
def dr (i j:Nat):V:=.iface 171 (.agg [.ptr i 0,.ptr j 0])
def Z7 (i j:Nat) (g:Int) (ov:Bool):Blk:=.cells 174 [dr i j,Eng.iv g,Eng.bv ov]
end Go.Proofs.YtncmdfdppmfeeaaGreatDoor.Met
namespace Go.Proofs.YtncmdfdppmfeeaaGreatDoor.Met
open Go.Eng Go.RowKit Mil Rin
set_option linter.unusedVariables false
set_option linter.unusedSimpArgs false
noncomputable def TM0:Cfg:=⟨Tryz.prog,lookG [(128,.obj (Eng.Obj.plain Aj)),(19,.val Conf.kW)],EB,0⟩
theorem Te:TM0.Ok:=Cfg.ok ⟨vE.plain,Conf.db,trivial⟩ ld
noncomputable def Ys:Eng.Obj:=ax TM0 aa 94
theorem BG:ObjOk Tryz.prog 94 Ys:=af Te Rin.mixed Tryz.func94 (by kernel_rfl) (by kernel_rfl)
noncomputable def TM1:Cfg:=⟨Tryz.prog,lookG [(94,.obj (Eng.Obj.plain Ys)),(169,.obj O3),(19,.val Conf.kW),(178,.obj (Eng.Obj.plain ZG)),(208,.obj (Eng.Obj.plain Qw)),(170,.obj (Eng.Obj.plain Wb)),(171,.see ovS)],EB,0⟩
theorem zq:TM1.Ok:=Cfg.ok ⟨BG.plain,pI,Conf.db,Nt.plain,FG.plain,BX.plain,Ig,trivial⟩ ld
noncomputable def ZY:Eng.Obj:=ax TM1 aa 54
theorem I3:ObjOk Tryz.prog 54 ZY:=af zq Rin.mixed Tryz.func54 (by kernel_rfl) (by kernel_rfl)
noncomputable def Tt:Eng.Obj:=ax TM1 aa 162
theorem EG:ObjOk Tryz.prog 162 Tt:=af zq Rin.mixed Tryz.func162 (by kernel_rfl) (by kernel_rfl)
noncomputable def Sj:Eng.Obj:=ax TM1 aa 179
theorem EL:ObjOk Tryz.prog 179 Sj:=af zq Rin.mixed Tryz.func179 (by kernel_rfl) (by kernel_rfl)
noncomputable def TM2:Cfg:=⟨Tryz.prog,lookG [(94,.obj (Eng.Obj.plain Ys)),(169,.obj O3),(19,.val Conf.kW),(147,.obj ovE),(170,.obj (Eng.Obj.plain Wb))],EB,0⟩
theorem Ts:TM2.Ok:=Cfg.ok ⟨BG.plain,pI,Conf.db,vH,BX.plain,trivial⟩ ld
noncomputable def chT:Eng.Obj:=ax TM2 aa 143
theorem RH:ObjOk Tryz.prog 143 chT:=af Ts Rin.mixed Tryz.func143 (by kernel_rfl) (by kernel_rfl)
end Go.Proofs.YtncmdfdppmfeeaaGreatDoor.Met
