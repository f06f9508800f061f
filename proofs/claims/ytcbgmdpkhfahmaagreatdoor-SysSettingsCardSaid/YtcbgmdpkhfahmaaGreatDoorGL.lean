import Derived.Test.YtcbgmdpkhfahmaaGreatDoorGH
import Derived.Test.YtcbgmdpkhfahmaaGreatDoorGJ
set_option linter.unusedVariables false
set_option linter.unusedSimpArgs false
noncomputable section
namespace Go.Proofs.YtcbgmdpkhfahmaaGreatDoor.Met
open Go.Eng Go.RowKit Mil Rin Conf
def Vl:Eng.Obj:=aA R0 aa 89
theorem sB:aj Tryz.prog 89 Vl:=ae Kx Rin.mixed Tryz.func89 (by kernel_rfl) (by kernel_rfl)
def M0:Cfg:=⟨Tryz.prog,lookG [(124,.obj ac7),(31,.val jU)],EB,0⟩
theorem Rb:M0.Ok:=Cfg.ok ⟨PX,dt,trivial⟩ mG
def aed:Eng.Obj:=aA M0 aa 93
theorem Ff:aj Tryz.prog 93 aed:=ae Rb Rin.mixed Tryz.func93 (by kernel_rfl) (by kernel_rfl)
def M1:Cfg:=⟨Tryz.prog,lookG [(93,.obj aed),(89,.obj Vl),(31,.val jU),(130,.obj LF),(167,.obj Rp),(122,.obj aaB),(90,.see ovS)],EB,0⟩
theorem wb:M1.Ok:=Cfg.ok ⟨Ff,sB,dt,wP,I9,CJ,L1,trivial⟩ mG
def agn:Eng.Obj:=aA M1 aa 63
theorem Pb:aj Tryz.prog 63 agn:=ae wb Rin.mixed Tryz.func63 (by kernel_rfl) (by kernel_rfl)
def ag8:Eng.Obj:=aA M1 aa 103
theorem Tp:aj Tryz.prog 103 ag8:=ae wb Rin.mixed Tryz.func103 (by kernel_rfl) (by kernel_rfl)
def ahA:Eng.Obj:=aA M1 aa 131
theorem NG:aj Tryz.prog 131 ahA:=ae wb Rin.mixed Tryz.func131 (by kernel_rfl) (by kernel_rfl)
def ovE:Eng.Obj:=aA M1 aa 55
theorem zz:aj Tryz.prog 55 ovE:=ae wb Rin.mixed Tryz.func55 (by kernel_rfl) (by kernel_rfl)
def M2:Cfg:=⟨Tryz.prog,lookG [(93,.obj aed),(89,.obj Vl),(31,.val jU),(55,.obj ovE),(122,.obj aaB)],EB,0⟩
theorem Ti:M2.Ok:=Cfg.ok ⟨Ff,sB,dt,zz,CJ,trivial⟩ mG
def chE:Eng.Obj:=aA M2 aa 86
theorem aay:aj Tryz.prog 86 chE:=ae Ti Rin.mixed Tryz.func86 (by kernel_rfl) (by kernel_rfl)
def rB (s:RS) (k:Nat):Blk:=.cells 202 [Eng.iv s.w,Eng.iv s.g,.sub k 1 0 s.n,Eng.iv s.nw,Eng.bv s.ov]
def dQ (i j:Nat):V:=.iface 153 (.agg [.ptr i 0,.ptr j 0])
def adz (i j:Nat) (g:Int) (ov:Bool):Blk:=.cells 156 [dQ i j,Eng.iv g,Eng.bv ov]
end Go.Proofs.YtcbgmdpkhfahmaaGreatDoor.Met
namespace Go.Proofs.YtcbgmdpkhfahmaaGreatDoor.Met
open Go.Eng Go.RowKit Mil Rin
def TM0:Cfg:=⟨Tryz.prog,lookG [(124,.obj (Eng.Obj.plain Du)),(31,.val Conf.jU)],EB,0⟩
theorem WD:TM0.Ok:=Cfg.ok ⟨zu.plain,Conf.dt,trivial⟩ mG
def adG:Eng.Obj:=aA TM0 aa 93
theorem Gw:aj Tryz.prog 93 adG:=ae WD Rin.mixed Tryz.func93 (by kernel_rfl) (by kernel_rfl)
def TM1:Cfg:=⟨Tryz.prog,lookG [(93,.obj (Eng.Obj.plain adG)),(89,.obj Vl),(31,.val Conf.jU),(130,.obj (Eng.Obj.plain agL)),(167,.obj (Eng.Obj.plain Xo)),(122,.obj (Eng.Obj.plain adK)),(90,.see ovS)],EB,0⟩
theorem GH:TM1.Ok:=Cfg.ok ⟨Gw.plain,sB,Conf.dt,NI.plain,Ke.plain,Cc.plain,L1,trivial⟩ mG
def ahk:Eng.Obj:=aA TM1 aa 63
theorem OJ:aj Tryz.prog 63 ahk:=ae GH Rin.mixed Tryz.func63 (by kernel_rfl) (by kernel_rfl)
def aat:Eng.Obj:=aA TM1 aa 103
theorem IC:aj Tryz.prog 103 aat:=ae GH Rin.mixed Tryz.func103 (by kernel_rfl) (by kernel_rfl)
def XJ:Eng.Obj:=aA TM1 aa 131
theorem HQ:aj Tryz.prog 131 XJ:=ae GH Rin.mixed Tryz.func131 (by kernel_rfl) (by kernel_rfl)
def TM2:Cfg:=⟨Tryz.prog,lookG [(93,.obj (Eng.Obj.plain adG)),(89,.obj Vl),(31,.val Conf.jU),(55,.obj ovE),(122,.obj (Eng.Obj.plain adK))],EB,0⟩
theorem VO:TM2.Ok:=Cfg.ok ⟨Gw.plain,sB,Conf.dt,zz,Cc.plain,trivial⟩ mG
def chT:Eng.Obj:=aA TM2 aa 86
theorem WC:aj Tryz.prog 86 chT:=ae VO Rin.mixed Tryz.func86 (by kernel_rfl) (by kernel_rfl)
end Go.Proofs.YtcbgmdpkhfahmaaGreatDoor.Met
end
