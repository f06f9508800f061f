import Derived.Test.YtgpgppncblldiaaGreatDoorGH
import Derived.Test.YtgpgppncblldiaaGreatDoorGJ
set_option linter.unusedVariables false
set_option linter.unusedSimpArgs false
noncomputable section
namespace Go.Proofs.YtgpgppncblldiaaGreatDoor.Met
open Go.Eng Go.RowKit Mil Rin Conf
def ZO:Eng.Obj:=aN R0 ab 84
theorem Dj:au Tryz.prog 84 ZO:=ak G1 Rin.mixed Tryz.func84 (by kernel_rfl) (by kernel_rfl)
def M0:Cfg:=⟨Tryz.prog,lookG [(86,.obj abV),(16,.val oT)],EB,0⟩
theorem QK:M0.Ok:=Cfg.ok ⟨Ny,fj,trivial⟩ vg
def aai:Eng.Obj:=aN M0 ab 62
theorem B6:au Tryz.prog 62 aai:=ak QK Rin.mixed Tryz.func62 (by kernel_rfl) (by kernel_rfl)
def M1:Cfg:=⟨Tryz.prog,lookG [(62,.obj aai),(84,.obj ZO),(16,.val oT),(119,.obj LI),(155,.obj Nn),(112,.obj YT),(85,.see ovS)],EB,0⟩
theorem u9:M1.Ok:=Cfg.ok ⟨B6,Dj,fj,vL,F5,CT,Vi,trivial⟩ vg
def adr:Eng.Obj:=aN M1 ab 39
theorem Oj:au Tryz.prog 39 adr:=ak u9 Rin.mixed Tryz.func39 (by kernel_rfl) (by kernel_rfl)
def adz:Eng.Obj:=aN M1 ab 94
theorem Og:au Tryz.prog 94 adz:=ak u9 Rin.mixed Tryz.func94 (by kernel_rfl) (by kernel_rfl)
def ad7:Eng.Obj:=aN M1 ab 120
theorem QS:au Tryz.prog 120 ad7:=ak u9 Rin.mixed Tryz.func120 (by kernel_rfl) (by kernel_rfl)
def ovE:Eng.Obj:=aN M1 ab 59
theorem KI:au Tryz.prog 59 ovE:=ak u9 Rin.mixed Tryz.func59 (by kernel_rfl) (by kernel_rfl)
def M2:Cfg:=⟨Tryz.prog,lookG [(62,.obj aai),(84,.obj ZO),(16,.val oT),(59,.obj ovE),(112,.obj YT)],EB,0⟩
theorem Oq:M2.Ok:=Cfg.ok ⟨B6,Dj,fj,KI,CT,trivial⟩ vg
def chE:Eng.Obj:=aN M2 ab 82
theorem W5:au Tryz.prog 82 chE:=ak Oq Rin.mixed Tryz.func82 (by kernel_rfl) (by kernel_rfl)
def rB (s:RS) (k:Nat):Blk:=.cells 199 [Eng.iv s.w,Eng.iv s.g,.sub k 1 0 s.n,Eng.iv s.nw,Eng.bv s.ov]
def dJ (i j:Nat):V:=.iface 119 (.agg [.ptr i 0,.ptr j 0])
def Zz (i j:Nat) (g:Int) (ov:Bool):Blk:=.cells 122 [dJ i j,Eng.iv g,Eng.bv ov]
end Go.Proofs.YtgpgppncblldiaaGreatDoor.Met
namespace Go.Proofs.YtgpgppncblldiaaGreatDoor.Met
open Go.Eng Go.RowKit Mil Rin
end Go.Proofs.YtgpgppncblldiaaGreatDoor.Met
end
