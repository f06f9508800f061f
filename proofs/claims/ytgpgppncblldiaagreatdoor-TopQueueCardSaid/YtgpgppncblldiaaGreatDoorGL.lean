import Derived.Test.YtgpgppncblldiaaGreatDoorGH
import Derived.Test.YtgpgppncblldiaaGreatDoorGJ
set_option linter.unusedVariables false
set_option linter.unusedSimpArgs false
noncomputable section
namespace Go.Proofs.YtgpgppncblldiaaGreatDoor.Met
open Go.Eng Go.RowKit Mil Rin Conf
def aax:Eng.Obj:=aM R0 ab 84
theorem Fy:au Tryz.prog 84 aax:=ak F3 Rin.mixed Tryz.func84 (by kernel_rfl) (by kernel_rfl)
def M0:Cfg:=⟨Tryz.prog,lookG [(86,.obj ac0),(16,.val po)],EB,0⟩
theorem RP:M0.Ok:=Cfg.ok ⟨N9,fz,trivial⟩ vE
def aal:Eng.Obj:=aM M0 ab 62
theorem Ct:au Tryz.prog 62 aal:=ak RP Rin.mixed Tryz.func62 (by kernel_rfl) (by kernel_rfl)
def M1:Cfg:=⟨Tryz.prog,lookG [(62,.obj aal),(84,.obj aax),(16,.val po),(119,.obj Rr),(155,.obj NR),(112,.obj Yn),(85,.see ovS)],EB,0⟩
theorem xo:M1.Ok:=Cfg.ok ⟨Ct,Fy,fz,vP,GZ,D4,Tn,trivial⟩ vE
def adk:Eng.Obj:=aM M1 ab 39
theorem O6:au Tryz.prog 39 adk:=ak xo Rin.mixed Tryz.func39 (by kernel_rfl) (by kernel_rfl)
def adt:Eng.Obj:=aM M1 ab 94
theorem OA:au Tryz.prog 94 adt:=ak xo Rin.mixed Tryz.func94 (by kernel_rfl) (by kernel_rfl)
def ad6:Eng.Obj:=aM M1 ab 120
theorem QN:au Tryz.prog 120 ad6:=ak xo Rin.mixed Tryz.func120 (by kernel_rfl) (by kernel_rfl)
def ovE:Eng.Obj:=aM M1 ab 59
theorem Kh:au Tryz.prog 59 ovE:=ak xo Rin.mixed Tryz.func59 (by kernel_rfl) (by kernel_rfl)
def M2:Cfg:=⟨Tryz.prog,lookG [(62,.obj aal),(84,.obj aax),(16,.val po),(59,.obj ovE),(112,.obj Yn)],EB,0⟩
theorem Rc:M2.Ok:=Cfg.ok ⟨Ct,Fy,fz,Kh,D4,trivial⟩ vE
def chE:Eng.Obj:=aM M2 ab 82
theorem Vn:au Tryz.prog 82 chE:=ak Rc Rin.mixed Tryz.func82 (by kernel_rfl) (by kernel_rfl)
def rB (s:RS) (k:Nat):Blk:=.cells 199 [Eng.iv s.w,Eng.iv s.g,.sub k 1 0 s.n,Eng.iv s.nw,Eng.bv s.ov]
def dG (i j:Nat):V:=.iface 119 (.agg [.ptr i 0,.ptr j 0])
def ZI (i j:Nat) (g:Int) (ov:Bool):Blk:=.cells 122 [dG i j,Eng.iv g,Eng.bv ov]
end Go.Proofs.YtgpgppncblldiaaGreatDoor.Met
namespace Go.Proofs.YtgpgppncblldiaaGreatDoor.Met
open Go.Eng Go.RowKit Mil Rin
end Go.Proofs.YtgpgppncblldiaaGreatDoor.Met
end
