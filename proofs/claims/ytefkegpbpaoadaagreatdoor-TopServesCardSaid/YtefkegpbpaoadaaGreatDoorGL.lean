import Derived.Test.YtefkegpbpaoadaaGreatDoorGH
import Derived.Test.YtefkegpbpaoadaaGreatDoorGJ
set_option linter.unusedVariables false
set_option linter.unusedSimpArgs false
noncomputable section
namespace Go.Proofs.YtefkegpbpaoadaaGreatDoor.Met
open Go.Eng Go.RowKit Mil Rin Conf
def adZ:Eng.Obj:=aK R0 aa 91
theorem E4:an Tryz.prog 91 adZ:=ag Lq Rin.mixed Tryz.func91 (by kernel_rfl) (by kernel_rfl)
def M0:Cfg:=⟨Tryz.prog,lookG [(93,.obj afI),(17,.val mI)],EB,0⟩
theorem Un:M0.Ok:=Cfg.ok ⟨T7,fz,trivial⟩ zH
def aeX:Eng.Obj:=aK M0 aa 69
theorem Fo:an Tryz.prog 69 aeX:=ag Un Rin.mixed Tryz.func69 (by kernel_rfl) (by kernel_rfl)
def M1:Cfg:=⟨Tryz.prog,lookG [(69,.obj aeX),(91,.obj adZ),(17,.val mI),(126,.obj MC),(162,.obj Uh),(119,.obj ado),(92,.see ovS)],EB,0⟩
theorem zj:M1.Ok:=Cfg.ok ⟨Fo,E4,fz,yB,Ll,Hr,VU,trivial⟩ zH
def ahL:Eng.Obj:=aK M1 aa 40
theorem PI:an Tryz.prog 40 ahL:=ag zj Rin.mixed Tryz.func40 (by kernel_rfl) (by kernel_rfl)
def aiP:Eng.Obj:=aK M1 aa 101
theorem Ta:an Tryz.prog 101 aiP:=ag zj Rin.mixed Tryz.func101 (by kernel_rfl) (by kernel_rfl)
def ah6:Eng.Obj:=aK M1 aa 127
theorem Sr:an Tryz.prog 127 ah6:=ag zj Rin.mixed Tryz.func127 (by kernel_rfl) (by kernel_rfl)
def ovE:Eng.Obj:=aK M1 aa 64
theorem Ni:an Tryz.prog 64 ovE:=ag zj Rin.mixed Tryz.func64 (by kernel_rfl) (by kernel_rfl)
def M2:Cfg:=⟨Tryz.prog,lookG [(69,.obj aeX),(91,.obj adZ),(17,.val mI),(64,.obj ovE),(119,.obj ado)],EB,0⟩
theorem Sz:M2.Ok:=Cfg.ok ⟨Fo,E4,fz,Ni,Hr,trivial⟩ zH
def chE:Eng.Obj:=aK M2 aa 89
theorem X5:an Tryz.prog 89 chE:=ag Sz Rin.mixed Tryz.func89 (by kernel_rfl) (by kernel_rfl)
def rB (s:RS) (k:Nat):Blk:=.cells 205 [Eng.iv s.w,Eng.iv s.g,.sub k 1 0 s.n,Eng.iv s.nw,Eng.bv s.ov]
def dR (i j:Nat):V:=.iface 125 (.agg [.ptr i 0,.ptr j 0])
def aeK (i j:Nat) (g:Int) (ov:Bool):Blk:=.cells 128 [dR i j,Eng.iv g,Eng.bv ov]
end Go.Proofs.YtefkegpbpaoadaaGreatDoor.Met
namespace Go.Proofs.YtefkegpbpaoadaaGreatDoor.Met
open Go.Eng Go.RowKit Mil Rin
end Go.Proofs.YtefkegpbpaoadaaGreatDoor.Met
end
