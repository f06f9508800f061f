import Derived.Test.YtggakaogidjjbaaGreatDoorGH
import Derived.Test.YtggakaogidjjbaaGreatDoorGJ
namespace Go.Proofs.YtggakaogidjjbaaGreatDoor.Met
open Go.Eng Go.RowKit Mil Rin Conf
set_option linter.unusedVariables false
set_option linter.unusedSimpArgs false
noncomputable def Xj:Eng.Obj:=ay R0 aa 88
theorem ra:ObjOk Tryz.prog 88 Xj:=ae I7 Rin.mixed Tryz.func88 (by kernel_rfl) (by kernel_rfl)
noncomputable def M0:Cfg:=⟨Tryz.prog,lookG [(123,.obj ab1),(31,.val jL)],EB,0⟩
theorem PG:M0.Ok:=Cfg.ok ⟨RT,dn,trivial⟩ mj
noncomputable def acf:Eng.Obj:=ay M0 aa 92
theorem BX:ObjOk Tryz.prog 92 acf:=ae PG Rin.mixed Tryz.func92 (by kernel_rfl) (by kernel_rfl)
noncomputable def M1:Cfg:=⟨Tryz.prog,lookG [(92,.obj acf),(88,.obj Xj),(31,.val jL),(129,.obj Oa),(166,.obj MP),(121,.obj ZJ),(89,.see ovS)],EB,0⟩
theorem wG:M1.Ok:=Cfg.ok ⟨BX,ra,dn,vL,F8,Ec,J7,trivial⟩ mj
noncomputable def adU:Eng.Obj:=ay M1 aa 62
theorem Mz:ObjOk Tryz.prog 62 adU:=ae wG Rin.mixed Tryz.func62 (by kernel_rfl) (by kernel_rfl)
noncomputable def adR:Eng.Obj:=ay M1 aa 102
theorem RZ:ObjOk Tryz.prog 102 adR:=ae wG Rin.mixed Tryz.func102 (by kernel_rfl) (by kernel_rfl)
noncomputable def aeQ:Eng.Obj:=ay M1 aa 130
theorem Qp:ObjOk Tryz.prog 130 aeQ:=ae wG Rin.mixed Tryz.func130 (by kernel_rfl) (by kernel_rfl)
noncomputable def ovE:Eng.Obj:=ay M1 aa 53
theorem yA:ObjOk Tryz.prog 53 ovE:=ae wG Rin.mixed Tryz.func53 (by kernel_rfl) (by kernel_rfl)
noncomputable def M2:Cfg:=⟨Tryz.prog,lookG [(92,.obj acf),(88,.obj Xj),(31,.val jL),(53,.obj ovE),(121,.obj ZJ)],EB,0⟩
theorem Oy:M2.Ok:=Cfg.ok ⟨BX,ra,dn,yA,Ec,trivial⟩ mj
noncomputable def chE:Eng.Obj:=ay M2 aa 85
theorem T5:ObjOk Tryz.prog 85 chE:=ae Oy Rin.mixed Tryz.func85 (by kernel_rfl) (by kernel_rfl)
def rB (s:RS) (k:Nat):Blk:=.cells 200 [Eng.iv s.w,Eng.iv s.g,.sub k 1 0 s.n,Eng.iv s.nw,Eng.bv s.ov]
def dQ (i j:Nat):V:=.iface 151 (.agg [.ptr i 0,.ptr j 0])
def acs (i j:Nat) (g:Int) (ov:Bool):Blk:=.cells 154 [dQ i j,Eng.iv g,Eng.bv ov]
end Go.Proofs.YtggakaogidjjbaaGreatDoor.Met
namespace Go.Proofs.YtggakaogidjjbaaGreatDoor.Met
open Go.Eng Go.RowKit Mil Rin
set_option linter.unusedVariables false
set_option linter.unusedSimpArgs false
noncomputable def TM0:Cfg:=⟨Tryz.prog,lookG [(123,.obj (Eng.Obj.plain Cc)),(31,.val Conf.jL)],EB,0⟩
theorem W5:TM0.Ok:=Cfg.ok ⟨yr.plain,Conf.dn,trivial⟩ mj
noncomputable def acW:Eng.Obj:=ay TM0 aa 92
theorem DD:ObjOk Tryz.prog 92 acW:=ae W5 Rin.mixed Tryz.func92 (by kernel_rfl) (by kernel_rfl)
noncomputable def TM1:Cfg:=⟨Tryz.prog,lookG [(92,.obj (Eng.Obj.plain acW)),(88,.obj Xj),(31,.val Conf.jL),(129,.obj (Eng.Obj.plain aex)),(166,.obj (Eng.Obj.plain Ua)),(121,.obj (Eng.Obj.plain aba)),(89,.see ovS)],EB,0⟩
theorem BL:TM1.Ok:=Cfg.ok ⟨DD.plain,ra,Conf.dn,RX.plain,Gr.plain,FO.plain,J7,trivial⟩ mj
noncomputable def aey:Eng.Obj:=ay TM1 aa 62
theorem Oq:ObjOk Tryz.prog 62 aey:=ae BL Rin.mixed Tryz.func62 (by kernel_rfl) (by kernel_rfl)
noncomputable def Tp:Eng.Obj:=ay TM1 aa 102
theorem Ji:ObjOk Tryz.prog 102 Tp:=ae BL Rin.mixed Tryz.func102 (by kernel_rfl) (by kernel_rfl)
noncomputable def T6:Eng.Obj:=ay TM1 aa 130
theorem Gq:ObjOk Tryz.prog 130 T6:=ae BL Rin.mixed Tryz.func130 (by kernel_rfl) (by kernel_rfl)
noncomputable def TM2:Cfg:=⟨Tryz.prog,lookG [(92,.obj (Eng.Obj.plain acW)),(88,.obj Xj),(31,.val Conf.jL),(53,.obj ovE),(121,.obj (Eng.Obj.plain aba))],EB,0⟩
theorem Ya:TM2.Ok:=Cfg.ok ⟨DD.plain,ra,Conf.dn,yA,FO.plain,trivial⟩ mj
noncomputable def chT:Eng.Obj:=ay TM2 aa 85
theorem T8:ObjOk Tryz.prog 85 chT:=ae Ya Rin.mixed Tryz.func85 (by kernel_rfl) (by kernel_rfl)
end Go.Proofs.YtggakaogidjjbaaGreatDoor.Met
