import Derived.Test.YtncmdfdppmfeeaaGreatDoorGL
import Derived.Test.YtncmdfdppmfeeaaGreatDoorGO
import Derived.Test.YtncmdfdppmfeeaaGreatDoorGP
namespace Go.Proofs.YtncmdfdppmfeeaaGreatDoor.Dec
open Go.Eng Go.RowKit Mil Rin
set_option linter.unusedVariables false
set_option linter.unusedSimpArgs false
theorem mixed:Tryz.prog.follows .mixedOrders=true:=Checked.mixed Tryz.checked
noncomputable def X0:Cfg:=⟨Tryz.prog,lookG [],[],0⟩
theorem IX:X0.Ok:=Cfg.ok trivial trivial
noncomputable def Dp:Eng.Obj:=ax X0 aa 142
theorem gE:ObjOk Tryz.prog 142 Dp:=af IX mixed Tryz.func142 (by kernel_rfl) (by kernel_rfl)
noncomputable def X1:Cfg:=⟨Tryz.prog,lookG [(216,.val Conf.tF),(185,.val Conf.isS),(214,.val Conf.sV),(213,.obj Dly.Jl),(215,.obj Dly.Yb),(89,.val Conf.pv)],[],0⟩
theorem SP:X1.Ok:=Cfg.ok ⟨Conf.kP,Conf.F5,Conf.BD,Dly.s7,Dly.Mz,Conf.iT,trivial⟩ trivial
noncomputable def Z0:Eng.Obj:=ax X1 aa 184
theorem J7:ObjOk Tryz.prog 184 Z0:=af SP mixed Tryz.func184 (by kernel_rfl) (by kernel_rfl)
noncomputable def Zd:Eng.Obj:=ax X1 aa 183
theorem Ng:ObjOk Tryz.prog 183 Zd:=af SP mixed Tryz.func183 (by kernel_rfl) (by kernel_rfl)
noncomputable def X2:Cfg:=⟨Tryz.prog,lookG [(142,.obj Dp),(184,.obj Z0),(183,.obj Zd),(179,.obj Met.ZA),(180,.val Conf.ofS),(182,.val Conf.JJ),(181,.val Conf.Kv),(185,.val Conf.isS),(30,.val Conf.UQ)],EB,0⟩
theorem X4:X2.Ok:=Cfg.ok ⟨gE,J7,Ng,Met.NV,Conf.SB,Conf.BB,Conf.zy,Conf.F5,Conf.Ct,trivial⟩ ld
noncomputable def ZS:Eng.Obj:=ax X2 aa 163
theorem MS:ObjOk Tryz.prog 163 ZS:=af X4 mixed Tryz.func163 (by kernel_rfl) (by kernel_rfl)
noncomputable def X3:Cfg:=⟨Tryz.prog,lookG [(142,.obj Dp),(163,.obj ZS),(162,.obj Met.Z3),(143,.obj Met.chE),(147,.obj Met.ovE),(144,.obj Del.L6),(19,.val Conf.kW),(89,.val Conf.pv),(56,.val Conf.Cd),(54,.obj Met.ZX),(55,.obj Dly.aat)],EB,0⟩
theorem Rk:X3.Ok:=Cfg.ok ⟨gE,MS,Met.Kw,Met.PJ,Met.vH,Del.wH,Conf.db,Conf.iT,Conf.uK,Met.Jw,Dly.Nv,trivial⟩ ld
noncomputable def Z5:Eng.Obj:=ax X3 aa 112
theorem Kg:ObjOk Tryz.prog 112 Z5:=af Rk mixed Tryz.func112 (by kernel_rfl) (by kernel_rfl)
noncomputable def UJ:Eng.Obj:=ax X3 aa 25
theorem I0:ObjOk Tryz.prog 25 UJ:=af Rk mixed Tryz.func25 (by kernel_rfl) (by kernel_rfl)
def cfL (c:Conf.Cf):List V:=[Eng.iv c.target,Eng.iv c.util,Eng.iv c.stable,Eng.iv c.panic,Eng.iv c.grain,Eng.iv c.threshold,Eng.iv c.up,Eng.iv c.down,Eng.iv c.min,Eng.iv c.max,Eng.iv c.initial,Eng.iv c.grace,Eng.iv c.delay,Eng.iv c.burst,Eng.iv c.limit,Eng.iv c.queue,Eng.iv c.timeout,Eng.iv c.ready,Eng.iv c.subset,Eng.iv c.sample]
structure DcS where
 c:Conf.Cf
 gm:Int
 om:Bool
 s:RS
 q:RS
 sp:Int
 a:Int
 n:Nat
 l:List (Int × Int)
 si:Int
 mo:Int
 la:Int
def VD (d:DcS) (i j:Nat):Blk:=.cells 117 [Eng.iv d.c.target,Eng.iv d.c.util,Eng.iv d.c.stable,Eng.iv d.c.panic,Eng.iv d.c.grain,Eng.iv d.c.threshold,Eng.iv d.c.up,Eng.iv d.c.down,Eng.iv d.c.min,Eng.iv d.c.max,Eng.iv d.c.initial,Eng.iv d.c.grace,Eng.iv d.c.delay,Eng.iv d.c.burst,Eng.iv d.c.limit,Eng.iv d.c.queue,Eng.iv d.c.timeout,Eng.iv d.c.ready,Eng.iv d.c.subset,Eng.iv d.c.sample,.ptr i 0,.ptr j 0,Eng.iv d.si,Eng.iv d.mo,Eng.iv d.la]
def Ot (d:DcS):Heap:=[(0,VD d 1 2),(1,Met.Z7 3 4 d.gm d.om),(2,Dly.dlB d.sp d.a 5 d.n),(3,Met.rB d.s 6),(4,Met.rB d.q 7),(5,Dly.MI d.l),(6,bxB d.s.l [] none),(7,bxB d.q.l [] none)]
set_option maxRecDepth 100000
theorem iz {α:Type} {c:Bool} {x y:T α} {r:α} (h:(T.ite none c x y).eval=some r) (hc:c=true):x.eval=some r:=by rw [hc] at h;exact h
theorem iB {α:Type} {c:Bool} {x y:T α} {r:α} (h:(T.ite none c x y).eval=some r) (hc:c=false):y.eval=some r:=by rw [hc] at h;exact h
noncomputable def Y1:Cfg:=⟨Tryz.prog,lookG [(216,.val Conf.tF),(185,.val Conf.isS),(214,.val Conf.sV),(213,.obj (Eng.Obj.plain Del.Zk)),(215,.obj (Eng.Obj.plain Del.RL)),(89,.val Conf.pv)],[],0⟩
theorem OS:Y1.Ok:=Cfg.ok ⟨Conf.kP,Conf.F5,Conf.BD,Del.Je.plain,Del.FC.plain,Conf.iT,trivial⟩ trivial
noncomputable def Y4:Eng.Obj:=ax Y1 aa 184
theorem LX:ObjOk Tryz.prog 184 Y4:=af OS mixed Tryz.func184 (by kernel_rfl) (by kernel_rfl)
noncomputable def aao:Eng.Obj:=ax Y1 aa 183
theorem JQ:ObjOk Tryz.prog 183 aao:=af OS mixed Tryz.func183 (by kernel_rfl) (by kernel_rfl)
noncomputable def Y2:Cfg:=⟨Tryz.prog,lookG [(142,.obj (Eng.Obj.plain Dp)),(184,.obj (Eng.Obj.plain Y4)),(183,.obj (Eng.Obj.plain aao)),(179,.obj (Eng.Obj.plain Met.Sj)),(180,.val Conf.ofS),(182,.val Conf.JJ),(181,.val Conf.Kv),(185,.val Conf.isS),(30,.val Conf.UQ)],EB,0⟩
theorem Yy:Y2.Ok:=Cfg.ok ⟨gE.plain,LX.plain,JQ.plain,Met.EL.plain,Conf.SB,Conf.BB,Conf.zy,Conf.F5,Conf.Ct,trivial⟩ ld
noncomputable def ZV:Eng.Obj:=ax Y2 aa 163
theorem MG:ObjOk Tryz.prog 163 ZV:=af Yy mixed Tryz.func163 (by kernel_rfl) (by kernel_rfl)
noncomputable def Y3:Cfg:=⟨Tryz.prog,lookG [(142,.obj (Eng.Obj.plain Dp)),(163,.obj (Eng.Obj.plain ZV)),(162,.obj (Eng.Obj.plain Met.Tt)),(143,.obj (Eng.Obj.plain Met.chT)),(147,.obj (Eng.Obj.plain Met.ovE)),(144,.obj (Eng.Obj.plain Del.L6)),(19,.val Conf.kW),(89,.val Conf.pv),(56,.val Conf.Cd),(54,.obj (Eng.Obj.plain Met.ZY)),(55,.obj (Eng.Obj.plain Del.V5))],EB,0⟩
theorem JH:Y3.Ok:=Cfg.ok ⟨gE.plain,MG.plain,Met.EG.plain,Met.RH.plain,Met.vH.plain,Del.wH.plain,Conf.db,Conf.iT,Conf.uK,Met.I3.plain,Del.AZ.plain,trivial⟩ ld
noncomputable def Zf:Eng.Obj:=ax Y3 aa 135
theorem Lz:ObjOk Tryz.prog 135 Zf:=af JH mixed Tryz.func135 (by kernel_rfl) (by kernel_rfl)
noncomputable def QX:Eng.Obj:=ax Y3 aa 133
theorem Fs:ObjOk Tryz.prog 133 QX:=af JH mixed Tryz.func133 (by kernel_rfl) (by kernel_rfl)
end Go.Proofs.YtncmdfdppmfeeaaGreatDoor.Dec
namespace Go.Proofs.YtncmdfdppmfeeaaGreatDoor.Met
open Go.Eng Go.RowKit Mil Rin
set_option linter.unusedVariables false
set_option linter.unusedSimpArgs false
set_option maxRecDepth 100000
abbrev Rec:=Rin.Rec
def recs (f:Nat->Int) (k:Nat):List Rec:=(List.range k).map fun (i:Nat)=>((i:Int),f i)
structure Tick (s:RS) (w:Int) (f:Nat->Int) (k:Nat):Prop where
 h:HoldsR s (recs f k)
 w:s.w=w
 g:s.g=1
 nw:s.nw=(k:Int) - 1
 ov:s.ov=false
theorem Tick.n {s:RS} {w:Int} {f:Nat->Int} {k:Nat} (h:Tick s w f k):(s.n:Int)=w/\1<=w/\w<=600:=by
 have h1:=h.h.sn
 have h2:=h.h.g2
 have h3:=h.h.w1
 rw [h.g,h.w] at *
 rw [h1]
 exact ⟨Rb h2,h2,h3⟩
end Go.Proofs.YtncmdfdppmfeeaaGreatDoor.Met
namespace Go.Proofs.YtncmdfdppmfeeaaGreatDoor.Dec
open Go.Eng Go.RowKit Mil Rin
set_option linter.unusedVariables false
set_option linter.unusedSimpArgs false
set_option maxRecDepth 100000
def DcS.new (c:Conf.Cf):DcS:=⟨c,c.grain,false,RS.new c.stable c.grain,RS.new c.panic c.grain,c.delay,0,0,[],-1,0,0⟩
def aaH (d:DcS):Heap:=[(88,VD d 40 64),(40,.cells 174 [Met.dr 41 42,Eng.iv d.gm,.ff]),(64,Dly.dlB d.sp d.a 65 d.n),(41,Met.rB d.s 43),(42,Met.rB d.q 44),(65,Dly.MI d.l),(43,bxB d.s.l [] none),(44,bxB d.q.l [] none)]
noncomputable def VI:Eng.Obj
 | [.agg [.s (.int .i64 ctarget),.s (.int .i64 cutil),.s (.int .i64 cstable),.s (.int .i64 cpanic),.s (.int .i64 cgrain),.s (.int .i64 cthreshold),.s (.int .i64 cup),.s (.int .i64 cdown),.s (.int .i64 cmin),.s (.int .i64 cmax),.s (.int .i64 cinitial),.s (.int .i64 cgrace),.s (.int .i64 cdelay),.s (.int .i64 cburst),.s (.int .i64 climit),.s (.int .i64 cqueue),.s (.int .i64 ctimeout),.s (.int .i64 cready),.s (.int .i64 csubset),.s (.int .i64 csample)]],[]=>.ite none (Conf.eR ⟨ctarget,cutil,cstable,cpanic,cgrain,cthreshold,cup,cdown,cmin,cmax,cinitial,cgrace,cdelay,cburst,climit,cqueue,ctimeout,cready,csubset,csample⟩) (.ret (.ptr 88 0,aaH (DcS.new ⟨ctarget,cutil,cstable,cpanic,cgrain,cthreshold,cup,cdown,cmin,cmax,cinitial,cgrace,cdelay,cburst,climit,cqueue,ctimeout,cready,csubset,csample⟩))) (.ret (.nilPtr,[]))
 | _,_=>.fail
theorem Sq (c:Conf.Cf):T.path [false,false,false,false,false] (T.anon (UJ [.agg (cfL c)] []))=some ([(!Conf.eR c,false),(!Conf.eR c,false),(badN c.stable c.grain,false),(badN c.panic c.grain,false),(!(bif decide (0<=c.delay) then decide (c.delay<=600) else false),false)],(.ptr 88 0,aaH (DcS.new c))):=by kernel_rfl
theorem RN (c:Conf.Cf):T.path [true] (T.anon (UJ [.agg (cfL c)] []))=some ([(!Conf.eR c,true)],(.nilPtr,[])):=by kernel_rfl
theorem ia {w g:Int} (h1:1<=g) (h2:g<=w) (h3:w<=600):badN w g=false:=by
 unfold badN
 rw [decide_eq_false (show ¬ g<1 by omega),decide_eq_false (show ¬ w<g by omega),decide_eq_false (show ¬ 600<w by omega),decide_eq_false (show ¬ w<1 by omega)];rfl
theorem M5:ObjOk Tryz.prog 25 VI:=I0.of_eval fun args h r hv=>by
 unfold VI at hv
 split at hv
 ·rename_i ctarget cutil cstable cpanic cgrain cthreshold cup cdown cmin cmax cinitial cgrace cdelay cburst climit cqueue ctimeout cready csubset csample
  revert hv
  generalize hc:(⟨ctarget,cutil,cstable,cpanic,cgrain,cthreshold,cup,cdown,cmin,cmax,cinitial,cgrace,cdelay,cburst,climit,cqueue,ctimeout,cready,csubset,csample⟩:Conf.Cf)=c
  intro hv
  have e:([.agg [.s (.int .i64 ctarget),.s (.int .i64 cutil),.s (.int .i64 cstable),.s (.int .i64 cpanic),.s (.int .i64 cgrain),.s (.int .i64 cthreshold),.s (.int .i64 cup),.s (.int .i64 cdown),.s (.int .i64 cmin),.s (.int .i64 cmax),.s (.int .i64 cinitial),.s (.int .i64 cgrace),.s (.int .i64 cdelay),.s (.int .i64 cburst),.s (.int .i64 climit),.s (.int .i64 cqueue),.s (.int .i64 ctimeout),.s (.int .i64 cready),.s (.int .i64 csubset),.s (.int .i64 csample)]]:List V)=[.agg (cfL c)]:=by rw [<- hc];rfl
  rw [e]
  rw [<- T.eval_anon (t:=UJ _ _)]
  cases hm:Conf.eR c with
  | false =>
   obtain rfl:=Option.some.inj (iB hv hm)
   exact T.path_eval (RN c) ⟨by rw [hm];rfl,trivial⟩
  | true =>
   obtain rfl:=Option.some.inj (iz hv hm)
   have may:=Conf.may_of hm
   have h1:=may.grain
   have h2:=may.panic
   have h3:=may.stable
   have h4:=may.delay
   refine T.path_eval (Sq c) ⟨by rw [hm];rfl,by rw [hm];rfl,ia (by omega) (by omega) (by omega),ia (by omega) (by omega) (by omega),?_,trivial⟩
   rw [decide_eq_true (show 0<=c.delay by omega),decide_eq_true (show c.delay<=600 by omega)];rfl
 ·cases hv
end Go.Proofs.YtncmdfdppmfeeaaGreatDoor.Dec
