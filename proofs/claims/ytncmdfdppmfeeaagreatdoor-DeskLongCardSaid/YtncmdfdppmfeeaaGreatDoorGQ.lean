import Derived.Test.YtncmdfdppmfeeaaGreatDoorGL
import Derived.Test.YtncmdfdppmfeeaaGreatDoorGO
import Derived.Test.YtncmdfdppmfeeaaGreatDoorGP
namespace Go.Proofs.YtncmdfdppmfeeaaGreatDoor.Dec
open Go.Eng Go.RowKit Mil Rin
set_option linter.unusedVariables false
set_option linter.unusedSimpArgs false
theorem mixed:Tryz.prog.follows .mixedOrders=true:=Checked.mixed Tryz.checked
noncomputable def X0:Cfg:=⟨Tryz.prog,lookG [],[],0⟩
theorem JD:X0.Ok:=Cfg.ok trivial trivial
noncomputable def D6:Eng.Obj:=ay X0 aa 142
theorem gC:ObjOk Tryz.prog 142 D6:=ae JD mixed Tryz.func142 (by kernel_rfl) (by kernel_rfl)
noncomputable def X1:Cfg:=⟨Tryz.prog,lookG [(216,.val Conf.tT),(185,.val Conf.isS),(214,.val Conf.uE),(213,.obj Dly.OJ),(215,.obj Dly.WY),(89,.val Conf.qo)],[],0⟩
theorem Sp:X1.Ok:=Cfg.ok ⟨Conf.kR,Conf.FN,Conf.zu,Dly.vj,Dly.Mt,Conf.ja,trivial⟩ trivial
noncomputable def aaX:Eng.Obj:=ay X1 aa 184
theorem JT:ObjOk Tryz.prog 184 aaX:=ae Sp mixed Tryz.func184 (by kernel_rfl) (by kernel_rfl)
noncomputable def aat:Eng.Obj:=ay X1 aa 183
theorem KH:ObjOk Tryz.prog 183 aat:=ae Sp mixed Tryz.func183 (by kernel_rfl) (by kernel_rfl)
noncomputable def X2:Cfg:=⟨Tryz.prog,lookG [(142,.obj D6),(184,.obj aaX),(183,.obj aat),(179,.obj Met.aaH),(180,.val Conf.ofS),(182,.val Conf.Lc),(181,.val Conf.Pj),(185,.val Conf.isS),(30,.val Conf.Wh)],EB,0⟩
theorem Xk:X2.Ok:=Cfg.ok ⟨gC,JT,KH,Met.Lk,Conf.TN,Conf.zD,Conf.BU,Conf.FN,Conf.Ba,trivial⟩ lf
noncomputable def abE:Eng.Obj:=ay X2 aa 163
theorem J9:ObjOk Tryz.prog 163 abE:=ae Xk mixed Tryz.func163 (by kernel_rfl) (by kernel_rfl)
noncomputable def X3:Cfg:=⟨Tryz.prog,lookG [(142,.obj D6),(163,.obj abE),(162,.obj Met.abD),(143,.obj Met.chE),(147,.obj Met.ovE),(144,.obj Del.MU),(19,.val Conf.lg),(89,.val Conf.qo),(56,.val Conf.zK),(54,.obj Met.aaS),(55,.obj Dly.abb)],EB,0⟩
theorem S2:X3.Ok:=Cfg.ok ⟨gC,J9,Met.Pg,Met.Vm,Met.w8,Del.xm,Conf.dj,Conf.ja,Conf.uS,Met.M3,Dly.Lr,trivial⟩ lf
noncomputable def aaP:Eng.Obj:=ay X3 aa 112
theorem Mr:ObjOk Tryz.prog 112 aaP:=ae S2 mixed Tryz.func112 (by kernel_rfl) (by kernel_rfl)
noncomputable def Wg:Eng.Obj:=ay X3 aa 25
theorem Pl:ObjOk Tryz.prog 25 Wg:=ae S2 mixed Tryz.func25 (by kernel_rfl) (by kernel_rfl)
def cfL (c:Conf.Cf):List V:=[Eng.iv c.target,Eng.iv c.util,Eng.iv c.stable,Eng.iv c.panic,Eng.iv c.grain,Eng.iv c.threshold,Eng.iv c.up,Eng.iv c.down,Eng.iv c.min,Eng.iv c.max,Eng.iv c.initial,Eng.iv c.grace,Eng.iv c.delay,Eng.iv c.burst,Eng.iv c.limit,Eng.iv c.queue,Eng.iv c.timeout,Eng.iv c.ready,Eng.iv c.subset,Eng.iv c.sample]
structure DcS where
 c:Conf.Cf
 gm:Int
 om:Bool
 s:RS
 q:RS
 sp:Int
 a:Int
 n:Nat
 l:List (Int × Int)
 si:Int
 mo:Int
 la:Int
def YU (d:DcS) (i j:Nat):Blk:=.cells 117 [Eng.iv d.c.target,Eng.iv d.c.util,Eng.iv d.c.stable,Eng.iv d.c.panic,Eng.iv d.c.grain,Eng.iv d.c.threshold,Eng.iv d.c.up,Eng.iv d.c.down,Eng.iv d.c.min,Eng.iv d.c.max,Eng.iv d.c.initial,Eng.iv d.c.grace,Eng.iv d.c.delay,Eng.iv d.c.burst,Eng.iv d.c.limit,Eng.iv d.c.queue,Eng.iv d.c.timeout,Eng.iv d.c.ready,Eng.iv d.c.subset,Eng.iv d.c.sample,.ptr i 0,.ptr j 0,Eng.iv d.si,Eng.iv d.mo,Eng.iv d.la]
def Pv (d:DcS):Heap:=[(0,YU d 1 2),(1,Met.aba 3 4 d.gm d.om),(2,Dly.dlB d.sp d.a 5 d.n),(3,Met.rB d.s 6),(4,Met.rB d.q 7),(5,Dly.Mh d.l),(6,bxB d.s.l [] none),(7,bxB d.q.l [] none)]
set_option maxRecDepth 100000
theorem gD {α:Type} {c:Bool} {x y:T α} {r:α} (h:(T.ite none c x y).eval=some r) (hc:c=true):x.eval=some r:=by rw [hc] at h;exact h
theorem gz {α:Type} {c:Bool} {x y:T α} {r:α} (h:(T.ite none c x y).eval=some r) (hc:c=false):y.eval=some r:=by rw [hc] at h;exact h
noncomputable def Y1:Cfg:=⟨Tryz.prog,lookG [(216,.val Conf.tT),(185,.val Conf.isS),(214,.val Conf.uE),(213,.obj (Eng.Obj.plain Del.aaU)),(215,.obj (Eng.Obj.plain Del.QT)),(89,.val Conf.qo)],[],0⟩
theorem RD:Y1.Ok:=Cfg.ok ⟨Conf.kR,Conf.FN,Conf.zu,Del.N7.plain,Del.GM.plain,Conf.ja,trivial⟩ trivial
noncomputable def aa2:Eng.Obj:=ay Y1 aa 184
theorem OX:ObjOk Tryz.prog 184 aa2:=ae RD mixed Tryz.func184 (by kernel_rfl) (by kernel_rfl)
noncomputable def aa4:Eng.Obj:=ay Y1 aa 183
theorem MH:ObjOk Tryz.prog 183 aa4:=ae RD mixed Tryz.func183 (by kernel_rfl) (by kernel_rfl)
noncomputable def Y2:Cfg:=⟨Tryz.prog,lookG [(142,.obj (Eng.Obj.plain D6)),(184,.obj (Eng.Obj.plain aa2)),(183,.obj (Eng.Obj.plain aa4)),(179,.obj (Eng.Obj.plain Met.UT)),(180,.val Conf.ofS),(182,.val Conf.Lc),(181,.val Conf.Pj),(185,.val Conf.isS),(30,.val Conf.Wh)],EB,0⟩
theorem W8:Y2.Ok:=Cfg.ok ⟨gC.plain,OX.plain,MH.plain,Met.FU.plain,Conf.TN,Conf.zD,Conf.BU,Conf.FN,Conf.Ba,trivial⟩ lf
noncomputable def abp:Eng.Obj:=ay Y2 aa 163
theorem Ol:ObjOk Tryz.prog 163 abp:=ae W8 mixed Tryz.func163 (by kernel_rfl) (by kernel_rfl)
noncomputable def Y3:Cfg:=⟨Tryz.prog,lookG [(142,.obj (Eng.Obj.plain D6)),(163,.obj (Eng.Obj.plain abp)),(162,.obj (Eng.Obj.plain Met.Un)),(143,.obj (Eng.Obj.plain Met.chT)),(147,.obj (Eng.Obj.plain Met.ovE)),(144,.obj (Eng.Obj.plain Del.MU)),(19,.val Conf.lg),(89,.val Conf.qo),(56,.val Conf.zK),(54,.obj (Eng.Obj.plain Met.aas)),(55,.obj (Eng.Obj.plain Del.Zh))],EB,0⟩
theorem Mu:Y3.Ok:=Cfg.ok ⟨gC.plain,Ol.plain,Met.Gy.plain,Met.Tk.plain,Met.w8.plain,Del.xm.plain,Conf.dj,Conf.ja,Conf.uS,Met.NU.plain,Del.Cb.plain,trivial⟩ lf
noncomputable def aa8:Eng.Obj:=ay Y3 aa 135
theorem MJ:ObjOk Tryz.prog 135 aa8:=ae Mu mixed Tryz.func135 (by kernel_rfl) (by kernel_rfl)
noncomputable def S8:Eng.Obj:=ay Y3 aa 133
theorem E6:ObjOk Tryz.prog 133 S8:=ae Mu mixed Tryz.func133 (by kernel_rfl) (by kernel_rfl)
end Go.Proofs.YtncmdfdppmfeeaaGreatDoor.Dec
namespace Go.Proofs.YtncmdfdppmfeeaaGreatDoor.Met
open Go.Eng Go.RowKit Mil Rin
set_option linter.unusedVariables false
set_option linter.unusedSimpArgs false
set_option maxRecDepth 100000
abbrev Rec:=Rin.Rec
def recs (f:Nat->Int) (k:Nat):List Rec:=(List.range k).map fun (i:Nat)=>((i:Int),f i)
structure Tick (s:RS) (w:Int) (f:Nat->Int) (k:Nat):Prop where
 h:HoldsR s (recs f k)
 w:s.w=w
 g:s.g=1
 nw:s.nw=(k:Int) - 1
 ov:s.ov=false
theorem Tick.n {s:RS} {w:Int} {f:Nat->Int} {k:Nat} (h:Tick s w f k):(s.n:Int)=w/\1<=w/\w<=600:=by
 have h1:=h.h.sn
 have h2:=h.h.g2
 have h3:=h.h.w1
 rw [h.g,h.w] at *
 rw [h1]
 exact ⟨T4 h2,h2,h3⟩
end Go.Proofs.YtncmdfdppmfeeaaGreatDoor.Met
namespace Go.Proofs.YtncmdfdppmfeeaaGreatDoor.Dec
open Go.Eng Go.RowKit Mil Rin
set_option linter.unusedVariables false
set_option linter.unusedSimpArgs false
set_option maxRecDepth 100000
def DcS.new (c:Conf.Cf):DcS:=⟨c,c.grain,false,RS.new c.stable c.grain,RS.new c.panic c.grain,c.delay,0,0,[],-1,0,0⟩
def aaJ (d:DcS):Heap:=[(88,YU d 40 64),(40,.cells 174 [Met.du 41 42,Eng.iv d.gm,.ff]),(64,Dly.dlB d.sp d.a 65 d.n),(41,Met.rB d.s 43),(42,Met.rB d.q 44),(65,Dly.Mh d.l),(43,bxB d.s.l [] none),(44,bxB d.q.l [] none)]
noncomputable def X8:Eng.Obj
 | [.agg [.s (.int .i64 ctarget),.s (.int .i64 cutil),.s (.int .i64 cstable),.s (.int .i64 cpanic),.s (.int .i64 cgrain),.s (.int .i64 cthreshold),.s (.int .i64 cup),.s (.int .i64 cdown),.s (.int .i64 cmin),.s (.int .i64 cmax),.s (.int .i64 cinitial),.s (.int .i64 cgrace),.s (.int .i64 cdelay),.s (.int .i64 cburst),.s (.int .i64 climit),.s (.int .i64 cqueue),.s (.int .i64 ctimeout),.s (.int .i64 cready),.s (.int .i64 csubset),.s (.int .i64 csample)]],[]=>.ite none (Conf.eZ ⟨ctarget,cutil,cstable,cpanic,cgrain,cthreshold,cup,cdown,cmin,cmax,cinitial,cgrace,cdelay,cburst,climit,cqueue,ctimeout,cready,csubset,csample⟩) (.ret (.ptr 88 0,aaJ (DcS.new ⟨ctarget,cutil,cstable,cpanic,cgrain,cthreshold,cup,cdown,cmin,cmax,cinitial,cgrace,cdelay,cburst,climit,cqueue,ctimeout,cready,csubset,csample⟩))) (.ret (.nilPtr,[]))
 | _,_=>.fail
theorem Sv (c:Conf.Cf):T.path [false,false,false,false,false] (T.anon (Wg [.agg (cfL c)] []))=some ([(!Conf.eZ c,false),(!Conf.eZ c,false),(badN c.stable c.grain,false),(badN c.panic c.grain,false),(!(bif decide (0<=c.delay) then decide (c.delay<=600) else false),false)],(.ptr 88 0,aaJ (DcS.new c))):=by kernel_rfl
theorem SO (c:Conf.Cf):T.path [true] (T.anon (Wg [.agg (cfL c)] []))=some ([(!Conf.eZ c,true)],(.nilPtr,[])):=by kernel_rfl
theorem iG {w g:Int} (h1:1<=g) (h2:g<=w) (h3:w<=600):badN w g=false:=by
 unfold badN
 rw [decide_eq_false (show ¬ g<1 by omega),decide_eq_false (show ¬ w<g by omega),decide_eq_false (show ¬ 600<w by omega),decide_eq_false (show ¬ w<1 by omega)];rfl
theorem Mc:ObjOk Tryz.prog 25 X8:=Pl.of_eval fun args h r hv=>by
 unfold X8 at hv
 split at hv
 ·rename_i ctarget cutil cstable cpanic cgrain cthreshold cup cdown cmin cmax cinitial cgrace cdelay cburst climit cqueue ctimeout cready csubset csample
  revert hv
  generalize hc:(⟨ctarget,cutil,cstable,cpanic,cgrain,cthreshold,cup,cdown,cmin,cmax,cinitial,cgrace,cdelay,cburst,climit,cqueue,ctimeout,cready,csubset,csample⟩:Conf.Cf)=c
  intro hv
  have e:([.agg [.s (.int .i64 ctarget),.s (.int .i64 cutil),.s (.int .i64 cstable),.s (.int .i64 cpanic),.s (.int .i64 cgrain),.s (.int .i64 cthreshold),.s (.int .i64 cup),.s (.int .i64 cdown),.s (.int .i64 cmin),.s (.int .i64 cmax),.s (.int .i64 cinitial),.s (.int .i64 cgrace),.s (.int .i64 cdelay),.s (.int .i64 cburst),.s (.int .i64 climit),.s (.int .i64 cqueue),.s (.int .i64 ctimeout),.s (.int .i64 cready),.s (.int .i64 csubset),.s (.int .i64 csample)]]:List V)=[.agg (cfL c)]:=by rw [<- hc];rfl
  rw [e]
  rw [<- T.eval_anon (t:=Wg _ _)]
  cases hm:Conf.eZ c with
  | false =>
   obtain rfl:=Option.some.inj (gz hv hm)
   exact T.path_eval (SO c) ⟨by rw [hm];rfl,trivial⟩
  | true =>
   obtain rfl:=Option.some.inj (gD hv hm)
   have may:=Conf.may_of hm
   have h1:=may.grain
   have h2:=may.panic
   have h3:=may.stable
   have h4:=may.delay
   refine T.path_eval (Sv c) ⟨by rw [hm];rfl,by rw [hm];rfl,iG (by omega) (by omega) (by omega),iG (by omega) (by omega) (by omega),?_,trivial⟩
   rw [decide_eq_true (show 0<=c.delay by omega),decide_eq_true (show c.delay<=600 by omega)];rfl
 ·cases hv
end Go.Proofs.YtncmdfdppmfeeaaGreatDoor.Dec
