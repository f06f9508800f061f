import Derived.Test.YtggakaogidjjbaaGreatDoorGL
import Derived.Test.YtggakaogidjjbaaGreatDoorGO
import Derived.Test.YtggakaogidjjbaaGreatDoorGP
namespace Go.Proofs.YtggakaogidjjbaaGreatDoor.Dec
open Go.Eng Go.RowKit Mil Rin
set_option linter.unusedVariables false
set_option linter.unusedSimpArgs false
theorem mixed:Tryz.prog.follows .mixedOrders=true:=Checked.mixed Tryz.checked
noncomputable def X0:Cfg:=⟨Tryz.prog,lookG [],[],0⟩
theorem X0_ok:X0.Ok:=Cfg.ok trivial trivial
noncomputable def madE:Eng.Obj:=execO X0 noLoops 52
theorem madE_ok:ObjOk Tryz.prog 52 madE:=execO_plain X0_ok mixed Tryz.func52 (by kernel_rfl) (by kernel_rfl)
noncomputable def X1:Cfg:=⟨Tryz.prog,lookG [(174,.val Conf.limitS2),(136,.val Conf.isS),(172,.val Conf.keepS),(171,.obj Dly.putS),(173,.obj Dly.mosS),(87,.val Conf.mostS)],[],0⟩
theorem X1_ok:X1.Ok:=Cfg.ok ⟨Conf.ratelimit_ok,Conf.is_ok,Conf.keep_ok,Dly.putS_ok,Dly.mosS_ok,Conf.most_ok,trivial⟩ trivial
noncomputable def pacE:Eng.Obj:=execO X1 noLoops 135
theorem pacE_ok:ObjOk Tryz.prog 135 pacE:=execO_plain X1_ok mixed Tryz.func135 (by kernel_rfl) (by kernel_rfl)
noncomputable def setE:Eng.Obj:=execO X1 noLoops 134
theorem setE_ok:ObjOk Tryz.prog 134 setE:=execO_plain X1_ok mixed Tryz.func134 (by kernel_rfl) (by kernel_rfl)
noncomputable def X2:Cfg:=⟨Tryz.prog,lookG [(52,.obj madE),(135,.obj pacE),(134,.obj setE),(130,.obj Met.meaE),(131,.val Conf.ofS),(133,.val Conf.overS),(132,.val Conf.nextS),(136,.val Conf.isS),(39,.val Conf.excS)],EB,0⟩
theorem X2_ok:X2.Ok:=Cfg.ok ⟨madE_ok,pacE_ok,setE_ok,Met.meaE_ok,Conf.of_ok,Conf.over_ok,Conf.next_ok,Conf.is_ok,Conf.exc_ok,trivial⟩ EB_ok
noncomputable def judE:Eng.Obj:=execO X2 noLoops 103
theorem judE_ok:ObjOk Tryz.prog 103 judE:=execO_plain X2_ok mixed Tryz.func103 (by kernel_rfl) (by kernel_rfl)
noncomputable def X3:Cfg:=⟨Tryz.prog,lookG [(52,.obj madE),(103,.obj judE),(102,.obj Met.putE),(85,.obj Met.chE),(53,.obj Met.ovE),(86,.obj Del.spanD),(31,.val Conf.mayS),(87,.val Conf.mostS),(64,.val Conf.calmS),(62,.obj Met.newE),(63,.obj Dly.newA)],EB,0⟩
theorem X3_ok:X3.Ok:=Cfg.ok ⟨madE_ok,judE_ok,Met.putE_ok,Met.chE_ok,Met.ovE_ok,Del.spanD_ok,Conf.may_ok,Conf.most_ok,Conf.calm_ok,Met.newE_ok,Dly.newA_ok,trivial⟩ EB_ok
noncomputable def dovE:Eng.Obj:=execO X3 noLoops 24
theorem dovE_ok:ObjOk Tryz.prog 24 dovE:=execO_plain X3_ok mixed Tryz.func24 (by kernel_rfl) (by kernel_rfl)
noncomputable def dneE:Eng.Obj:=execO X3 noLoops 34
theorem dneE_ok:ObjOk Tryz.prog 34 dneE:=execO_plain X3_ok mixed Tryz.func34 (by kernel_rfl) (by kernel_rfl)
def cfL (c:Conf.Cf):List V:=[Eng.iv c.target,Eng.iv c.util,Eng.iv c.stable,Eng.iv c.panic,Eng.iv c.grain,Eng.iv c.threshold,Eng.iv c.up,Eng.iv c.down,Eng.iv c.min,Eng.iv c.max,Eng.iv c.initial,Eng.iv c.grace,Eng.iv c.delay,Eng.iv c.burst,Eng.iv c.limit,Eng.iv c.queue,Eng.iv c.timeout,Eng.iv c.ready,Eng.iv c.subset,Eng.iv c.sample]
structure DcS where
 c:Conf.Cf
 gm:Int
 om:Bool
 s:RS
 q:RS
 sp:Int
 a:Int
 n:Nat
 l:List (Int × Int)
 si:Int
 mo:Int
 la:Int
def decB (d:DcS) (i j:Nat):Blk:=.cells 96 [Eng.iv d.c.target,Eng.iv d.c.util,Eng.iv d.c.stable,Eng.iv d.c.panic,Eng.iv d.c.grain,Eng.iv d.c.threshold,Eng.iv d.c.up,Eng.iv d.c.down,Eng.iv d.c.min,Eng.iv d.c.max,Eng.iv d.c.initial,Eng.iv d.c.grace,Eng.iv d.c.delay,Eng.iv d.c.burst,Eng.iv d.c.limit,Eng.iv d.c.queue,Eng.iv d.c.timeout,Eng.iv d.c.ready,Eng.iv d.c.subset,Eng.iv d.c.sample,.ptr i 0,.ptr j 0,Eng.iv d.si,Eng.iv d.mo,Eng.iv d.la]
def decH (d:DcS):Heap:=[(0,decB d 1 2),(1,Met.metB 3 4 d.gm d.om),(2,Dly.dlB d.sp d.a 5 d.n),(3,Met.rB d.s 6),(4,Met.rB d.q 7),(5,Dly.stpB d.l),(6,bxB d.s.l [] none),(7,bxB d.q.l [] none)]
end Go.Proofs.YtggakaogidjjbaaGreatDoor.Dec
namespace Go.Proofs.YtggakaogidjjbaaGreatDoor.Dec
open Go.Eng Go.RowKit Mil Rin
set_option linter.unusedVariables false
set_option linter.unusedSimpArgs false
set_option maxRecDepth 100000
end Go.Proofs.YtggakaogidjjbaaGreatDoor.Dec
namespace Go.Proofs.YtggakaogidjjbaaGreatDoor.Dec
open Go.Eng Go.RowKit Mil Rin
set_option linter.unusedVariables false
set_option linter.unusedSimpArgs false
set_option maxRecDepth 100000
end Go.Proofs.YtggakaogidjjbaaGreatDoor.Dec
namespace Go.Proofs.YtggakaogidjjbaaGreatDoor.Dec
open Go.Eng Go.RowKit Mil Rin
set_option linter.unusedVariables false
set_option linter.unusedSimpArgs false
set_option maxRecDepth 100000
theorem ite_T {α:Type} {c:Bool} {x y:T α} {r:α} (h:(T.ite none c x y).eval=some r) (hc:c=true):x.eval=some r:=by rw [hc] at h;exact h
theorem ite_F {α:Type} {c:Bool} {x y:T α} {r:α} (h:(T.ite none c x y).eval=some r) (hc:c=false):y.eval=some r:=by rw [hc] at h;exact h
end Go.Proofs.YtggakaogidjjbaaGreatDoor.Dec
namespace Go.Proofs.YtggakaogidjjbaaGreatDoor.Dec
open Go.Eng Go.RowKit Mil Rin
set_option linter.unusedVariables false
set_option linter.unusedSimpArgs false
set_option maxRecDepth 100000
noncomputable def Y1:Cfg:=⟨Tryz.prog,lookG [(174,.val Conf.limitS2),(136,.val Conf.isS),(172,.val Conf.keepS),(171,.obj (Eng.Obj.plain Del.putD)),(173,.obj (Eng.Obj.plain Del.mostD)),(87,.val Conf.mostS)],[],0⟩
theorem Y1_ok:Y1.Ok:=Cfg.ok ⟨Conf.ratelimit_ok,Conf.is_ok,Conf.keep_ok,Del.putD_ok.plain,Del.mostD_ok.plain,Conf.most_ok,trivial⟩ trivial
noncomputable def pacT:Eng.Obj:=execO Y1 noLoops 135
theorem pacT_ok:ObjOk Tryz.prog 135 pacT:=execO_plain Y1_ok mixed Tryz.func135 (by kernel_rfl) (by kernel_rfl)
noncomputable def setT:Eng.Obj:=execO Y1 noLoops 134
theorem setT_ok:ObjOk Tryz.prog 134 setT:=execO_plain Y1_ok mixed Tryz.func134 (by kernel_rfl) (by kernel_rfl)
noncomputable def Y2:Cfg:=⟨Tryz.prog,lookG [(52,.obj (Eng.Obj.plain madE)),(135,.obj (Eng.Obj.plain pacT)),(134,.obj (Eng.Obj.plain setT)),(130,.obj (Eng.Obj.plain Met.mmeaT)),(131,.val Conf.ofS),(133,.val Conf.overS),(132,.val Conf.nextS),(136,.val Conf.isS),(39,.val Conf.excS)],EB,0⟩
theorem Y2_ok:Y2.Ok:=Cfg.ok ⟨madE_ok.plain,pacT_ok.plain,setT_ok.plain,Met.mmeaT_ok.plain,Conf.of_ok,Conf.over_ok,Conf.next_ok,Conf.is_ok,Conf.exc_ok,trivial⟩ EB_ok
noncomputable def judT:Eng.Obj:=execO Y2 noLoops 103
theorem judT_ok:ObjOk Tryz.prog 103 judT:=execO_plain Y2_ok mixed Tryz.func103 (by kernel_rfl) (by kernel_rfl)
noncomputable def Y3:Cfg:=⟨Tryz.prog,lookG [(52,.obj (Eng.Obj.plain madE)),(103,.obj (Eng.Obj.plain judT)),(102,.obj (Eng.Obj.plain Met.mputT)),(85,.obj (Eng.Obj.plain Met.chT)),(53,.obj (Eng.Obj.plain Met.ovE)),(86,.obj (Eng.Obj.plain Del.spanD)),(31,.val Conf.mayS),(87,.val Conf.mostS),(64,.val Conf.calmS),(62,.obj (Eng.Obj.plain Met.newT)),(63,.obj (Eng.Obj.plain Del.newD))],EB,0⟩
theorem Y3_ok:Y3.Ok:=Cfg.ok ⟨madE_ok.plain,judT_ok.plain,Met.mputT_ok.plain,Met.chT_ok.plain,Met.ovE_ok.plain,Del.spanD_ok.plain,Conf.may_ok,Conf.most_ok,Conf.calm_ok,Met.newT_ok.plain,Del.newD_ok.plain,trivial⟩ EB_ok
noncomputable def nexT:Eng.Obj:=execO Y3 noLoops 74
theorem nexT_ok:ObjOk Tryz.prog 74 nexT:=execO_plain Y3_ok mixed Tryz.func74 (by kernel_rfl) (by kernel_rfl)
noncomputable def dputT:Eng.Obj:=execO Y3 noLoops 72
theorem dputT_ok:ObjOk Tryz.prog 72 dputT:=execO_plain Y3_ok mixed Tryz.func72 (by kernel_rfl) (by kernel_rfl)
end Go.Proofs.YtggakaogidjjbaaGreatDoor.Dec
namespace Go.Proofs.YtggakaogidjjbaaGreatDoor.Dec
open Go.Eng Go.RowKit Mil Rin
set_option linter.unusedVariables false
set_option linter.unusedSimpArgs false
set_option maxRecDepth 100000
end Go.Proofs.YtggakaogidjjbaaGreatDoor.Dec
namespace Go.Proofs.YtggakaogidjjbaaGreatDoor.Met
open Go.Eng Go.RowKit Mil Rin
set_option linter.unusedVariables false
set_option linter.unusedSimpArgs false
end Go.Proofs.YtggakaogidjjbaaGreatDoor.Met
namespace Go.Proofs.YtggakaogidjjbaaGreatDoor.Met
open Go.Eng Go.RowKit Mil Rin
set_option linter.unusedVariables false
set_option linter.unusedSimpArgs false
set_option maxRecDepth 100000
end Go.Proofs.YtggakaogidjjbaaGreatDoor.Met
namespace Go.Proofs.YtggakaogidjjbaaGreatDoor.Met
open Go.Eng Go.RowKit Mil Rin
set_option linter.unusedVariables false
set_option linter.unusedSimpArgs false
abbrev Rec:=Rin.Rec
def recs (f:Nat->Int) (k:Nat):List Rec:=(List.range k).map fun (i:Nat)=>((i:Int),f i)
structure Tick (s:RS) (w:Int) (f:Nat->Int) (k:Nat):Prop where
 h:HoldsR s (recs f k)
 w:s.w=w
 g:s.g=1
 nw:s.nw=(k:Int) - 1
 ov:s.ov=false
theorem Tick.n {s:RS} {w:Int} {f:Nat->Int} {k:Nat} (h:Tick s w f k):(s.n:Int)=w/\1<=w/\w<=600:=by
 have h1:=h.h.sn
 have h2:=h.h.g2
 have h3:=h.h.w1
 rw [h.g,h.w] at *
 rw [h1]
 exact ⟨nN_one h2,h2,h3⟩
end Go.Proofs.YtggakaogidjjbaaGreatDoor.Met
namespace Go.Proofs.YtggakaogidjjbaaGreatDoor.Dec
open Go.Eng Go.RowKit Mil Rin
set_option linter.unusedVariables false
set_option linter.unusedSimpArgs false
set_option maxRecDepth 100000
end Go.Proofs.YtggakaogidjjbaaGreatDoor.Dec
namespace Go.Proofs.YtggakaogidjjbaaGreatDoor.Dec
open Go.Eng Go.RowKit Mil Rin
set_option linter.unusedVariables false
set_option linter.unusedSimpArgs false
set_option maxRecDepth 100000
def DcS.new (c:Conf.Cf):DcS:=⟨c,c.grain,false,RS.new c.stable c.grain,RS.new c.panic c.grain,c.delay,0,0,[],-1,0,0⟩
def decN (d:DcS):Heap:=[(88,decB d 40 64),(40,.cells 154 [Met.pairV 41 42,Eng.iv d.gm,.ff]),(64,Dly.dlB d.sp d.a 65 d.n),(41,Met.rB d.s 43),(42,Met.rB d.q 44),(65,Dly.stpB d.l),(43,bxB d.s.l [] none),(44,bxB d.q.l [] none)]
noncomputable def dneS:Eng.Obj
 | [.agg [.s (.int .i64 ctarget),.s (.int .i64 cutil),.s (.int .i64 cstable),.s (.int .i64 cpanic),.s (.int .i64 cgrain),.s (.int .i64 cthreshold),.s (.int .i64 cup),.s (.int .i64 cdown),.s (.int .i64 cmin),.s (.int .i64 cmax),.s (.int .i64 cinitial),.s (.int .i64 cgrace),.s (.int .i64 cdelay),.s (.int .i64 cburst),.s (.int .i64 climit),.s (.int .i64 cqueue),.s (.int .i64 ctimeout),.s (.int .i64 cready),.s (.int .i64 csubset),.s (.int .i64 csample)]],[]=>.ite none (Conf.mayB ⟨ctarget,cutil,cstable,cpanic,cgrain,cthreshold,cup,cdown,cmin,cmax,cinitial,cgrace,cdelay,cburst,climit,cqueue,ctimeout,cready,csubset,csample⟩) (.ret (.ptr 88 0,decN (DcS.new ⟨ctarget,cutil,cstable,cpanic,cgrain,cthreshold,cup,cdown,cmin,cmax,cinitial,cgrace,cdelay,cburst,climit,cqueue,ctimeout,cready,csubset,csample⟩))) (.ret (.nilPtr,[]))
 | _,_=>.fail
theorem dne_w1 (c:Conf.Cf):T.path [false,false,false,false,false] (T.anon (dneE [.agg (cfL c)] []))=some ([(!Conf.mayB c,false),(!Conf.mayB c,false),(badN c.stable c.grain,false),(badN c.panic c.grain,false),(!(bif decide (0<=c.delay) then decide (c.delay<=600) else false),false)],(.ptr 88 0,decN (DcS.new c))):=by kernel_rfl
theorem dne_w0 (c:Conf.Cf):T.path [true] (T.anon (dneE [.agg (cfL c)] []))=some ([(!Conf.mayB c,true)],(.nilPtr,[])):=by kernel_rfl
theorem badN_false {w g:Int} (h1:1<=g) (h2:g<=w) (h3:w<=600):badN w g=false:=by
 unfold badN
 rw [decide_eq_false (show ¬ g<1 by omega),decide_eq_false (show ¬ w<g by omega),decide_eq_false (show ¬ 600<w by omega),decide_eq_false (show ¬ w<1 by omega)];rfl
theorem dneS_ok:ObjOk Tryz.prog 34 dneS:=dneE_ok.of_eval fun args h r hv=>by
 unfold dneS at hv
 split at hv
 ·rename_i ctarget cutil cstable cpanic cgrain cthreshold cup cdown cmin cmax cinitial cgrace cdelay cburst climit cqueue ctimeout cready csubset csample
  revert hv
  generalize hc:(⟨ctarget,cutil,cstable,cpanic,cgrain,cthreshold,cup,cdown,cmin,cmax,cinitial,cgrace,cdelay,cburst,climit,cqueue,ctimeout,cready,csubset,csample⟩:Conf.Cf)=c
  intro hv
  have e:([.agg [.s (.int .i64 ctarget),.s (.int .i64 cutil),.s (.int .i64 cstable),.s (.int .i64 cpanic),.s (.int .i64 cgrain),.s (.int .i64 cthreshold),.s (.int .i64 cup),.s (.int .i64 cdown),.s (.int .i64 cmin),.s (.int .i64 cmax),.s (.int .i64 cinitial),.s (.int .i64 cgrace),.s (.int .i64 cdelay),.s (.int .i64 cburst),.s (.int .i64 climit),.s (.int .i64 cqueue),.s (.int .i64 ctimeout),.s (.int .i64 cready),.s (.int .i64 csubset),.s (.int .i64 csample)]]:List V)=[.agg (cfL c)]:=by rw [<- hc];rfl
  rw [e]
  rw [<- T.eval_anon (t:=dneE _ _)]
  cases hm:Conf.mayB c with
  | false =>
   obtain rfl:=Option.some.inj (ite_F hv hm)
   exact T.path_eval (dne_w0 c) ⟨by rw [hm];rfl,trivial⟩
  | true =>
   obtain rfl:=Option.some.inj (ite_T hv hm)
   have may:=Conf.may_of hm
   have h1:=may.grain
   have h2:=may.panic
   have h3:=may.stable
   have h4:=may.delay
   refine T.path_eval (dne_w1 c) ⟨by rw [hm];rfl,by rw [hm];rfl,badN_false (by omega) (by omega) (by omega),badN_false (by omega) (by omega) (by omega),?_,trivial⟩
   rw [decide_eq_true (show 0<=c.delay by omega),decide_eq_true (show c.delay<=600 by omega)];rfl
 ·cases hv
end Go.Proofs.YtggakaogidjjbaaGreatDoor.Dec
