import Derived.Test.YtggakaogidjjbaaGreatDoorRows
import Derived.OpenShut
import Derived.LaidMore
import Derived.Lay
import Derived.Lib.LaidTab
import Derived.Stop.LaidErr
import Derived.Shelf.Vars
import Derived.Test.YtggakaogidjjbaaGreatDoorHP
import Derived.Test.YtggakaogidjjbaaGreatDoorHQ
namespace Go.Proofs.YtggakaogidjjbaaGreatDoor.Law.Gl
open Go.Joins Go.ChangeShapes Go.WideShapes Go.ChangeAt Go.RowKit Go.Deep
set_option linter.unusedVariables false
variable {H:Type} {enc:TypeId × Value->H}
theorem of_change_and {a:Assume} {C:Checked} {os:Os} {f:FuncId} {fn:Func} {s:ChangeSpec} {conds:List PathCond} {apart fresh handsOn again:Bool} {X:World->Array Value->Prop}
  (hX:∀ (w w':World) (args:Array Value),w.heap=w'.heap->X w args->X w' args)
  (own:ownKnob C.prog.godebug=none) (started:os.Started) (noInit:C.prog.inits.idxOf? f=none) (hfn:C.prog.funcs[f]?=some fn)
  (witness:∃ (w:World) (tape:Tape) (i:Input),w.os=os/\(w.forCall tape i).Shaped C.prog/\i.vars=[]/\Input.okWide C.prog (w.forCall tape i) .any w.heap.size f i /\
   ((s.pre enc C.prog fn conds apart (w.forCall tape i).memory i.args/\X (w.forCall tape i).memory i.args)/\sizedMet enc C.prog fn (OpenSpec.ofChange s) apart (w.forCall tape i).memory i.args)/\a.holds C.prog (lone (Frame.enter C.prog f i.args .normal) [] (w.forCall tape i)))
  (contract:∀ (W:World) (base:Nat) (args:Array Value) (ds gs:List (DataW H)) (before:List MemPlace),
   (∀ (j:Nat) t v,fn.params[j]?=some t->args[j]?=some v->Value.okWide C.prog W .any base t v) ->
   DataW.Whole enc C.prog fn.params.toList s.vars apart W args.toList ds gs before->X W args->W.ShapedOpen C.prog ->
   Calls C.prog f args W fun e W'=>∃ v,e=.returned v/\s.post enc C.prog fn apart fresh handsOn again W args v W') :
  ReturnsInHanded a C os f .any (fun w args=>(s.pre enc C.prog fn conds apart w args/\X w args)/\sizedMet enc C.prog fn (OpenSpec.ofChange s) apart w args) (s.post enc C.prog fn apart fresh handsOn again):=by
 refine returnsInHanded_of_calls own started noInit witness ?_
 intro w tape i _ hsh _ hok hpre _
 obtain ⟨_,_,_,fn',hfn',_,_,_,_,hval⟩:=hok
 obtain rfl:fn'=fn:=Option.some.inj (hfn'.symm.trans hfn)
 obtain ⟨⟨⟨ds,gs,before,hw,_⟩,hx⟩,_⟩:=hpre
 have hw':=DataW.Whole.of_heap (w':=w.forCall tape i) (by rfl) hw
 refine (contract (w.forCall tape i) w.heap.size i.args ds gs before hval hw' (hX _ _ _ (by rfl) hx) hsh).mono fun e W' ⟨v,he,hp⟩ => ?_
 subst he
 exact ChangeSpec.post_blind hp
theorem glob {W:World} {p:Prop} (hL:p) (hsh:W.ShapedOpen Tryz.prog):Eng.Glob W:=by
 refine ⟨?_,?_⟩
 ·obtain ⟨cs,hh,-⟩:=hsh.1 4 ((((begin Tryz.prog (fun _ _=>0) default).world.heap[4]?).bind Obj.row?).getD (#[],0)).1 ((((begin Tryz.prog (fun _ _=>0) default).world.heap[4]?).bind Obj.row?).getD (#[],0)).2 (of_decide_eq_true (by kernel_rfl)) (by kernel_rfl)
  have:=(Array.getElem?_eq_some_iff.1 hh).1
  show 5<=_
  omega
 ·exact cell_of_shapedOpen_int (P:=Tryz.prog) (g:=0) (t:=3) (zero:=#[.int .i64 0]) hsh (of_decide_eq_true (by kernel_rfl)) (by kernel_rfl) rfl (by kernel_rfl) (by kernel_rfl) Tryz.underlying3
end Go.Proofs.YtggakaogidjjbaaGreatDoor.Law.Gl
namespace Go.Proofs.YtggakaogidjjbaaGreatDoor.Sys
open Go.Eng Go.RowKit Mil Rin
set_option linter.unusedVariables false
set_option linter.unusedSimpArgs false
set_option maxRecDepth 100000
noncomputable def LW:Cfg:=⟨Tryz.prog,lookG [(14,.val Conf.I4),(13,.val Txt.RV),(15,.obj neS)],[vM],0⟩
theorem abA:LW.Ok:=Cfg.ok ⟨Conf.pG,Txt.G7,Mb,trivial⟩ ML
noncomputable def agD:Eng.Obj:=az LW aa 6
theorem RT:ObjOk Tryz.prog 6 agD:=ae abA mixed Tryz.func6 (by kernel_rfl) (by kernel_rfl)
noncomputable def DW:Cfg:=⟨Tryz.prog,lookG [(16,.obj Bg),(17,.val Evt.jN),(18,.obj paS),(19,.obj arS),(20,.obj fiS)],[],0⟩
theorem abS:DW.Ok:=Cfg.ok ⟨fy,Evt.dr,Va,Ml,XD,trivial⟩ trivial
noncomputable def doW:Eng.Obj:=az DW aa 8
theorem U5:ObjOk Tryz.prog 8 doW:=ae abS mixed Tryz.func8 (by kernel_rfl) (by kernel_rfl)
noncomputable def FW:Cfg:=⟨Tryz.prog,lookG [(10,.val adX),(7,.val Txt.decS),(6,.obj agD),(8,.obj doW),(9,.obj seS)],[vM],0⟩
theorem TY:FW.Ok:=Cfg.ok ⟨FU,Txt.PR,RT,U5,Lw,trivial⟩ ML
theorem wB_0 {now age:Int} (h0:0<=now) (h1:now<=1000) (a0:0<=age) (a1:age<=1000):Que.wB 0 now age=decide (age<=now):=by
 have wu:∀ x:Int,0<=x->x<=1000->IntKind.wrap .u64 x=x:=fun x x0 x1=>by
  unfold IntKind.wrap
  exact Int.emod_eq_of_lt x0 (by show x<18446744073709551616;omega)
 unfold Que.wB
 rw [decide_eq_true h0,if_neg (by omega),wu age a0 a1,wu now h0 h1,wu 0 (by omega) (by omega),Int.sub_zero,wu now h0 h1];rfl
theorem Ax {α:Type} {p:α->Bool} {l:List α} (h:∀ x∈l,p x=false):l.takeWhile p=[]:=by
 cases l with
 | nil=>rfl
 | cons x l=>rw [List.takeWhile_cons_of_neg (by rw [h x (by simp)];simp)]
theorem sZ {α:Type} {p:α->Bool}:∀ {l:List α},(∀ x∈l,p x=true)->l.dropWhile p=[]
 | [],_=>rfl
 | x::l,h=>by rw [List.dropWhile_cons_of_pos (h x (by simp))];exact sZ fun y hy=>h y (List.mem_cons_of_mem _ hy)
theorem BN (s:SysS):(arN s).e3=s.e3/\(arN s).e4=s.e4:=by unfold arN;cases decide (s.qd<=(s.qn:Int))<;>exact ⟨rfl,rfl⟩
theorem IG {c:Conf.Cf} (hm:Conf.dD c=true) (hi:c.initial=1) (hs:c.subset<1) (hl:0<c.limit) (hq:c.queue=100) {K:Int} (ok:o5 K ⟨s0 c,0⟩) :
  FilE c 0 0 (arD K (s0 c)) K/\(arD K (s0 c)).e3=0/\(arD K (s0 c)).e4=0:=by
 obtain ⟨_,ind⟩:=u9 ok
 refine ind (fun a k=>FilE c 0 0 a k/\a.e3=0/\a.e4=0) ⟨adf hm hi,rfl,rfl⟩ fun a k ha ⟨p1,p2,p3⟩ q0 q1 hb => ?_
 obtain ⟨iN,lN⟩:=l5 ha (by omega)
 obtain ⟨d1,d2,d3,d4,d5,d6⟩:=YY iN
 exact ⟨p1.next hs hl (by omega) ha (by omega),by rw [d1,(BN a).1];exact p2,by rw [d2,(BN a).2];exact p3⟩
structure LatI (T k:Int) (s:SysS):Prop where
 lim:s.c.limit=1
 sub:s.c.subset<1
 mst:Conf.dY s.c=1
 tmo:s.c.timeout=T
 lp:∃ z,s.lp=[(0,2,1,z)]
 e2:s.e2=1
 e3:s.e3=0
 lo:s.t<T->s.e1=k/\s.e4=0/\∀ x∈s.ql,x.2=0
 hi:T<=s.t->s.e1=0/\s.e4=k
theorem LatI.next {T k:Int} {m:Nat} {s:SysS} (h:LatI T k s) (hS:SI 90000 s) (hC:CI m s) (hr:s.rq.length<=9000) (hm:m+2<=90000) (hT:T<=50) (ht:s.t<T):LatI T k (tkN s):=by
 have t0:=hS.t0
 have wt:IntKind.wrap .i64 (s.t+1)=s.t+1:=wrap64_in (by omega) (by omega)
 have h1:SI 90000 (tk1 s):=by
  unfold tk1;rw [wt];exact hS.time (by omega) (by omega)
 have n1:(tk1 s).t=s.t+1:=wt
 obtain ⟨a1,a4,aq⟩:=h.lo ht
 have hw:∀ x∈s.ql,Que.wB x.2 (tk1 s).t s.c.timeout=decide (T<=s.t+1):=fun x hx=>by
  rw [aq x hx,n1,h.tmo,wB_0 (by omega) (by omega) (by omega) (by omega)]
 obtain ⟨_,_,_,tN,_⟩:=uX hS hC hr hm (by omega)
 obtain ⟨z,hz⟩:=h.lp
 by_cases q:T<=s.t+1
 ·have hn:tkQ s=[]:=sZ fun x hx=>by
   have:=hw x hx
   rw [decide_eq_true q] at this
   exact this
  obtain ⟨b1,b2,b3,b4,b5,b6,b7⟩:=Nl h1 hn
  have f:Ful (tkA s):=⟨by rw [b7];exact h.lim,by rw [b7];exact h.sub,by rw [b7];exact h.mst,⟨z,by rw [b1];exact hz⟩,by rw [b4];exact h.e2⟩
  have key:=uE hS (by omega) f
  have k1:(tkN s).lp=(tkA s).lp:=congrArg (·.1) key
  have k3:(tkN s).e1=(tkA s).e1:=congrArg (·.2.2.1) key
  have k4:(tkN s).e2=(tkA s).e2:=congrArg (·.2.2.2.1) key
  have k5:(tkN s).e3=(tkA s).e3:=congrArg (·.2.2.2.2.1) key
  have k6:(tkN s).e4=(tkA s).e4:=congrArg (·.2.2.2.2.2.1) key
  have k7:(tkN s).c=(tkA s).c:=congrArg (·.2.2.2.2.2.2) key
  rw [b7] at k7
  exact ⟨by rw [k7];exact h.lim,by rw [k7];exact h.sub,by rw [k7];exact h.mst,by rw [k7];exact h.tmo,⟨z,by rw [k1,b1];exact hz⟩,by rw [k4,b4];exact h.e2,by rw [k5,b5];exact h.e3,fun c=>by omega,fun _=>⟨by rw [k3];exact b3,by rw [k6,b6,a4,a1];omega⟩⟩
 ·have hn:tkP s=[]:=Ax fun x hx=>by
   have:=hw x hx
   rw [decide_eq_false q] at this
   exact this
  have hA:=Jq h1 hn
  have f:Ful (tkA s):=by rw [hA];exact ⟨h.lim,h.sub,h.mst,⟨z,hz⟩,h.e2⟩
  have key:=uE hS (by omega) f
  rw [hA] at key
  have k1:(tkN s).lp=s.lp:=congrArg (·.1) key
  have k2:(tkN s).ql=s.ql:=congrArg (·.2.1) key
  have k3:(tkN s).e1=s.e1:=congrArg (·.2.2.1) key
  have k4:(tkN s).e2=s.e2:=congrArg (·.2.2.2.1) key
  have k5:(tkN s).e3=s.e3:=congrArg (·.2.2.2.2.1) key
  have k6:(tkN s).e4=s.e4:=congrArg (·.2.2.2.2.2.1) key
  have k7:(tkN s).c=s.c:=congrArg (·.2.2.2.2.2.2) key
  exact ⟨by rw [k7];exact h.lim,by rw [k7];exact h.sub,by rw [k7];exact h.mst,by rw [k7];exact h.tmo,⟨z,by rw [k1];exact hz⟩,by rw [k4];exact h.e2,by rw [k5];exact h.e3,fun _=>⟨by rw [k3];exact a1,by rw [k6];exact a4,by rw [k2];exact aq⟩,fun c=>by omega⟩
noncomputable def XS:Code:=cm Tryz.prog 3 0
def NW:Nm:=⟨8,9,10,71,5012,5013,5014,5015,16,17,18,19,5020,21,22⟩
structure PLt where (qu:Option Int) (t k:Int)
structure ALt where (s:SysS) (i:Int)
abbrev SLt:List (Nat × Src):=[(7,.same),(8,.same),(9,.same),(10,.same),(71,.same),(5012,.cell 7 35),(5013,.cell 7 43),(5014,.cell 8 1),(5015,.cell 9 2),(16,.same),(17,.same),(18,.same),(19,.same),(5020,.cell 17 2),(21,.same),(22,.same)]
def aaX (p:PLt) (a:ALt):List V:=[Eng.iv p.t,Eng.iv p.k,.ptr 7 0,Eng.iv a.i]
def aaJ (p:PLt) (a:ALt):List Blk:=vi NW { a.s with qu:=p.qu }
noncomputable def FLt (p:PLt) (a:ALt):St:=bQ [5,6,7,8] (aI SLt) 5080 92 (aaX p a) (aaJ p a)
noncomputable def aas (p:PLt) (a:ALt):T (Ex × St):=T.anon (bA FW aa XS [5,6,7,8] SLt 5000 5080 (bQ [5,6,7,8] (aI SLt) 5080 92 (aaX p a) (aaJ p a)))
def decLt:List V->List Blk->Option (PLt × ALt)
 | [.s (.int .i64 t),.s (.int .i64 k),.ptr 7 0,.s (.int .i64 i)],b=>(tF NW b).bind fun s=>some (⟨s.qu,t,k⟩,⟨s,i⟩)
 | _,_=>none
theorem JE (l:List V) (b:List Blk) (d:PLt × ALt) (h:decLt l b=some d):l=aaX d.1 d.2/\b=aaJ d.1 d.2:=by
 unfold decLt at h
 split at h
 ·obtain ⟨s,hs,h⟩:=Option.bind_eq_some_iff.1 h
  cases h
  exact ⟨rfl,jc hs⟩
 ·cases h
noncomputable def agq:Nat:=(av XS).getD 0
theorem Qm:av XS=some agq:=by kernel_rfl
theorem ack (s:SysS) (t k i:Int):T.path [true,false,true,true,false,true,false] (aas ⟨s.qu,t,k⟩ ⟨s,i⟩)=some ([(decide (i<=t),true),(false,false),(true,true),(Dly.pB (ZU 1 s),true),(false,false),(Lif.okN (paD 1 s).ln (paD 1 s).lp,true),(bif ((paD 1 s).e4==k) != (i==t) then true else ((paD 1 s).e4==0) != decide (i<t),false)],(.normal,FLt ⟨s.qu,t,k⟩ ⟨paD 1 s,IntKind.wrap .i64 (i+1)⟩)):=by (obtain ⟨c,t,z,px,w,aT,aS,aQ,aW,aP,aX,lo,nr,nfl,e0,e1,e2,e3,e4,e5,e6,nt,lm,ln,qd,qu,qn,d,rq,fl,tl,tm,lp,ql⟩:=s;cases qu<;>kernel_rfl)
theorem Ua (s:SysS) (t k i:Int):T.path [false] (aas ⟨s.qu,t,k⟩ ⟨s,i⟩)=some ([(decide (i<=t),false)],(.exit 0,FLt ⟨s.qu,t,k⟩ ⟨s,i⟩)):=by (obtain ⟨c,t,z,px,w,aT,aS,aQ,aW,aP,aX,lo,nr,nfl,e0,e1,e2,e3,e4,e5,e6,nt,lm,ln,qd,qu,qn,d,rq,fl,tl,tm,lp,ql⟩:=s;cases qu<;>kernel_rfl)
structure okLt (p:PLt) (a:ALt):Prop where
 qu:a.s.qu=p.qu
 si:SI 90000 a.s
 ci:∃ m:Nat,CI m a.s/\(m:Int)+2*(p.t+1 - a.i)<=1000
 la:LatI p.t p.k a.s
 tm:a.s.t=a.i - 1
 rq:a.s.rq.length<=9000
 i0:1<=a.i
 i1:a.i<=p.t+1
 t1:p.t<=50
 k1:1<=p.k
noncomputable def lg (p:PLt) (a:ALt):Option ALt:=if a.i<=p.t then some ⟨paD 1 a.s,a.i+1⟩ else none
def ZJ (p:PLt) (a:ALt):Nat:=(p.t+1 - a.i).toNat
noncomputable def VR (p:PLt) (a:ALt):T (Ex × St):=.ret (.exit 0,FLt p a)
theorem uV {p:PLt} {a:ALt} (h:okLt p a) (hc:a.i<=p.t):okLt p ⟨paD 1 a.s,a.i+1⟩/\ZU 1 a.s:=by
 obtain ⟨m,c1,c2⟩:=h.ci
 have tm:=h.tm
 have t1:=h.t1
 have i0:=h.i0
 obtain ⟨e,o⟩:=Mz h.si c1 h.rq (by omega) (by omega)
 obtain ⟨_,n1,n2,n3,n4⟩:=uX h.si c1 h.rq (by omega) (by omega)
 have n:=h.la.next h.si c1 h.rq (by omega) t1 (by omega)
 refine ⟨⟨h.qu,by rw [e];exact n1,⟨m+2,by rw [e];exact n2,by show ((m+2:Nat):Int)+2*(p.t+1 - (a.i+1))<=1000;omega⟩,by rw [e];exact n,by show (paD 1 a.s).t=a.i+1 - 1;rw [e,n3];omega,by show (paD 1 a.s).rq.length<=9000;rw [e,n4];exact h.rq,by show 1<=a.i+1;omega,by show a.i+1<=p.t+1;omega,t1,h.k1⟩,o⟩
theorem aet (p:PLt) (a b:ALt) (h:cG okLt p a=true) (e:lg p a=some b):cG okLt p b=true/\ZJ p b<ZJ p a:=by
 have h0:=bS h
 unfold lg at e
 split at e
 ·rename_i hc
  obtain rfl:=Option.some.inj e
  exact ⟨aM (uV h0 hc).1,by show (p.t+1 - (a.i+1)).toNat<(p.t+1 - a.i).toNat;omega⟩
 ·cases e
theorem hrLt (p:PLt) (a:ALt) (h:cG okLt p a=true):(∀ b,lg p a=some b->(aas p a).eval=some (.normal,FLt p b))/\(lg p a=none->∀ r,(VR p a).eval=some r->r.1≠.normal/\(aas p a).eval=some r):=by
 have h0:=bS h
 obtain ⟨qu,t,k⟩:=p
 obtain ⟨s,i⟩:=a
 have hqu:s.qu=qu:=h0.qu
 subst hqu
 refine ⟨fun b e => ?_,fun e r hr => ?_⟩
 ·unfold lg at e
  split at e
  ·rename_i hc
   obtain rfl:=Option.some.inj e
   have hc':i<=t:=hc
   obtain ⟨n1,o⟩:=uV h0 hc
   have i0:1<=i:=h0.i0
   have t1:t<=50:=h0.t1
   have k1:1<=k:=h0.k1
   have w1:IntKind.wrap .i64 (i+1)=i+1:=wrap64_in (by omega) (by omega)
   have tm:(paD 1 s).t=i+1 - 1:=n1.tm
   have hv:(bif ((paD 1 s).e4==k) != (i==t) then true else ((paD 1 s).e4==0) != decide (i<t))=false:=by
    by_cases q:i<t
    ·obtain ⟨_,e4,_⟩:=n1.la.lo (by show (paD 1 s).t<t;omega)
     have e4':(paD 1 s).e4=0:=e4
     rw [e4',decide_eq_true q,show ((0:Int)==k)=false from by simpa using (show (0:Int)≠k by omega),show (i==t)=false from by simpa using (show i≠t by omega)];rfl
    ·obtain ⟨_,e4⟩:=n1.la.hi (by show t<=(paD 1 s).t;omega)
     have e4':(paD 1 s).e4=k:=e4
     rw [e4',decide_eq_false q,show (k==k)=true from by simp,show (i==t)=true from by simpa using (show i=t by omega),show (k==0)=false from by simpa using (show k≠0 by omega)];rfl
   have:=T.path_eval (ack s t k i) ⟨decide_eq_true hc',rfl,rfl,Dly.fg o,rfl,by rw [n1.si.ln];exact Lif.iH n1.si.free.n,hv,trivial⟩
   rw [this,w1]
  ·cases e
 ·unfold lg at e
  split at e
  ·cases e
  ·rename_i hc
   obtain rfl:=Option.some.inj hr
   exact ⟨by simp,T.path_eval (Ua s t k i) ⟨decide_eq_false hc,trivial⟩⟩
noncomputable def BR:bM:=j6 [5,6,7,8] SLt 5000 5080 92 decLt (cG okLt) lg VR
theorem Pj:LoopOk FW XS BR:=eF (vs:=aaX) (bs:=aaJ) TY mixed (ay _) JE ZJ aet fun p a h=>by
 rw [<- T.eval_anon (t:=bA _ _ _ _ _ _ _ _)]
 exact hrLt p a h
noncomputable def latE:Eng.Spec:=aB FW (cE [(agq,BR)]) 3
theorem QQ:SpecOk Tryz.prog 3 latE:=fb TY mixed Tryz.func3 (by kernel_rfl) (by kernel_rfl) (cB (c:=XS) (by kernel_rfl) Qm Pj)
def tLt:ByteArray:=⟨#[108,105,109,105,116,58,32,49,10,109,97,120,58,32,49,10,116,105,109,101,111,117,116,58,32]⟩
def Zx (T:Int):ByteArray:=tLt++Txt.ub T
def mO (T:Int):Conf.Cf:=Txt.cfW (Zx T)
def mY (K:Int):Int:=IntKind.wrap .i64 (K+1)
noncomputable def Bf (q:Bool) (T K:Int):SysS:=bif q then { arD (mY K) (s0 (mO T)) with qu:=some ((arD (mY K) (s0 (mO T))).qu.getD 0) } else { arD (mY K) (s0 (mO T)) with qu:=none }
noncomputable def pLt (q:Bool) (T K:Int):PLt:=⟨(Bf q T K).qu,T,K⟩
noncomputable def lteE (q:Bool) (T K:Int):SysS:=(cR (lg (pLt q T K)) ⟨Bf q T K,1⟩).s
noncomputable def lteZ (q:Bool) (T K:Int):SysS:={ lteE q T K with qu:=(Bf q T K).qu }
noncomputable def SZ (q:Bool) (T K:Int):SysS:=snD (fiP (lteZ q T K) 0)
noncomputable def agd (q:Bool) (T K:Int):List (Bool × Bool):=[(false,false),(false,false),(in0 T,true),(big (tLt.size+(Txt.ub T).size),false),(decide (Conf.dflt=Conf.dflt)&&Txt.okW (Zx T),true),(false,false),(Conf.dD (mO T),true),(false,false),(!Evt.mayE 2 (mY K) noT,false),(false,false),(true,true),(Dly.pB (o5 (mY K) ⟨s0 (mO T),0⟩),true),((arD (mY K) (s0 (mO T))).qu.isSome,q),(false,false),(cG okLt (pLt q T K) ⟨Bf q T K,1⟩,true),(false,false),(false,false),(false,false),(true,true),(Dly.pB (F2 (lteZ q T K) 0),true),(decide (((lteZ q T K).nfl:Int)<=0),false),(Lif.okN (SZ q T K).ln (SZ q T K).lp,true)]
theorem aez (q:Bool) (t n:Int):T.path [false,false,true,false,true,false,true,false,false,false,true,true,q,false,true,false,false,false,true,true,false,true] (T.anon (latE [Eng.iv t,Eng.iv n]))=some (agd q (zH t 50) (zH n 20),Eng.bv (bif bif bif bif true then true else false then (SZ q (zH t 50) (zH n 20)).e3==1 else false then (SZ q (zH t 50) (zH n 20)).e2==0 else false then (SZ q (zH t 50) (zH n 20)).e1==0 else false)):=by cases q<;>kernel_rfl
theorem Ut:((List.range 50).all fun (a:Nat)=>decide (mO ((a+1:Nat):Int)=Txt.cfT ((a+1:Nat):Int))&&Txt.okW (Zx ((a+1:Nat):Int))&&decide ((Txt.ub ((a+1:Nat):Int)).size<=20)&&Conf.dD (Txt.cfT ((a+1:Nat):Int)))=true:=by kernel_rfl
theorem acW {T:Int} (l0:1<=T) (l1:T<=50):mO T=Txt.cfT T/\Txt.okW (Zx T)=true/\(Txt.ub T).size<=20/\Conf.dD (Txt.cfT T)=true:=by
 obtain ⟨a,rfl⟩:∃ a:Nat,T=((a+1:Nat):Int):=⟨(T - 1).toNat,by omega⟩
 have h2:=List.all_eq_true.1 Ut a (List.mem_range.2 (by omega))
 simp only [Bool.and_eq_true,decide_eq_true_eq] at h2
 exact ⟨h2.1.1.1,h2.1.1.2,h2.1.2,h2.2⟩
theorem Ig {B:Nat} {s:SysS} (h:SI B s) (h1:s.e1<=0):snD s=s:=(ke h).2.2.2 (fun a=>a=s) rfl fun a ha e g1 g2=>by
 rw [e] at g1
 omega
theorem Xp {k n:Int} (h5:k≠5) (h:Evt.wit k n=true):(!Evt.mayE k n noT)=false:=by
 have:Evt.mayE k n noT=true:=by
  unfold Evt.mayE
  rw [if_neg h5,h]
  simp [Evt.noS,noT]
 rw [this];rfl
theorem Sy (t n:Int):(latE [Eng.iv t,Eng.iv n]).yes:=by
 obtain ⟨l0,l1⟩:=EY (x:=t) (m:=50) (by decide) (by decide)
 obtain ⟨k0,k1⟩:=EY (x:=n) (m:=20) (by decide) (by decide)
 have W:=fun q=>aez q t n
 revert W l0 l1 k0 k1
 generalize zH t 50=T
 generalize zH n 20=K
 intro l0 l1 k0 k1 W
 obtain ⟨c1,c2,c4,c5⟩:=acW l0 l1
 have hm:Conf.dD (mO T)=true:=by rw [c1];exact c5
 have hS:=Xn hm (by rw [c1];rfl)
 have wK:mY K=K+1:=wrap64_in (by omega) (by omega)
 have ok:o5 (mY K) ⟨s0 (mO T),0⟩:=⟨hS,Int.le_refl 0,by show (0:Int)<=mY K;omega,by show mY K<=1000;omega,by show ((0:Nat):Int)+(mY K - 0)<=90000;omega⟩
 obtain ⟨⟨p1,p2⟩,p3,p4⟩:=IG hm (by rw [c1];rfl) (by rw [c1];exact (by decide:(0:Int)<1)) (by rw [c1];exact (by decide:(0:Int)<1)) (by rw [c1];rfl) ok
 have i:=(u9 ok).1
 have aC:=Hk ok
 have aL:=O0 ok
 obtain ⟨q,hq⟩:∃ q,(arD (mY K) (s0 (mO T))).qu.isSome=q:=⟨_,rfl⟩
 have hA:Bf q T K=arD (mY K) (s0 (mO T)):=by
  unfold Bf
  revert hq
  generalize arD (mY K) (s0 (mO T))=A
  intro hq
  obtain ⟨c,t,z,px,w,aT,aS,aQ,aW,aP,aX,lo,nr,nfl,e0,e1,e2,e3,e4,e5,e6,nt,lm,ln,qd,qu,qn,d,rq,fl,tl,tm,lp,ql⟩:=A
  cases qu with
  | none=>have:q=false:=hq.symm;subst this;rfl
  | some u=>have:q=true:=hq.symm;subst this;rfl
 have aT:(arD (mY K) (s0 (mO T))).t=0:=by
  have e:(core (arD (mY K) (s0 (mO T)))).t=(core (s0 (mO T))).t:=congrArg SysS.t aC
  exact e
 have la:LatI T K (arD (mY K) (s0 (mO T))):=by
  have cc:=p1.cc
  have hq0:(mO T).queue=100:=by rw [c1];rfl
  have hl0:(mO T).limit=1:=by rw [c1];rfl
  have sum:=p1.sum
  have e2l:=p1.e2l
  have h5:=p1.e5
  have n1:=i.e1
  have n2:=i.e2
  have n5:=i.e5
  have e5:(arD (mY K) (s0 (mO T))).e5=0:=by
   by_cases q:0<(arD (mY K) (s0 (mO T))).e5
   ·have:=h5 q;omega
   ·omega
  have e2:(arD (mY K) (s0 (mO T))).e2=1:=by
   have:=p2 (by omega)
   omega
  refine ⟨by rw [cc];exact hl0,by rw [cc,c1];exact (by decide:(0:Int)<1),by rw [cc,c1];rfl,by rw [cc,c1];rfl,⟨0,by rw [p1.lp,e2]⟩,e2,p3,fun _=>⟨by omega,p4,fun x hx => ?_⟩,fun c=>by omega⟩
  have:=i.qv x hx
  omega
 have h0:okLt (pLt q T K) ⟨Bf q T K,1⟩:=by
  rw [hA]
  refine ⟨by show _=(Bf q T K).qu;rw [hA],i,⟨0,(aes hm).of aC,by show ((0:Nat):Int)+2*(T+1 - 1)<=1000;omega⟩,la,by show _=(1:Int) - 1;rw [aT];rfl,?_,Int.le_refl 1,by show (1:Int)<=T+1;omega,l1,k0⟩
  show (arD (mY K) (s0 (mO T))).rq.length<=9000
  have:(((s0 (mO T)).rq.length:Nat):Int)=0:=rfl
  omega
 obtain ⟨e1,e2,_⟩:=cJ (nxt:=lg (pLt q T K)) (I:=fun a=>okLt (pLt q T K) a) (μ:=ZJ (pLt q T K)) (fun a b h e=>⟨bS (aet _ a b (aM h) e).1,(aet _ a b (aM h) e).2⟩) h0
 have hZ:lteZ q T K=lteE q T K:=by
  unfold lteZ lteE
  have:(cR (lg (pLt q T K)) ⟨Bf q T K,1⟩).s.qu=(Bf q T K).qu:=e1.qu
  rw [<- this]
 have siE:SI 90000 (lteE q T K):=e1.si
 have laE:LatI T K (lteE q T K):=e1.la
 have tE:T<=(lteE q T K).t:=by
  have he:¬ (cR (lg (pLt q T K)) ⟨Bf q T K,1⟩).i<=(pLt q T K).t:=by
   unfold lg at e2
   split at e2
   ·cases e2
   ·assumption
  have tm:=e1.tm
  have hT:(pLt q T K).t=T:=rfl
  show T<=(cR (lg (pLt q T K)) ⟨Bf q T K,1⟩).s.t
  omega
 have run:=Eng.T.path_eval (W q)
 unfold agd SZ at run
 rw [hZ] at run
 clear hZ e1 e2 hA la p1 p2 p3 p4 aC aL aT i
 revert siE laE tE run
 generalize lteE q T K=E
 intro siE laE tE run
 obtain ⟨x1,x4⟩:=laE.hi tE
 have y2:=laE.e2
 have y3:=laE.e3
 have n2:=siE.e2
 have f2:=siE.f2
 have nf:=siE.nfl
 have hn:(0:Int)<(E.nfl:Int):=by omega
 obtain ⟨hp,hn2,e⟩:=Yi siE (Int.le_refl 0) hn
 obtain ⟨_,iP,_⟩:=Lh siE (Int.le_refl 0) hn
 have z1:(fiP E 0).e1=0:=by rw [e];exact x1
 have z2:(fiP E 0).e2=0:=by rw [e];show E.e2 - 1=0;omega
 have z3:(fiP E 0).e3=1:=by rw [e];show E.e3+1=1;omega
 have idle:snD (fiP E 0)=fiP E 0:=Ig iP (by omega)
 rw [idle] at run
 have s1:tLt.size=25:=rfl
 have run:=run ⟨rfl,rfl,by unfold in0;rw [decide_eq_true (show 0<=T by omega),decide_eq_true (show T<=9223372036854775807 by omega)];rfl,Ux (by omega),by rw [c2,decide_eq_true rfl];rfl,rfl,hm,rfl,Xp (by decide) (by unfold Evt.wit;rw [if_neg (by decide),if_pos rfl,decide_eq_true (show 1<=mY K by omega),decide_eq_true (show mY K<=100 by omega)];rfl),rfl,rfl,Dly.fg ok,hq,rfl,aM h0,rfl,rfl,rfl,rfl,Dly.fg ⟨siE,Int.le_refl 0⟩,decide_eq_false (by omega),by rw [iP.ln];exact Lif.iH iP.free.n,trivial⟩
 refine Or.inr ?_
 rw [<- Eng.T.eval_anon (t:=latE _),run,z1,z2,z3];rfl
theorem late_walk (t:Int) (wt:(Lit.int .i64 t).wf=true) (n:Int) (wn:(Lit.int .i64 n).wf=true) (w:World) (hG:Glob w) :
  Calls Tryz.prog 3 #[.int .i64 t,.int .i64 n] w fun e w'=>e=.returned (.bool true)/\Below w.heap.size w w' :=
 Law.HB (args:=[Eng.iv t,Eng.iv n]) (xs:=[.int .i64 t,.int .i64 n]) QQ rfl (Sy t n) w ⟨rfl,rfl,trivial⟩ hG
end Go.Proofs.YtggakaogidjjbaaGreatDoor.Sys
